/-
  DERIVED. GIVEN WITH THE SEED: THE CARDS: each row of YtdafomfpchlhpaaDoorRows.lean that lists a variable, with what it lists TIED to the program's text (the seventh form; the later family's looks); each row that meets fmt, with fmt's text TOLD by the authors' own Lean function (tested against real Go, not proved from fmt's source: count such statements apart). THE CARD IS WHAT COUNTS. Prove the row's statement (the work); the ties are given (YtdafomfpchlhpaaDoorTie.lean); close each card by the builder's one call (the guide's Derived/Test/ToyasCard.lean, 'card_holds'). Laid BY PROGRAM, IN A SANDBOX (cutbox-door.mjs). By AI agents, Wed Nov 11 2026. No macro, syntax, notation, axiom, sorry.
-/
import Derived.Test.YtdafomfpchlhpaaDoorRows
import GoSem.ClaimSeven
namespace Go.Proofs.YtdafomfpchlhpaaDoor
namespace Rows

/-- THE TIED CARD OF 'laws.FnExactIsPuzzle'. -/
def fnExactIsPuzzleCard : Claim7 := { stood := { row := fnExactIsPuzzleRow, standIns := [], harness := (true, "23f69cff491fa243e1ea19599e1a1d8f541bbc4a0eff738794e74cf47c7d74b2"), looks := true }, kinds := [], alts := [], laidByText := true, laidKinds := [.data, .pinned], laidTests := true, laidLooks := .later }
def FnExactIsPuzzleCardSaid : Prop := Claim7.holds Tryd.pinned (.plain (OpenSpec.ofChange fnExactIsPuzzleSpec)) fnExactIsPuzzleCard

/-- THE TIED CARD OF 'laws.FnExactGapsOf'. -/
def fnExactGapsOfCard : Claim7 := { stood := { row := fnExactGapsOfRow, standIns := [], harness := (true, "23f69cff491fa243e1ea19599e1a1d8f541bbc4a0eff738794e74cf47c7d74b2"), looks := true }, kinds := [], alts := [], laidByText := true, laidKinds := [.data, .pinned], laidTests := true, laidLooks := .later }
def FnExactGapsOfCardSaid : Prop := Claim7.holds Tryd.pinned (.plain (OpenSpec.ofChange fnExactGapsOfSpec)) fnExactGapsOfCard

/-- THE TIED CARD OF 'laws.FnExactIsSolution'. -/
def fnExactIsSolutionCard : Claim7 := { stood := { row := fnExactIsSolutionRow, standIns := [], harness := (true, "23f69cff491fa243e1ea19599e1a1d8f541bbc4a0eff738794e74cf47c7d74b2"), looks := true }, kinds := [], alts := [], laidByText := true, laidKinds := [.data, .pinned], laidTests := true, laidLooks := .later }
def FnExactIsSolutionCardSaid : Prop := Claim7.holds Tryd.pinned (.plain (OpenSpec.ofChange fnExactIsSolutionSpec)) fnExactIsSolutionCard

/-- THE TIED CARD OF 'laws.FnExactSolutions'. -/
def fnExactSolutionsCard : Claim7 := { stood := { row := fnExactSolutionsRow, standIns := [], harness := (true, "23f69cff491fa243e1ea19599e1a1d8f541bbc4a0eff738794e74cf47c7d74b2"), looks := true }, kinds := [], alts := [], laidByText := true, laidKinds := [.data, .pinned], laidTests := true, laidLooks := .later }
def FnExactSolutionsCardSaid : Prop := Claim7.holds Tryd.pinned (.plain (OpenSpec.ofChange fnExactSolutionsSpec)) fnExactSolutionsCard

/-- THE TIED CARD OF 'laws.FnExactCountSolutions'. -/
def fnExactCountSolutionsCard : Claim7 := { stood := { row := fnExactCountSolutionsRow, standIns := [], harness := (true, "23f69cff491fa243e1ea19599e1a1d8f541bbc4a0eff738794e74cf47c7d74b2"), looks := true }, kinds := [], alts := [], laidByText := true, laidKinds := [.data, .pinned], laidTests := true, laidLooks := .later }
def FnExactCountSolutionsCardSaid : Prop := Claim7.holds Tryd.pinned (.plain (OpenSpec.ofChange fnExactCountSolutionsSpec)) fnExactCountSolutionsCard

/-- THE TIED CARD OF 'laws.FnExactFirstSolution'. -/
def fnExactFirstSolutionCard : Claim7 := { stood := { row := fnExactFirstSolutionRow, standIns := [], harness := (true, "23f69cff491fa243e1ea19599e1a1d8f541bbc4a0eff738794e74cf47c7d74b2"), looks := true }, kinds := [], alts := [], laidByText := true, laidKinds := [.data, .pinned], laidTests := true, laidLooks := .later }
def FnExactFirstSolutionCardSaid : Prop := Claim7.holds Tryd.pinned (.plain (OpenSpec.ofChange fnExactFirstSolutionSpec)) fnExactFirstSolutionCard

/-- THE TIED CARD OF 'laws.FnExactSurePieces'. -/
def fnExactSurePiecesCard : Claim7 := { stood := { row := fnExactSurePiecesRow, standIns := [], harness := (true, "23f69cff491fa243e1ea19599e1a1d8f541bbc4a0eff738794e74cf47c7d74b2"), looks := true }, kinds := [], alts := [], laidByText := true, laidKinds := [.data, .pinned], laidTests := true, laidLooks := .later }
def FnExactSurePiecesCardSaid : Prop := Claim7.holds Tryd.pinned (.plain (OpenSpec.ofChange fnExactSurePiecesSpec)) fnExactSurePiecesCard

/-- THE TIED CARD OF 'laws.FnExactHintOf'. -/
def fnExactHintOfCard : Claim7 := { stood := { row := fnExactHintOfRow, standIns := [], harness := (true, "23f69cff491fa243e1ea19599e1a1d8f541bbc4a0eff738794e74cf47c7d74b2"), looks := true }, kinds := [], alts := [], laidByText := true, laidKinds := [.data, .pinned], laidTests := true, laidLooks := .later }
def FnExactHintOfCardSaid : Prop := Claim7.holds Tryd.pinned (.plain (OpenSpec.ofChange fnExactHintOfSpec)) fnExactHintOfCard

/-- THE TIED CARD OF 'laws.FnExactFillGap'. -/
def fnExactFillGapCard : Claim7 := { stood := { row := fnExactFillGapRow, standIns := [], harness := (true, "23f69cff491fa243e1ea19599e1a1d8f541bbc4a0eff738794e74cf47c7d74b2"), looks := true }, kinds := [], alts := [], laidByText := true, laidKinds := [.data, .pinned], laidTests := true, laidLooks := .later }
def FnExactFillGapCardSaid : Prop := Claim7.holds Tryd.pinned (.plain (OpenSpec.ofChange fnExactFillGapSpec)) fnExactFillGapCard

/-- THE TIED CARD OF 'laws.FnExactOpenGap'. -/
def fnExactOpenGapCard : Claim7 := { stood := { row := fnExactOpenGapRow, standIns := [], harness := (true, "23f69cff491fa243e1ea19599e1a1d8f541bbc4a0eff738794e74cf47c7d74b2"), looks := true }, kinds := [], alts := [], laidByText := true, laidKinds := [.data, .pinned], laidTests := true, laidLooks := .later }
def FnExactOpenGapCardSaid : Prop := Claim7.holds Tryd.pinned (.plain (OpenSpec.ofChange fnExactOpenGapSpec)) fnExactOpenGapCard

/-- THE TIED CARD OF 'laws.FnExactHarderPuzzle'. -/
def fnExactHarderPuzzleCard : Claim7 := { stood := { row := fnExactHarderPuzzleRow, standIns := [], harness := (true, "23f69cff491fa243e1ea19599e1a1d8f541bbc4a0eff738794e74cf47c7d74b2"), looks := true }, kinds := [], alts := [], laidByText := true, laidKinds := [.data, .pinned], laidTests := true, laidLooks := .later }
def FnExactHarderPuzzleCardSaid : Prop := Claim7.holds Tryd.pinned (.plain (OpenSpec.ofChange fnExactHarderPuzzleSpec)) fnExactHarderPuzzleCard

/-- THE TIED CARD OF 'laws.FnExactMakePuzzle'. -/
def fnExactMakePuzzleCard : Claim7 := { stood := { row := fnExactMakePuzzleRow, standIns := [], harness := (true, "23f69cff491fa243e1ea19599e1a1d8f541bbc4a0eff738794e74cf47c7d74b2"), looks := true }, kinds := [], alts := [], laidByText := true, laidKinds := [.data, .pinned], laidTests := true, laidLooks := .later }
def FnExactMakePuzzleCardSaid : Prop := Claim7.holds Tryd.pinned (.plain (OpenSpec.ofChange fnExactMakePuzzleSpec)) fnExactMakePuzzleCard

/-- THE TIED CARD OF 'laws.FnExactMirrorPuzzle'. -/
def fnExactMirrorPuzzleCard : Claim7 := { stood := { row := fnExactMirrorPuzzleRow, standIns := [], harness := (true, "23f69cff491fa243e1ea19599e1a1d8f541bbc4a0eff738794e74cf47c7d74b2"), looks := true }, kinds := [], alts := [], laidByText := true, laidKinds := [.data, .pinned], laidTests := true, laidLooks := .later }
def FnExactMirrorPuzzleCardSaid : Prop := Claim7.holds Tryd.pinned (.plain (OpenSpec.ofChange fnExactMirrorPuzzleSpec)) fnExactMirrorPuzzleCard

/-- THE TIED CARD OF 'laws.FnExactPuzzleText'. -/
def fnExactPuzzleTextCard : Claim7 := { stood := { row := fnExactPuzzleTextRow, standIns := [], harness := (true, "23f69cff491fa243e1ea19599e1a1d8f541bbc4a0eff738794e74cf47c7d74b2"), looks := true }, kinds := [], alts := [], laidByText := true, laidKinds := [.data, .data, .data, .data, .pinned], laidTests := true, laidLooks := .later }
def FnExactPuzzleTextCardSaid : Prop := Claim7.holds Tryd.pinned (.plain (OpenSpec.ofChange fnExactPuzzleTextSpec)) fnExactPuzzleTextCard

/-- THE TIED CARD OF 'laws.FnExactParsePuzzle'. -/
def fnExactParsePuzzleCard : Claim7 := { stood := { row := fnExactParsePuzzleRow, standIns := [], harness := (true, "23f69cff491fa243e1ea19599e1a1d8f541bbc4a0eff738794e74cf47c7d74b2"), looks := true }, kinds := [], alts := [], laidByText := true, laidKinds := [.data, .data, .data, .data, .sentinel, .sentinel, .pinned], laidTests := true, laidLooks := .later }
def FnExactParsePuzzleCardSaid : Prop := Claim7.holds Tryd.pinned (.plain (OpenSpec.ofChange fnExactParsePuzzleSpec)) fnExactParsePuzzleCard

/-- THE SECOND FORM's CARD OF 'laws.FnExactIsPuzzle'. -/
def fnExactIsPuzzleUptoCard : Claim7 := { stood := { row := fnExactIsPuzzleUptoRow, standIns := [], harness := (true, "23f69cff491fa243e1ea19599e1a1d8f541bbc4a0eff738794e74cf47c7d74b2"), looks := true }, kinds := [], alts := [], laidByText := true, laidKinds := [.data, .pinned], laidTests := true, laidLooks := .later }
def FnExactIsPuzzleUptoCardSaid : Prop := Claim7.holds Tryd.pinned (.plain (OpenSpec.upto fnExactIsPuzzleSpec)) fnExactIsPuzzleUptoCard

/-- THE SECOND FORM's CARD OF 'laws.FnExactGapsOf'. -/
def fnExactGapsOfUptoCard : Claim7 := { stood := { row := fnExactGapsOfUptoRow, standIns := [], harness := (true, "23f69cff491fa243e1ea19599e1a1d8f541bbc4a0eff738794e74cf47c7d74b2"), looks := true }, kinds := [], alts := [], laidByText := true, laidKinds := [.data, .pinned], laidTests := true, laidLooks := .later }
def FnExactGapsOfUptoCardSaid : Prop := Claim7.holds Tryd.pinned (.plain (OpenSpec.upto fnExactGapsOfSpec)) fnExactGapsOfUptoCard

/-- THE SECOND FORM's CARD OF 'laws.FnExactIsSolution'. -/
def fnExactIsSolutionUptoCard : Claim7 := { stood := { row := fnExactIsSolutionUptoRow, standIns := [], harness := (true, "23f69cff491fa243e1ea19599e1a1d8f541bbc4a0eff738794e74cf47c7d74b2"), looks := true }, kinds := [], alts := [], laidByText := true, laidKinds := [.data, .pinned], laidTests := true, laidLooks := .later }
def FnExactIsSolutionUptoCardSaid : Prop := Claim7.holds Tryd.pinned (.plain (OpenSpec.upto fnExactIsSolutionSpec)) fnExactIsSolutionUptoCard

/-- THE SECOND FORM's CARD OF 'laws.FnExactSolutions'. -/
def fnExactSolutionsUptoCard : Claim7 := { stood := { row := fnExactSolutionsUptoRow, standIns := [], harness := (true, "23f69cff491fa243e1ea19599e1a1d8f541bbc4a0eff738794e74cf47c7d74b2"), looks := true }, kinds := [], alts := [], laidByText := true, laidKinds := [.data, .pinned], laidTests := true, laidLooks := .later }
def FnExactSolutionsUptoCardSaid : Prop := Claim7.holds Tryd.pinned (.plain (OpenSpec.upto fnExactSolutionsSpec)) fnExactSolutionsUptoCard

/-- THE SECOND FORM's CARD OF 'laws.FnExactCountSolutions'. -/
def fnExactCountSolutionsUptoCard : Claim7 := { stood := { row := fnExactCountSolutionsUptoRow, standIns := [], harness := (true, "23f69cff491fa243e1ea19599e1a1d8f541bbc4a0eff738794e74cf47c7d74b2"), looks := true }, kinds := [], alts := [], laidByText := true, laidKinds := [.data, .pinned], laidTests := true, laidLooks := .later }
def FnExactCountSolutionsUptoCardSaid : Prop := Claim7.holds Tryd.pinned (.plain (OpenSpec.upto fnExactCountSolutionsSpec)) fnExactCountSolutionsUptoCard

/-- THE SECOND FORM's CARD OF 'laws.FnExactFirstSolution'. -/
def fnExactFirstSolutionUptoCard : Claim7 := { stood := { row := fnExactFirstSolutionUptoRow, standIns := [], harness := (true, "23f69cff491fa243e1ea19599e1a1d8f541bbc4a0eff738794e74cf47c7d74b2"), looks := true }, kinds := [], alts := [], laidByText := true, laidKinds := [.data, .pinned], laidTests := true, laidLooks := .later }
def FnExactFirstSolutionUptoCardSaid : Prop := Claim7.holds Tryd.pinned (.plain (OpenSpec.upto fnExactFirstSolutionSpec)) fnExactFirstSolutionUptoCard

/-- THE SECOND FORM's CARD OF 'laws.FnExactSurePieces'. -/
def fnExactSurePiecesUptoCard : Claim7 := { stood := { row := fnExactSurePiecesUptoRow, standIns := [], harness := (true, "23f69cff491fa243e1ea19599e1a1d8f541bbc4a0eff738794e74cf47c7d74b2"), looks := true }, kinds := [], alts := [], laidByText := true, laidKinds := [.data, .pinned], laidTests := true, laidLooks := .later }
def FnExactSurePiecesUptoCardSaid : Prop := Claim7.holds Tryd.pinned (.plain (OpenSpec.upto fnExactSurePiecesSpec)) fnExactSurePiecesUptoCard

/-- THE SECOND FORM's CARD OF 'laws.FnExactHintOf'. -/
def fnExactHintOfUptoCard : Claim7 := { stood := { row := fnExactHintOfUptoRow, standIns := [], harness := (true, "23f69cff491fa243e1ea19599e1a1d8f541bbc4a0eff738794e74cf47c7d74b2"), looks := true }, kinds := [], alts := [], laidByText := true, laidKinds := [.data, .pinned], laidTests := true, laidLooks := .later }
def FnExactHintOfUptoCardSaid : Prop := Claim7.holds Tryd.pinned (.plain (OpenSpec.upto fnExactHintOfSpec)) fnExactHintOfUptoCard

/-- THE SECOND FORM's CARD OF 'laws.FnExactFillGap'. -/
def fnExactFillGapUptoCard : Claim7 := { stood := { row := fnExactFillGapUptoRow, standIns := [], harness := (true, "23f69cff491fa243e1ea19599e1a1d8f541bbc4a0eff738794e74cf47c7d74b2"), looks := true }, kinds := [], alts := [], laidByText := true, laidKinds := [.data, .pinned], laidTests := true, laidLooks := .later }
def FnExactFillGapUptoCardSaid : Prop := Claim7.holds Tryd.pinned (.plain (OpenSpec.upto fnExactFillGapSpec)) fnExactFillGapUptoCard

/-- THE SECOND FORM's CARD OF 'laws.FnExactOpenGap'. -/
def fnExactOpenGapUptoCard : Claim7 := { stood := { row := fnExactOpenGapUptoRow, standIns := [], harness := (true, "23f69cff491fa243e1ea19599e1a1d8f541bbc4a0eff738794e74cf47c7d74b2"), looks := true }, kinds := [], alts := [], laidByText := true, laidKinds := [.data, .pinned], laidTests := true, laidLooks := .later }
def FnExactOpenGapUptoCardSaid : Prop := Claim7.holds Tryd.pinned (.plain (OpenSpec.upto fnExactOpenGapSpec)) fnExactOpenGapUptoCard

/-- THE SECOND FORM's CARD OF 'laws.FnExactHarderPuzzle'. -/
def fnExactHarderPuzzleUptoCard : Claim7 := { stood := { row := fnExactHarderPuzzleUptoRow, standIns := [], harness := (true, "23f69cff491fa243e1ea19599e1a1d8f541bbc4a0eff738794e74cf47c7d74b2"), looks := true }, kinds := [], alts := [], laidByText := true, laidKinds := [.data, .pinned], laidTests := true, laidLooks := .later }
def FnExactHarderPuzzleUptoCardSaid : Prop := Claim7.holds Tryd.pinned (.plain (OpenSpec.upto fnExactHarderPuzzleSpec)) fnExactHarderPuzzleUptoCard

/-- THE SECOND FORM's CARD OF 'laws.FnExactMakePuzzle'. -/
def fnExactMakePuzzleUptoCard : Claim7 := { stood := { row := fnExactMakePuzzleUptoRow, standIns := [], harness := (true, "23f69cff491fa243e1ea19599e1a1d8f541bbc4a0eff738794e74cf47c7d74b2"), looks := true }, kinds := [], alts := [], laidByText := true, laidKinds := [.data, .pinned], laidTests := true, laidLooks := .later }
def FnExactMakePuzzleUptoCardSaid : Prop := Claim7.holds Tryd.pinned (.plain (OpenSpec.upto fnExactMakePuzzleSpec)) fnExactMakePuzzleUptoCard

/-- THE SECOND FORM's CARD OF 'laws.FnExactMirrorPuzzle'. -/
def fnExactMirrorPuzzleUptoCard : Claim7 := { stood := { row := fnExactMirrorPuzzleUptoRow, standIns := [], harness := (true, "23f69cff491fa243e1ea19599e1a1d8f541bbc4a0eff738794e74cf47c7d74b2"), looks := true }, kinds := [], alts := [], laidByText := true, laidKinds := [.data, .pinned], laidTests := true, laidLooks := .later }
def FnExactMirrorPuzzleUptoCardSaid : Prop := Claim7.holds Tryd.pinned (.plain (OpenSpec.upto fnExactMirrorPuzzleSpec)) fnExactMirrorPuzzleUptoCard

/-- THE SECOND FORM's CARD OF 'laws.FnExactPuzzleText'. -/
def fnExactPuzzleTextUptoCard : Claim7 := { stood := { row := fnExactPuzzleTextUptoRow, standIns := [], harness := (true, "23f69cff491fa243e1ea19599e1a1d8f541bbc4a0eff738794e74cf47c7d74b2"), looks := true }, kinds := [], alts := [], laidByText := true, laidKinds := [.data, .data, .data, .data, .pinned], laidTests := true, laidLooks := .later }
def FnExactPuzzleTextUptoCardSaid : Prop := Claim7.holds Tryd.pinned (.plain (OpenSpec.upto fnExactPuzzleTextSpec)) fnExactPuzzleTextUptoCard

/-- THE SECOND FORM's CARD OF 'laws.FnExactParsePuzzle'. -/
def fnExactParsePuzzleUptoCard : Claim7 := { stood := { row := fnExactParsePuzzleUptoRow, standIns := [], harness := (true, "23f69cff491fa243e1ea19599e1a1d8f541bbc4a0eff738794e74cf47c7d74b2"), looks := true }, kinds := [], alts := [], laidByText := true, laidKinds := [.data, .data, .data, .data, .sentinel, .sentinel, .pinned], laidTests := true, laidLooks := .later }
def FnExactParsePuzzleUptoCardSaid : Prop := Claim7.holds Tryd.pinned (.plain (OpenSpec.upto fnExactParsePuzzleSpec)) fnExactParsePuzzleUptoCard
end Rows
end Go.Proofs.YtdafomfpchlhpaaDoor
