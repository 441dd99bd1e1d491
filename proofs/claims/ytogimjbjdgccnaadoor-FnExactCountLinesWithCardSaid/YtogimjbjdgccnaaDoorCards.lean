/-
  DERIVED. GIVEN WITH THE SEED: THE CARDS: each row of YtogimjbjdgccnaaDoorRows.lean that lists a variable, with what it lists TIED to the program's text (the seventh form; the later family's looks); each row that meets fmt, with fmt's text TOLD by the authors' own Lean function (tested against real Go, not proved from fmt's source: count such statements apart). THE CARD IS WHAT COUNTS. Prove the row's statement (the work); the ties are given (YtogimjbjdgccnaaDoorTie.lean); close each card by the builder's one call (the guide's Derived/Test/ToyasCard.lean, 'card_holds'). Laid BY PROGRAM, IN A SANDBOX (cutbox-door.mjs). By AI agents, Wed Nov 11 2026. No macro, syntax, notation, axiom, sorry.
-/
import Derived.Test.YtogimjbjdgccnaaDoorRows
import GoSem.ClaimSeven
namespace Go.Proofs.YtogimjbjdgccnaaDoor
namespace Rows

/-- THE TIED CARD OF 'laws.FnExactIsLine'. -/
def fnExactIsLineCard : Claim7 := { stood := { row := fnExactIsLineRow, standIns := [], harness := (true, "e9eb03f97b7f5129e724e630203a3e9c1c4cef927500a400d1930cc61c47d334"), looks := false }, kinds := [], alts := [], laidByText := true, laidKinds := [.data, .pinned], laidTests := true, laidLooks := .later }
def FnExactIsLineCardSaid : Prop := Claim7.holds Tryd.pinned (.plain (OpenSpec.ofChange fnExactIsLineSpec)) fnExactIsLineCard

/-- THE TIED CARD OF 'laws.FnExactTrainsOn'. -/
def fnExactTrainsOnCard : Claim7 := { stood := { row := fnExactTrainsOnRow, standIns := [], harness := (true, "e9eb03f97b7f5129e724e630203a3e9c1c4cef927500a400d1930cc61c47d334"), looks := false }, kinds := [], alts := [], laidByText := true, laidKinds := [.data, .pinned], laidTests := true, laidLooks := .later }
def FnExactTrainsOnCardSaid : Prop := Claim7.holds Tryd.pinned (.plain (OpenSpec.ofChange fnExactTrainsOnSpec)) fnExactTrainsOnCard

/-- THE TIED CARD OF 'laws.FnExactSignalsOf'. -/
def fnExactSignalsOfCard : Claim7 := { stood := { row := fnExactSignalsOfRow, standIns := [], harness := (true, "e9eb03f97b7f5129e724e630203a3e9c1c4cef927500a400d1930cc61c47d334"), looks := false }, kinds := [], alts := [], laidByText := true, laidKinds := [.data, .pinned], laidTests := true, laidLooks := .later }
def FnExactSignalsOfCardSaid : Prop := Claim7.holds Tryd.pinned (.plain (OpenSpec.ofChange fnExactSignalsOfSpec)) fnExactSignalsOfCard

/-- THE TIED CARD OF 'laws.FnExactTickLine'. -/
def fnExactTickLineCard : Claim7 := { stood := { row := fnExactTickLineRow, standIns := [], harness := (true, "e9eb03f97b7f5129e724e630203a3e9c1c4cef927500a400d1930cc61c47d334"), looks := false }, kinds := [], alts := [], laidByText := true, laidKinds := [.data, .pinned], laidTests := true, laidLooks := .later }
def FnExactTickLineCardSaid : Prop := Claim7.holds Tryd.pinned (.plain (OpenSpec.ofChange fnExactTickLineSpec)) fnExactTickLineCard

/-- THE TIED CARD OF 'laws.FnExactLineAfter'. -/
def fnExactLineAfterCard : Claim7 := { stood := { row := fnExactLineAfterRow, standIns := [], harness := (true, "e9eb03f97b7f5129e724e630203a3e9c1c4cef927500a400d1930cc61c47d334"), looks := false }, kinds := [], alts := [], laidByText := true, laidKinds := [.data, .pinned], laidTests := true, laidLooks := .later }
def FnExactLineAfterCardSaid : Prop := Claim7.holds Tryd.pinned (.plain (OpenSpec.ofChange fnExactLineAfterSpec)) fnExactLineAfterCard

/-- THE TIED CARD OF 'laws.FnExactMovesIn'. -/
def fnExactMovesInCard : Claim7 := { stood := { row := fnExactMovesInRow, standIns := [], harness := (true, "e9eb03f97b7f5129e724e630203a3e9c1c4cef927500a400d1930cc61c47d334"), looks := false }, kinds := [], alts := [], laidByText := true, laidKinds := [.data, .pinned], laidTests := true, laidLooks := .later }
def FnExactMovesInCardSaid : Prop := Claim7.holds Tryd.pinned (.plain (OpenSpec.ofChange fnExactMovesInSpec)) fnExactMovesInCard

/-- THE TIED CARD OF 'laws.FnExactWaitsIn'. -/
def fnExactWaitsInCard : Claim7 := { stood := { row := fnExactWaitsInRow, standIns := [], harness := (true, "e9eb03f97b7f5129e724e630203a3e9c1c4cef927500a400d1930cc61c47d334"), looks := false }, kinds := [], alts := [], laidByText := true, laidKinds := [.data, .pinned], laidTests := true, laidLooks := .later }
def FnExactWaitsInCardSaid : Prop := Claim7.holds Tryd.pinned (.plain (OpenSpec.ofChange fnExactWaitsInSpec)) fnExactWaitsInCard

/-- THE TIED CARD OF 'laws.FnExactGapsOfLine'. -/
def fnExactGapsOfLineCard : Claim7 := { stood := { row := fnExactGapsOfLineRow, standIns := [], harness := (true, "e9eb03f97b7f5129e724e630203a3e9c1c4cef927500a400d1930cc61c47d334"), looks := false }, kinds := [], alts := [], laidByText := true, laidKinds := [.data, .pinned], laidTests := true, laidLooks := .later }
def FnExactGapsOfLineCardSaid : Prop := Claim7.holds Tryd.pinned (.plain (OpenSpec.ofChange fnExactGapsOfLineSpec)) fnExactGapsOfLineCard

/-- THE TIED CARD OF 'laws.FnExactPeriodOfLine'. -/
def fnExactPeriodOfLineCard : Claim7 := { stood := { row := fnExactPeriodOfLineRow, standIns := [], harness := (true, "e9eb03f97b7f5129e724e630203a3e9c1c4cef927500a400d1930cc61c47d334"), looks := false }, kinds := [], alts := [], laidByText := true, laidKinds := [.data, .pinned], laidTests := true, laidLooks := .later }
def FnExactPeriodOfLineCardSaid : Prop := Claim7.holds Tryd.pinned (.plain (OpenSpec.ofChange fnExactPeriodOfLineSpec)) fnExactPeriodOfLineCard

/-- THE TIED CARD OF 'laws.FnExactSpeedOf'. -/
def fnExactSpeedOfCard : Claim7 := { stood := { row := fnExactSpeedOfRow, standIns := [], harness := (true, "e9eb03f97b7f5129e724e630203a3e9c1c4cef927500a400d1930cc61c47d334"), looks := false }, kinds := [], alts := [], laidByText := true, laidKinds := [.data, .pinned], laidTests := true, laidLooks := .later }
def FnExactSpeedOfCardSaid : Prop := Claim7.holds Tryd.pinned (.plain (OpenSpec.ofChange fnExactSpeedOfSpec)) fnExactSpeedOfCard

/-- THE TIED CARD OF 'laws.FnExactFirstFree'. -/
def fnExactFirstFreeCard : Claim7 := { stood := { row := fnExactFirstFreeRow, standIns := [], harness := (true, "e9eb03f97b7f5129e724e630203a3e9c1c4cef927500a400d1930cc61c47d334"), looks := false }, kinds := [], alts := [], laidByText := true, laidKinds := [.data, .pinned], laidTests := true, laidLooks := .later }
def FnExactFirstFreeCardSaid : Prop := Claim7.holds Tryd.pinned (.plain (OpenSpec.ofChange fnExactFirstFreeSpec)) fnExactFirstFreeCard

/-- THE TIED CARD OF 'laws.FnExactIsStuck'. -/
def fnExactIsStuckCard : Claim7 := { stood := { row := fnExactIsStuckRow, standIns := [], harness := (true, "e9eb03f97b7f5129e724e630203a3e9c1c4cef927500a400d1930cc61c47d334"), looks := false }, kinds := [], alts := [], laidByText := true, laidKinds := [.data, .pinned], laidTests := true, laidLooks := .later }
def FnExactIsStuckCardSaid : Prop := Claim7.holds Tryd.pinned (.plain (OpenSpec.ofChange fnExactIsStuckSpec)) fnExactIsStuckCard

/-- THE TIED CARD OF 'laws.FnExactHoleLine'. -/
def fnExactHoleLineCard : Claim7 := { stood := { row := fnExactHoleLineRow, standIns := [], harness := (true, "e9eb03f97b7f5129e724e630203a3e9c1c4cef927500a400d1930cc61c47d334"), looks := false }, kinds := [], alts := [], laidByText := true, laidKinds := [.data, .pinned], laidTests := true, laidLooks := .later }
def FnExactHoleLineCardSaid : Prop := Claim7.holds Tryd.pinned (.plain (OpenSpec.ofChange fnExactHoleLineSpec)) fnExactHoleLineCard

/-- THE TIED CARD OF 'laws.FnExactSpinLine'. -/
def fnExactSpinLineCard : Claim7 := { stood := { row := fnExactSpinLineRow, standIns := [], harness := (true, "e9eb03f97b7f5129e724e630203a3e9c1c4cef927500a400d1930cc61c47d334"), looks := false }, kinds := [], alts := [], laidByText := true, laidKinds := [.data, .pinned], laidTests := true, laidLooks := .later }
def FnExactSpinLineCardSaid : Prop := Claim7.holds Tryd.pinned (.plain (OpenSpec.ofChange fnExactSpinLineSpec)) fnExactSpinLineCard

/-- THE TIED CARD OF 'laws.FnExactCountLinesWith'. -/
def fnExactCountLinesWithCard : Claim7 := { stood := { row := fnExactCountLinesWithRow, standIns := [], harness := (true, "e9eb03f97b7f5129e724e630203a3e9c1c4cef927500a400d1930cc61c47d334"), looks := false }, kinds := [], alts := [], laidByText := true, laidKinds := [.data, .pinned], laidTests := true, laidLooks := .later }
def FnExactCountLinesWithCardSaid : Prop := Claim7.holds Tryd.pinned (.plain (OpenSpec.ofChange fnExactCountLinesWithSpec)) fnExactCountLinesWithCard

/-- THE SECOND FORM's CARD OF 'laws.FnExactIsLine'. -/
def fnExactIsLineUptoCard : Claim7 := { stood := { row := fnExactIsLineUptoRow, standIns := [], harness := (true, "e9eb03f97b7f5129e724e630203a3e9c1c4cef927500a400d1930cc61c47d334"), looks := false }, kinds := [], alts := [], laidByText := true, laidKinds := [.data, .pinned], laidTests := true, laidLooks := .later }
def FnExactIsLineUptoCardSaid : Prop := Claim7.holds Tryd.pinned (.plain (OpenSpec.upto fnExactIsLineSpec)) fnExactIsLineUptoCard

/-- THE SECOND FORM's CARD OF 'laws.FnExactTrainsOn'. -/
def fnExactTrainsOnUptoCard : Claim7 := { stood := { row := fnExactTrainsOnUptoRow, standIns := [], harness := (true, "e9eb03f97b7f5129e724e630203a3e9c1c4cef927500a400d1930cc61c47d334"), looks := false }, kinds := [], alts := [], laidByText := true, laidKinds := [.data, .pinned], laidTests := true, laidLooks := .later }
def FnExactTrainsOnUptoCardSaid : Prop := Claim7.holds Tryd.pinned (.plain (OpenSpec.upto fnExactTrainsOnSpec)) fnExactTrainsOnUptoCard

/-- THE SECOND FORM's CARD OF 'laws.FnExactSignalsOf'. -/
def fnExactSignalsOfUptoCard : Claim7 := { stood := { row := fnExactSignalsOfUptoRow, standIns := [], harness := (true, "e9eb03f97b7f5129e724e630203a3e9c1c4cef927500a400d1930cc61c47d334"), looks := false }, kinds := [], alts := [], laidByText := true, laidKinds := [.data, .pinned], laidTests := true, laidLooks := .later }
def FnExactSignalsOfUptoCardSaid : Prop := Claim7.holds Tryd.pinned (.plain (OpenSpec.upto fnExactSignalsOfSpec)) fnExactSignalsOfUptoCard

/-- THE SECOND FORM's CARD OF 'laws.FnExactTickLine'. -/
def fnExactTickLineUptoCard : Claim7 := { stood := { row := fnExactTickLineUptoRow, standIns := [], harness := (true, "e9eb03f97b7f5129e724e630203a3e9c1c4cef927500a400d1930cc61c47d334"), looks := false }, kinds := [], alts := [], laidByText := true, laidKinds := [.data, .pinned], laidTests := true, laidLooks := .later }
def FnExactTickLineUptoCardSaid : Prop := Claim7.holds Tryd.pinned (.plain (OpenSpec.upto fnExactTickLineSpec)) fnExactTickLineUptoCard

/-- THE SECOND FORM's CARD OF 'laws.FnExactLineAfter'. -/
def fnExactLineAfterUptoCard : Claim7 := { stood := { row := fnExactLineAfterUptoRow, standIns := [], harness := (true, "e9eb03f97b7f5129e724e630203a3e9c1c4cef927500a400d1930cc61c47d334"), looks := false }, kinds := [], alts := [], laidByText := true, laidKinds := [.data, .pinned], laidTests := true, laidLooks := .later }
def FnExactLineAfterUptoCardSaid : Prop := Claim7.holds Tryd.pinned (.plain (OpenSpec.upto fnExactLineAfterSpec)) fnExactLineAfterUptoCard

/-- THE SECOND FORM's CARD OF 'laws.FnExactMovesIn'. -/
def fnExactMovesInUptoCard : Claim7 := { stood := { row := fnExactMovesInUptoRow, standIns := [], harness := (true, "e9eb03f97b7f5129e724e630203a3e9c1c4cef927500a400d1930cc61c47d334"), looks := false }, kinds := [], alts := [], laidByText := true, laidKinds := [.data, .pinned], laidTests := true, laidLooks := .later }
def FnExactMovesInUptoCardSaid : Prop := Claim7.holds Tryd.pinned (.plain (OpenSpec.upto fnExactMovesInSpec)) fnExactMovesInUptoCard

/-- THE SECOND FORM's CARD OF 'laws.FnExactWaitsIn'. -/
def fnExactWaitsInUptoCard : Claim7 := { stood := { row := fnExactWaitsInUptoRow, standIns := [], harness := (true, "e9eb03f97b7f5129e724e630203a3e9c1c4cef927500a400d1930cc61c47d334"), looks := false }, kinds := [], alts := [], laidByText := true, laidKinds := [.data, .pinned], laidTests := true, laidLooks := .later }
def FnExactWaitsInUptoCardSaid : Prop := Claim7.holds Tryd.pinned (.plain (OpenSpec.upto fnExactWaitsInSpec)) fnExactWaitsInUptoCard

/-- THE SECOND FORM's CARD OF 'laws.FnExactGapsOfLine'. -/
def fnExactGapsOfLineUptoCard : Claim7 := { stood := { row := fnExactGapsOfLineUptoRow, standIns := [], harness := (true, "e9eb03f97b7f5129e724e630203a3e9c1c4cef927500a400d1930cc61c47d334"), looks := false }, kinds := [], alts := [], laidByText := true, laidKinds := [.data, .pinned], laidTests := true, laidLooks := .later }
def FnExactGapsOfLineUptoCardSaid : Prop := Claim7.holds Tryd.pinned (.plain (OpenSpec.upto fnExactGapsOfLineSpec)) fnExactGapsOfLineUptoCard

/-- THE SECOND FORM's CARD OF 'laws.FnExactPeriodOfLine'. -/
def fnExactPeriodOfLineUptoCard : Claim7 := { stood := { row := fnExactPeriodOfLineUptoRow, standIns := [], harness := (true, "e9eb03f97b7f5129e724e630203a3e9c1c4cef927500a400d1930cc61c47d334"), looks := false }, kinds := [], alts := [], laidByText := true, laidKinds := [.data, .pinned], laidTests := true, laidLooks := .later }
def FnExactPeriodOfLineUptoCardSaid : Prop := Claim7.holds Tryd.pinned (.plain (OpenSpec.upto fnExactPeriodOfLineSpec)) fnExactPeriodOfLineUptoCard

/-- THE SECOND FORM's CARD OF 'laws.FnExactSpeedOf'. -/
def fnExactSpeedOfUptoCard : Claim7 := { stood := { row := fnExactSpeedOfUptoRow, standIns := [], harness := (true, "e9eb03f97b7f5129e724e630203a3e9c1c4cef927500a400d1930cc61c47d334"), looks := false }, kinds := [], alts := [], laidByText := true, laidKinds := [.data, .pinned], laidTests := true, laidLooks := .later }
def FnExactSpeedOfUptoCardSaid : Prop := Claim7.holds Tryd.pinned (.plain (OpenSpec.upto fnExactSpeedOfSpec)) fnExactSpeedOfUptoCard

/-- THE SECOND FORM's CARD OF 'laws.FnExactFirstFree'. -/
def fnExactFirstFreeUptoCard : Claim7 := { stood := { row := fnExactFirstFreeUptoRow, standIns := [], harness := (true, "e9eb03f97b7f5129e724e630203a3e9c1c4cef927500a400d1930cc61c47d334"), looks := false }, kinds := [], alts := [], laidByText := true, laidKinds := [.data, .pinned], laidTests := true, laidLooks := .later }
def FnExactFirstFreeUptoCardSaid : Prop := Claim7.holds Tryd.pinned (.plain (OpenSpec.upto fnExactFirstFreeSpec)) fnExactFirstFreeUptoCard

/-- THE SECOND FORM's CARD OF 'laws.FnExactIsStuck'. -/
def fnExactIsStuckUptoCard : Claim7 := { stood := { row := fnExactIsStuckUptoRow, standIns := [], harness := (true, "e9eb03f97b7f5129e724e630203a3e9c1c4cef927500a400d1930cc61c47d334"), looks := false }, kinds := [], alts := [], laidByText := true, laidKinds := [.data, .pinned], laidTests := true, laidLooks := .later }
def FnExactIsStuckUptoCardSaid : Prop := Claim7.holds Tryd.pinned (.plain (OpenSpec.upto fnExactIsStuckSpec)) fnExactIsStuckUptoCard

/-- THE SECOND FORM's CARD OF 'laws.FnExactHoleLine'. -/
def fnExactHoleLineUptoCard : Claim7 := { stood := { row := fnExactHoleLineUptoRow, standIns := [], harness := (true, "e9eb03f97b7f5129e724e630203a3e9c1c4cef927500a400d1930cc61c47d334"), looks := false }, kinds := [], alts := [], laidByText := true, laidKinds := [.data, .pinned], laidTests := true, laidLooks := .later }
def FnExactHoleLineUptoCardSaid : Prop := Claim7.holds Tryd.pinned (.plain (OpenSpec.upto fnExactHoleLineSpec)) fnExactHoleLineUptoCard

/-- THE SECOND FORM's CARD OF 'laws.FnExactSpinLine'. -/
def fnExactSpinLineUptoCard : Claim7 := { stood := { row := fnExactSpinLineUptoRow, standIns := [], harness := (true, "e9eb03f97b7f5129e724e630203a3e9c1c4cef927500a400d1930cc61c47d334"), looks := false }, kinds := [], alts := [], laidByText := true, laidKinds := [.data, .pinned], laidTests := true, laidLooks := .later }
def FnExactSpinLineUptoCardSaid : Prop := Claim7.holds Tryd.pinned (.plain (OpenSpec.upto fnExactSpinLineSpec)) fnExactSpinLineUptoCard

/-- THE SECOND FORM's CARD OF 'laws.FnExactCountLinesWith'. -/
def fnExactCountLinesWithUptoCard : Claim7 := { stood := { row := fnExactCountLinesWithUptoRow, standIns := [], harness := (true, "e9eb03f97b7f5129e724e630203a3e9c1c4cef927500a400d1930cc61c47d334"), looks := false }, kinds := [], alts := [], laidByText := true, laidKinds := [.data, .pinned], laidTests := true, laidLooks := .later }
def FnExactCountLinesWithUptoCardSaid : Prop := Claim7.holds Tryd.pinned (.plain (OpenSpec.upto fnExactCountLinesWithSpec)) fnExactCountLinesWithUptoCard
end Rows
end Go.Proofs.YtogimjbjdgccnaaDoor
