/-
  DERIVED. GIVEN WITH THE SEED: THE CARDS: each row of YtamojnbhnbeecabDoorRows.lean that lists a variable, with what it lists TIED to the program's text (the seventh form; the later family's looks); each row that meets fmt, with fmt's text TOLD by the authors' own Lean function (tested against real Go, not proved from fmt's source: count such statements apart). THE CARD IS WHAT COUNTS. Prove the row's statement (the work); the ties are given (YtamojnbhnbeecabDoorTie.lean); close each card by the builder's one call (the guide's Derived/Test/ToyasCard.lean, 'card_holds'). Laid BY PROGRAM, IN A SANDBOX (cutbox-door.mjs). By AI agents, Wed Nov 11 2026. No macro, syntax, notation, axiom, sorry.
-/
import Derived.Test.YtamojnbhnbeecabDoorRows
import GoSem.ClaimSeven
namespace Go.Proofs.YtamojnbhnbeecabDoor
namespace Rows

/-- THE TIED CARD OF 'laws.FnExactRunsText'. -/
def fnExactRunsTextCard : Claim7 := { stood := { row := fnExactRunsTextRow, standIns := [], harness := (true, "d00a8e2374fa62d7a8052fd1622cb547e76955ee4dead32ccc47c1f5785897bd"), looks := true }, kinds := [], alts := [], laidByText := true, laidKinds := [.data, .data, .data, .data, .pinned], laidTests := true, laidLooks := .later }
def FnExactRunsTextCardSaid : Prop := Claim7.holds Tryd.pinned (.plain (OpenSpec.ofChange fnExactRunsTextSpec)) fnExactRunsTextCard

/-- THE TIED CARD OF 'laws.FnExactParseRuns'. -/
def fnExactParseRunsCard : Claim7 := { stood := { row := fnExactParseRunsRow, standIns := [], harness := (true, "d00a8e2374fa62d7a8052fd1622cb547e76955ee4dead32ccc47c1f5785897bd"), looks := true }, kinds := [], alts := [], laidByText := true, laidKinds := [.data, .data, .data, .data, .sentinel, .sentinel, .pinned], laidTests := true, laidLooks := .later }
def FnExactParseRunsCardSaid : Prop := Claim7.holds Tryd.pinned (.plain (OpenSpec.ofChange fnExactParseRunsSpec)) fnExactParseRunsCard

/-- THE SECOND FORM's CARD OF 'laws.FnExactRunsText'. -/
def fnExactRunsTextUptoCard : Claim7 := { stood := { row := fnExactRunsTextUptoRow, standIns := [], harness := (true, "d00a8e2374fa62d7a8052fd1622cb547e76955ee4dead32ccc47c1f5785897bd"), looks := true }, kinds := [], alts := [], laidByText := true, laidKinds := [.data, .data, .data, .data, .pinned], laidTests := true, laidLooks := .later }
def FnExactRunsTextUptoCardSaid : Prop := Claim7.holds Tryd.pinned (.plain (OpenSpec.upto fnExactRunsTextSpec)) fnExactRunsTextUptoCard

/-- THE SECOND FORM's CARD OF 'laws.FnExactParseRuns'. -/
def fnExactParseRunsUptoCard : Claim7 := { stood := { row := fnExactParseRunsUptoRow, standIns := [], harness := (true, "d00a8e2374fa62d7a8052fd1622cb547e76955ee4dead32ccc47c1f5785897bd"), looks := true }, kinds := [], alts := [], laidByText := true, laidKinds := [.data, .data, .data, .data, .sentinel, .sentinel, .pinned], laidTests := true, laidLooks := .later }
def FnExactParseRunsUptoCardSaid : Prop := Claim7.holds Tryd.pinned (.plain (OpenSpec.upto fnExactParseRunsSpec)) fnExactParseRunsUptoCard
end Rows
end Go.Proofs.YtamojnbhnbeecabDoor
