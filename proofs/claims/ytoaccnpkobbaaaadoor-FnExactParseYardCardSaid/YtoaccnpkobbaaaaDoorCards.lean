/-
  DERIVED. GIVEN WITH THE SEED: THE CARDS: each row of YtoaccnpkobbaaaaDoorRows.lean that lists a variable, with what it lists TIED to the program's text (the seventh form; the later family's looks); each row that meets fmt, with fmt's text TOLD by the authors' own Lean function (tested against real Go, not proved from fmt's source: count such statements apart). THE CARD IS WHAT COUNTS. Prove the row's statement (the work); the ties are given (YtoaccnpkobbaaaaDoorTie.lean); close each card by the builder's one call (the guide's Derived/Test/ToyasCard.lean, 'card_holds'). Laid BY PROGRAM, IN A SANDBOX (cutbox-door.mjs). By AI agents, Wed Nov 11 2026. No macro, syntax, notation, axiom, sorry.
-/
import Derived.Test.YtoaccnpkobbaaaaDoorRows
import GoSem.ClaimSeven
namespace Go.Proofs.YtoaccnpkobbaaaaDoor
namespace Rows

/-- THE TIED CARD OF 'laws.FnExactYardText'. -/
def fnExactYardTextCard : Claim7 := { stood := { row := fnExactYardTextRow, standIns := [], harness := (true, "c5764f841c4a9241cdfc4ab8e56613f10e7e9b02a2817ff8a84486c71877aff2"), looks := true }, kinds := [], alts := [], laidByText := true, laidKinds := [.data, .data, .data], laidTests := true, laidLooks := .later }
def FnExactYardTextCardSaid : Prop := Claim7.holds Tryd.pinned (.plain (OpenSpec.ofChange fnExactYardTextSpec)) fnExactYardTextCard

/-- THE TIED CARD OF 'laws.FnExactParseYard'. -/
def fnExactParseYardCard : Claim7 := { stood := { row := fnExactParseYardRow, standIns := [], harness := (true, "c5764f841c4a9241cdfc4ab8e56613f10e7e9b02a2817ff8a84486c71877aff2"), looks := true }, kinds := [], alts := [], laidByText := true, laidKinds := [.data, .data, .data, .data, .sentinel, .sentinel, .pinned], laidTests := true, laidLooks := .later }
def FnExactParseYardCardSaid : Prop := Claim7.holds Tryd.pinned (.plain (OpenSpec.ofChange fnExactParseYardSpec)) fnExactParseYardCard

/-- THE SECOND FORM's CARD OF 'laws.FnExactYardText'. -/
def fnExactYardTextUptoCard : Claim7 := { stood := { row := fnExactYardTextUptoRow, standIns := [], harness := (true, "c5764f841c4a9241cdfc4ab8e56613f10e7e9b02a2817ff8a84486c71877aff2"), looks := true }, kinds := [], alts := [], laidByText := true, laidKinds := [.data, .data, .data], laidTests := true, laidLooks := .later }
def FnExactYardTextUptoCardSaid : Prop := Claim7.holds Tryd.pinned (.plain (OpenSpec.upto fnExactYardTextSpec)) fnExactYardTextUptoCard

/-- THE SECOND FORM's CARD OF 'laws.FnExactParseYard'. -/
def fnExactParseYardUptoCard : Claim7 := { stood := { row := fnExactParseYardUptoRow, standIns := [], harness := (true, "c5764f841c4a9241cdfc4ab8e56613f10e7e9b02a2817ff8a84486c71877aff2"), looks := true }, kinds := [], alts := [], laidByText := true, laidKinds := [.data, .data, .data, .data, .sentinel, .sentinel, .pinned], laidTests := true, laidLooks := .later }
def FnExactParseYardUptoCardSaid : Prop := Claim7.holds Tryd.pinned (.plain (OpenSpec.upto fnExactParseYardSpec)) fnExactParseYardUptoCard
end Rows
end Go.Proofs.YtoaccnpkobbaaaaDoor
