/-
  DERIVED. GIVEN WITH THE SEED: THE CARDS: each row of YtkmgcmgnaeamaaaGreatDoorRows.lean that lists a variable, with what it lists TIED to the program's text (the seventh form; the later family's looks); each row that meets fmt, with fmt's text TOLD by the authors' own Lean function (tested against real Go, not proved from fmt's source: count such statements apart). THE CARD IS WHAT COUNTS. Prove the row's statement (the work); the ties are given (YtkmgcmgnaeamaaaGreatDoorTie.lean); close each card by the builder's one call (the guide's Derived/Test/ToyasCard.lean, 'card_holds'). Laid BY PROGRAM, IN A SANDBOX (cutbox-door.mjs). By AI agents, Wed Nov 11 2026. No macro, syntax, notation, axiom, sorry.
-/
import Derived.Test.YtkmgcmgnaeamaaaGreatDoorRows
import GoSem.ClaimSeven
namespace Go.Proofs.YtkmgcmgnaeamaaaGreatDoor
namespace Rows

/-- THE TIED CARD OF 'laws.FnExactCountRingsFrom'. -/
def fnExactCountRingsFromCard : Claim7 := { stood := { row := fnExactCountRingsFromRow, standIns := [], harness := (true, "cb708dddb5c1d4ae9f7135e4d746cf2272c55c2c4c9462384a4bfb8332ca76a1"), looks := false }, kinds := [], alts := [], laidByText := true, laidKinds := [.data, .pinned], laidTests := true, laidLooks := .later }
def FnExactCountRingsFromCardSaid : Prop := Claim7.holds Tryz.pinned (.plain (OpenSpec.ofChange fnExactCountRingsFromSpec)) fnExactCountRingsFromCard

/-- THE TIED CARD OF 'laws.FnExactRingsFrom'. -/
def fnExactRingsFromCard : Claim7 := { stood := { row := fnExactRingsFromRow, standIns := [], harness := (true, "cb708dddb5c1d4ae9f7135e4d746cf2272c55c2c4c9462384a4bfb8332ca76a1"), looks := false }, kinds := [], alts := [], laidByText := true, laidKinds := [.data, .pinned], laidTests := true, laidLooks := .later }
def FnExactRingsFromCardSaid : Prop := Claim7.holds Tryz.pinned (.plain (OpenSpec.ofChange fnExactRingsFromSpec)) fnExactRingsFromCard

/-- THE SECOND FORM's CARD OF 'laws.FnExactCountRingsFrom'. -/
def fnExactCountRingsFromUptoCard : Claim7 := { stood := { row := fnExactCountRingsFromUptoRow, standIns := [], harness := (true, "cb708dddb5c1d4ae9f7135e4d746cf2272c55c2c4c9462384a4bfb8332ca76a1"), looks := false }, kinds := [], alts := [], laidByText := true, laidKinds := [.data, .pinned], laidTests := true, laidLooks := .later }
def FnExactCountRingsFromUptoCardSaid : Prop := Claim7.holds Tryz.pinned (.plain (OpenSpec.upto fnExactCountRingsFromSpec)) fnExactCountRingsFromUptoCard

/-- THE SECOND FORM's CARD OF 'laws.FnExactRingsFrom'. -/
def fnExactRingsFromUptoCard : Claim7 := { stood := { row := fnExactRingsFromUptoRow, standIns := [], harness := (true, "cb708dddb5c1d4ae9f7135e4d746cf2272c55c2c4c9462384a4bfb8332ca76a1"), looks := false }, kinds := [], alts := [], laidByText := true, laidKinds := [.data, .pinned], laidTests := true, laidLooks := .later }
def FnExactRingsFromUptoCardSaid : Prop := Claim7.holds Tryz.pinned (.plain (OpenSpec.upto fnExactRingsFromSpec)) fnExactRingsFromUptoCard
end Rows
end Go.Proofs.YtkmgcmgnaeamaaaGreatDoor
