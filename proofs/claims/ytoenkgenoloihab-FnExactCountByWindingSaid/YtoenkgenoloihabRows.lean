/-
  No cell of these rows narrows 'for every input' (looked for: loops, veiled, ifaces, maps, wideKeys, modest, calm, conditions, laid).
  DERIVED. THE GIVEN ROWS OF THIS SEAT. 6 by the template 'for every input the law returns true; each argument reads behind the call as it read before'; 0 by the template 'total and deterministic' (their statements: YtoenkgenoloihabTotals.lean).
  GIVEN WITH THE SEED: the statements are not yours to turn. If you find one false, say at which input.
  Laid BY PROGRAM, IN A SANDBOX (cutbox-rows.mjs): the forced cells as the released guide's own fill.sh prints them over the translation 91f2f47fb0fe248f… (all of the seat's roots in one cut). By AI agents, Wed Nov 11 2026. No macro, syntax, notation, axiom, sorry.
-/
import Derived.Test.YtoenkgenoloihabChecked
import GoSem.Claim
import GoSem.ClaimJoined
import GoSem.ClaimMapViews
import Derived.JoinedTies
import Derived.KernelRfl
namespace Go.Proofs.Ytoenkgenoloihab
/- THE CELL 'sum', in the pinned program and in every row, IS THE sha256 OF THE DUMP (.gsa) THAT YtoenkgenoloihabProg.lean LOADS. Nothing in Lean hashes anything: it is a label: what it is worth is what the hold of that sum in a sandbox is worth. -/
noncomputable def Try.pinned : Pinned := { name := "ytoenkgenoloihab", sum := "91f2f47fb0fe248fd22963a7207414bb71f3609844ecf102f8356197d5bdf13a", checked := Try.checked }
namespace Rows
def none {H : Type} : Left H := { results := [], args := [] }

/-- 'laws.FnExactIsRing': WHATEVER THE INPUT: true; the input reads as it did. -/
def fnExactIsRingSpec : ChangeSpec := { name := "fnExactIsRing", fn := fun _ => fun
  | [d] => { results := [.lit (.bool true)], args := [d] }
  | _ => none }
def fnExactIsRingRow : OpenClaim := { program := "ytoenkgenoloihab", sum := "91f2f47fb0fe248fd22963a7207414bb71f3609844ecf102f8356197d5bdf13a", func := "loop.example/g01217/laws.FnExactIsRing", spec := "fnExactIsRing", unfollowed := true, recurses := true, plainKeys := false, apart := false }
def FnExactIsRingSaid : Prop := fnExactIsRingRow.holds Try.pinned (OpenSpec.ofChange fnExactIsRingSpec)

/-- ITS FALSE NEIGHBOUR: 'it returns false'. Refute it at one input. -/
def fnExactIsRingWrong : ChangeSpec := { name := "fnExactIsRing", fn := fun _ => fun
  | [d] => { results := [.lit (.bool false)], args := [d] }
  | _ => none }
def FnExactIsRingWrongFalsely : Prop := fnExactIsRingRow.holds Try.pinned (OpenSpec.ofChange fnExactIsRingWrong)

/-- 'laws.FnExactGrowRing': WHATEVER THE INPUT: true; the input reads as it did. -/
def fnExactGrowRingSpec : ChangeSpec := { name := "fnExactGrowRing", fn := fun _ => fun
  | [d1, d2] => { results := [.lit (.bool true)], args := [d1, d2] }
  | _ => none }
def fnExactGrowRingRow : OpenClaim := { program := "ytoenkgenoloihab", sum := "91f2f47fb0fe248fd22963a7207414bb71f3609844ecf102f8356197d5bdf13a", func := "loop.example/g01217/laws.FnExactGrowRing", spec := "fnExactGrowRing", inPlace := ["internal/abi.NoEscape"], unfollowed := true, recurses := true, plainKeys := false, apart := false }
def FnExactGrowRingSaid : Prop := fnExactGrowRingRow.holds Try.pinned (OpenSpec.ofChange fnExactGrowRingSpec)

/-- ITS FALSE NEIGHBOUR: 'it returns false'. Refute it at one input. -/
def fnExactGrowRingWrong : ChangeSpec := { name := "fnExactGrowRing", fn := fun _ => fun
  | [d1, d2] => { results := [.lit (.bool false)], args := [d1, d2] }
  | _ => none }
def FnExactGrowRingWrongFalsely : Prop := fnExactGrowRingRow.holds Try.pinned (OpenSpec.ofChange fnExactGrowRingWrong)

/-- 'laws.FnExactRingCrossings': WHATEVER THE INPUT: true; the input reads as it did. -/
def fnExactRingCrossingsSpec : ChangeSpec := { name := "fnExactRingCrossings", fn := fun _ => fun
  | [d] => { results := [.lit (.bool true)], args := [d] }
  | _ => none }
def fnExactRingCrossingsRow : OpenClaim := { program := "ytoenkgenoloihab", sum := "91f2f47fb0fe248fd22963a7207414bb71f3609844ecf102f8356197d5bdf13a", func := "loop.example/g01217/laws.FnExactRingCrossings", spec := "fnExactRingCrossings", unfollowed := true, recurses := true, plainKeys := false, apart := false }
def FnExactRingCrossingsSaid : Prop := fnExactRingCrossingsRow.holds Try.pinned (OpenSpec.ofChange fnExactRingCrossingsSpec)

/-- ITS FALSE NEIGHBOUR: 'it returns false'. Refute it at one input. -/
def fnExactRingCrossingsWrong : ChangeSpec := { name := "fnExactRingCrossings", fn := fun _ => fun
  | [d] => { results := [.lit (.bool false)], args := [d] }
  | _ => none }
def FnExactRingCrossingsWrongFalsely : Prop := fnExactRingCrossingsRow.holds Try.pinned (OpenSpec.ofChange fnExactRingCrossingsWrong)

/-- 'laws.FnExactCountByWinding': WHATEVER THE INPUT: true; the input reads as it did. -/
def fnExactCountByWindingSpec : ChangeSpec := { name := "fnExactCountByWinding", fn := fun _ => fun
  | [d] => { results := [.lit (.bool true)], args := [d] }
  | _ => none }
def fnExactCountByWindingRow : OpenClaim := { program := "ytoenkgenoloihab", sum := "91f2f47fb0fe248fd22963a7207414bb71f3609844ecf102f8356197d5bdf13a", func := "loop.example/g01217/laws.FnExactCountByWinding", spec := "fnExactCountByWinding", inPlace := ["internal/bytealg.CountString", "internal/bytealg.IndexByteString", "internal/bytealg.IndexString"], unfollowed := true, recurses := true, named := ["internal/bytealg.MaxLen"], plainKeys := false, apart := false }
def FnExactCountByWindingSaid : Prop := fnExactCountByWindingRow.holds Try.pinned (OpenSpec.ofChange fnExactCountByWindingSpec)

/-- ITS FALSE NEIGHBOUR: 'it returns false'. Refute it at one input. -/
def fnExactCountByWindingWrong : ChangeSpec := { name := "fnExactCountByWinding", fn := fun _ => fun
  | [d] => { results := [.lit (.bool false)], args := [d] }
  | _ => none }
def FnExactCountByWindingWrongFalsely : Prop := fnExactCountByWindingRow.holds Try.pinned (OpenSpec.ofChange fnExactCountByWindingWrong)

/-- 'laws.FnExactCountClosed': WHATEVER THE INPUT: true; the input reads as it did. -/
def fnExactCountClosedSpec : ChangeSpec := { name := "fnExactCountClosed", fn := fun _ => fun
  | [d] => { results := [.lit (.bool true)], args := [d] }
  | _ => none }
def fnExactCountClosedRow : OpenClaim := { program := "ytoenkgenoloihab", sum := "91f2f47fb0fe248fd22963a7207414bb71f3609844ecf102f8356197d5bdf13a", func := "loop.example/g01217/laws.FnExactCountClosed", spec := "fnExactCountClosed", inPlace := ["internal/bytealg.CountString", "internal/bytealg.IndexByteString", "internal/bytealg.IndexString"], unfollowed := true, recurses := true, named := ["internal/bytealg.MaxLen"], plainKeys := false, apart := false }
def FnExactCountClosedSaid : Prop := fnExactCountClosedRow.holds Try.pinned (OpenSpec.ofChange fnExactCountClosedSpec)

/-- ITS FALSE NEIGHBOUR: 'it returns false'. Refute it at one input. -/
def fnExactCountClosedWrong : ChangeSpec := { name := "fnExactCountClosed", fn := fun _ => fun
  | [d] => { results := [.lit (.bool false)], args := [d] }
  | _ => none }
def FnExactCountClosedWrongFalsely : Prop := fnExactCountClosedRow.holds Try.pinned (OpenSpec.ofChange fnExactCountClosedWrong)

/-- 'laws.FnExactCountClosedWith': WHATEVER THE INPUT: true; the input reads as it did. -/
def fnExactCountClosedWithSpec : ChangeSpec := { name := "fnExactCountClosedWith", fn := fun _ => fun
  | [d1, d2, d3] => { results := [.lit (.bool true)], args := [d1, d2, d3] }
  | _ => none }
def fnExactCountClosedWithRow : OpenClaim := { program := "ytoenkgenoloihab", sum := "91f2f47fb0fe248fd22963a7207414bb71f3609844ecf102f8356197d5bdf13a", func := "loop.example/g01217/laws.FnExactCountClosedWith", spec := "fnExactCountClosedWith", inPlace := ["internal/bytealg.CountString", "internal/bytealg.IndexByteString", "internal/bytealg.IndexString"], unfollowed := true, recurses := true, named := ["internal/bytealg.MaxLen"], plainKeys := false, apart := false }
def FnExactCountClosedWithSaid : Prop := fnExactCountClosedWithRow.holds Try.pinned (OpenSpec.ofChange fnExactCountClosedWithSpec)

/-- ITS FALSE NEIGHBOUR: 'it returns false'. Refute it at one input. -/
def fnExactCountClosedWithWrong : ChangeSpec := { name := "fnExactCountClosedWith", fn := fun _ => fun
  | [d1, d2, d3] => { results := [.lit (.bool false)], args := [d1, d2, d3] }
  | _ => none }
def FnExactCountClosedWithWrongFalsely : Prop := fnExactCountClosedWithRow.holds Try.pinned (OpenSpec.ofChange fnExactCountClosedWithWrong)

/- THE SECOND FORM. 'bulk': how many values and letters a reading holds, each counted each time it is reached (what is shared counts as often as it is met; a slice's spare places count too). A statement '..UptoSaid' is the law's where the arguments, and the package variables that the reading takes, are together of bulk at most 1048576: NARROWER than '..Said'. Prove '..Said' where nothing that the law and all that it calls make is longer than what came in: it says more and counts as full. Else prove '..UptoSaid'. A law counts once. -/
mutual
def uptoBulk {H : Type} : DataW H → Nat
  | .lit (.string bytes) => bytes.length + 1
  | .lit _ => 1
  | .nil => 1
  | .ptr d => uptoBulk d + 1
  | .slice elems spare => uptoBulkAll elems + uptoBulkAll spare + 1
  | .agg parts => uptoBulkAll parts + 1
  | .iface _ d => uptoBulk d + 1
  | .map entries => uptoBulkEntries entries + 1
  | .held _ => 1
def uptoBulkAll {H : Type} : List (DataW H) → Nat
  | [] => 0
  | d :: r => uptoBulk d + uptoBulkAll r
def uptoBulkEntries {H : Type} : List (Lit × DataW H) → Nat
  | [] => 0
  | x :: r => uptoBulkEntry x + uptoBulkEntries r
def uptoBulkEntry {H : Type} : Lit × DataW H → Nat
  | (.string bytes, d) => bytes.length + uptoBulk d + 1
  | (_, d) => uptoBulk d + 1
 end
def uptoSmall : (H : Type) → List (DataW H) → Bool := fun _ ds => decide (uptoBulkAll ds ≤ 1048576)
def OpenSpec.upto (s : _root_.Go.ChangeSpec) : _root_.Go.OpenSpec := { _root_.Go.OpenSpec.ofChange s with cond := some uptoSmall }

/-- 'laws.FnExactIsRing', WHERE WHAT IT READS IS OF BULK AT MOST 1048576: true; the input reads as it did. -/
def fnExactIsRingUptoRow : OpenClaim := { program := "ytoenkgenoloihab", sum := "91f2f47fb0fe248fd22963a7207414bb71f3609844ecf102f8356197d5bdf13a", func := "loop.example/g01217/laws.FnExactIsRing", spec := "fnExactIsRing", unfollowed := true, recurses := true, plainKeys := false, apart := false, narrowed := true }
def FnExactIsRingUptoSaid : Prop := fnExactIsRingUptoRow.holds Try.pinned (OpenSpec.upto fnExactIsRingSpec)

/-- 'laws.FnExactGrowRing', WHERE WHAT IT READS IS OF BULK AT MOST 1048576: true; the input reads as it did. -/
def fnExactGrowRingUptoRow : OpenClaim := { program := "ytoenkgenoloihab", sum := "91f2f47fb0fe248fd22963a7207414bb71f3609844ecf102f8356197d5bdf13a", func := "loop.example/g01217/laws.FnExactGrowRing", spec := "fnExactGrowRing", inPlace := ["internal/abi.NoEscape"], unfollowed := true, recurses := true, plainKeys := false, apart := false, narrowed := true }
def FnExactGrowRingUptoSaid : Prop := fnExactGrowRingUptoRow.holds Try.pinned (OpenSpec.upto fnExactGrowRingSpec)

/-- 'laws.FnExactRingCrossings', WHERE WHAT IT READS IS OF BULK AT MOST 1048576: true; the input reads as it did. -/
def fnExactRingCrossingsUptoRow : OpenClaim := { program := "ytoenkgenoloihab", sum := "91f2f47fb0fe248fd22963a7207414bb71f3609844ecf102f8356197d5bdf13a", func := "loop.example/g01217/laws.FnExactRingCrossings", spec := "fnExactRingCrossings", unfollowed := true, recurses := true, plainKeys := false, apart := false, narrowed := true }
def FnExactRingCrossingsUptoSaid : Prop := fnExactRingCrossingsUptoRow.holds Try.pinned (OpenSpec.upto fnExactRingCrossingsSpec)

/-- 'laws.FnExactCountByWinding', WHERE WHAT IT READS IS OF BULK AT MOST 1048576: true; the input reads as it did. -/
def fnExactCountByWindingUptoRow : OpenClaim := { program := "ytoenkgenoloihab", sum := "91f2f47fb0fe248fd22963a7207414bb71f3609844ecf102f8356197d5bdf13a", func := "loop.example/g01217/laws.FnExactCountByWinding", spec := "fnExactCountByWinding", inPlace := ["internal/bytealg.CountString", "internal/bytealg.IndexByteString", "internal/bytealg.IndexString"], unfollowed := true, recurses := true, named := ["internal/bytealg.MaxLen"], plainKeys := false, apart := false, narrowed := true }
def FnExactCountByWindingUptoSaid : Prop := fnExactCountByWindingUptoRow.holds Try.pinned (OpenSpec.upto fnExactCountByWindingSpec)

/-- 'laws.FnExactCountClosed', WHERE WHAT IT READS IS OF BULK AT MOST 1048576: true; the input reads as it did. -/
def fnExactCountClosedUptoRow : OpenClaim := { program := "ytoenkgenoloihab", sum := "91f2f47fb0fe248fd22963a7207414bb71f3609844ecf102f8356197d5bdf13a", func := "loop.example/g01217/laws.FnExactCountClosed", spec := "fnExactCountClosed", inPlace := ["internal/bytealg.CountString", "internal/bytealg.IndexByteString", "internal/bytealg.IndexString"], unfollowed := true, recurses := true, named := ["internal/bytealg.MaxLen"], plainKeys := false, apart := false, narrowed := true }
def FnExactCountClosedUptoSaid : Prop := fnExactCountClosedUptoRow.holds Try.pinned (OpenSpec.upto fnExactCountClosedSpec)

/-- 'laws.FnExactCountClosedWith', WHERE WHAT IT READS IS OF BULK AT MOST 1048576: true; the input reads as it did. -/
def fnExactCountClosedWithUptoRow : OpenClaim := { program := "ytoenkgenoloihab", sum := "91f2f47fb0fe248fd22963a7207414bb71f3609844ecf102f8356197d5bdf13a", func := "loop.example/g01217/laws.FnExactCountClosedWith", spec := "fnExactCountClosedWith", inPlace := ["internal/bytealg.CountString", "internal/bytealg.IndexByteString", "internal/bytealg.IndexString"], unfollowed := true, recurses := true, named := ["internal/bytealg.MaxLen"], plainKeys := false, apart := false, narrowed := true }
def FnExactCountClosedWithUptoSaid : Prop := fnExactCountClosedWithUptoRow.holds Try.pinned (OpenSpec.upto fnExactCountClosedWithSpec)

end Rows
end Go.Proofs.Ytoenkgenoloihab
