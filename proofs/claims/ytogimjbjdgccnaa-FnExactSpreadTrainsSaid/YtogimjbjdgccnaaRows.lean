/-
  No cell of these rows narrows 'for every input' (looked for: loops, veiled, ifaces, maps, wideKeys, modest, calm, conditions, laid).
  DERIVED. THE GIVEN ROWS OF THIS SEAT. 2 by the template 'for every input the law returns true; each argument reads behind the call as it read before'; 0 by the template 'total and deterministic' (their statements: YtogimjbjdgccnaaTotals.lean).
  GIVEN WITH THE SEED: the statements are not yours to turn. If you find one false, say at which input.
  Laid BY PROGRAM, IN A SANDBOX (cutbox-rows.mjs): the forced cells as the released guide's own fill.sh prints them over the translation b2bf77bef1649aa3… (all of the seat's roots in one cut). By AI agents, Wed Nov 11 2026. No macro, syntax, notation, axiom, sorry.
-/
import Derived.Test.YtogimjbjdgccnaaChecked
import GoSem.Claim
import GoSem.ClaimJoined
import GoSem.ClaimMapViews
import Derived.JoinedTies
import Derived.KernelRfl
namespace Go.Proofs.Ytogimjbjdgccnaa
/- THE CELL 'sum', in the pinned program and in every row, IS THE sha256 OF THE DUMP (.gsa) THAT YtogimjbjdgccnaaProg.lean LOADS. Nothing in Lean hashes anything: it is a label: what it is worth is what the hold of that sum in a sandbox is worth. -/
noncomputable def Try.pinned : Pinned := { name := "ytogimjbjdgccnaa", sum := "b2bf77bef1649aa3c6808d0df9b833c087327ebfab21d61dce6df2a6c151d914", checked := Try.checked }
namespace Rows
def none {H : Type} : Left H := { results := [], args := [] }

/-- 'laws.FnExactMostMoving': WHATEVER THE INPUT: true; the input reads as it did. -/
def fnExactMostMovingSpec : ChangeSpec := { name := "fnExactMostMoving", fn := fun _ => fun
  | [d1, d2] => { results := [.lit (.bool true)], args := [d1, d2] }
  | _ => none }
def fnExactMostMovingRow : OpenClaim := { program := "ytogimjbjdgccnaa", sum := "b2bf77bef1649aa3c6808d0df9b833c087327ebfab21d61dce6df2a6c151d914", func := "loop.example/g01217/laws.FnExactMostMoving", spec := "fnExactMostMoving", apart := false }
def FnExactMostMovingSaid : Prop := fnExactMostMovingRow.holds Try.pinned (OpenSpec.ofChange fnExactMostMovingSpec)

/-- ITS FALSE NEIGHBOUR: 'it returns false'. Refute it at one input. -/
def fnExactMostMovingWrong : ChangeSpec := { name := "fnExactMostMoving", fn := fun _ => fun
  | [d1, d2] => { results := [.lit (.bool false)], args := [d1, d2] }
  | _ => none }
def FnExactMostMovingWrongFalsely : Prop := fnExactMostMovingRow.holds Try.pinned (OpenSpec.ofChange fnExactMostMovingWrong)

/-- 'laws.FnExactSpreadTrains': WHATEVER THE INPUT: true; the input reads as it did. -/
def fnExactSpreadTrainsSpec : ChangeSpec := { name := "fnExactSpreadTrains", fn := fun _ => fun
  | [d1, d2] => { results := [.lit (.bool true)], args := [d1, d2] }
  | _ => none }
def fnExactSpreadTrainsRow : OpenClaim := { program := "ytogimjbjdgccnaa", sum := "b2bf77bef1649aa3c6808d0df9b833c087327ebfab21d61dce6df2a6c151d914", func := "loop.example/g01217/laws.FnExactSpreadTrains", spec := "fnExactSpreadTrains", inPlace := ["internal/abi.NoEscape", "internal/bytealg.MakeNoZero"], apart := false }
def FnExactSpreadTrainsSaid : Prop := fnExactSpreadTrainsRow.holds Try.pinned (OpenSpec.ofChange fnExactSpreadTrainsSpec)

/-- ITS FALSE NEIGHBOUR: 'it returns false'. Refute it at one input. -/
def fnExactSpreadTrainsWrong : ChangeSpec := { name := "fnExactSpreadTrains", fn := fun _ => fun
  | [d1, d2] => { results := [.lit (.bool false)], args := [d1, d2] }
  | _ => none }
def FnExactSpreadTrainsWrongFalsely : Prop := fnExactSpreadTrainsRow.holds Try.pinned (OpenSpec.ofChange fnExactSpreadTrainsWrong)

/- THE SECOND FORM. 'bulk': how many values and letters a reading holds, each counted each time it is reached (what is shared counts as often as it is met; a slice's spare places count too). A statement '..UptoSaid' is the law's where the arguments, and the package variables that the reading takes, are together of bulk at most 1048576: NARROWER than '..Said'. Prove '..Said' where nothing that the law and all that it calls make is longer than what came in: it says more and counts as full. Else prove '..UptoSaid'. A law counts once. -/
mutual
def uptoBulk {H : Type} : DataW H → Nat
  | .lit (.string bytes) => bytes.length + 1
  | .lit _ => 1
  | .nil => 1
  | .ptr d => uptoBulk d + 1
  | .slice elems spare => uptoBulkAll elems + uptoBulkAll spare + 1
  | .agg parts => uptoBulkAll parts + 1
  | .iface _ d => uptoBulk d + 1
  | .map entries => uptoBulkEntries entries + 1
  | .held _ => 1
def uptoBulkAll {H : Type} : List (DataW H) → Nat
  | [] => 0
  | d :: r => uptoBulk d + uptoBulkAll r
def uptoBulkEntries {H : Type} : List (Lit × DataW H) → Nat
  | [] => 0
  | x :: r => uptoBulkEntry x + uptoBulkEntries r
def uptoBulkEntry {H : Type} : Lit × DataW H → Nat
  | (.string bytes, d) => bytes.length + uptoBulk d + 1
  | (_, d) => uptoBulk d + 1
 end
def uptoSmall : (H : Type) → List (DataW H) → Bool := fun _ ds => decide (uptoBulkAll ds ≤ 1048576)
def OpenSpec.upto (s : _root_.Go.ChangeSpec) : _root_.Go.OpenSpec := { _root_.Go.OpenSpec.ofChange s with cond := some uptoSmall }

/-- 'laws.FnExactMostMoving', WHERE WHAT IT READS IS OF BULK AT MOST 1048576: true; the input reads as it did. -/
def fnExactMostMovingUptoRow : OpenClaim := { program := "ytogimjbjdgccnaa", sum := "b2bf77bef1649aa3c6808d0df9b833c087327ebfab21d61dce6df2a6c151d914", func := "loop.example/g01217/laws.FnExactMostMoving", spec := "fnExactMostMoving", apart := false, narrowed := true }
def FnExactMostMovingUptoSaid : Prop := fnExactMostMovingUptoRow.holds Try.pinned (OpenSpec.upto fnExactMostMovingSpec)

/-- 'laws.FnExactSpreadTrains', WHERE WHAT IT READS IS OF BULK AT MOST 1048576: true; the input reads as it did. -/
def fnExactSpreadTrainsUptoRow : OpenClaim := { program := "ytogimjbjdgccnaa", sum := "b2bf77bef1649aa3c6808d0df9b833c087327ebfab21d61dce6df2a6c151d914", func := "loop.example/g01217/laws.FnExactSpreadTrains", spec := "fnExactSpreadTrains", inPlace := ["internal/abi.NoEscape", "internal/bytealg.MakeNoZero"], apart := false, narrowed := true }
def FnExactSpreadTrainsUptoSaid : Prop := fnExactSpreadTrainsUptoRow.holds Try.pinned (OpenSpec.upto fnExactSpreadTrainsSpec)

end Rows
end Go.Proofs.Ytogimjbjdgccnaa
