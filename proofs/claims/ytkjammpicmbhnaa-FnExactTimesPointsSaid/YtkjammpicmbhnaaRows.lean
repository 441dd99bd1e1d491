/-
  No cell of these rows narrows 'for every input' (looked for: loops, veiled, ifaces, maps, wideKeys, modest, calm, conditions, laid).
  DERIVED. THE GIVEN ROWS OF THIS SEAT. 9 by the template 'for every input the law returns true; each argument reads behind the call as it read before'; 0 by the template 'total and deterministic' (their statements: YtkjammpicmbhnaaTotals.lean).
  GIVEN WITH THE SEED: the statements are not yours to turn. If you find one false, say at which input.
  Laid BY PROGRAM, IN A SANDBOX (cutbox-rows.mjs): the forced cells as the released guide's own fill.sh prints them over the translation c34ce1c6fb933917… (all of the seat's roots in one cut). By AI agents, Wed Nov 11 2026. No macro, syntax, notation, axiom, sorry.
-/
import Derived.Test.YtkjammpicmbhnaaChecked
import GoSem.Claim
import GoSem.ClaimJoined
import GoSem.ClaimMapViews
import Derived.JoinedTies
import Derived.KernelRfl
namespace Go.Proofs.Ytkjammpicmbhnaa
/- THE CELL 'sum', in the pinned program and in every row, IS THE sha256 OF THE DUMP (.gsa) THAT YtkjammpicmbhnaaProg.lean LOADS. Nothing in Lean hashes anything: it is a label: what it is worth is what the hold of that sum in a sandbox is worth. -/
noncomputable def Try.pinned : Pinned := { name := "ytkjammpicmbhnaa", sum := "c34ce1c6fb933917e9ffb05d115b80323b39040ee7a273ba641508e5fe59ecf2", checked := Try.checked }
namespace Rows
def none {H : Type} : Left H := { results := [], args := [] }

/-- 'laws.FnExactIsPoint': WHATEVER THE INPUT: true; the input reads as it did. -/
def fnExactIsPointSpec : ChangeSpec := { name := "fnExactIsPoint", fn := fun _ => fun
  | [d] => { results := [.lit (.bool true)], args := [d] }
  | _ => none }
def fnExactIsPointRow : OpenClaim := { program := "ytkjammpicmbhnaa", sum := "c34ce1c6fb933917e9ffb05d115b80323b39040ee7a273ba641508e5fe59ecf2", func := "loop.example/g01217/laws.FnExactIsPoint", spec := "fnExactIsPoint", apart := false }
def FnExactIsPointSaid : Prop := fnExactIsPointRow.holds Try.pinned (OpenSpec.ofChange fnExactIsPointSpec)

/-- ITS FALSE NEIGHBOUR: 'it returns false'. Refute it at one input. -/
def fnExactIsPointWrong : ChangeSpec := { name := "fnExactIsPoint", fn := fun _ => fun
  | [d] => { results := [.lit (.bool false)], args := [d] }
  | _ => none }
def FnExactIsPointWrongFalsely : Prop := fnExactIsPointRow.holds Try.pinned (OpenSpec.ofChange fnExactIsPointWrong)

/-- 'laws.FnExactAddPoints': WHATEVER THE INPUT: true; the input reads as it did. -/
def fnExactAddPointsSpec : ChangeSpec := { name := "fnExactAddPoints", fn := fun _ => fun
  | [d1, d2] => { results := [.lit (.bool true)], args := [d1, d2] }
  | _ => none }
def fnExactAddPointsRow : OpenClaim := { program := "ytkjammpicmbhnaa", sum := "c34ce1c6fb933917e9ffb05d115b80323b39040ee7a273ba641508e5fe59ecf2", func := "loop.example/g01217/laws.FnExactAddPoints", spec := "fnExactAddPoints", apart := false }
def FnExactAddPointsSaid : Prop := fnExactAddPointsRow.holds Try.pinned (OpenSpec.ofChange fnExactAddPointsSpec)

/-- ITS FALSE NEIGHBOUR: 'it returns false'. Refute it at one input. -/
def fnExactAddPointsWrong : ChangeSpec := { name := "fnExactAddPoints", fn := fun _ => fun
  | [d1, d2] => { results := [.lit (.bool false)], args := [d1, d2] }
  | _ => none }
def FnExactAddPointsWrongFalsely : Prop := fnExactAddPointsRow.holds Try.pinned (OpenSpec.ofChange fnExactAddPointsWrong)

/-- 'laws.FnExactLessPoints': WHATEVER THE INPUT: true; the input reads as it did. -/
def fnExactLessPointsSpec : ChangeSpec := { name := "fnExactLessPoints", fn := fun _ => fun
  | [d1, d2] => { results := [.lit (.bool true)], args := [d1, d2] }
  | _ => none }
def fnExactLessPointsRow : OpenClaim := { program := "ytkjammpicmbhnaa", sum := "c34ce1c6fb933917e9ffb05d115b80323b39040ee7a273ba641508e5fe59ecf2", func := "loop.example/g01217/laws.FnExactLessPoints", spec := "fnExactLessPoints", apart := false }
def FnExactLessPointsSaid : Prop := fnExactLessPointsRow.holds Try.pinned (OpenSpec.ofChange fnExactLessPointsSpec)

/-- ITS FALSE NEIGHBOUR: 'it returns false'. Refute it at one input. -/
def fnExactLessPointsWrong : ChangeSpec := { name := "fnExactLessPoints", fn := fun _ => fun
  | [d1, d2] => { results := [.lit (.bool false)], args := [d1, d2] }
  | _ => none }
def FnExactLessPointsWrongFalsely : Prop := fnExactLessPointsRow.holds Try.pinned (OpenSpec.ofChange fnExactLessPointsWrong)

/-- 'laws.FnExactTimesPoints': WHATEVER THE INPUT: true; the input reads as it did. -/
def fnExactTimesPointsSpec : ChangeSpec := { name := "fnExactTimesPoints", fn := fun _ => fun
  | [d1, d2] => { results := [.lit (.bool true)], args := [d1, d2] }
  | _ => none }
def fnExactTimesPointsRow : OpenClaim := { program := "ytkjammpicmbhnaa", sum := "c34ce1c6fb933917e9ffb05d115b80323b39040ee7a273ba641508e5fe59ecf2", func := "loop.example/g01217/laws.FnExactTimesPoints", spec := "fnExactTimesPoints", apart := false }
def FnExactTimesPointsSaid : Prop := fnExactTimesPointsRow.holds Try.pinned (OpenSpec.ofChange fnExactTimesPointsSpec)

/-- ITS FALSE NEIGHBOUR: 'it returns false'. Refute it at one input. -/
def fnExactTimesPointsWrong : ChangeSpec := { name := "fnExactTimesPoints", fn := fun _ => fun
  | [d1, d2] => { results := [.lit (.bool false)], args := [d1, d2] }
  | _ => none }
def FnExactTimesPointsWrongFalsely : Prop := fnExactTimesPointsRow.holds Try.pinned (OpenSpec.ofChange fnExactTimesPointsWrong)

/-- 'laws.FnExactTurnPoint': WHATEVER THE INPUT: true; the input reads as it did. -/
def fnExactTurnPointSpec : ChangeSpec := { name := "fnExactTurnPoint", fn := fun _ => fun
  | [d1, d2] => { results := [.lit (.bool true)], args := [d1, d2] }
  | _ => none }
def fnExactTurnPointRow : OpenClaim := { program := "ytkjammpicmbhnaa", sum := "c34ce1c6fb933917e9ffb05d115b80323b39040ee7a273ba641508e5fe59ecf2", func := "loop.example/g01217/laws.FnExactTurnPoint", spec := "fnExactTurnPoint", apart := false }
def FnExactTurnPointSaid : Prop := fnExactTurnPointRow.holds Try.pinned (OpenSpec.ofChange fnExactTurnPointSpec)

/-- ITS FALSE NEIGHBOUR: 'it returns false'. Refute it at one input. -/
def fnExactTurnPointWrong : ChangeSpec := { name := "fnExactTurnPoint", fn := fun _ => fun
  | [d1, d2] => { results := [.lit (.bool false)], args := [d1, d2] }
  | _ => none }
def FnExactTurnPointWrongFalsely : Prop := fnExactTurnPointRow.holds Try.pinned (OpenSpec.ofChange fnExactTurnPointWrong)

/-- 'laws.FnExactMirrorPoint': WHATEVER THE INPUT: true; the input reads as it did. -/
def fnExactMirrorPointSpec : ChangeSpec := { name := "fnExactMirrorPoint", fn := fun _ => fun
  | [d] => { results := [.lit (.bool true)], args := [d] }
  | _ => none }
def fnExactMirrorPointRow : OpenClaim := { program := "ytkjammpicmbhnaa", sum := "c34ce1c6fb933917e9ffb05d115b80323b39040ee7a273ba641508e5fe59ecf2", func := "loop.example/g01217/laws.FnExactMirrorPoint", spec := "fnExactMirrorPoint", apart := false }
def FnExactMirrorPointSaid : Prop := fnExactMirrorPointRow.holds Try.pinned (OpenSpec.ofChange fnExactMirrorPointSpec)

/-- ITS FALSE NEIGHBOUR: 'it returns false'. Refute it at one input. -/
def fnExactMirrorPointWrong : ChangeSpec := { name := "fnExactMirrorPoint", fn := fun _ => fun
  | [d] => { results := [.lit (.bool false)], args := [d] }
  | _ => none }
def FnExactMirrorPointWrongFalsely : Prop := fnExactMirrorPointRow.holds Try.pinned (OpenSpec.ofChange fnExactMirrorPointWrong)

/-- 'laws.FnExactScalePoint': WHATEVER THE INPUT: true; the input reads as it did. -/
def fnExactScalePointSpec : ChangeSpec := { name := "fnExactScalePoint", fn := fun _ => fun
  | [d1, d2] => { results := [.lit (.bool true)], args := [d1, d2] }
  | _ => none }
def fnExactScalePointRow : OpenClaim := { program := "ytkjammpicmbhnaa", sum := "c34ce1c6fb933917e9ffb05d115b80323b39040ee7a273ba641508e5fe59ecf2", func := "loop.example/g01217/laws.FnExactScalePoint", spec := "fnExactScalePoint", apart := false }
def FnExactScalePointSaid : Prop := fnExactScalePointRow.holds Try.pinned (OpenSpec.ofChange fnExactScalePointSpec)

/-- ITS FALSE NEIGHBOUR: 'it returns false'. Refute it at one input. -/
def fnExactScalePointWrong : ChangeSpec := { name := "fnExactScalePoint", fn := fun _ => fun
  | [d1, d2] => { results := [.lit (.bool false)], args := [d1, d2] }
  | _ => none }
def FnExactScalePointWrongFalsely : Prop := fnExactScalePointRow.holds Try.pinned (OpenSpec.ofChange fnExactScalePointWrong)

/-- 'laws.FnExactHeadingPoint': WHATEVER THE INPUT: true; the input reads as it did. -/
def fnExactHeadingPointSpec : ChangeSpec := { name := "fnExactHeadingPoint", fn := fun _ => fun
  | [d] => { results := [.lit (.bool true)], args := [d] }
  | _ => none }
def fnExactHeadingPointRow : OpenClaim := { program := "ytkjammpicmbhnaa", sum := "c34ce1c6fb933917e9ffb05d115b80323b39040ee7a273ba641508e5fe59ecf2", func := "loop.example/g01217/laws.FnExactHeadingPoint", spec := "fnExactHeadingPoint", apart := false }
def FnExactHeadingPointSaid : Prop := fnExactHeadingPointRow.holds Try.pinned (OpenSpec.ofChange fnExactHeadingPointSpec)

/-- ITS FALSE NEIGHBOUR: 'it returns false'. Refute it at one input. -/
def fnExactHeadingPointWrong : ChangeSpec := { name := "fnExactHeadingPoint", fn := fun _ => fun
  | [d] => { results := [.lit (.bool false)], args := [d] }
  | _ => none }
def FnExactHeadingPointWrongFalsely : Prop := fnExactHeadingPointRow.holds Try.pinned (OpenSpec.ofChange fnExactHeadingPointWrong)

/-- 'laws.FnExactStepOf': WHATEVER THE INPUT: true; the input reads as it did. -/
def fnExactStepOfSpec : ChangeSpec := { name := "fnExactStepOf", fn := fun _ => fun
  | [d1, d2] => { results := [.lit (.bool true)], args := [d1, d2] }
  | _ => none }
def fnExactStepOfRow : OpenClaim := { program := "ytkjammpicmbhnaa", sum := "c34ce1c6fb933917e9ffb05d115b80323b39040ee7a273ba641508e5fe59ecf2", func := "loop.example/g01217/laws.FnExactStepOf", spec := "fnExactStepOf", unfollowed := true, recurses := true, apart := false }
def FnExactStepOfSaid : Prop := fnExactStepOfRow.holds Try.pinned (OpenSpec.ofChange fnExactStepOfSpec)

/-- ITS FALSE NEIGHBOUR: 'it returns false'. Refute it at one input. -/
def fnExactStepOfWrong : ChangeSpec := { name := "fnExactStepOf", fn := fun _ => fun
  | [d1, d2] => { results := [.lit (.bool false)], args := [d1, d2] }
  | _ => none }
def FnExactStepOfWrongFalsely : Prop := fnExactStepOfRow.holds Try.pinned (OpenSpec.ofChange fnExactStepOfWrong)

/- THE SECOND FORM. 'bulk': how many values and letters a reading holds, each counted each time it is reached (what is shared counts as often as it is met; a slice's spare places count too). A statement '..UptoSaid' is the law's where the arguments, and the package variables that the reading takes, are together of bulk at most 1048576: NARROWER than '..Said'. Prove '..Said' where nothing that the law and all that it calls make is longer than what came in: it says more and counts as full. Else prove '..UptoSaid'. A law counts once. -/
mutual
def uptoBulk {H : Type} : DataW H → Nat
  | .lit (.string bytes) => bytes.length + 1
  | .lit _ => 1
  | .nil => 1
  | .ptr d => uptoBulk d + 1
  | .slice elems spare => uptoBulkAll elems + uptoBulkAll spare + 1
  | .agg parts => uptoBulkAll parts + 1
  | .iface _ d => uptoBulk d + 1
  | .map entries => uptoBulkEntries entries + 1
  | .held _ => 1
def uptoBulkAll {H : Type} : List (DataW H) → Nat
  | [] => 0
  | d :: r => uptoBulk d + uptoBulkAll r
def uptoBulkEntries {H : Type} : List (Lit × DataW H) → Nat
  | [] => 0
  | x :: r => uptoBulkEntry x + uptoBulkEntries r
def uptoBulkEntry {H : Type} : Lit × DataW H → Nat
  | (.string bytes, d) => bytes.length + uptoBulk d + 1
  | (_, d) => uptoBulk d + 1
 end
def uptoSmall : (H : Type) → List (DataW H) → Bool := fun _ ds => decide (uptoBulkAll ds ≤ 1048576)
def OpenSpec.upto (s : _root_.Go.ChangeSpec) : _root_.Go.OpenSpec := { _root_.Go.OpenSpec.ofChange s with cond := some uptoSmall }

/-- 'laws.FnExactIsPoint', WHERE WHAT IT READS IS OF BULK AT MOST 1048576: true; the input reads as it did. -/
def fnExactIsPointUptoRow : OpenClaim := { program := "ytkjammpicmbhnaa", sum := "c34ce1c6fb933917e9ffb05d115b80323b39040ee7a273ba641508e5fe59ecf2", func := "loop.example/g01217/laws.FnExactIsPoint", spec := "fnExactIsPoint", apart := false, narrowed := true }
def FnExactIsPointUptoSaid : Prop := fnExactIsPointUptoRow.holds Try.pinned (OpenSpec.upto fnExactIsPointSpec)

/-- 'laws.FnExactAddPoints', WHERE WHAT IT READS IS OF BULK AT MOST 1048576: true; the input reads as it did. -/
def fnExactAddPointsUptoRow : OpenClaim := { program := "ytkjammpicmbhnaa", sum := "c34ce1c6fb933917e9ffb05d115b80323b39040ee7a273ba641508e5fe59ecf2", func := "loop.example/g01217/laws.FnExactAddPoints", spec := "fnExactAddPoints", apart := false, narrowed := true }
def FnExactAddPointsUptoSaid : Prop := fnExactAddPointsUptoRow.holds Try.pinned (OpenSpec.upto fnExactAddPointsSpec)

/-- 'laws.FnExactLessPoints', WHERE WHAT IT READS IS OF BULK AT MOST 1048576: true; the input reads as it did. -/
def fnExactLessPointsUptoRow : OpenClaim := { program := "ytkjammpicmbhnaa", sum := "c34ce1c6fb933917e9ffb05d115b80323b39040ee7a273ba641508e5fe59ecf2", func := "loop.example/g01217/laws.FnExactLessPoints", spec := "fnExactLessPoints", apart := false, narrowed := true }
def FnExactLessPointsUptoSaid : Prop := fnExactLessPointsUptoRow.holds Try.pinned (OpenSpec.upto fnExactLessPointsSpec)

/-- 'laws.FnExactTimesPoints', WHERE WHAT IT READS IS OF BULK AT MOST 1048576: true; the input reads as it did. -/
def fnExactTimesPointsUptoRow : OpenClaim := { program := "ytkjammpicmbhnaa", sum := "c34ce1c6fb933917e9ffb05d115b80323b39040ee7a273ba641508e5fe59ecf2", func := "loop.example/g01217/laws.FnExactTimesPoints", spec := "fnExactTimesPoints", apart := false, narrowed := true }
def FnExactTimesPointsUptoSaid : Prop := fnExactTimesPointsUptoRow.holds Try.pinned (OpenSpec.upto fnExactTimesPointsSpec)

/-- 'laws.FnExactTurnPoint', WHERE WHAT IT READS IS OF BULK AT MOST 1048576: true; the input reads as it did. -/
def fnExactTurnPointUptoRow : OpenClaim := { program := "ytkjammpicmbhnaa", sum := "c34ce1c6fb933917e9ffb05d115b80323b39040ee7a273ba641508e5fe59ecf2", func := "loop.example/g01217/laws.FnExactTurnPoint", spec := "fnExactTurnPoint", apart := false, narrowed := true }
def FnExactTurnPointUptoSaid : Prop := fnExactTurnPointUptoRow.holds Try.pinned (OpenSpec.upto fnExactTurnPointSpec)

/-- 'laws.FnExactMirrorPoint', WHERE WHAT IT READS IS OF BULK AT MOST 1048576: true; the input reads as it did. -/
def fnExactMirrorPointUptoRow : OpenClaim := { program := "ytkjammpicmbhnaa", sum := "c34ce1c6fb933917e9ffb05d115b80323b39040ee7a273ba641508e5fe59ecf2", func := "loop.example/g01217/laws.FnExactMirrorPoint", spec := "fnExactMirrorPoint", apart := false, narrowed := true }
def FnExactMirrorPointUptoSaid : Prop := fnExactMirrorPointUptoRow.holds Try.pinned (OpenSpec.upto fnExactMirrorPointSpec)

/-- 'laws.FnExactScalePoint', WHERE WHAT IT READS IS OF BULK AT MOST 1048576: true; the input reads as it did. -/
def fnExactScalePointUptoRow : OpenClaim := { program := "ytkjammpicmbhnaa", sum := "c34ce1c6fb933917e9ffb05d115b80323b39040ee7a273ba641508e5fe59ecf2", func := "loop.example/g01217/laws.FnExactScalePoint", spec := "fnExactScalePoint", apart := false, narrowed := true }
def FnExactScalePointUptoSaid : Prop := fnExactScalePointUptoRow.holds Try.pinned (OpenSpec.upto fnExactScalePointSpec)

/-- 'laws.FnExactHeadingPoint', WHERE WHAT IT READS IS OF BULK AT MOST 1048576: true; the input reads as it did. -/
def fnExactHeadingPointUptoRow : OpenClaim := { program := "ytkjammpicmbhnaa", sum := "c34ce1c6fb933917e9ffb05d115b80323b39040ee7a273ba641508e5fe59ecf2", func := "loop.example/g01217/laws.FnExactHeadingPoint", spec := "fnExactHeadingPoint", apart := false, narrowed := true }
def FnExactHeadingPointUptoSaid : Prop := fnExactHeadingPointUptoRow.holds Try.pinned (OpenSpec.upto fnExactHeadingPointSpec)

/-- 'laws.FnExactStepOf', WHERE WHAT IT READS IS OF BULK AT MOST 1048576: true; the input reads as it did. -/
def fnExactStepOfUptoRow : OpenClaim := { program := "ytkjammpicmbhnaa", sum := "c34ce1c6fb933917e9ffb05d115b80323b39040ee7a273ba641508e5fe59ecf2", func := "loop.example/g01217/laws.FnExactStepOf", spec := "fnExactStepOf", unfollowed := true, recurses := true, apart := false, narrowed := true }
def FnExactStepOfUptoSaid : Prop := fnExactStepOfUptoRow.holds Try.pinned (OpenSpec.upto fnExactStepOfSpec)

end Rows
end Go.Proofs.Ytkjammpicmbhnaa
