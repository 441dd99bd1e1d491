/-
  No cell of these rows narrows 'for every input' (looked for: loops, veiled, ifaces, maps, wideKeys, modest, calm, conditions, laid).
  DERIVED. THE GIVEN ROWS OF THIS SEAT. 13 by the template 'for every input the law returns true; each argument reads behind the call as it read before'; 0 by the template 'total and deterministic' (their statements: YtoaccnpkobbaaaaTotals.lean).
  GIVEN WITH THE SEED: the statements are not yours to turn. If you find one false, say at which input.
  Laid BY PROGRAM, IN A SANDBOX (cutbox-rows.mjs): the forced cells as the released guide's own fill.sh prints them over the translation 406f36a54c2a1220… (all of the seat's roots in one cut). By AI agents, Wed Nov 11 2026. No macro, syntax, notation, axiom, sorry.
-/
import Derived.Test.YtoaccnpkobbaaaaChecked
import GoSem.Claim
import GoSem.ClaimJoined
import GoSem.ClaimMapViews
import Derived.JoinedTies
import Derived.KernelRfl
namespace Go.Proofs.Ytoaccnpkobbaaaa
/- THE CELL 'sum', in the pinned program and in every row, IS THE sha256 OF THE DUMP (.gsa) THAT YtoaccnpkobbaaaaProg.lean LOADS. Nothing in Lean hashes anything: it is a label: what it is worth is what the hold of that sum in a sandbox is worth. -/
noncomputable def Try.pinned : Pinned := { name := "ytoaccnpkobbaaaa", sum := "406f36a54c2a12201962d709772099c34e56a54eb84a315b8e486072cb47336c", checked := Try.checked }
namespace Rows
def none {H : Type} : Left H := { results := [], args := [] }

/-- 'laws.FnExactIsYard': WHATEVER THE INPUT: true; the input reads as it did. -/
def fnExactIsYardSpec : ChangeSpec := { name := "fnExactIsYard", fn := fun _ => fun
  | [d] => { results := [.lit (.bool true)], args := [d] }
  | _ => none }
def fnExactIsYardRow : OpenClaim := { program := "ytoaccnpkobbaaaa", sum := "406f36a54c2a12201962d709772099c34e56a54eb84a315b8e486072cb47336c", func := "loop.example/g01217/laws.FnExactIsYard", spec := "fnExactIsYard", plainKeys := false, apart := false }
def FnExactIsYardSaid : Prop := fnExactIsYardRow.holds Try.pinned (OpenSpec.ofChange fnExactIsYardSpec)

/-- ITS FALSE NEIGHBOUR: 'it returns false'. Refute it at one input. -/
def fnExactIsYardWrong : ChangeSpec := { name := "fnExactIsYard", fn := fun _ => fun
  | [d] => { results := [.lit (.bool false)], args := [d] }
  | _ => none }
def FnExactIsYardWrongFalsely : Prop := fnExactIsYardRow.holds Try.pinned (OpenSpec.ofChange fnExactIsYardWrong)

/-- 'laws.FnExactIsRun': WHATEVER THE INPUT: true; the input reads as it did. -/
def fnExactIsRunSpec : ChangeSpec := { name := "fnExactIsRun", fn := fun _ => fun
  | [d1, d2] => { results := [.lit (.bool true)], args := [d1, d2] }
  | _ => none }
def fnExactIsRunRow : OpenClaim := { program := "ytoaccnpkobbaaaa", sum := "406f36a54c2a12201962d709772099c34e56a54eb84a315b8e486072cb47336c", func := "loop.example/g01217/laws.FnExactIsRun", spec := "fnExactIsRun", plainKeys := false, apart := false }
def FnExactIsRunSaid : Prop := fnExactIsRunRow.holds Try.pinned (OpenSpec.ofChange fnExactIsRunSpec)

/-- ITS FALSE NEIGHBOUR: 'it returns false'. Refute it at one input. -/
def fnExactIsRunWrong : ChangeSpec := { name := "fnExactIsRun", fn := fun _ => fun
  | [d1, d2] => { results := [.lit (.bool false)], args := [d1, d2] }
  | _ => none }
def FnExactIsRunWrongFalsely : Prop := fnExactIsRunRow.holds Try.pinned (OpenSpec.ofChange fnExactIsRunWrong)

/-- 'laws.FnExactStepRun': WHATEVER THE INPUT: true; the input reads as it did. -/
def fnExactStepRunSpec : ChangeSpec := { name := "fnExactStepRun", fn := fun _ => fun
  | [d1, d2] => { results := [.lit (.bool true)], args := [d1, d2] }
  | _ => none }
def fnExactStepRunRow : OpenClaim := { program := "ytoaccnpkobbaaaa", sum := "406f36a54c2a12201962d709772099c34e56a54eb84a315b8e486072cb47336c", func := "loop.example/g01217/laws.FnExactStepRun", spec := "fnExactStepRun", unfollowed := true, recurses := true, plainKeys := false, apart := false }
def FnExactStepRunSaid : Prop := fnExactStepRunRow.holds Try.pinned (OpenSpec.ofChange fnExactStepRunSpec)

/-- ITS FALSE NEIGHBOUR: 'it returns false'. Refute it at one input. -/
def fnExactStepRunWrong : ChangeSpec := { name := "fnExactStepRun", fn := fun _ => fun
  | [d1, d2] => { results := [.lit (.bool false)], args := [d1, d2] }
  | _ => none }
def FnExactStepRunWrongFalsely : Prop := fnExactStepRunRow.holds Try.pinned (OpenSpec.ofChange fnExactStepRunWrong)

/-- 'laws.FnExactStepsOfRun': WHATEVER THE INPUT: true; the input reads as it did. -/
def fnExactStepsOfRunSpec : ChangeSpec := { name := "fnExactStepsOfRun", fn := fun _ => fun
  | [d1, d2, d3] => { results := [.lit (.bool true)], args := [d1, d2, d3] }
  | _ => none }
def fnExactStepsOfRunRow : OpenClaim := { program := "ytoaccnpkobbaaaa", sum := "406f36a54c2a12201962d709772099c34e56a54eb84a315b8e486072cb47336c", func := "loop.example/g01217/laws.FnExactStepsOfRun", spec := "fnExactStepsOfRun", unfollowed := true, recurses := true, plainKeys := false, apart := false }
def FnExactStepsOfRunSaid : Prop := fnExactStepsOfRunRow.holds Try.pinned (OpenSpec.ofChange fnExactStepsOfRunSpec)

/-- ITS FALSE NEIGHBOUR: 'it returns false'. Refute it at one input. -/
def fnExactStepsOfRunWrong : ChangeSpec := { name := "fnExactStepsOfRun", fn := fun _ => fun
  | [d1, d2, d3] => { results := [.lit (.bool false)], args := [d1, d2, d3] }
  | _ => none }
def FnExactStepsOfRunWrongFalsely : Prop := fnExactStepsOfRunRow.holds Try.pinned (OpenSpec.ofChange fnExactStepsOfRunWrong)

/-- 'laws.FnExactEndsPassed': WHATEVER THE INPUT: true; the input reads as it did. -/
def fnExactEndsPassedSpec : ChangeSpec := { name := "fnExactEndsPassed", fn := fun _ => fun
  | [d1, d2, d3] => { results := [.lit (.bool true)], args := [d1, d2, d3] }
  | _ => none }
def fnExactEndsPassedRow : OpenClaim := { program := "ytoaccnpkobbaaaa", sum := "406f36a54c2a12201962d709772099c34e56a54eb84a315b8e486072cb47336c", func := "loop.example/g01217/laws.FnExactEndsPassed", spec := "fnExactEndsPassed", unfollowed := true, recurses := true, plainKeys := false, apart := false }
def FnExactEndsPassedSaid : Prop := fnExactEndsPassedRow.holds Try.pinned (OpenSpec.ofChange fnExactEndsPassedSpec)

/-- ITS FALSE NEIGHBOUR: 'it returns false'. Refute it at one input. -/
def fnExactEndsPassedWrong : ChangeSpec := { name := "fnExactEndsPassed", fn := fun _ => fun
  | [d1, d2, d3] => { results := [.lit (.bool false)], args := [d1, d2, d3] }
  | _ => none }
def FnExactEndsPassedWrongFalsely : Prop := fnExactEndsPassedRow.holds Try.pinned (OpenSpec.ofChange fnExactEndsPassedWrong)

/-- 'laws.FnExactPeriodOfRun': WHATEVER THE INPUT: true; the input reads as it did. -/
def fnExactPeriodOfRunSpec : ChangeSpec := { name := "fnExactPeriodOfRun", fn := fun _ => fun
  | [d1, d2] => { results := [.lit (.bool true)], args := [d1, d2] }
  | _ => none }
def fnExactPeriodOfRunRow : OpenClaim := { program := "ytoaccnpkobbaaaa", sum := "406f36a54c2a12201962d709772099c34e56a54eb84a315b8e486072cb47336c", func := "loop.example/g01217/laws.FnExactPeriodOfRun", spec := "fnExactPeriodOfRun", unfollowed := true, recurses := true, plainKeys := false, apart := false }
def FnExactPeriodOfRunSaid : Prop := fnExactPeriodOfRunRow.holds Try.pinned (OpenSpec.ofChange fnExactPeriodOfRunSpec)

/-- ITS FALSE NEIGHBOUR: 'it returns false'. Refute it at one input. -/
def fnExactPeriodOfRunWrong : ChangeSpec := { name := "fnExactPeriodOfRun", fn := fun _ => fun
  | [d1, d2] => { results := [.lit (.bool false)], args := [d1, d2] }
  | _ => none }
def FnExactPeriodOfRunWrongFalsely : Prop := fnExactPeriodOfRunRow.holds Try.pinned (OpenSpec.ofChange fnExactPeriodOfRunWrong)

/-- 'laws.FnExactVisitsOf': WHATEVER THE INPUT: true; the input reads as it did. -/
def fnExactVisitsOfSpec : ChangeSpec := { name := "fnExactVisitsOf", fn := fun _ => fun
  | [d1, d2, d3] => { results := [.lit (.bool true)], args := [d1, d2, d3] }
  | _ => none }
def fnExactVisitsOfRow : OpenClaim := { program := "ytoaccnpkobbaaaa", sum := "406f36a54c2a12201962d709772099c34e56a54eb84a315b8e486072cb47336c", func := "loop.example/g01217/laws.FnExactVisitsOf", spec := "fnExactVisitsOf", unfollowed := true, recurses := true, plainKeys := false, apart := false }
def FnExactVisitsOfSaid : Prop := fnExactVisitsOfRow.holds Try.pinned (OpenSpec.ofChange fnExactVisitsOfSpec)

/-- ITS FALSE NEIGHBOUR: 'it returns false'. Refute it at one input. -/
def fnExactVisitsOfWrong : ChangeSpec := { name := "fnExactVisitsOf", fn := fun _ => fun
  | [d1, d2, d3] => { results := [.lit (.bool false)], args := [d1, d2, d3] }
  | _ => none }
def FnExactVisitsOfWrongFalsely : Prop := fnExactVisitsOfRow.holds Try.pinned (OpenSpec.ofChange fnExactVisitsOfWrong)

/-- 'laws.FnExactTimesAt': WHATEVER THE INPUT: true; the input reads as it did. -/
def fnExactTimesAtSpec : ChangeSpec := { name := "fnExactTimesAt", fn := fun _ => fun
  | [d1, d2, d3, d4] => { results := [.lit (.bool true)], args := [d1, d2, d3, d4] }
  | _ => none }
def fnExactTimesAtRow : OpenClaim := { program := "ytoaccnpkobbaaaa", sum := "406f36a54c2a12201962d709772099c34e56a54eb84a315b8e486072cb47336c", func := "loop.example/g01217/laws.FnExactTimesAt", spec := "fnExactTimesAt", unfollowed := true, recurses := true, plainKeys := false, apart := false }
def FnExactTimesAtSaid : Prop := fnExactTimesAtRow.holds Try.pinned (OpenSpec.ofChange fnExactTimesAtSpec)

/-- ITS FALSE NEIGHBOUR: 'it returns false'. Refute it at one input. -/
def fnExactTimesAtWrong : ChangeSpec := { name := "fnExactTimesAt", fn := fun _ => fun
  | [d1, d2, d3, d4] => { results := [.lit (.bool false)], args := [d1, d2, d3, d4] }
  | _ => none }
def FnExactTimesAtWrongFalsely : Prop := fnExactTimesAtRow.holds Try.pinned (OpenSpec.ofChange fnExactTimesAtWrong)

/-- 'laws.FnExactCountRuns': WHATEVER THE INPUT: true; the input reads as it did. -/
def fnExactCountRunsSpec : ChangeSpec := { name := "fnExactCountRuns", fn := fun _ => fun
  | [d] => { results := [.lit (.bool true)], args := [d] }
  | _ => none }
def fnExactCountRunsRow : OpenClaim := { program := "ytoaccnpkobbaaaa", sum := "406f36a54c2a12201962d709772099c34e56a54eb84a315b8e486072cb47336c", func := "loop.example/g01217/laws.FnExactCountRuns", spec := "fnExactCountRuns", plainKeys := false, apart := false }
def FnExactCountRunsSaid : Prop := fnExactCountRunsRow.holds Try.pinned (OpenSpec.ofChange fnExactCountRunsSpec)

/-- ITS FALSE NEIGHBOUR: 'it returns false'. Refute it at one input. -/
def fnExactCountRunsWrong : ChangeSpec := { name := "fnExactCountRuns", fn := fun _ => fun
  | [d] => { results := [.lit (.bool false)], args := [d] }
  | _ => none }
def FnExactCountRunsWrongFalsely : Prop := fnExactCountRunsRow.holds Try.pinned (OpenSpec.ofChange fnExactCountRunsWrong)

/-- 'laws.FnExactBackRun': WHATEVER THE INPUT: true; the input reads as it did. -/
def fnExactBackRunSpec : ChangeSpec := { name := "fnExactBackRun", fn := fun _ => fun
  | [d1, d2] => { results := [.lit (.bool true)], args := [d1, d2] }
  | _ => none }
def fnExactBackRunRow : OpenClaim := { program := "ytoaccnpkobbaaaa", sum := "406f36a54c2a12201962d709772099c34e56a54eb84a315b8e486072cb47336c", func := "loop.example/g01217/laws.FnExactBackRun", spec := "fnExactBackRun", unfollowed := true, recurses := true, plainKeys := false, apart := false }
def FnExactBackRunSaid : Prop := fnExactBackRunRow.holds Try.pinned (OpenSpec.ofChange fnExactBackRunSpec)

/-- ITS FALSE NEIGHBOUR: 'it returns false'. Refute it at one input. -/
def fnExactBackRunWrong : ChangeSpec := { name := "fnExactBackRun", fn := fun _ => fun
  | [d1, d2] => { results := [.lit (.bool false)], args := [d1, d2] }
  | _ => none }
def FnExactBackRunWrongFalsely : Prop := fnExactBackRunRow.holds Try.pinned (OpenSpec.ofChange fnExactBackRunWrong)

/-- 'laws.FnExactCountUnmade': WHATEVER THE INPUT: true; the input reads as it did. -/
def fnExactCountUnmadeSpec : ChangeSpec := { name := "fnExactCountUnmade", fn := fun _ => fun
  | [d] => { results := [.lit (.bool true)], args := [d] }
  | _ => none }
def fnExactCountUnmadeRow : OpenClaim := { program := "ytoaccnpkobbaaaa", sum := "406f36a54c2a12201962d709772099c34e56a54eb84a315b8e486072cb47336c", func := "loop.example/g01217/laws.FnExactCountUnmade", spec := "fnExactCountUnmade", plainKeys := false, apart := false }
def FnExactCountUnmadeSaid : Prop := fnExactCountUnmadeRow.holds Try.pinned (OpenSpec.ofChange fnExactCountUnmadeSpec)

/-- ITS FALSE NEIGHBOUR: 'it returns false'. Refute it at one input. -/
def fnExactCountUnmadeWrong : ChangeSpec := { name := "fnExactCountUnmade", fn := fun _ => fun
  | [d] => { results := [.lit (.bool false)], args := [d] }
  | _ => none }
def FnExactCountUnmadeWrongFalsely : Prop := fnExactCountUnmadeRow.holds Try.pinned (OpenSpec.ofChange fnExactCountUnmadeWrong)

/-- 'laws.FnExactRingYard': WHATEVER THE INPUT: true; the input reads as it did. -/
def fnExactRingYardSpec : ChangeSpec := { name := "fnExactRingYard", fn := fun _ => fun
  | [d] => { results := [.lit (.bool true)], args := [d] }
  | _ => none }
def fnExactRingYardRow : OpenClaim := { program := "ytoaccnpkobbaaaa", sum := "406f36a54c2a12201962d709772099c34e56a54eb84a315b8e486072cb47336c", func := "loop.example/g01217/laws.FnExactRingYard", spec := "fnExactRingYard", plainKeys := false, apart := false }
def FnExactRingYardSaid : Prop := fnExactRingYardRow.holds Try.pinned (OpenSpec.ofChange fnExactRingYardSpec)

/-- ITS FALSE NEIGHBOUR: 'it returns false'. Refute it at one input. -/
def fnExactRingYardWrong : ChangeSpec := { name := "fnExactRingYard", fn := fun _ => fun
  | [d] => { results := [.lit (.bool false)], args := [d] }
  | _ => none }
def FnExactRingYardWrongFalsely : Prop := fnExactRingYardRow.holds Try.pinned (OpenSpec.ofChange fnExactRingYardWrong)

/-- 'laws.FnExactCountsTo': WHATEVER THE INPUT: true; the input reads as it did. -/
def fnExactCountsToSpec : ChangeSpec := { name := "fnExactCountsTo", fn := fun _ => fun
  | [d1, d2] => { results := [.lit (.bool true)], args := [d1, d2] }
  | _ => none }
def fnExactCountsToRow : OpenClaim := { program := "ytoaccnpkobbaaaa", sum := "406f36a54c2a12201962d709772099c34e56a54eb84a315b8e486072cb47336c", func := "loop.example/g01217/laws.FnExactCountsTo", spec := "fnExactCountsTo", unfollowed := true, recurses := true, plainKeys := false, apart := false }
def FnExactCountsToSaid : Prop := fnExactCountsToRow.holds Try.pinned (OpenSpec.ofChange fnExactCountsToSpec)

/-- ITS FALSE NEIGHBOUR: 'it returns false'. Refute it at one input. -/
def fnExactCountsToWrong : ChangeSpec := { name := "fnExactCountsTo", fn := fun _ => fun
  | [d1, d2] => { results := [.lit (.bool false)], args := [d1, d2] }
  | _ => none }
def FnExactCountsToWrongFalsely : Prop := fnExactCountsToRow.holds Try.pinned (OpenSpec.ofChange fnExactCountsToWrong)

/- THE SECOND FORM. 'bulk': how many values and letters a reading holds, each counted each time it is reached (what is shared counts as often as it is met; a slice's spare places count too). A statement '..UptoSaid' is the law's where the arguments, and the package variables that the reading takes, are together of bulk at most 1048576: NARROWER than '..Said'. Prove '..Said' where nothing that the law and all that it calls make is longer than what came in: it says more and counts as full. Else prove '..UptoSaid'. A law counts once. -/
mutual
def uptoBulk {H : Type} : DataW H → Nat
  | .lit (.string bytes) => bytes.length + 1
  | .lit _ => 1
  | .nil => 1
  | .ptr d => uptoBulk d + 1
  | .slice elems spare => uptoBulkAll elems + uptoBulkAll spare + 1
  | .agg parts => uptoBulkAll parts + 1
  | .iface _ d => uptoBulk d + 1
  | .map entries => uptoBulkEntries entries + 1
  | .held _ => 1
def uptoBulkAll {H : Type} : List (DataW H) → Nat
  | [] => 0
  | d :: r => uptoBulk d + uptoBulkAll r
def uptoBulkEntries {H : Type} : List (Lit × DataW H) → Nat
  | [] => 0
  | x :: r => uptoBulkEntry x + uptoBulkEntries r
def uptoBulkEntry {H : Type} : Lit × DataW H → Nat
  | (.string bytes, d) => bytes.length + uptoBulk d + 1
  | (_, d) => uptoBulk d + 1
 end
def uptoSmall : (H : Type) → List (DataW H) → Bool := fun _ ds => decide (uptoBulkAll ds ≤ 1048576)
def OpenSpec.upto (s : _root_.Go.ChangeSpec) : _root_.Go.OpenSpec := { _root_.Go.OpenSpec.ofChange s with cond := some uptoSmall }

/-- 'laws.FnExactIsYard', WHERE WHAT IT READS IS OF BULK AT MOST 1048576: true; the input reads as it did. -/
def fnExactIsYardUptoRow : OpenClaim := { program := "ytoaccnpkobbaaaa", sum := "406f36a54c2a12201962d709772099c34e56a54eb84a315b8e486072cb47336c", func := "loop.example/g01217/laws.FnExactIsYard", spec := "fnExactIsYard", plainKeys := false, apart := false, narrowed := true }
def FnExactIsYardUptoSaid : Prop := fnExactIsYardUptoRow.holds Try.pinned (OpenSpec.upto fnExactIsYardSpec)

/-- 'laws.FnExactIsRun', WHERE WHAT IT READS IS OF BULK AT MOST 1048576: true; the input reads as it did. -/
def fnExactIsRunUptoRow : OpenClaim := { program := "ytoaccnpkobbaaaa", sum := "406f36a54c2a12201962d709772099c34e56a54eb84a315b8e486072cb47336c", func := "loop.example/g01217/laws.FnExactIsRun", spec := "fnExactIsRun", plainKeys := false, apart := false, narrowed := true }
def FnExactIsRunUptoSaid : Prop := fnExactIsRunUptoRow.holds Try.pinned (OpenSpec.upto fnExactIsRunSpec)

/-- 'laws.FnExactStepRun', WHERE WHAT IT READS IS OF BULK AT MOST 1048576: true; the input reads as it did. -/
def fnExactStepRunUptoRow : OpenClaim := { program := "ytoaccnpkobbaaaa", sum := "406f36a54c2a12201962d709772099c34e56a54eb84a315b8e486072cb47336c", func := "loop.example/g01217/laws.FnExactStepRun", spec := "fnExactStepRun", unfollowed := true, recurses := true, plainKeys := false, apart := false, narrowed := true }
def FnExactStepRunUptoSaid : Prop := fnExactStepRunUptoRow.holds Try.pinned (OpenSpec.upto fnExactStepRunSpec)

/-- 'laws.FnExactStepsOfRun', WHERE WHAT IT READS IS OF BULK AT MOST 1048576: true; the input reads as it did. -/
def fnExactStepsOfRunUptoRow : OpenClaim := { program := "ytoaccnpkobbaaaa", sum := "406f36a54c2a12201962d709772099c34e56a54eb84a315b8e486072cb47336c", func := "loop.example/g01217/laws.FnExactStepsOfRun", spec := "fnExactStepsOfRun", unfollowed := true, recurses := true, plainKeys := false, apart := false, narrowed := true }
def FnExactStepsOfRunUptoSaid : Prop := fnExactStepsOfRunUptoRow.holds Try.pinned (OpenSpec.upto fnExactStepsOfRunSpec)

/-- 'laws.FnExactEndsPassed', WHERE WHAT IT READS IS OF BULK AT MOST 1048576: true; the input reads as it did. -/
def fnExactEndsPassedUptoRow : OpenClaim := { program := "ytoaccnpkobbaaaa", sum := "406f36a54c2a12201962d709772099c34e56a54eb84a315b8e486072cb47336c", func := "loop.example/g01217/laws.FnExactEndsPassed", spec := "fnExactEndsPassed", unfollowed := true, recurses := true, plainKeys := false, apart := false, narrowed := true }
def FnExactEndsPassedUptoSaid : Prop := fnExactEndsPassedUptoRow.holds Try.pinned (OpenSpec.upto fnExactEndsPassedSpec)

/-- 'laws.FnExactPeriodOfRun', WHERE WHAT IT READS IS OF BULK AT MOST 1048576: true; the input reads as it did. -/
def fnExactPeriodOfRunUptoRow : OpenClaim := { program := "ytoaccnpkobbaaaa", sum := "406f36a54c2a12201962d709772099c34e56a54eb84a315b8e486072cb47336c", func := "loop.example/g01217/laws.FnExactPeriodOfRun", spec := "fnExactPeriodOfRun", unfollowed := true, recurses := true, plainKeys := false, apart := false, narrowed := true }
def FnExactPeriodOfRunUptoSaid : Prop := fnExactPeriodOfRunUptoRow.holds Try.pinned (OpenSpec.upto fnExactPeriodOfRunSpec)

/-- 'laws.FnExactVisitsOf', WHERE WHAT IT READS IS OF BULK AT MOST 1048576: true; the input reads as it did. -/
def fnExactVisitsOfUptoRow : OpenClaim := { program := "ytoaccnpkobbaaaa", sum := "406f36a54c2a12201962d709772099c34e56a54eb84a315b8e486072cb47336c", func := "loop.example/g01217/laws.FnExactVisitsOf", spec := "fnExactVisitsOf", unfollowed := true, recurses := true, plainKeys := false, apart := false, narrowed := true }
def FnExactVisitsOfUptoSaid : Prop := fnExactVisitsOfUptoRow.holds Try.pinned (OpenSpec.upto fnExactVisitsOfSpec)

/-- 'laws.FnExactTimesAt', WHERE WHAT IT READS IS OF BULK AT MOST 1048576: true; the input reads as it did. -/
def fnExactTimesAtUptoRow : OpenClaim := { program := "ytoaccnpkobbaaaa", sum := "406f36a54c2a12201962d709772099c34e56a54eb84a315b8e486072cb47336c", func := "loop.example/g01217/laws.FnExactTimesAt", spec := "fnExactTimesAt", unfollowed := true, recurses := true, plainKeys := false, apart := false, narrowed := true }
def FnExactTimesAtUptoSaid : Prop := fnExactTimesAtUptoRow.holds Try.pinned (OpenSpec.upto fnExactTimesAtSpec)

/-- 'laws.FnExactCountRuns', WHERE WHAT IT READS IS OF BULK AT MOST 1048576: true; the input reads as it did. -/
def fnExactCountRunsUptoRow : OpenClaim := { program := "ytoaccnpkobbaaaa", sum := "406f36a54c2a12201962d709772099c34e56a54eb84a315b8e486072cb47336c", func := "loop.example/g01217/laws.FnExactCountRuns", spec := "fnExactCountRuns", plainKeys := false, apart := false, narrowed := true }
def FnExactCountRunsUptoSaid : Prop := fnExactCountRunsUptoRow.holds Try.pinned (OpenSpec.upto fnExactCountRunsSpec)

/-- 'laws.FnExactBackRun', WHERE WHAT IT READS IS OF BULK AT MOST 1048576: true; the input reads as it did. -/
def fnExactBackRunUptoRow : OpenClaim := { program := "ytoaccnpkobbaaaa", sum := "406f36a54c2a12201962d709772099c34e56a54eb84a315b8e486072cb47336c", func := "loop.example/g01217/laws.FnExactBackRun", spec := "fnExactBackRun", unfollowed := true, recurses := true, plainKeys := false, apart := false, narrowed := true }
def FnExactBackRunUptoSaid : Prop := fnExactBackRunUptoRow.holds Try.pinned (OpenSpec.upto fnExactBackRunSpec)

/-- 'laws.FnExactCountUnmade', WHERE WHAT IT READS IS OF BULK AT MOST 1048576: true; the input reads as it did. -/
def fnExactCountUnmadeUptoRow : OpenClaim := { program := "ytoaccnpkobbaaaa", sum := "406f36a54c2a12201962d709772099c34e56a54eb84a315b8e486072cb47336c", func := "loop.example/g01217/laws.FnExactCountUnmade", spec := "fnExactCountUnmade", plainKeys := false, apart := false, narrowed := true }
def FnExactCountUnmadeUptoSaid : Prop := fnExactCountUnmadeUptoRow.holds Try.pinned (OpenSpec.upto fnExactCountUnmadeSpec)

/-- 'laws.FnExactRingYard', WHERE WHAT IT READS IS OF BULK AT MOST 1048576: true; the input reads as it did. -/
def fnExactRingYardUptoRow : OpenClaim := { program := "ytoaccnpkobbaaaa", sum := "406f36a54c2a12201962d709772099c34e56a54eb84a315b8e486072cb47336c", func := "loop.example/g01217/laws.FnExactRingYard", spec := "fnExactRingYard", plainKeys := false, apart := false, narrowed := true }
def FnExactRingYardUptoSaid : Prop := fnExactRingYardUptoRow.holds Try.pinned (OpenSpec.upto fnExactRingYardSpec)

/-- 'laws.FnExactCountsTo', WHERE WHAT IT READS IS OF BULK AT MOST 1048576: true; the input reads as it did. -/
def fnExactCountsToUptoRow : OpenClaim := { program := "ytoaccnpkobbaaaa", sum := "406f36a54c2a12201962d709772099c34e56a54eb84a315b8e486072cb47336c", func := "loop.example/g01217/laws.FnExactCountsTo", spec := "fnExactCountsTo", unfollowed := true, recurses := true, plainKeys := false, apart := false, narrowed := true }
def FnExactCountsToUptoSaid : Prop := fnExactCountsToUptoRow.holds Try.pinned (OpenSpec.upto fnExactCountsToSpec)

end Rows
end Go.Proofs.Ytoaccnpkobbaaaa
