/-
  No cell of these rows narrows 'for every input' (looked for: loops, veiled, ifaces, maps, wideKeys, modest, calm, conditions, laid).
  DERIVED. THE GIVEN ROWS OF THIS SEAT. 8 by the template 'for every input the law returns true; each argument reads behind the call as it read before'; 0 by the template 'total and deterministic' (their statements: YtppbbcckijcckabTotals.lean).
  GIVEN WITH THE SEED: the statements are not yours to turn. If you find one false, say at which input.
  Laid BY PROGRAM, IN A SANDBOX (cutbox-rows.mjs): the forced cells as the released guide's own fill.sh prints them over the translation 2b5e1251ccb81288… (all of the seat's roots in one cut). By AI agents, Wed Nov 11 2026. No macro, syntax, notation, axiom, sorry.
-/
import Derived.Test.YtppbbcckijcckabChecked
import GoSem.Claim
import GoSem.ClaimJoined
import GoSem.ClaimMapViews
import Derived.JoinedTies
import Derived.KernelRfl
namespace Go.Proofs.Ytppbbcckijcckab
/- THE CELL 'sum', in the pinned program and in every row, IS THE sha256 OF THE DUMP (.gsa) THAT YtppbbcckijcckabProg.lean LOADS. Nothing in Lean hashes anything: it is a label: what it is worth is what the hold of that sum in a sandbox is worth. -/
noncomputable def Try.pinned : Pinned := { name := "ytppbbcckijcckab", sum := "2b5e1251ccb81288a7ab142c5197a0632e00b736043a9c7596b301c6140e893e", checked := Try.checked }
namespace Rows
def none {H : Type} : Left H := { results := [], args := [] }

/-- 'laws.FnExactLessPoints': WHATEVER THE INPUT: true; the input reads as it did. -/
def fnExactLessPointsSpec : ChangeSpec := { name := "fnExactLessPoints", fn := fun _ => fun
  | [d1, d2] => { results := [.lit (.bool true)], args := [d1, d2] }
  | _ => none }
def fnExactLessPointsRow : OpenClaim := { program := "ytppbbcckijcckab", sum := "2b5e1251ccb81288a7ab142c5197a0632e00b736043a9c7596b301c6140e893e", func := "loop.example/g01217/laws.FnExactLessPoints", spec := "fnExactLessPoints", apart := false }
def FnExactLessPointsSaid : Prop := fnExactLessPointsRow.holds Try.pinned (OpenSpec.ofChange fnExactLessPointsSpec)

/-- ITS FALSE NEIGHBOUR: 'it returns false'. Refute it at one input. -/
def fnExactLessPointsWrong : ChangeSpec := { name := "fnExactLessPoints", fn := fun _ => fun
  | [d1, d2] => { results := [.lit (.bool false)], args := [d1, d2] }
  | _ => none }
def FnExactLessPointsWrongFalsely : Prop := fnExactLessPointsRow.holds Try.pinned (OpenSpec.ofChange fnExactLessPointsWrong)

/-- 'laws.FnExactMirrorPoint': WHATEVER THE INPUT: true; the input reads as it did. -/
def fnExactMirrorPointSpec : ChangeSpec := { name := "fnExactMirrorPoint", fn := fun _ => fun
  | [d] => { results := [.lit (.bool true)], args := [d] }
  | _ => none }
def fnExactMirrorPointRow : OpenClaim := { program := "ytppbbcckijcckab", sum := "2b5e1251ccb81288a7ab142c5197a0632e00b736043a9c7596b301c6140e893e", func := "loop.example/g01217/laws.FnExactMirrorPoint", spec := "fnExactMirrorPoint", apart := false }
def FnExactMirrorPointSaid : Prop := fnExactMirrorPointRow.holds Try.pinned (OpenSpec.ofChange fnExactMirrorPointSpec)

/-- ITS FALSE NEIGHBOUR: 'it returns false'. Refute it at one input. -/
def fnExactMirrorPointWrong : ChangeSpec := { name := "fnExactMirrorPoint", fn := fun _ => fun
  | [d] => { results := [.lit (.bool false)], args := [d] }
  | _ => none }
def FnExactMirrorPointWrongFalsely : Prop := fnExactMirrorPointRow.holds Try.pinned (OpenSpec.ofChange fnExactMirrorPointWrong)

/-- 'laws.FnExactTwiceX': WHATEVER THE INPUT: true; the input reads as it did. -/
def fnExactTwiceXSpec : ChangeSpec := { name := "fnExactTwiceX", fn := fun _ => fun
  | [d] => { results := [.lit (.bool true)], args := [d] }
  | _ => none }
def fnExactTwiceXRow : OpenClaim := { program := "ytppbbcckijcckab", sum := "2b5e1251ccb81288a7ab142c5197a0632e00b736043a9c7596b301c6140e893e", func := "loop.example/g01217/laws.FnExactTwiceX", spec := "fnExactTwiceX", apart := false }
def FnExactTwiceXSaid : Prop := fnExactTwiceXRow.holds Try.pinned (OpenSpec.ofChange fnExactTwiceXSpec)

/-- ITS FALSE NEIGHBOUR: 'it returns false'. Refute it at one input. -/
def fnExactTwiceXWrong : ChangeSpec := { name := "fnExactTwiceX", fn := fun _ => fun
  | [d] => { results := [.lit (.bool false)], args := [d] }
  | _ => none }
def FnExactTwiceXWrongFalsely : Prop := fnExactTwiceXRow.holds Try.pinned (OpenSpec.ofChange fnExactTwiceXWrong)

/-- 'laws.FnExactTwiceY': WHATEVER THE INPUT: true; the input reads as it did. -/
def fnExactTwiceYSpec : ChangeSpec := { name := "fnExactTwiceY", fn := fun _ => fun
  | [d] => { results := [.lit (.bool true)], args := [d] }
  | _ => none }
def fnExactTwiceYRow : OpenClaim := { program := "ytppbbcckijcckab", sum := "2b5e1251ccb81288a7ab142c5197a0632e00b736043a9c7596b301c6140e893e", func := "loop.example/g01217/laws.FnExactTwiceY", spec := "fnExactTwiceY", apart := false }
def FnExactTwiceYSaid : Prop := fnExactTwiceYRow.holds Try.pinned (OpenSpec.ofChange fnExactTwiceYSpec)

/-- ITS FALSE NEIGHBOUR: 'it returns false'. Refute it at one input. -/
def fnExactTwiceYWrong : ChangeSpec := { name := "fnExactTwiceY", fn := fun _ => fun
  | [d] => { results := [.lit (.bool false)], args := [d] }
  | _ => none }
def FnExactTwiceYWrongFalsely : Prop := fnExactTwiceYRow.holds Try.pinned (OpenSpec.ofChange fnExactTwiceYWrong)

/-- 'laws.FnExactAddSurds': WHATEVER THE INPUT: true; the input reads as it did. -/
def fnExactAddSurdsSpec : ChangeSpec := { name := "fnExactAddSurds", fn := fun _ => fun
  | [d1, d2] => { results := [.lit (.bool true)], args := [d1, d2] }
  | _ => none }
def fnExactAddSurdsRow : OpenClaim := { program := "ytppbbcckijcckab", sum := "2b5e1251ccb81288a7ab142c5197a0632e00b736043a9c7596b301c6140e893e", func := "loop.example/g01217/laws.FnExactAddSurds", spec := "fnExactAddSurds", apart := false }
def FnExactAddSurdsSaid : Prop := fnExactAddSurdsRow.holds Try.pinned (OpenSpec.ofChange fnExactAddSurdsSpec)

/-- ITS FALSE NEIGHBOUR: 'it returns false'. Refute it at one input. -/
def fnExactAddSurdsWrong : ChangeSpec := { name := "fnExactAddSurds", fn := fun _ => fun
  | [d1, d2] => { results := [.lit (.bool false)], args := [d1, d2] }
  | _ => none }
def FnExactAddSurdsWrongFalsely : Prop := fnExactAddSurdsRow.holds Try.pinned (OpenSpec.ofChange fnExactAddSurdsWrong)

/-- 'laws.FnExactCompareSurds': WHATEVER THE INPUT: true; the input reads as it did. -/
def fnExactCompareSurdsSpec : ChangeSpec := { name := "fnExactCompareSurds", fn := fun _ => fun
  | [d1, d2] => { results := [.lit (.bool true)], args := [d1, d2] }
  | _ => none }
def fnExactCompareSurdsRow : OpenClaim := { program := "ytppbbcckijcckab", sum := "2b5e1251ccb81288a7ab142c5197a0632e00b736043a9c7596b301c6140e893e", func := "loop.example/g01217/laws.FnExactCompareSurds", spec := "fnExactCompareSurds", apart := false }
def FnExactCompareSurdsSaid : Prop := fnExactCompareSurdsRow.holds Try.pinned (OpenSpec.ofChange fnExactCompareSurdsSpec)

/-- ITS FALSE NEIGHBOUR: 'it returns false'. Refute it at one input. -/
def fnExactCompareSurdsWrong : ChangeSpec := { name := "fnExactCompareSurds", fn := fun _ => fun
  | [d1, d2] => { results := [.lit (.bool false)], args := [d1, d2] }
  | _ => none }
def FnExactCompareSurdsWrongFalsely : Prop := fnExactCompareSurdsRow.holds Try.pinned (OpenSpec.ofChange fnExactCompareSurdsWrong)

/-- 'laws.FnExactCompareNorms': WHATEVER THE INPUT: true; the input reads as it did. -/
def fnExactCompareNormsSpec : ChangeSpec := { name := "fnExactCompareNorms", fn := fun _ => fun
  | [d1, d2] => { results := [.lit (.bool true)], args := [d1, d2] }
  | _ => none }
def fnExactCompareNormsRow : OpenClaim := { program := "ytppbbcckijcckab", sum := "2b5e1251ccb81288a7ab142c5197a0632e00b736043a9c7596b301c6140e893e", func := "loop.example/g01217/laws.FnExactCompareNorms", spec := "fnExactCompareNorms", apart := false }
def FnExactCompareNormsSaid : Prop := fnExactCompareNormsRow.holds Try.pinned (OpenSpec.ofChange fnExactCompareNormsSpec)

/-- ITS FALSE NEIGHBOUR: 'it returns false'. Refute it at one input. -/
def fnExactCompareNormsWrong : ChangeSpec := { name := "fnExactCompareNorms", fn := fun _ => fun
  | [d1, d2] => { results := [.lit (.bool false)], args := [d1, d2] }
  | _ => none }
def FnExactCompareNormsWrongFalsely : Prop := fnExactCompareNormsRow.holds Try.pinned (OpenSpec.ofChange fnExactCompareNormsWrong)

/-- 'laws.FnExactFarthestJoint': WHATEVER THE INPUT: true; the input reads as it did. -/
def fnExactFarthestJointSpec : ChangeSpec := { name := "fnExactFarthestJoint", fn := fun _ => fun
  | [d] => { results := [.lit (.bool true)], args := [d] }
  | _ => none }
def fnExactFarthestJointRow : OpenClaim := { program := "ytppbbcckijcckab", sum := "2b5e1251ccb81288a7ab142c5197a0632e00b736043a9c7596b301c6140e893e", func := "loop.example/g01217/laws.FnExactFarthestJoint", spec := "fnExactFarthestJoint", unfollowed := true, recurses := true, apart := false }
def FnExactFarthestJointSaid : Prop := fnExactFarthestJointRow.holds Try.pinned (OpenSpec.ofChange fnExactFarthestJointSpec)

/-- ITS FALSE NEIGHBOUR: 'it returns false'. Refute it at one input. -/
def fnExactFarthestJointWrong : ChangeSpec := { name := "fnExactFarthestJoint", fn := fun _ => fun
  | [d] => { results := [.lit (.bool false)], args := [d] }
  | _ => none }
def FnExactFarthestJointWrongFalsely : Prop := fnExactFarthestJointRow.holds Try.pinned (OpenSpec.ofChange fnExactFarthestJointWrong)

/- THE SECOND FORM. 'bulk': how many values and letters a reading holds, each counted each time it is reached (what is shared counts as often as it is met; a slice's spare places count too). A statement '..UptoSaid' is the law's where the arguments, and the package variables that the reading takes, are together of bulk at most 1048576: NARROWER than '..Said'. Prove '..Said' where nothing that the law and all that it calls make is longer than what came in: it says more and counts as full. Else prove '..UptoSaid'. A law counts once. -/
mutual
def uptoBulk {H : Type} : DataW H → Nat
  | .lit (.string bytes) => bytes.length + 1
  | .lit _ => 1
  | .nil => 1
  | .ptr d => uptoBulk d + 1
  | .slice elems spare => uptoBulkAll elems + uptoBulkAll spare + 1
  | .agg parts => uptoBulkAll parts + 1
  | .iface _ d => uptoBulk d + 1
  | .map entries => uptoBulkEntries entries + 1
  | .held _ => 1
def uptoBulkAll {H : Type} : List (DataW H) → Nat
  | [] => 0
  | d :: r => uptoBulk d + uptoBulkAll r
def uptoBulkEntries {H : Type} : List (Lit × DataW H) → Nat
  | [] => 0
  | x :: r => uptoBulkEntry x + uptoBulkEntries r
def uptoBulkEntry {H : Type} : Lit × DataW H → Nat
  | (.string bytes, d) => bytes.length + uptoBulk d + 1
  | (_, d) => uptoBulk d + 1
 end
def uptoSmall : (H : Type) → List (DataW H) → Bool := fun _ ds => decide (uptoBulkAll ds ≤ 1048576)
def OpenSpec.upto (s : _root_.Go.ChangeSpec) : _root_.Go.OpenSpec := { _root_.Go.OpenSpec.ofChange s with cond := some uptoSmall }

/-- 'laws.FnExactLessPoints', WHERE WHAT IT READS IS OF BULK AT MOST 1048576: true; the input reads as it did. -/
def fnExactLessPointsUptoRow : OpenClaim := { program := "ytppbbcckijcckab", sum := "2b5e1251ccb81288a7ab142c5197a0632e00b736043a9c7596b301c6140e893e", func := "loop.example/g01217/laws.FnExactLessPoints", spec := "fnExactLessPoints", apart := false, narrowed := true }
def FnExactLessPointsUptoSaid : Prop := fnExactLessPointsUptoRow.holds Try.pinned (OpenSpec.upto fnExactLessPointsSpec)

/-- 'laws.FnExactMirrorPoint', WHERE WHAT IT READS IS OF BULK AT MOST 1048576: true; the input reads as it did. -/
def fnExactMirrorPointUptoRow : OpenClaim := { program := "ytppbbcckijcckab", sum := "2b5e1251ccb81288a7ab142c5197a0632e00b736043a9c7596b301c6140e893e", func := "loop.example/g01217/laws.FnExactMirrorPoint", spec := "fnExactMirrorPoint", apart := false, narrowed := true }
def FnExactMirrorPointUptoSaid : Prop := fnExactMirrorPointUptoRow.holds Try.pinned (OpenSpec.upto fnExactMirrorPointSpec)

/-- 'laws.FnExactTwiceX', WHERE WHAT IT READS IS OF BULK AT MOST 1048576: true; the input reads as it did. -/
def fnExactTwiceXUptoRow : OpenClaim := { program := "ytppbbcckijcckab", sum := "2b5e1251ccb81288a7ab142c5197a0632e00b736043a9c7596b301c6140e893e", func := "loop.example/g01217/laws.FnExactTwiceX", spec := "fnExactTwiceX", apart := false, narrowed := true }
def FnExactTwiceXUptoSaid : Prop := fnExactTwiceXUptoRow.holds Try.pinned (OpenSpec.upto fnExactTwiceXSpec)

/-- 'laws.FnExactTwiceY', WHERE WHAT IT READS IS OF BULK AT MOST 1048576: true; the input reads as it did. -/
def fnExactTwiceYUptoRow : OpenClaim := { program := "ytppbbcckijcckab", sum := "2b5e1251ccb81288a7ab142c5197a0632e00b736043a9c7596b301c6140e893e", func := "loop.example/g01217/laws.FnExactTwiceY", spec := "fnExactTwiceY", apart := false, narrowed := true }
def FnExactTwiceYUptoSaid : Prop := fnExactTwiceYUptoRow.holds Try.pinned (OpenSpec.upto fnExactTwiceYSpec)

/-- 'laws.FnExactAddSurds', WHERE WHAT IT READS IS OF BULK AT MOST 1048576: true; the input reads as it did. -/
def fnExactAddSurdsUptoRow : OpenClaim := { program := "ytppbbcckijcckab", sum := "2b5e1251ccb81288a7ab142c5197a0632e00b736043a9c7596b301c6140e893e", func := "loop.example/g01217/laws.FnExactAddSurds", spec := "fnExactAddSurds", apart := false, narrowed := true }
def FnExactAddSurdsUptoSaid : Prop := fnExactAddSurdsUptoRow.holds Try.pinned (OpenSpec.upto fnExactAddSurdsSpec)

/-- 'laws.FnExactCompareSurds', WHERE WHAT IT READS IS OF BULK AT MOST 1048576: true; the input reads as it did. -/
def fnExactCompareSurdsUptoRow : OpenClaim := { program := "ytppbbcckijcckab", sum := "2b5e1251ccb81288a7ab142c5197a0632e00b736043a9c7596b301c6140e893e", func := "loop.example/g01217/laws.FnExactCompareSurds", spec := "fnExactCompareSurds", apart := false, narrowed := true }
def FnExactCompareSurdsUptoSaid : Prop := fnExactCompareSurdsUptoRow.holds Try.pinned (OpenSpec.upto fnExactCompareSurdsSpec)

/-- 'laws.FnExactCompareNorms', WHERE WHAT IT READS IS OF BULK AT MOST 1048576: true; the input reads as it did. -/
def fnExactCompareNormsUptoRow : OpenClaim := { program := "ytppbbcckijcckab", sum := "2b5e1251ccb81288a7ab142c5197a0632e00b736043a9c7596b301c6140e893e", func := "loop.example/g01217/laws.FnExactCompareNorms", spec := "fnExactCompareNorms", apart := false, narrowed := true }
def FnExactCompareNormsUptoSaid : Prop := fnExactCompareNormsUptoRow.holds Try.pinned (OpenSpec.upto fnExactCompareNormsSpec)

/-- 'laws.FnExactFarthestJoint', WHERE WHAT IT READS IS OF BULK AT MOST 1048576: true; the input reads as it did. -/
def fnExactFarthestJointUptoRow : OpenClaim := { program := "ytppbbcckijcckab", sum := "2b5e1251ccb81288a7ab142c5197a0632e00b736043a9c7596b301c6140e893e", func := "loop.example/g01217/laws.FnExactFarthestJoint", spec := "fnExactFarthestJoint", unfollowed := true, recurses := true, apart := false, narrowed := true }
def FnExactFarthestJointUptoSaid : Prop := fnExactFarthestJointUptoRow.holds Try.pinned (OpenSpec.upto fnExactFarthestJointSpec)

end Rows
end Go.Proofs.Ytppbbcckijcckab
