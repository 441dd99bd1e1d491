/-
  No cell of these rows narrows 'for every input' (looked for: loops, veiled, ifaces, maps, wideKeys, modest, calm, conditions, laid).
  DERIVED. THE GIVEN ROWS OF THIS SEAT. 14 by the template 'for every input the law returns true; each argument reads behind the call as it read before'; 0 by the template 'total and deterministic' (their statements: YtppbbcckijcckaaTotals.lean).
  GIVEN WITH THE SEED: the statements are not yours to turn. If you find one false, say at which input.
  Laid BY PROGRAM, IN A SANDBOX (cutbox-rows.mjs): the forced cells as the released guide's own fill.sh prints them over the translation cb3de90ff24b465d… (all of the seat's roots in one cut). By AI agents, Wed Nov 11 2026. No macro, syntax, notation, axiom, sorry.
-/
import Derived.Test.YtppbbcckijcckaaChecked
import GoSem.Claim
import GoSem.ClaimJoined
import GoSem.ClaimMapViews
import Derived.JoinedTies
import Derived.KernelRfl
namespace Go.Proofs.Ytppbbcckijcckaa
/- THE CELL 'sum', in the pinned program and in every row, IS THE sha256 OF THE DUMP (.gsa) THAT YtppbbcckijcckaaProg.lean LOADS. Nothing in Lean hashes anything: it is a label: what it is worth is what the hold of that sum in a sandbox is worth. -/
noncomputable def Try.pinned : Pinned := { name := "ytppbbcckijcckaa", sum := "cb3de90ff24b465d2e50884a58eaedae42d57c321aa61e85f62e72b8308bdc77", checked := Try.checked }
namespace Rows
def none {H : Type} : Left H := { results := [], args := [] }

/-- 'laws.FnExactSideOf': WHATEVER THE INPUT: true; the input reads as it did. -/
def fnExactSideOfSpec : ChangeSpec := { name := "fnExactSideOf", fn := fun _ => fun
  | [d1, d2, d3] => { results := [.lit (.bool true)], args := [d1, d2, d3] }
  | _ => none }
def fnExactSideOfRow : OpenClaim := { program := "ytppbbcckijcckaa", sum := "cb3de90ff24b465d2e50884a58eaedae42d57c321aa61e85f62e72b8308bdc77", func := "loop.example/g01217/laws.FnExactSideOf", spec := "fnExactSideOf", apart := false }
def FnExactSideOfSaid : Prop := fnExactSideOfRow.holds Try.pinned (OpenSpec.ofChange fnExactSideOfSpec)

/-- ITS FALSE NEIGHBOUR: 'it returns false'. Refute it at one input. -/
def fnExactSideOfWrong : ChangeSpec := { name := "fnExactSideOf", fn := fun _ => fun
  | [d1, d2, d3] => { results := [.lit (.bool false)], args := [d1, d2, d3] }
  | _ => none }
def FnExactSideOfWrongFalsely : Prop := fnExactSideOfRow.holds Try.pinned (OpenSpec.ofChange fnExactSideOfWrong)

/-- 'laws.FnExactIsBetween': WHATEVER THE INPUT: true; the input reads as it did. -/
def fnExactIsBetweenSpec : ChangeSpec := { name := "fnExactIsBetween", fn := fun _ => fun
  | [d1, d2, d3] => { results := [.lit (.bool true)], args := [d1, d2, d3] }
  | _ => none }
def fnExactIsBetweenRow : OpenClaim := { program := "ytppbbcckijcckaa", sum := "cb3de90ff24b465d2e50884a58eaedae42d57c321aa61e85f62e72b8308bdc77", func := "loop.example/g01217/laws.FnExactIsBetween", spec := "fnExactIsBetween", unfollowed := true, recurses := true, apart := false }
def FnExactIsBetweenSaid : Prop := fnExactIsBetweenRow.holds Try.pinned (OpenSpec.ofChange fnExactIsBetweenSpec)

/-- ITS FALSE NEIGHBOUR: 'it returns false'. Refute it at one input. -/
def fnExactIsBetweenWrong : ChangeSpec := { name := "fnExactIsBetween", fn := fun _ => fun
  | [d1, d2, d3] => { results := [.lit (.bool false)], args := [d1, d2, d3] }
  | _ => none }
def FnExactIsBetweenWrongFalsely : Prop := fnExactIsBetweenRow.holds Try.pinned (OpenSpec.ofChange fnExactIsBetweenWrong)

/-- 'laws.FnExactShareChords': WHATEVER THE INPUT: true; the input reads as it did. -/
def fnExactShareChordsSpec : ChangeSpec := { name := "fnExactShareChords", fn := fun _ => fun
  | [d1, d2, d3, d4] => { results := [.lit (.bool true)], args := [d1, d2, d3, d4] }
  | _ => none }
def fnExactShareChordsRow : OpenClaim := { program := "ytppbbcckijcckaa", sum := "cb3de90ff24b465d2e50884a58eaedae42d57c321aa61e85f62e72b8308bdc77", func := "loop.example/g01217/laws.FnExactShareChords", spec := "fnExactShareChords", unfollowed := true, recurses := true, apart := false }
def FnExactShareChordsSaid : Prop := fnExactShareChordsRow.holds Try.pinned (OpenSpec.ofChange fnExactShareChordsSpec)

/-- ITS FALSE NEIGHBOUR: 'it returns false'. Refute it at one input. -/
def fnExactShareChordsWrong : ChangeSpec := { name := "fnExactShareChords", fn := fun _ => fun
  | [d1, d2, d3, d4] => { results := [.lit (.bool false)], args := [d1, d2, d3, d4] }
  | _ => none }
def FnExactShareChordsWrongFalsely : Prop := fnExactShareChordsRow.holds Try.pinned (OpenSpec.ofChange fnExactShareChordsWrong)

/-- 'laws.FnExactFourPolygon': WHATEVER THE INPUT: true; the input reads as it did. -/
def fnExactFourPolygonSpec : ChangeSpec := { name := "fnExactFourPolygon", fn := fun _ => fun
  | [d] => { results := [.lit (.bool true)], args := [d] }
  | _ => none }
def fnExactFourPolygonRow : OpenClaim := { program := "ytppbbcckijcckaa", sum := "cb3de90ff24b465d2e50884a58eaedae42d57c321aa61e85f62e72b8308bdc77", func := "loop.example/g01217/laws.FnExactFourPolygon", spec := "fnExactFourPolygon", unfollowed := true, recurses := true, apart := false }
def FnExactFourPolygonSaid : Prop := fnExactFourPolygonRow.holds Try.pinned (OpenSpec.ofChange fnExactFourPolygonSpec)

/-- ITS FALSE NEIGHBOUR: 'it returns false'. Refute it at one input. -/
def fnExactFourPolygonWrong : ChangeSpec := { name := "fnExactFourPolygon", fn := fun _ => fun
  | [d] => { results := [.lit (.bool false)], args := [d] }
  | _ => none }
def FnExactFourPolygonWrongFalsely : Prop := fnExactFourPolygonRow.holds Try.pinned (OpenSpec.ofChange fnExactFourPolygonWrong)

/-- 'laws.FnExactFourArea': WHATEVER THE INPUT: true; the input reads as it did. -/
def fnExactFourAreaSpec : ChangeSpec := { name := "fnExactFourArea", fn := fun _ => fun
  | [d] => { results := [.lit (.bool true)], args := [d] }
  | _ => none }
def fnExactFourAreaRow : OpenClaim := { program := "ytppbbcckijcckaa", sum := "cb3de90ff24b465d2e50884a58eaedae42d57c321aa61e85f62e72b8308bdc77", func := "loop.example/g01217/laws.FnExactFourArea", spec := "fnExactFourArea", inPlace := ["internal/bytealg.CountString", "internal/bytealg.IndexByteString", "internal/bytealg.IndexString"], unfollowed := true, recurses := true, named := ["internal/bytealg.MaxLen"], apart := false }
def FnExactFourAreaSaid : Prop := fnExactFourAreaRow.holds Try.pinned (OpenSpec.ofChange fnExactFourAreaSpec)

/-- ITS FALSE NEIGHBOUR: 'it returns false'. Refute it at one input. -/
def fnExactFourAreaWrong : ChangeSpec := { name := "fnExactFourArea", fn := fun _ => fun
  | [d] => { results := [.lit (.bool false)], args := [d] }
  | _ => none }
def FnExactFourAreaWrongFalsely : Prop := fnExactFourAreaRow.holds Try.pinned (OpenSpec.ofChange fnExactFourAreaWrong)

/-- 'laws.FnExactWidthOf': WHATEVER THE INPUT: true; the input reads as it did. -/
def fnExactWidthOfSpec : ChangeSpec := { name := "fnExactWidthOf", fn := fun _ => fun
  | [d] => { results := [.lit (.bool true)], args := [d] }
  | _ => none }
def fnExactWidthOfRow : OpenClaim := { program := "ytppbbcckijcckaa", sum := "cb3de90ff24b465d2e50884a58eaedae42d57c321aa61e85f62e72b8308bdc77", func := "loop.example/g01217/laws.FnExactWidthOf", spec := "fnExactWidthOf", unfollowed := true, recurses := true, apart := false }
def FnExactWidthOfSaid : Prop := fnExactWidthOfRow.holds Try.pinned (OpenSpec.ofChange fnExactWidthOfSpec)

/-- ITS FALSE NEIGHBOUR: 'it returns false'. Refute it at one input. -/
def fnExactWidthOfWrong : ChangeSpec := { name := "fnExactWidthOf", fn := fun _ => fun
  | [d] => { results := [.lit (.bool false)], args := [d] }
  | _ => none }
def FnExactWidthOfWrongFalsely : Prop := fnExactWidthOfRow.holds Try.pinned (OpenSpec.ofChange fnExactWidthOfWrong)

/-- 'laws.FnExactHeightOf': WHATEVER THE INPUT: true; the input reads as it did. -/
def fnExactHeightOfSpec : ChangeSpec := { name := "fnExactHeightOf", fn := fun _ => fun
  | [d] => { results := [.lit (.bool true)], args := [d] }
  | _ => none }
def fnExactHeightOfRow : OpenClaim := { program := "ytppbbcckijcckaa", sum := "cb3de90ff24b465d2e50884a58eaedae42d57c321aa61e85f62e72b8308bdc77", func := "loop.example/g01217/laws.FnExactHeightOf", spec := "fnExactHeightOf", unfollowed := true, recurses := true, apart := false }
def FnExactHeightOfSaid : Prop := fnExactHeightOfRow.holds Try.pinned (OpenSpec.ofChange fnExactHeightOfSpec)

/-- ITS FALSE NEIGHBOUR: 'it returns false'. Refute it at one input. -/
def fnExactHeightOfWrong : ChangeSpec := { name := "fnExactHeightOf", fn := fun _ => fun
  | [d] => { results := [.lit (.bool false)], args := [d] }
  | _ => none }
def FnExactHeightOfWrongFalsely : Prop := fnExactHeightOfRow.holds Try.pinned (OpenSpec.ofChange fnExactHeightOfWrong)

/-- 'laws.FnExactCountCrossings': WHATEVER THE INPUT: true; the input reads as it did. -/
def fnExactCountCrossingsSpec : ChangeSpec := { name := "fnExactCountCrossings", fn := fun _ => fun
  | [d] => { results := [.lit (.bool true)], args := [d] }
  | _ => none }
def fnExactCountCrossingsRow : OpenClaim := { program := "ytppbbcckijcckaa", sum := "cb3de90ff24b465d2e50884a58eaedae42d57c321aa61e85f62e72b8308bdc77", func := "loop.example/g01217/laws.FnExactCountCrossings", spec := "fnExactCountCrossings", unfollowed := true, recurses := true, apart := false }
def FnExactCountCrossingsSaid : Prop := fnExactCountCrossingsRow.holds Try.pinned (OpenSpec.ofChange fnExactCountCrossingsSpec)

/-- ITS FALSE NEIGHBOUR: 'it returns false'. Refute it at one input. -/
def fnExactCountCrossingsWrong : ChangeSpec := { name := "fnExactCountCrossings", fn := fun _ => fun
  | [d] => { results := [.lit (.bool false)], args := [d] }
  | _ => none }
def FnExactCountCrossingsWrongFalsely : Prop := fnExactCountCrossingsRow.holds Try.pinned (OpenSpec.ofChange fnExactCountCrossingsWrong)

/-- 'laws.FnExactIsSimple': WHATEVER THE INPUT: true; the input reads as it did. -/
def fnExactIsSimpleSpec : ChangeSpec := { name := "fnExactIsSimple", fn := fun _ => fun
  | [d] => { results := [.lit (.bool true)], args := [d] }
  | _ => none }
def fnExactIsSimpleRow : OpenClaim := { program := "ytppbbcckijcckaa", sum := "cb3de90ff24b465d2e50884a58eaedae42d57c321aa61e85f62e72b8308bdc77", func := "loop.example/g01217/laws.FnExactIsSimple", spec := "fnExactIsSimple", unfollowed := true, recurses := true, apart := false }
def FnExactIsSimpleSaid : Prop := fnExactIsSimpleRow.holds Try.pinned (OpenSpec.ofChange fnExactIsSimpleSpec)

/-- ITS FALSE NEIGHBOUR: 'it returns false'. Refute it at one input. -/
def fnExactIsSimpleWrong : ChangeSpec := { name := "fnExactIsSimple", fn := fun _ => fun
  | [d] => { results := [.lit (.bool false)], args := [d] }
  | _ => none }
def FnExactIsSimpleWrongFalsely : Prop := fnExactIsSimpleRow.holds Try.pinned (OpenSpec.ofChange fnExactIsSimpleWrong)

/-- 'laws.FnExactWindingAround': WHATEVER THE INPUT: true; the input reads as it did. -/
def fnExactWindingAroundSpec : ChangeSpec := { name := "fnExactWindingAround", fn := fun _ => fun
  | [d1, d2] => { results := [.lit (.bool true)], args := [d1, d2] }
  | _ => none }
def fnExactWindingAroundRow : OpenClaim := { program := "ytppbbcckijcckaa", sum := "cb3de90ff24b465d2e50884a58eaedae42d57c321aa61e85f62e72b8308bdc77", func := "loop.example/g01217/laws.FnExactWindingAround", spec := "fnExactWindingAround", unfollowed := true, recurses := true, apart := false }
def FnExactWindingAroundSaid : Prop := fnExactWindingAroundRow.holds Try.pinned (OpenSpec.ofChange fnExactWindingAroundSpec)

/-- ITS FALSE NEIGHBOUR: 'it returns false'. Refute it at one input. -/
def fnExactWindingAroundWrong : ChangeSpec := { name := "fnExactWindingAround", fn := fun _ => fun
  | [d1, d2] => { results := [.lit (.bool false)], args := [d1, d2] }
  | _ => none }
def FnExactWindingAroundWrongFalsely : Prop := fnExactWindingAroundRow.holds Try.pinned (OpenSpec.ofChange fnExactWindingAroundWrong)

/-- 'laws.FnExactHullOf': WHATEVER THE INPUT: true; the input reads as it did. -/
def fnExactHullOfSpec : ChangeSpec := { name := "fnExactHullOf", fn := fun _ => fun
  | [d] => { results := [.lit (.bool true)], args := [d] }
  | _ => none }
def fnExactHullOfRow : OpenClaim := { program := "ytppbbcckijcckaa", sum := "cb3de90ff24b465d2e50884a58eaedae42d57c321aa61e85f62e72b8308bdc77", func := "loop.example/g01217/laws.FnExactHullOf", spec := "fnExactHullOf", unfollowed := true, recurses := true, apart := false }
def FnExactHullOfSaid : Prop := fnExactHullOfRow.holds Try.pinned (OpenSpec.ofChange fnExactHullOfSpec)

/-- ITS FALSE NEIGHBOUR: 'it returns false'. Refute it at one input. -/
def fnExactHullOfWrong : ChangeSpec := { name := "fnExactHullOf", fn := fun _ => fun
  | [d] => { results := [.lit (.bool false)], args := [d] }
  | _ => none }
def FnExactHullOfWrongFalsely : Prop := fnExactHullOfRow.holds Try.pinned (OpenSpec.ofChange fnExactHullOfWrong)

/-- 'laws.FnExactFarthestPair': WHATEVER THE INPUT: true; the input reads as it did. -/
def fnExactFarthestPairSpec : ChangeSpec := { name := "fnExactFarthestPair", fn := fun _ => fun
  | [d] => { results := [.lit (.bool true)], args := [d] }
  | _ => none }
def fnExactFarthestPairRow : OpenClaim := { program := "ytppbbcckijcckaa", sum := "cb3de90ff24b465d2e50884a58eaedae42d57c321aa61e85f62e72b8308bdc77", func := "loop.example/g01217/laws.FnExactFarthestPair", spec := "fnExactFarthestPair", apart := false }
def FnExactFarthestPairSaid : Prop := fnExactFarthestPairRow.holds Try.pinned (OpenSpec.ofChange fnExactFarthestPairSpec)

/-- ITS FALSE NEIGHBOUR: 'it returns false'. Refute it at one input. -/
def fnExactFarthestPairWrong : ChangeSpec := { name := "fnExactFarthestPair", fn := fun _ => fun
  | [d] => { results := [.lit (.bool false)], args := [d] }
  | _ => none }
def FnExactFarthestPairWrongFalsely : Prop := fnExactFarthestPairRow.holds Try.pinned (OpenSpec.ofChange fnExactFarthestPairWrong)

/-- 'laws.FnExactFourHull': WHATEVER THE INPUT: true; the input reads as it did. -/
def fnExactFourHullSpec : ChangeSpec := { name := "fnExactFourHull", fn := fun _ => fun
  | [d] => { results := [.lit (.bool true)], args := [d] }
  | _ => none }
def fnExactFourHullRow : OpenClaim := { program := "ytppbbcckijcckaa", sum := "cb3de90ff24b465d2e50884a58eaedae42d57c321aa61e85f62e72b8308bdc77", func := "loop.example/g01217/laws.FnExactFourHull", spec := "fnExactFourHull", unfollowed := true, recurses := true, apart := false }
def FnExactFourHullSaid : Prop := fnExactFourHullRow.holds Try.pinned (OpenSpec.ofChange fnExactFourHullSpec)

/-- ITS FALSE NEIGHBOUR: 'it returns false'. Refute it at one input. -/
def fnExactFourHullWrong : ChangeSpec := { name := "fnExactFourHull", fn := fun _ => fun
  | [d] => { results := [.lit (.bool false)], args := [d] }
  | _ => none }
def FnExactFourHullWrongFalsely : Prop := fnExactFourHullRow.holds Try.pinned (OpenSpec.ofChange fnExactFourHullWrong)

/-- 'laws.FnExactIsConvexTrack': WHATEVER THE INPUT: true; the input reads as it did. -/
def fnExactIsConvexTrackSpec : ChangeSpec := { name := "fnExactIsConvexTrack", fn := fun _ => fun
  | [d] => { results := [.lit (.bool true)], args := [d] }
  | _ => none }
def fnExactIsConvexTrackRow : OpenClaim := { program := "ytppbbcckijcckaa", sum := "cb3de90ff24b465d2e50884a58eaedae42d57c321aa61e85f62e72b8308bdc77", func := "loop.example/g01217/laws.FnExactIsConvexTrack", spec := "fnExactIsConvexTrack", unfollowed := true, recurses := true, apart := false }
def FnExactIsConvexTrackSaid : Prop := fnExactIsConvexTrackRow.holds Try.pinned (OpenSpec.ofChange fnExactIsConvexTrackSpec)

/-- ITS FALSE NEIGHBOUR: 'it returns false'. Refute it at one input. -/
def fnExactIsConvexTrackWrong : ChangeSpec := { name := "fnExactIsConvexTrack", fn := fun _ => fun
  | [d] => { results := [.lit (.bool false)], args := [d] }
  | _ => none }
def FnExactIsConvexTrackWrongFalsely : Prop := fnExactIsConvexTrackRow.holds Try.pinned (OpenSpec.ofChange fnExactIsConvexTrackWrong)

/- THE SECOND FORM. 'bulk': how many values and letters a reading holds, each counted each time it is reached (what is shared counts as often as it is met; a slice's spare places count too). A statement '..UptoSaid' is the law's where the arguments, and the package variables that the reading takes, are together of bulk at most 1048576: NARROWER than '..Said'. Prove '..Said' where nothing that the law and all that it calls make is longer than what came in: it says more and counts as full. Else prove '..UptoSaid'. A law counts once. -/
mutual
def uptoBulk {H : Type} : DataW H → Nat
  | .lit (.string bytes) => bytes.length + 1
  | .lit _ => 1
  | .nil => 1
  | .ptr d => uptoBulk d + 1
  | .slice elems spare => uptoBulkAll elems + uptoBulkAll spare + 1
  | .agg parts => uptoBulkAll parts + 1
  | .iface _ d => uptoBulk d + 1
  | .map entries => uptoBulkEntries entries + 1
  | .held _ => 1
def uptoBulkAll {H : Type} : List (DataW H) → Nat
  | [] => 0
  | d :: r => uptoBulk d + uptoBulkAll r
def uptoBulkEntries {H : Type} : List (Lit × DataW H) → Nat
  | [] => 0
  | x :: r => uptoBulkEntry x + uptoBulkEntries r
def uptoBulkEntry {H : Type} : Lit × DataW H → Nat
  | (.string bytes, d) => bytes.length + uptoBulk d + 1
  | (_, d) => uptoBulk d + 1
 end
def uptoSmall : (H : Type) → List (DataW H) → Bool := fun _ ds => decide (uptoBulkAll ds ≤ 1048576)
def OpenSpec.upto (s : _root_.Go.ChangeSpec) : _root_.Go.OpenSpec := { _root_.Go.OpenSpec.ofChange s with cond := some uptoSmall }

/-- 'laws.FnExactSideOf', WHERE WHAT IT READS IS OF BULK AT MOST 1048576: true; the input reads as it did. -/
def fnExactSideOfUptoRow : OpenClaim := { program := "ytppbbcckijcckaa", sum := "cb3de90ff24b465d2e50884a58eaedae42d57c321aa61e85f62e72b8308bdc77", func := "loop.example/g01217/laws.FnExactSideOf", spec := "fnExactSideOf", apart := false, narrowed := true }
def FnExactSideOfUptoSaid : Prop := fnExactSideOfUptoRow.holds Try.pinned (OpenSpec.upto fnExactSideOfSpec)

/-- 'laws.FnExactIsBetween', WHERE WHAT IT READS IS OF BULK AT MOST 1048576: true; the input reads as it did. -/
def fnExactIsBetweenUptoRow : OpenClaim := { program := "ytppbbcckijcckaa", sum := "cb3de90ff24b465d2e50884a58eaedae42d57c321aa61e85f62e72b8308bdc77", func := "loop.example/g01217/laws.FnExactIsBetween", spec := "fnExactIsBetween", unfollowed := true, recurses := true, apart := false, narrowed := true }
def FnExactIsBetweenUptoSaid : Prop := fnExactIsBetweenUptoRow.holds Try.pinned (OpenSpec.upto fnExactIsBetweenSpec)

/-- 'laws.FnExactShareChords', WHERE WHAT IT READS IS OF BULK AT MOST 1048576: true; the input reads as it did. -/
def fnExactShareChordsUptoRow : OpenClaim := { program := "ytppbbcckijcckaa", sum := "cb3de90ff24b465d2e50884a58eaedae42d57c321aa61e85f62e72b8308bdc77", func := "loop.example/g01217/laws.FnExactShareChords", spec := "fnExactShareChords", unfollowed := true, recurses := true, apart := false, narrowed := true }
def FnExactShareChordsUptoSaid : Prop := fnExactShareChordsUptoRow.holds Try.pinned (OpenSpec.upto fnExactShareChordsSpec)

/-- 'laws.FnExactFourPolygon', WHERE WHAT IT READS IS OF BULK AT MOST 1048576: true; the input reads as it did. -/
def fnExactFourPolygonUptoRow : OpenClaim := { program := "ytppbbcckijcckaa", sum := "cb3de90ff24b465d2e50884a58eaedae42d57c321aa61e85f62e72b8308bdc77", func := "loop.example/g01217/laws.FnExactFourPolygon", spec := "fnExactFourPolygon", unfollowed := true, recurses := true, apart := false, narrowed := true }
def FnExactFourPolygonUptoSaid : Prop := fnExactFourPolygonUptoRow.holds Try.pinned (OpenSpec.upto fnExactFourPolygonSpec)

/-- 'laws.FnExactFourArea', WHERE WHAT IT READS IS OF BULK AT MOST 1048576: true; the input reads as it did. -/
def fnExactFourAreaUptoRow : OpenClaim := { program := "ytppbbcckijcckaa", sum := "cb3de90ff24b465d2e50884a58eaedae42d57c321aa61e85f62e72b8308bdc77", func := "loop.example/g01217/laws.FnExactFourArea", spec := "fnExactFourArea", inPlace := ["internal/bytealg.CountString", "internal/bytealg.IndexByteString", "internal/bytealg.IndexString"], unfollowed := true, recurses := true, named := ["internal/bytealg.MaxLen"], apart := false, narrowed := true }
def FnExactFourAreaUptoSaid : Prop := fnExactFourAreaUptoRow.holds Try.pinned (OpenSpec.upto fnExactFourAreaSpec)

/-- 'laws.FnExactWidthOf', WHERE WHAT IT READS IS OF BULK AT MOST 1048576: true; the input reads as it did. -/
def fnExactWidthOfUptoRow : OpenClaim := { program := "ytppbbcckijcckaa", sum := "cb3de90ff24b465d2e50884a58eaedae42d57c321aa61e85f62e72b8308bdc77", func := "loop.example/g01217/laws.FnExactWidthOf", spec := "fnExactWidthOf", unfollowed := true, recurses := true, apart := false, narrowed := true }
def FnExactWidthOfUptoSaid : Prop := fnExactWidthOfUptoRow.holds Try.pinned (OpenSpec.upto fnExactWidthOfSpec)

/-- 'laws.FnExactHeightOf', WHERE WHAT IT READS IS OF BULK AT MOST 1048576: true; the input reads as it did. -/
def fnExactHeightOfUptoRow : OpenClaim := { program := "ytppbbcckijcckaa", sum := "cb3de90ff24b465d2e50884a58eaedae42d57c321aa61e85f62e72b8308bdc77", func := "loop.example/g01217/laws.FnExactHeightOf", spec := "fnExactHeightOf", unfollowed := true, recurses := true, apart := false, narrowed := true }
def FnExactHeightOfUptoSaid : Prop := fnExactHeightOfUptoRow.holds Try.pinned (OpenSpec.upto fnExactHeightOfSpec)

/-- 'laws.FnExactCountCrossings', WHERE WHAT IT READS IS OF BULK AT MOST 1048576: true; the input reads as it did. -/
def fnExactCountCrossingsUptoRow : OpenClaim := { program := "ytppbbcckijcckaa", sum := "cb3de90ff24b465d2e50884a58eaedae42d57c321aa61e85f62e72b8308bdc77", func := "loop.example/g01217/laws.FnExactCountCrossings", spec := "fnExactCountCrossings", unfollowed := true, recurses := true, apart := false, narrowed := true }
def FnExactCountCrossingsUptoSaid : Prop := fnExactCountCrossingsUptoRow.holds Try.pinned (OpenSpec.upto fnExactCountCrossingsSpec)

/-- 'laws.FnExactIsSimple', WHERE WHAT IT READS IS OF BULK AT MOST 1048576: true; the input reads as it did. -/
def fnExactIsSimpleUptoRow : OpenClaim := { program := "ytppbbcckijcckaa", sum := "cb3de90ff24b465d2e50884a58eaedae42d57c321aa61e85f62e72b8308bdc77", func := "loop.example/g01217/laws.FnExactIsSimple", spec := "fnExactIsSimple", unfollowed := true, recurses := true, apart := false, narrowed := true }
def FnExactIsSimpleUptoSaid : Prop := fnExactIsSimpleUptoRow.holds Try.pinned (OpenSpec.upto fnExactIsSimpleSpec)

/-- 'laws.FnExactWindingAround', WHERE WHAT IT READS IS OF BULK AT MOST 1048576: true; the input reads as it did. -/
def fnExactWindingAroundUptoRow : OpenClaim := { program := "ytppbbcckijcckaa", sum := "cb3de90ff24b465d2e50884a58eaedae42d57c321aa61e85f62e72b8308bdc77", func := "loop.example/g01217/laws.FnExactWindingAround", spec := "fnExactWindingAround", unfollowed := true, recurses := true, apart := false, narrowed := true }
def FnExactWindingAroundUptoSaid : Prop := fnExactWindingAroundUptoRow.holds Try.pinned (OpenSpec.upto fnExactWindingAroundSpec)

/-- 'laws.FnExactHullOf', WHERE WHAT IT READS IS OF BULK AT MOST 1048576: true; the input reads as it did. -/
def fnExactHullOfUptoRow : OpenClaim := { program := "ytppbbcckijcckaa", sum := "cb3de90ff24b465d2e50884a58eaedae42d57c321aa61e85f62e72b8308bdc77", func := "loop.example/g01217/laws.FnExactHullOf", spec := "fnExactHullOf", unfollowed := true, recurses := true, apart := false, narrowed := true }
def FnExactHullOfUptoSaid : Prop := fnExactHullOfUptoRow.holds Try.pinned (OpenSpec.upto fnExactHullOfSpec)

/-- 'laws.FnExactFarthestPair', WHERE WHAT IT READS IS OF BULK AT MOST 1048576: true; the input reads as it did. -/
def fnExactFarthestPairUptoRow : OpenClaim := { program := "ytppbbcckijcckaa", sum := "cb3de90ff24b465d2e50884a58eaedae42d57c321aa61e85f62e72b8308bdc77", func := "loop.example/g01217/laws.FnExactFarthestPair", spec := "fnExactFarthestPair", apart := false, narrowed := true }
def FnExactFarthestPairUptoSaid : Prop := fnExactFarthestPairUptoRow.holds Try.pinned (OpenSpec.upto fnExactFarthestPairSpec)

/-- 'laws.FnExactFourHull', WHERE WHAT IT READS IS OF BULK AT MOST 1048576: true; the input reads as it did. -/
def fnExactFourHullUptoRow : OpenClaim := { program := "ytppbbcckijcckaa", sum := "cb3de90ff24b465d2e50884a58eaedae42d57c321aa61e85f62e72b8308bdc77", func := "loop.example/g01217/laws.FnExactFourHull", spec := "fnExactFourHull", unfollowed := true, recurses := true, apart := false, narrowed := true }
def FnExactFourHullUptoSaid : Prop := fnExactFourHullUptoRow.holds Try.pinned (OpenSpec.upto fnExactFourHullSpec)

/-- 'laws.FnExactIsConvexTrack', WHERE WHAT IT READS IS OF BULK AT MOST 1048576: true; the input reads as it did. -/
def fnExactIsConvexTrackUptoRow : OpenClaim := { program := "ytppbbcckijcckaa", sum := "cb3de90ff24b465d2e50884a58eaedae42d57c321aa61e85f62e72b8308bdc77", func := "loop.example/g01217/laws.FnExactIsConvexTrack", spec := "fnExactIsConvexTrack", unfollowed := true, recurses := true, apart := false, narrowed := true }
def FnExactIsConvexTrackUptoSaid : Prop := fnExactIsConvexTrackUptoRow.holds Try.pinned (OpenSpec.upto fnExactIsConvexTrackSpec)

end Rows
end Go.Proofs.Ytppbbcckijcckaa
