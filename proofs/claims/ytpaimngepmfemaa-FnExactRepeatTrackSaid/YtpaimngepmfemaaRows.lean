/-
  No cell of these rows narrows 'for every input' (looked for: loops, veiled, ifaces, maps, wideKeys, modest, calm, conditions, laid).
  DERIVED. THE GIVEN ROWS OF THIS SEAT. 8 by the template 'for every input the law returns true; each argument reads behind the call as it read before'; 0 by the template 'total and deterministic' (their statements: YtpaimngepmfemaaTotals.lean).
  GIVEN WITH THE SEED: the statements are not yours to turn. If you find one false, say at which input.
  Laid BY PROGRAM, IN A SANDBOX (cutbox-rows.mjs): the forced cells as the released guide's own fill.sh prints them over the translation e8f394b9b32483ef… (all of the seat's roots in one cut). By AI agents, Wed Nov 11 2026. No macro, syntax, notation, axiom, sorry.
-/
import Derived.Test.YtpaimngepmfemaaChecked
import GoSem.Claim
import GoSem.ClaimJoined
import GoSem.ClaimMapViews
import Derived.JoinedTies
import Derived.KernelRfl
namespace Go.Proofs.Ytpaimngepmfemaa
/- THE CELL 'sum', in the pinned program and in every row, IS THE sha256 OF THE DUMP (.gsa) THAT YtpaimngepmfemaaProg.lean LOADS. Nothing in Lean hashes anything: it is a label: what it is worth is what the hold of that sum in a sandbox is worth. -/
noncomputable def Try.pinned : Pinned := { name := "ytpaimngepmfemaa", sum := "e8f394b9b32483ef3808c15d9f82290586b17834cf6b16c5577d384ad8188e3e", checked := Try.checked }
namespace Rows
def none {H : Type} : Left H := { results := [], args := [] }

/-- 'laws.FnExactIsTrack': WHATEVER THE INPUT: true; the input reads as it did. -/
def fnExactIsTrackSpec : ChangeSpec := { name := "fnExactIsTrack", fn := fun _ => fun
  | [d] => { results := [.lit (.bool true)], args := [d] }
  | _ => none }
def fnExactIsTrackRow : OpenClaim := { program := "ytpaimngepmfemaa", sum := "e8f394b9b32483ef3808c15d9f82290586b17834cf6b16c5577d384ad8188e3e", func := "loop.example/g01217/laws.FnExactIsTrack", spec := "fnExactIsTrack", apart := false }
def FnExactIsTrackSaid : Prop := fnExactIsTrackRow.holds Try.pinned (OpenSpec.ofChange fnExactIsTrackSpec)

/-- ITS FALSE NEIGHBOUR: 'it returns false'. Refute it at one input. -/
def fnExactIsTrackWrong : ChangeSpec := { name := "fnExactIsTrack", fn := fun _ => fun
  | [d] => { results := [.lit (.bool false)], args := [d] }
  | _ => none }
def FnExactIsTrackWrongFalsely : Prop := fnExactIsTrackRow.holds Try.pinned (OpenSpec.ofChange fnExactIsTrackWrong)

/-- 'laws.FnExactTurnOfTrack': WHATEVER THE INPUT: true; the input reads as it did. -/
def fnExactTurnOfTrackSpec : ChangeSpec := { name := "fnExactTurnOfTrack", fn := fun _ => fun
  | [d] => { results := [.lit (.bool true)], args := [d] }
  | _ => none }
def fnExactTurnOfTrackRow : OpenClaim := { program := "ytpaimngepmfemaa", sum := "e8f394b9b32483ef3808c15d9f82290586b17834cf6b16c5577d384ad8188e3e", func := "loop.example/g01217/laws.FnExactTurnOfTrack", spec := "fnExactTurnOfTrack", inPlace := ["internal/bytealg.CountString", "internal/bytealg.IndexByteString", "internal/bytealg.IndexString"], named := ["internal/bytealg.MaxLen"], apart := false }
def FnExactTurnOfTrackSaid : Prop := fnExactTurnOfTrackRow.holds Try.pinned (OpenSpec.ofChange fnExactTurnOfTrackSpec)

/-- ITS FALSE NEIGHBOUR: 'it returns false'. Refute it at one input. -/
def fnExactTurnOfTrackWrong : ChangeSpec := { name := "fnExactTurnOfTrack", fn := fun _ => fun
  | [d] => { results := [.lit (.bool false)], args := [d] }
  | _ => none }
def FnExactTurnOfTrackWrongFalsely : Prop := fnExactTurnOfTrackRow.holds Try.pinned (OpenSpec.ofChange fnExactTurnOfTrackWrong)

/-- 'laws.FnExactCountPiece': WHATEVER THE INPUT: true; the input reads as it did. -/
def fnExactCountPieceSpec : ChangeSpec := { name := "fnExactCountPiece", fn := fun _ => fun
  | [d1, d2] => { results := [.lit (.bool true)], args := [d1, d2] }
  | _ => none }
def fnExactCountPieceRow : OpenClaim := { program := "ytpaimngepmfemaa", sum := "e8f394b9b32483ef3808c15d9f82290586b17834cf6b16c5577d384ad8188e3e", func := "loop.example/g01217/laws.FnExactCountPiece", spec := "fnExactCountPiece", inPlace := ["internal/bytealg.CountString", "internal/bytealg.IndexByteString", "internal/bytealg.IndexString"], named := ["internal/bytealg.MaxLen"], apart := false }
def FnExactCountPieceSaid : Prop := fnExactCountPieceRow.holds Try.pinned (OpenSpec.ofChange fnExactCountPieceSpec)

/-- ITS FALSE NEIGHBOUR: 'it returns false'. Refute it at one input. -/
def fnExactCountPieceWrong : ChangeSpec := { name := "fnExactCountPiece", fn := fun _ => fun
  | [d1, d2] => { results := [.lit (.bool false)], args := [d1, d2] }
  | _ => none }
def FnExactCountPieceWrongFalsely : Prop := fnExactCountPieceRow.holds Try.pinned (OpenSpec.ofChange fnExactCountPieceWrong)

/-- 'laws.FnExactMirrorTrack': WHATEVER THE INPUT: true; the input reads as it did. -/
def fnExactMirrorTrackSpec : ChangeSpec := { name := "fnExactMirrorTrack", fn := fun _ => fun
  | [d] => { results := [.lit (.bool true)], args := [d] }
  | _ => none }
def fnExactMirrorTrackRow : OpenClaim := { program := "ytpaimngepmfemaa", sum := "e8f394b9b32483ef3808c15d9f82290586b17834cf6b16c5577d384ad8188e3e", func := "loop.example/g01217/laws.FnExactMirrorTrack", spec := "fnExactMirrorTrack", apart := false }
def FnExactMirrorTrackSaid : Prop := fnExactMirrorTrackRow.holds Try.pinned (OpenSpec.ofChange fnExactMirrorTrackSpec)

/-- ITS FALSE NEIGHBOUR: 'it returns false'. Refute it at one input. -/
def fnExactMirrorTrackWrong : ChangeSpec := { name := "fnExactMirrorTrack", fn := fun _ => fun
  | [d] => { results := [.lit (.bool false)], args := [d] }
  | _ => none }
def FnExactMirrorTrackWrongFalsely : Prop := fnExactMirrorTrackRow.holds Try.pinned (OpenSpec.ofChange fnExactMirrorTrackWrong)

/-- 'laws.FnExactBackTrack': WHATEVER THE INPUT: true; the input reads as it did. -/
def fnExactBackTrackSpec : ChangeSpec := { name := "fnExactBackTrack", fn := fun _ => fun
  | [d] => { results := [.lit (.bool true)], args := [d] }
  | _ => none }
def fnExactBackTrackRow : OpenClaim := { program := "ytpaimngepmfemaa", sum := "e8f394b9b32483ef3808c15d9f82290586b17834cf6b16c5577d384ad8188e3e", func := "loop.example/g01217/laws.FnExactBackTrack", spec := "fnExactBackTrack", apart := false }
def FnExactBackTrackSaid : Prop := fnExactBackTrackRow.holds Try.pinned (OpenSpec.ofChange fnExactBackTrackSpec)

/-- ITS FALSE NEIGHBOUR: 'it returns false'. Refute it at one input. -/
def fnExactBackTrackWrong : ChangeSpec := { name := "fnExactBackTrack", fn := fun _ => fun
  | [d] => { results := [.lit (.bool false)], args := [d] }
  | _ => none }
def FnExactBackTrackWrongFalsely : Prop := fnExactBackTrackRow.holds Try.pinned (OpenSpec.ofChange fnExactBackTrackWrong)

/-- 'laws.FnExactJoinTracks': WHATEVER THE INPUT: true; the input reads as it did. -/
def fnExactJoinTracksSpec : ChangeSpec := { name := "fnExactJoinTracks", fn := fun _ => fun
  | [d1, d2] => { results := [.lit (.bool true)], args := [d1, d2] }
  | _ => none }
def fnExactJoinTracksRow : OpenClaim := { program := "ytpaimngepmfemaa", sum := "e8f394b9b32483ef3808c15d9f82290586b17834cf6b16c5577d384ad8188e3e", func := "loop.example/g01217/laws.FnExactJoinTracks", spec := "fnExactJoinTracks", inPlace := ["internal/abi.NoEscape"], apart := false }
def FnExactJoinTracksSaid : Prop := fnExactJoinTracksRow.holds Try.pinned (OpenSpec.ofChange fnExactJoinTracksSpec)

/-- ITS FALSE NEIGHBOUR: 'it returns false'. Refute it at one input. -/
def fnExactJoinTracksWrong : ChangeSpec := { name := "fnExactJoinTracks", fn := fun _ => fun
  | [d1, d2] => { results := [.lit (.bool false)], args := [d1, d2] }
  | _ => none }
def FnExactJoinTracksWrongFalsely : Prop := fnExactJoinTracksRow.holds Try.pinned (OpenSpec.ofChange fnExactJoinTracksWrong)

/-- 'laws.FnExactRepeatTrack': WHATEVER THE INPUT: true; the input reads as it did. -/
def fnExactRepeatTrackSpec : ChangeSpec := { name := "fnExactRepeatTrack", fn := fun _ => fun
  | [d1, d2] => { results := [.lit (.bool true)], args := [d1, d2] }
  | _ => none }
def fnExactRepeatTrackRow : OpenClaim := { program := "ytpaimngepmfemaa", sum := "e8f394b9b32483ef3808c15d9f82290586b17834cf6b16c5577d384ad8188e3e", func := "loop.example/g01217/laws.FnExactRepeatTrack", spec := "fnExactRepeatTrack", inPlace := ["internal/abi.NoEscape"], apart := false }
def FnExactRepeatTrackSaid : Prop := fnExactRepeatTrackRow.holds Try.pinned (OpenSpec.ofChange fnExactRepeatTrackSpec)

/-- ITS FALSE NEIGHBOUR: 'it returns false'. Refute it at one input. -/
def fnExactRepeatTrackWrong : ChangeSpec := { name := "fnExactRepeatTrack", fn := fun _ => fun
  | [d1, d2] => { results := [.lit (.bool false)], args := [d1, d2] }
  | _ => none }
def FnExactRepeatTrackWrongFalsely : Prop := fnExactRepeatTrackRow.holds Try.pinned (OpenSpec.ofChange fnExactRepeatTrackWrong)

/-- 'laws.FnExactCutTrack': WHATEVER THE INPUT: true; the input reads as it did. -/
def fnExactCutTrackSpec : ChangeSpec := { name := "fnExactCutTrack", fn := fun _ => fun
  | [d1, d2, d3] => { results := [.lit (.bool true)], args := [d1, d2, d3] }
  | _ => none }
def fnExactCutTrackRow : OpenClaim := { program := "ytpaimngepmfemaa", sum := "e8f394b9b32483ef3808c15d9f82290586b17834cf6b16c5577d384ad8188e3e", func := "loop.example/g01217/laws.FnExactCutTrack", spec := "fnExactCutTrack", inPlace := ["internal/abi.NoEscape"], apart := false }
def FnExactCutTrackSaid : Prop := fnExactCutTrackRow.holds Try.pinned (OpenSpec.ofChange fnExactCutTrackSpec)

/-- ITS FALSE NEIGHBOUR: 'it returns false'. Refute it at one input. -/
def fnExactCutTrackWrong : ChangeSpec := { name := "fnExactCutTrack", fn := fun _ => fun
  | [d1, d2, d3] => { results := [.lit (.bool false)], args := [d1, d2, d3] }
  | _ => none }
def FnExactCutTrackWrongFalsely : Prop := fnExactCutTrackRow.holds Try.pinned (OpenSpec.ofChange fnExactCutTrackWrong)

/- THE SECOND FORM. 'bulk': how many values and letters a reading holds, each counted each time it is reached (what is shared counts as often as it is met; a slice's spare places count too). A statement '..UptoSaid' is the law's where the arguments, and the package variables that the reading takes, are together of bulk at most 1048576: NARROWER than '..Said'. Prove '..Said' where nothing that the law and all that it calls make is longer than what came in: it says more and counts as full. Else prove '..UptoSaid'. A law counts once. -/
mutual
def uptoBulk {H : Type} : DataW H → Nat
  | .lit (.string bytes) => bytes.length + 1
  | .lit _ => 1
  | .nil => 1
  | .ptr d => uptoBulk d + 1
  | .slice elems spare => uptoBulkAll elems + uptoBulkAll spare + 1
  | .agg parts => uptoBulkAll parts + 1
  | .iface _ d => uptoBulk d + 1
  | .map entries => uptoBulkEntries entries + 1
  | .held _ => 1
def uptoBulkAll {H : Type} : List (DataW H) → Nat
  | [] => 0
  | d :: r => uptoBulk d + uptoBulkAll r
def uptoBulkEntries {H : Type} : List (Lit × DataW H) → Nat
  | [] => 0
  | x :: r => uptoBulkEntry x + uptoBulkEntries r
def uptoBulkEntry {H : Type} : Lit × DataW H → Nat
  | (.string bytes, d) => bytes.length + uptoBulk d + 1
  | (_, d) => uptoBulk d + 1
 end
def uptoSmall : (H : Type) → List (DataW H) → Bool := fun _ ds => decide (uptoBulkAll ds ≤ 1048576)
def OpenSpec.upto (s : _root_.Go.ChangeSpec) : _root_.Go.OpenSpec := { _root_.Go.OpenSpec.ofChange s with cond := some uptoSmall }

/-- 'laws.FnExactIsTrack', WHERE WHAT IT READS IS OF BULK AT MOST 1048576: true; the input reads as it did. -/
def fnExactIsTrackUptoRow : OpenClaim := { program := "ytpaimngepmfemaa", sum := "e8f394b9b32483ef3808c15d9f82290586b17834cf6b16c5577d384ad8188e3e", func := "loop.example/g01217/laws.FnExactIsTrack", spec := "fnExactIsTrack", apart := false, narrowed := true }
def FnExactIsTrackUptoSaid : Prop := fnExactIsTrackUptoRow.holds Try.pinned (OpenSpec.upto fnExactIsTrackSpec)

/-- 'laws.FnExactTurnOfTrack', WHERE WHAT IT READS IS OF BULK AT MOST 1048576: true; the input reads as it did. -/
def fnExactTurnOfTrackUptoRow : OpenClaim := { program := "ytpaimngepmfemaa", sum := "e8f394b9b32483ef3808c15d9f82290586b17834cf6b16c5577d384ad8188e3e", func := "loop.example/g01217/laws.FnExactTurnOfTrack", spec := "fnExactTurnOfTrack", inPlace := ["internal/bytealg.CountString", "internal/bytealg.IndexByteString", "internal/bytealg.IndexString"], named := ["internal/bytealg.MaxLen"], apart := false, narrowed := true }
def FnExactTurnOfTrackUptoSaid : Prop := fnExactTurnOfTrackUptoRow.holds Try.pinned (OpenSpec.upto fnExactTurnOfTrackSpec)

/-- 'laws.FnExactCountPiece', WHERE WHAT IT READS IS OF BULK AT MOST 1048576: true; the input reads as it did. -/
def fnExactCountPieceUptoRow : OpenClaim := { program := "ytpaimngepmfemaa", sum := "e8f394b9b32483ef3808c15d9f82290586b17834cf6b16c5577d384ad8188e3e", func := "loop.example/g01217/laws.FnExactCountPiece", spec := "fnExactCountPiece", inPlace := ["internal/bytealg.CountString", "internal/bytealg.IndexByteString", "internal/bytealg.IndexString"], named := ["internal/bytealg.MaxLen"], apart := false, narrowed := true }
def FnExactCountPieceUptoSaid : Prop := fnExactCountPieceUptoRow.holds Try.pinned (OpenSpec.upto fnExactCountPieceSpec)

/-- 'laws.FnExactMirrorTrack', WHERE WHAT IT READS IS OF BULK AT MOST 1048576: true; the input reads as it did. -/
def fnExactMirrorTrackUptoRow : OpenClaim := { program := "ytpaimngepmfemaa", sum := "e8f394b9b32483ef3808c15d9f82290586b17834cf6b16c5577d384ad8188e3e", func := "loop.example/g01217/laws.FnExactMirrorTrack", spec := "fnExactMirrorTrack", apart := false, narrowed := true }
def FnExactMirrorTrackUptoSaid : Prop := fnExactMirrorTrackUptoRow.holds Try.pinned (OpenSpec.upto fnExactMirrorTrackSpec)

/-- 'laws.FnExactBackTrack', WHERE WHAT IT READS IS OF BULK AT MOST 1048576: true; the input reads as it did. -/
def fnExactBackTrackUptoRow : OpenClaim := { program := "ytpaimngepmfemaa", sum := "e8f394b9b32483ef3808c15d9f82290586b17834cf6b16c5577d384ad8188e3e", func := "loop.example/g01217/laws.FnExactBackTrack", spec := "fnExactBackTrack", apart := false, narrowed := true }
def FnExactBackTrackUptoSaid : Prop := fnExactBackTrackUptoRow.holds Try.pinned (OpenSpec.upto fnExactBackTrackSpec)

/-- 'laws.FnExactJoinTracks', WHERE WHAT IT READS IS OF BULK AT MOST 1048576: true; the input reads as it did. -/
def fnExactJoinTracksUptoRow : OpenClaim := { program := "ytpaimngepmfemaa", sum := "e8f394b9b32483ef3808c15d9f82290586b17834cf6b16c5577d384ad8188e3e", func := "loop.example/g01217/laws.FnExactJoinTracks", spec := "fnExactJoinTracks", inPlace := ["internal/abi.NoEscape"], apart := false, narrowed := true }
def FnExactJoinTracksUptoSaid : Prop := fnExactJoinTracksUptoRow.holds Try.pinned (OpenSpec.upto fnExactJoinTracksSpec)

/-- 'laws.FnExactRepeatTrack', WHERE WHAT IT READS IS OF BULK AT MOST 1048576: true; the input reads as it did. -/
def fnExactRepeatTrackUptoRow : OpenClaim := { program := "ytpaimngepmfemaa", sum := "e8f394b9b32483ef3808c15d9f82290586b17834cf6b16c5577d384ad8188e3e", func := "loop.example/g01217/laws.FnExactRepeatTrack", spec := "fnExactRepeatTrack", inPlace := ["internal/abi.NoEscape"], apart := false, narrowed := true }
def FnExactRepeatTrackUptoSaid : Prop := fnExactRepeatTrackUptoRow.holds Try.pinned (OpenSpec.upto fnExactRepeatTrackSpec)

/-- 'laws.FnExactCutTrack', WHERE WHAT IT READS IS OF BULK AT MOST 1048576: true; the input reads as it did. -/
def fnExactCutTrackUptoRow : OpenClaim := { program := "ytpaimngepmfemaa", sum := "e8f394b9b32483ef3808c15d9f82290586b17834cf6b16c5577d384ad8188e3e", func := "loop.example/g01217/laws.FnExactCutTrack", spec := "fnExactCutTrack", inPlace := ["internal/abi.NoEscape"], apart := false, narrowed := true }
def FnExactCutTrackUptoSaid : Prop := fnExactCutTrackUptoRow.holds Try.pinned (OpenSpec.upto fnExactCutTrackSpec)

end Rows
end Go.Proofs.Ytpaimngepmfemaa
