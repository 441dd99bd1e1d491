/-
  No cell of these rows narrows 'for every input' (looked for: loops, veiled, ifaces, maps, wideKeys, modest, calm, conditions, laid).
  DERIVED. THE GIVEN ROWS OF THIS SEAT. 13 by the template 'for every input the law returns true; each argument reads behind the call as it read before'; 0 by the template 'total and deterministic' (their statements: YtkmgcmgnaeamaaaTotals.lean).
  GIVEN WITH THE SEED: the statements are not yours to turn. If you find one false, say at which input.
  Laid BY PROGRAM, IN A SANDBOX (cutbox-rows.mjs): the forced cells as the released guide's own fill.sh prints them over the translation e5912dbcf0d50419… (all of the seat's roots in one cut). By AI agents, Wed Nov 11 2026. No macro, syntax, notation, axiom, sorry.
-/
import Derived.Test.YtkmgcmgnaeamaaaChecked
import GoSem.Claim
import GoSem.ClaimJoined
import GoSem.ClaimMapViews
import Derived.JoinedTies
import Derived.KernelRfl
namespace Go.Proofs.Ytkmgcmgnaeamaaa
/- THE CELL 'sum', in the pinned program and in every row, IS THE sha256 OF THE DUMP (.gsa) THAT YtkmgcmgnaeamaaaProg.lean LOADS. Nothing in Lean hashes anything: it is a label: what it is worth is what the hold of that sum in a sandbox is worth. -/
noncomputable def Try.pinned : Pinned := { name := "ytkmgcmgnaeamaaa", sum := "e5912dbcf0d5041950f81a1b35fea52ad96d981895f6bd56e2c718d82398b47a", checked := Try.checked }
namespace Rows
def none {H : Type} : Left H := { results := [], args := [] }

/-- 'laws.FnExactIsBox': WHATEVER THE INPUT: true; the input reads as it did. -/
def fnExactIsBoxSpec : ChangeSpec := { name := "fnExactIsBox", fn := fun _ => fun
  | [d] => { results := [.lit (.bool true)], args := [d] }
  | _ => none }
def fnExactIsBoxRow : OpenClaim := { program := "ytkmgcmgnaeamaaa", sum := "e5912dbcf0d5041950f81a1b35fea52ad96d981895f6bd56e2c718d82398b47a", func := "loop.example/g01217/laws.FnExactIsBox", spec := "fnExactIsBox", plainKeys := false, apart := false }
def FnExactIsBoxSaid : Prop := fnExactIsBoxRow.holds Try.pinned (OpenSpec.ofChange fnExactIsBoxSpec)

/-- ITS FALSE NEIGHBOUR: 'it returns false'. Refute it at one input. -/
def fnExactIsBoxWrong : ChangeSpec := { name := "fnExactIsBox", fn := fun _ => fun
  | [d] => { results := [.lit (.bool false)], args := [d] }
  | _ => none }
def FnExactIsBoxWrongFalsely : Prop := fnExactIsBoxRow.holds Try.pinned (OpenSpec.ofChange fnExactIsBoxWrong)

/-- 'laws.FnExactBoxOf': WHATEVER THE INPUT: true; the input reads as it did. -/
def fnExactBoxOfSpec : ChangeSpec := { name := "fnExactBoxOf", fn := fun _ => fun
  | [d] => { results := [.lit (.bool true)], args := [d] }
  | _ => none }
def fnExactBoxOfRow : OpenClaim := { program := "ytkmgcmgnaeamaaa", sum := "e5912dbcf0d5041950f81a1b35fea52ad96d981895f6bd56e2c718d82398b47a", func := "loop.example/g01217/laws.FnExactBoxOf", spec := "fnExactBoxOf", inPlace := ["internal/bytealg.CountString", "internal/bytealg.IndexByteString", "internal/bytealg.IndexString"], named := ["internal/bytealg.MaxLen"], plainKeys := false, apart := false }
def FnExactBoxOfSaid : Prop := fnExactBoxOfRow.holds Try.pinned (OpenSpec.ofChange fnExactBoxOfSpec)

/-- ITS FALSE NEIGHBOUR: 'it returns false'. Refute it at one input. -/
def fnExactBoxOfWrong : ChangeSpec := { name := "fnExactBoxOf", fn := fun _ => fun
  | [d] => { results := [.lit (.bool false)], args := [d] }
  | _ => none }
def FnExactBoxOfWrongFalsely : Prop := fnExactBoxOfRow.holds Try.pinned (OpenSpec.ofChange fnExactBoxOfWrong)

/-- 'laws.FnExactCanLay': WHATEVER THE INPUT: true; the input reads as it did. -/
def fnExactCanLaySpec : ChangeSpec := { name := "fnExactCanLay", fn := fun _ => fun
  | [d1, d2] => { results := [.lit (.bool true)], args := [d1, d2] }
  | _ => none }
def fnExactCanLayRow : OpenClaim := { program := "ytkmgcmgnaeamaaa", sum := "e5912dbcf0d5041950f81a1b35fea52ad96d981895f6bd56e2c718d82398b47a", func := "loop.example/g01217/laws.FnExactCanLay", spec := "fnExactCanLay", inPlace := ["internal/bytealg.CountString", "internal/bytealg.IndexByteString", "internal/bytealg.IndexString"], named := ["internal/bytealg.MaxLen"], plainKeys := false, apart := false }
def FnExactCanLaySaid : Prop := fnExactCanLayRow.holds Try.pinned (OpenSpec.ofChange fnExactCanLaySpec)

/-- ITS FALSE NEIGHBOUR: 'it returns false'. Refute it at one input. -/
def fnExactCanLayWrong : ChangeSpec := { name := "fnExactCanLay", fn := fun _ => fun
  | [d1, d2] => { results := [.lit (.bool false)], args := [d1, d2] }
  | _ => none }
def FnExactCanLayWrongFalsely : Prop := fnExactCanLayRow.holds Try.pinned (OpenSpec.ofChange fnExactCanLayWrong)

/-- 'laws.FnExactMissingFor': WHATEVER THE INPUT: true; the input reads as it did. -/
def fnExactMissingForSpec : ChangeSpec := { name := "fnExactMissingFor", fn := fun _ => fun
  | [d1, d2] => { results := [.lit (.bool true)], args := [d1, d2] }
  | _ => none }
def fnExactMissingForRow : OpenClaim := { program := "ytkmgcmgnaeamaaa", sum := "e5912dbcf0d5041950f81a1b35fea52ad96d981895f6bd56e2c718d82398b47a", func := "loop.example/g01217/laws.FnExactMissingFor", spec := "fnExactMissingFor", inPlace := ["internal/bytealg.CountString", "internal/bytealg.IndexByteString", "internal/bytealg.IndexString"], named := ["internal/bytealg.MaxLen"], plainKeys := false, apart := false }
def FnExactMissingForSaid : Prop := fnExactMissingForRow.holds Try.pinned (OpenSpec.ofChange fnExactMissingForSpec)

/-- ITS FALSE NEIGHBOUR: 'it returns false'. Refute it at one input. -/
def fnExactMissingForWrong : ChangeSpec := { name := "fnExactMissingFor", fn := fun _ => fun
  | [d1, d2] => { results := [.lit (.bool false)], args := [d1, d2] }
  | _ => none }
def FnExactMissingForWrongFalsely : Prop := fnExactMissingForRow.holds Try.pinned (OpenSpec.ofChange fnExactMissingForWrong)

/-- 'laws.FnExactEnoughFor': WHATEVER THE INPUT: true; the input reads as it did. -/
def fnExactEnoughForSpec : ChangeSpec := { name := "fnExactEnoughFor", fn := fun _ => fun
  | [d] => { results := [.lit (.bool true)], args := [d] }
  | _ => none }
def fnExactEnoughForRow : OpenClaim := { program := "ytkmgcmgnaeamaaa", sum := "e5912dbcf0d5041950f81a1b35fea52ad96d981895f6bd56e2c718d82398b47a", func := "loop.example/g01217/laws.FnExactEnoughFor", spec := "fnExactEnoughFor", inPlace := ["internal/bytealg.CountString", "internal/bytealg.IndexByteString", "internal/bytealg.IndexString"], named := ["internal/bytealg.MaxLen"], plainKeys := false, apart := false }
def FnExactEnoughForSaid : Prop := fnExactEnoughForRow.holds Try.pinned (OpenSpec.ofChange fnExactEnoughForSpec)

/-- ITS FALSE NEIGHBOUR: 'it returns false'. Refute it at one input. -/
def fnExactEnoughForWrong : ChangeSpec := { name := "fnExactEnoughFor", fn := fun _ => fun
  | [d] => { results := [.lit (.bool false)], args := [d] }
  | _ => none }
def FnExactEnoughForWrongFalsely : Prop := fnExactEnoughForRow.holds Try.pinned (OpenSpec.ofChange fnExactEnoughForWrong)

/-- 'laws.FnExactCountTracks': WHATEVER THE INPUT: true; the input reads as it did. -/
def fnExactCountTracksSpec : ChangeSpec := { name := "fnExactCountTracks", fn := fun _ => fun
  | [d] => { results := [.lit (.bool true)], args := [d] }
  | _ => none }
def fnExactCountTracksRow : OpenClaim := { program := "ytkmgcmgnaeamaaa", sum := "e5912dbcf0d5041950f81a1b35fea52ad96d981895f6bd56e2c718d82398b47a", func := "loop.example/g01217/laws.FnExactCountTracks", spec := "fnExactCountTracks", plainKeys := false, apart := false }
def FnExactCountTracksSaid : Prop := fnExactCountTracksRow.holds Try.pinned (OpenSpec.ofChange fnExactCountTracksSpec)

/-- ITS FALSE NEIGHBOUR: 'it returns false'. Refute it at one input. -/
def fnExactCountTracksWrong : ChangeSpec := { name := "fnExactCountTracks", fn := fun _ => fun
  | [d] => { results := [.lit (.bool false)], args := [d] }
  | _ => none }
def FnExactCountTracksWrongFalsely : Prop := fnExactCountTracksRow.holds Try.pinned (OpenSpec.ofChange fnExactCountTracksWrong)

/-- 'laws.FnExactLongestRing': WHATEVER THE INPUT: true; the input reads as it did. -/
def fnExactLongestRingSpec : ChangeSpec := { name := "fnExactLongestRing", fn := fun _ => fun
  | [d] => { results := [.lit (.bool true)], args := [d] }
  | _ => none }
def fnExactLongestRingRow : OpenClaim := { program := "ytkmgcmgnaeamaaa", sum := "e5912dbcf0d5041950f81a1b35fea52ad96d981895f6bd56e2c718d82398b47a", func := "loop.example/g01217/laws.FnExactLongestRing", spec := "fnExactLongestRing", inPlace := ["internal/bytealg.CountString", "internal/bytealg.IndexByteString", "internal/bytealg.IndexString"], unfollowed := true, recurses := true, named := ["internal/bytealg.MaxLen"], plainKeys := false, apart := false }
def FnExactLongestRingSaid : Prop := fnExactLongestRingRow.holds Try.pinned (OpenSpec.ofChange fnExactLongestRingSpec)

/-- ITS FALSE NEIGHBOUR: 'it returns false'. Refute it at one input. -/
def fnExactLongestRingWrong : ChangeSpec := { name := "fnExactLongestRing", fn := fun _ => fun
  | [d] => { results := [.lit (.bool false)], args := [d] }
  | _ => none }
def FnExactLongestRingWrongFalsely : Prop := fnExactLongestRingRow.holds Try.pinned (OpenSpec.ofChange fnExactLongestRingWrong)

/-- 'laws.FnExactRingBoxes': WHATEVER THE INPUT: true; the input reads as it did. -/
def fnExactRingBoxesSpec : ChangeSpec := { name := "fnExactRingBoxes", fn := fun _ => fun
  | [d] => { results := [.lit (.bool true)], args := [d] }
  | _ => none }
def fnExactRingBoxesRow : OpenClaim := { program := "ytkmgcmgnaeamaaa", sum := "e5912dbcf0d5041950f81a1b35fea52ad96d981895f6bd56e2c718d82398b47a", func := "loop.example/g01217/laws.FnExactRingBoxes", spec := "fnExactRingBoxes", inPlace := ["internal/bytealg.CountString", "internal/bytealg.IndexByteString", "internal/bytealg.IndexString"], unfollowed := true, recurses := true, named := ["internal/bytealg.MaxLen"], plainKeys := false, apart := false }
def FnExactRingBoxesSaid : Prop := fnExactRingBoxesRow.holds Try.pinned (OpenSpec.ofChange fnExactRingBoxesSpec)

/-- ITS FALSE NEIGHBOUR: 'it returns false'. Refute it at one input. -/
def fnExactRingBoxesWrong : ChangeSpec := { name := "fnExactRingBoxes", fn := fun _ => fun
  | [d] => { results := [.lit (.bool false)], args := [d] }
  | _ => none }
def FnExactRingBoxesWrongFalsely : Prop := fnExactRingBoxesRow.holds Try.pinned (OpenSpec.ofChange fnExactRingBoxesWrong)

/-- 'laws.FnExactCountEnds': WHATEVER THE INPUT: true; the input reads as it did. -/
def fnExactCountEndsSpec : ChangeSpec := { name := "fnExactCountEnds", fn := fun _ => fun
  | [d] => { results := [.lit (.bool true)], args := [d] }
  | _ => none }
def fnExactCountEndsRow : OpenClaim := { program := "ytkmgcmgnaeamaaa", sum := "e5912dbcf0d5041950f81a1b35fea52ad96d981895f6bd56e2c718d82398b47a", func := "loop.example/g01217/laws.FnExactCountEnds", spec := "fnExactCountEnds", inPlace := ["internal/bytealg.CountString", "internal/bytealg.IndexByteString", "internal/bytealg.IndexString"], unfollowed := true, recurses := true, named := ["internal/bytealg.MaxLen"], plainKeys := false, apart := false }
def FnExactCountEndsSaid : Prop := fnExactCountEndsRow.holds Try.pinned (OpenSpec.ofChange fnExactCountEndsSpec)

/-- ITS FALSE NEIGHBOUR: 'it returns false'. Refute it at one input. -/
def fnExactCountEndsWrong : ChangeSpec := { name := "fnExactCountEnds", fn := fun _ => fun
  | [d] => { results := [.lit (.bool false)], args := [d] }
  | _ => none }
def FnExactCountEndsWrongFalsely : Prop := fnExactCountEndsRow.holds Try.pinned (OpenSpec.ofChange fnExactCountEndsWrong)

/-- 'laws.FnExactFarthestEnd': WHATEVER THE INPUT: true; the input reads as it did. -/
def fnExactFarthestEndSpec : ChangeSpec := { name := "fnExactFarthestEnd", fn := fun _ => fun
  | [d] => { results := [.lit (.bool true)], args := [d] }
  | _ => none }
def fnExactFarthestEndRow : OpenClaim := { program := "ytkmgcmgnaeamaaa", sum := "e5912dbcf0d5041950f81a1b35fea52ad96d981895f6bd56e2c718d82398b47a", func := "loop.example/g01217/laws.FnExactFarthestEnd", spec := "fnExactFarthestEnd", inPlace := ["internal/bytealg.CountString", "internal/bytealg.IndexByteString", "internal/bytealg.IndexString"], unfollowed := true, recurses := true, named := ["internal/bytealg.MaxLen"], plainKeys := false, apart := false }
def FnExactFarthestEndSaid : Prop := fnExactFarthestEndRow.holds Try.pinned (OpenSpec.ofChange fnExactFarthestEndSpec)

/-- ITS FALSE NEIGHBOUR: 'it returns false'. Refute it at one input. -/
def fnExactFarthestEndWrong : ChangeSpec := { name := "fnExactFarthestEnd", fn := fun _ => fun
  | [d] => { results := [.lit (.bool false)], args := [d] }
  | _ => none }
def FnExactFarthestEndWrongFalsely : Prop := fnExactFarthestEndRow.holds Try.pinned (OpenSpec.ofChange fnExactFarthestEndWrong)

/-- 'laws.FnExactAddBoxes': WHATEVER THE INPUT: true; the input reads as it did. -/
def fnExactAddBoxesSpec : ChangeSpec := { name := "fnExactAddBoxes", fn := fun _ => fun
  | [d1, d2] => { results := [.lit (.bool true)], args := [d1, d2] }
  | _ => none }
def fnExactAddBoxesRow : OpenClaim := { program := "ytkmgcmgnaeamaaa", sum := "e5912dbcf0d5041950f81a1b35fea52ad96d981895f6bd56e2c718d82398b47a", func := "loop.example/g01217/laws.FnExactAddBoxes", spec := "fnExactAddBoxes", plainKeys := false, apart := false }
def FnExactAddBoxesSaid : Prop := fnExactAddBoxesRow.holds Try.pinned (OpenSpec.ofChange fnExactAddBoxesSpec)

/-- ITS FALSE NEIGHBOUR: 'it returns false'. Refute it at one input. -/
def fnExactAddBoxesWrong : ChangeSpec := { name := "fnExactAddBoxes", fn := fun _ => fun
  | [d1, d2] => { results := [.lit (.bool false)], args := [d1, d2] }
  | _ => none }
def FnExactAddBoxesWrongFalsely : Prop := fnExactAddBoxesRow.holds Try.pinned (OpenSpec.ofChange fnExactAddBoxesWrong)

/-- 'laws.FnExactPriceOf': WHATEVER THE INPUT: true; the input reads as it did. -/
def fnExactPriceOfSpec : ChangeSpec := { name := "fnExactPriceOf", fn := fun _ => fun
  | [d1, d2, d3] => { results := [.lit (.bool true)], args := [d1, d2, d3] }
  | _ => none }
def fnExactPriceOfRow : OpenClaim := { program := "ytkmgcmgnaeamaaa", sum := "e5912dbcf0d5041950f81a1b35fea52ad96d981895f6bd56e2c718d82398b47a", func := "loop.example/g01217/laws.FnExactPriceOf", spec := "fnExactPriceOf", plainKeys := false, apart := false }
def FnExactPriceOfSaid : Prop := fnExactPriceOfRow.holds Try.pinned (OpenSpec.ofChange fnExactPriceOfSpec)

/-- ITS FALSE NEIGHBOUR: 'it returns false'. Refute it at one input. -/
def fnExactPriceOfWrong : ChangeSpec := { name := "fnExactPriceOf", fn := fun _ => fun
  | [d1, d2, d3] => { results := [.lit (.bool false)], args := [d1, d2, d3] }
  | _ => none }
def FnExactPriceOfWrongFalsely : Prop := fnExactPriceOfRow.holds Try.pinned (OpenSpec.ofChange fnExactPriceOfWrong)

/-- 'laws.FnExactCheapestRing': WHATEVER THE INPUT: true; the input reads as it did. -/
def fnExactCheapestRingSpec : ChangeSpec := { name := "fnExactCheapestRing", fn := fun _ => fun
  | [d1, d2, d3] => { results := [.lit (.bool true)], args := [d1, d2, d3] }
  | _ => none }
def fnExactCheapestRingRow : OpenClaim := { program := "ytkmgcmgnaeamaaa", sum := "e5912dbcf0d5041950f81a1b35fea52ad96d981895f6bd56e2c718d82398b47a", func := "loop.example/g01217/laws.FnExactCheapestRing", spec := "fnExactCheapestRing", inPlace := ["internal/bytealg.CountString", "internal/bytealg.IndexByteString", "internal/bytealg.IndexString"], unfollowed := true, recurses := true, named := ["internal/bytealg.MaxLen"], plainKeys := false, apart := false }
def FnExactCheapestRingSaid : Prop := fnExactCheapestRingRow.holds Try.pinned (OpenSpec.ofChange fnExactCheapestRingSpec)

/-- ITS FALSE NEIGHBOUR: 'it returns false'. Refute it at one input. -/
def fnExactCheapestRingWrong : ChangeSpec := { name := "fnExactCheapestRing", fn := fun _ => fun
  | [d1, d2, d3] => { results := [.lit (.bool false)], args := [d1, d2, d3] }
  | _ => none }
def FnExactCheapestRingWrongFalsely : Prop := fnExactCheapestRingRow.holds Try.pinned (OpenSpec.ofChange fnExactCheapestRingWrong)

/- THE SECOND FORM. 'bulk': how many values and letters a reading holds, each counted each time it is reached (what is shared counts as often as it is met; a slice's spare places count too). A statement '..UptoSaid' is the law's where the arguments, and the package variables that the reading takes, are together of bulk at most 1048576: NARROWER than '..Said'. Prove '..Said' where nothing that the law and all that it calls make is longer than what came in: it says more and counts as full. Else prove '..UptoSaid'. A law counts once. -/
mutual
def uptoBulk {H : Type} : DataW H → Nat
  | .lit (.string bytes) => bytes.length + 1
  | .lit _ => 1
  | .nil => 1
  | .ptr d => uptoBulk d + 1
  | .slice elems spare => uptoBulkAll elems + uptoBulkAll spare + 1
  | .agg parts => uptoBulkAll parts + 1
  | .iface _ d => uptoBulk d + 1
  | .map entries => uptoBulkEntries entries + 1
  | .held _ => 1
def uptoBulkAll {H : Type} : List (DataW H) → Nat
  | [] => 0
  | d :: r => uptoBulk d + uptoBulkAll r
def uptoBulkEntries {H : Type} : List (Lit × DataW H) → Nat
  | [] => 0
  | x :: r => uptoBulkEntry x + uptoBulkEntries r
def uptoBulkEntry {H : Type} : Lit × DataW H → Nat
  | (.string bytes, d) => bytes.length + uptoBulk d + 1
  | (_, d) => uptoBulk d + 1
 end
def uptoSmall : (H : Type) → List (DataW H) → Bool := fun _ ds => decide (uptoBulkAll ds ≤ 1048576)
def OpenSpec.upto (s : _root_.Go.ChangeSpec) : _root_.Go.OpenSpec := { _root_.Go.OpenSpec.ofChange s with cond := some uptoSmall }

/-- 'laws.FnExactIsBox', WHERE WHAT IT READS IS OF BULK AT MOST 1048576: true; the input reads as it did. -/
def fnExactIsBoxUptoRow : OpenClaim := { program := "ytkmgcmgnaeamaaa", sum := "e5912dbcf0d5041950f81a1b35fea52ad96d981895f6bd56e2c718d82398b47a", func := "loop.example/g01217/laws.FnExactIsBox", spec := "fnExactIsBox", plainKeys := false, apart := false, narrowed := true }
def FnExactIsBoxUptoSaid : Prop := fnExactIsBoxUptoRow.holds Try.pinned (OpenSpec.upto fnExactIsBoxSpec)

/-- 'laws.FnExactBoxOf', WHERE WHAT IT READS IS OF BULK AT MOST 1048576: true; the input reads as it did. -/
def fnExactBoxOfUptoRow : OpenClaim := { program := "ytkmgcmgnaeamaaa", sum := "e5912dbcf0d5041950f81a1b35fea52ad96d981895f6bd56e2c718d82398b47a", func := "loop.example/g01217/laws.FnExactBoxOf", spec := "fnExactBoxOf", inPlace := ["internal/bytealg.CountString", "internal/bytealg.IndexByteString", "internal/bytealg.IndexString"], named := ["internal/bytealg.MaxLen"], plainKeys := false, apart := false, narrowed := true }
def FnExactBoxOfUptoSaid : Prop := fnExactBoxOfUptoRow.holds Try.pinned (OpenSpec.upto fnExactBoxOfSpec)

/-- 'laws.FnExactCanLay', WHERE WHAT IT READS IS OF BULK AT MOST 1048576: true; the input reads as it did. -/
def fnExactCanLayUptoRow : OpenClaim := { program := "ytkmgcmgnaeamaaa", sum := "e5912dbcf0d5041950f81a1b35fea52ad96d981895f6bd56e2c718d82398b47a", func := "loop.example/g01217/laws.FnExactCanLay", spec := "fnExactCanLay", inPlace := ["internal/bytealg.CountString", "internal/bytealg.IndexByteString", "internal/bytealg.IndexString"], named := ["internal/bytealg.MaxLen"], plainKeys := false, apart := false, narrowed := true }
def FnExactCanLayUptoSaid : Prop := fnExactCanLayUptoRow.holds Try.pinned (OpenSpec.upto fnExactCanLaySpec)

/-- 'laws.FnExactMissingFor', WHERE WHAT IT READS IS OF BULK AT MOST 1048576: true; the input reads as it did. -/
def fnExactMissingForUptoRow : OpenClaim := { program := "ytkmgcmgnaeamaaa", sum := "e5912dbcf0d5041950f81a1b35fea52ad96d981895f6bd56e2c718d82398b47a", func := "loop.example/g01217/laws.FnExactMissingFor", spec := "fnExactMissingFor", inPlace := ["internal/bytealg.CountString", "internal/bytealg.IndexByteString", "internal/bytealg.IndexString"], named := ["internal/bytealg.MaxLen"], plainKeys := false, apart := false, narrowed := true }
def FnExactMissingForUptoSaid : Prop := fnExactMissingForUptoRow.holds Try.pinned (OpenSpec.upto fnExactMissingForSpec)

/-- 'laws.FnExactEnoughFor', WHERE WHAT IT READS IS OF BULK AT MOST 1048576: true; the input reads as it did. -/
def fnExactEnoughForUptoRow : OpenClaim := { program := "ytkmgcmgnaeamaaa", sum := "e5912dbcf0d5041950f81a1b35fea52ad96d981895f6bd56e2c718d82398b47a", func := "loop.example/g01217/laws.FnExactEnoughFor", spec := "fnExactEnoughFor", inPlace := ["internal/bytealg.CountString", "internal/bytealg.IndexByteString", "internal/bytealg.IndexString"], named := ["internal/bytealg.MaxLen"], plainKeys := false, apart := false, narrowed := true }
def FnExactEnoughForUptoSaid : Prop := fnExactEnoughForUptoRow.holds Try.pinned (OpenSpec.upto fnExactEnoughForSpec)

/-- 'laws.FnExactCountTracks', WHERE WHAT IT READS IS OF BULK AT MOST 1048576: true; the input reads as it did. -/
def fnExactCountTracksUptoRow : OpenClaim := { program := "ytkmgcmgnaeamaaa", sum := "e5912dbcf0d5041950f81a1b35fea52ad96d981895f6bd56e2c718d82398b47a", func := "loop.example/g01217/laws.FnExactCountTracks", spec := "fnExactCountTracks", plainKeys := false, apart := false, narrowed := true }
def FnExactCountTracksUptoSaid : Prop := fnExactCountTracksUptoRow.holds Try.pinned (OpenSpec.upto fnExactCountTracksSpec)

/-- 'laws.FnExactLongestRing', WHERE WHAT IT READS IS OF BULK AT MOST 1048576: true; the input reads as it did. -/
def fnExactLongestRingUptoRow : OpenClaim := { program := "ytkmgcmgnaeamaaa", sum := "e5912dbcf0d5041950f81a1b35fea52ad96d981895f6bd56e2c718d82398b47a", func := "loop.example/g01217/laws.FnExactLongestRing", spec := "fnExactLongestRing", inPlace := ["internal/bytealg.CountString", "internal/bytealg.IndexByteString", "internal/bytealg.IndexString"], unfollowed := true, recurses := true, named := ["internal/bytealg.MaxLen"], plainKeys := false, apart := false, narrowed := true }
def FnExactLongestRingUptoSaid : Prop := fnExactLongestRingUptoRow.holds Try.pinned (OpenSpec.upto fnExactLongestRingSpec)

/-- 'laws.FnExactRingBoxes', WHERE WHAT IT READS IS OF BULK AT MOST 1048576: true; the input reads as it did. -/
def fnExactRingBoxesUptoRow : OpenClaim := { program := "ytkmgcmgnaeamaaa", sum := "e5912dbcf0d5041950f81a1b35fea52ad96d981895f6bd56e2c718d82398b47a", func := "loop.example/g01217/laws.FnExactRingBoxes", spec := "fnExactRingBoxes", inPlace := ["internal/bytealg.CountString", "internal/bytealg.IndexByteString", "internal/bytealg.IndexString"], unfollowed := true, recurses := true, named := ["internal/bytealg.MaxLen"], plainKeys := false, apart := false, narrowed := true }
def FnExactRingBoxesUptoSaid : Prop := fnExactRingBoxesUptoRow.holds Try.pinned (OpenSpec.upto fnExactRingBoxesSpec)

/-- 'laws.FnExactCountEnds', WHERE WHAT IT READS IS OF BULK AT MOST 1048576: true; the input reads as it did. -/
def fnExactCountEndsUptoRow : OpenClaim := { program := "ytkmgcmgnaeamaaa", sum := "e5912dbcf0d5041950f81a1b35fea52ad96d981895f6bd56e2c718d82398b47a", func := "loop.example/g01217/laws.FnExactCountEnds", spec := "fnExactCountEnds", inPlace := ["internal/bytealg.CountString", "internal/bytealg.IndexByteString", "internal/bytealg.IndexString"], unfollowed := true, recurses := true, named := ["internal/bytealg.MaxLen"], plainKeys := false, apart := false, narrowed := true }
def FnExactCountEndsUptoSaid : Prop := fnExactCountEndsUptoRow.holds Try.pinned (OpenSpec.upto fnExactCountEndsSpec)

/-- 'laws.FnExactFarthestEnd', WHERE WHAT IT READS IS OF BULK AT MOST 1048576: true; the input reads as it did. -/
def fnExactFarthestEndUptoRow : OpenClaim := { program := "ytkmgcmgnaeamaaa", sum := "e5912dbcf0d5041950f81a1b35fea52ad96d981895f6bd56e2c718d82398b47a", func := "loop.example/g01217/laws.FnExactFarthestEnd", spec := "fnExactFarthestEnd", inPlace := ["internal/bytealg.CountString", "internal/bytealg.IndexByteString", "internal/bytealg.IndexString"], unfollowed := true, recurses := true, named := ["internal/bytealg.MaxLen"], plainKeys := false, apart := false, narrowed := true }
def FnExactFarthestEndUptoSaid : Prop := fnExactFarthestEndUptoRow.holds Try.pinned (OpenSpec.upto fnExactFarthestEndSpec)

/-- 'laws.FnExactAddBoxes', WHERE WHAT IT READS IS OF BULK AT MOST 1048576: true; the input reads as it did. -/
def fnExactAddBoxesUptoRow : OpenClaim := { program := "ytkmgcmgnaeamaaa", sum := "e5912dbcf0d5041950f81a1b35fea52ad96d981895f6bd56e2c718d82398b47a", func := "loop.example/g01217/laws.FnExactAddBoxes", spec := "fnExactAddBoxes", plainKeys := false, apart := false, narrowed := true }
def FnExactAddBoxesUptoSaid : Prop := fnExactAddBoxesUptoRow.holds Try.pinned (OpenSpec.upto fnExactAddBoxesSpec)

/-- 'laws.FnExactPriceOf', WHERE WHAT IT READS IS OF BULK AT MOST 1048576: true; the input reads as it did. -/
def fnExactPriceOfUptoRow : OpenClaim := { program := "ytkmgcmgnaeamaaa", sum := "e5912dbcf0d5041950f81a1b35fea52ad96d981895f6bd56e2c718d82398b47a", func := "loop.example/g01217/laws.FnExactPriceOf", spec := "fnExactPriceOf", plainKeys := false, apart := false, narrowed := true }
def FnExactPriceOfUptoSaid : Prop := fnExactPriceOfUptoRow.holds Try.pinned (OpenSpec.upto fnExactPriceOfSpec)

/-- 'laws.FnExactCheapestRing', WHERE WHAT IT READS IS OF BULK AT MOST 1048576: true; the input reads as it did. -/
def fnExactCheapestRingUptoRow : OpenClaim := { program := "ytkmgcmgnaeamaaa", sum := "e5912dbcf0d5041950f81a1b35fea52ad96d981895f6bd56e2c718d82398b47a", func := "loop.example/g01217/laws.FnExactCheapestRing", spec := "fnExactCheapestRing", inPlace := ["internal/bytealg.CountString", "internal/bytealg.IndexByteString", "internal/bytealg.IndexString"], unfollowed := true, recurses := true, named := ["internal/bytealg.MaxLen"], plainKeys := false, apart := false, narrowed := true }
def FnExactCheapestRingUptoSaid : Prop := fnExactCheapestRingUptoRow.holds Try.pinned (OpenSpec.upto fnExactCheapestRingSpec)

end Rows
end Go.Proofs.Ytkmgcmgnaeamaaa
