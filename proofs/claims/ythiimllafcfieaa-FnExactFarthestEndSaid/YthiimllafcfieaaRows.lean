/-
  No cell of these rows narrows 'for every input' (looked for: loops, veiled, ifaces, maps, wideKeys, modest, calm, conditions, laid).
  DERIVED. THE GIVEN ROWS OF THIS SEAT. 12 by the template 'for every input the law returns true; each argument reads behind the call as it read before'; 0 by the template 'total and deterministic' (their statements: YthiimllafcfieaaTotals.lean).
  GIVEN WITH THE SEED: the statements are not yours to turn. If you find one false, say at which input.
  Laid BY PROGRAM, IN A SANDBOX (cutbox-rows.mjs): the forced cells as the released guide's own fill.sh prints them over the translation b948eada8729d5b5… (all of the seat's roots in one cut). By AI agents, Wed Nov 11 2026. No macro, syntax, notation, axiom, sorry.
-/
import Derived.Test.YthiimllafcfieaaChecked
import GoSem.Claim
import GoSem.ClaimJoined
import GoSem.ClaimMapViews
import Derived.JoinedTies
import Derived.KernelRfl
namespace Go.Proofs.Ythiimllafcfieaa
/- THE CELL 'sum', in the pinned program and in every row, IS THE sha256 OF THE DUMP (.gsa) THAT YthiimllafcfieaaProg.lean LOADS. Nothing in Lean hashes anything: it is a label: what it is worth is what the hold of that sum in a sandbox is worth. -/
noncomputable def Try.pinned : Pinned := { name := "ythiimllafcfieaa", sum := "b948eada8729d5b529e716f2e4e844524f15c1edb6fa130144d1feb96437417d", checked := Try.checked }
namespace Rows
def none {H : Type} : Left H := { results := [], args := [] }

/-- 'laws.FnExactFirstClosed': WHATEVER THE INPUT: true; the input reads as it did. -/
def fnExactFirstClosedSpec : ChangeSpec := { name := "fnExactFirstClosed", fn := fun _ => fun
  | [d] => { results := [.lit (.bool true)], args := [d] }
  | _ => none }
def fnExactFirstClosedRow : OpenClaim := { program := "ythiimllafcfieaa", sum := "b948eada8729d5b529e716f2e4e844524f15c1edb6fa130144d1feb96437417d", func := "loop.example/g01217/laws.FnExactFirstClosed", spec := "fnExactFirstClosed", unfollowed := true, recurses := true, plainKeys := false, apart := false }
def FnExactFirstClosedSaid : Prop := fnExactFirstClosedRow.holds Try.pinned (OpenSpec.ofChange fnExactFirstClosedSpec)

/-- ITS FALSE NEIGHBOUR: 'it returns false'. Refute it at one input. -/
def fnExactFirstClosedWrong : ChangeSpec := { name := "fnExactFirstClosed", fn := fun _ => fun
  | [d] => { results := [.lit (.bool false)], args := [d] }
  | _ => none }
def FnExactFirstClosedWrongFalsely : Prop := fnExactFirstClosedRow.holds Try.pinned (OpenSpec.ofChange fnExactFirstClosedWrong)

/-- 'laws.FnExactClosedTracks': WHATEVER THE INPUT: true; the input reads as it did. -/
def fnExactClosedTracksSpec : ChangeSpec := { name := "fnExactClosedTracks", fn := fun _ => fun
  | [d] => { results := [.lit (.bool true)], args := [d] }
  | _ => none }
def fnExactClosedTracksRow : OpenClaim := { program := "ythiimllafcfieaa", sum := "b948eada8729d5b529e716f2e4e844524f15c1edb6fa130144d1feb96437417d", func := "loop.example/g01217/laws.FnExactClosedTracks", spec := "fnExactClosedTracks", unfollowed := true, recurses := true, plainKeys := false, apart := false }
def FnExactClosedTracksSaid : Prop := fnExactClosedTracksRow.holds Try.pinned (OpenSpec.ofChange fnExactClosedTracksSpec)

/-- ITS FALSE NEIGHBOUR: 'it returns false'. Refute it at one input. -/
def fnExactClosedTracksWrong : ChangeSpec := { name := "fnExactClosedTracks", fn := fun _ => fun
  | [d] => { results := [.lit (.bool false)], args := [d] }
  | _ => none }
def FnExactClosedTracksWrongFalsely : Prop := fnExactClosedTracksRow.holds Try.pinned (OpenSpec.ofChange fnExactClosedTracksWrong)

/-- 'laws.FnExactCountCompletions': WHATEVER THE INPUT: true; the input reads as it did. -/
def fnExactCountCompletionsSpec : ChangeSpec := { name := "fnExactCountCompletions", fn := fun _ => fun
  | [d1, d2] => { results := [.lit (.bool true)], args := [d1, d2] }
  | _ => none }
def fnExactCountCompletionsRow : OpenClaim := { program := "ythiimllafcfieaa", sum := "b948eada8729d5b529e716f2e4e844524f15c1edb6fa130144d1feb96437417d", func := "loop.example/g01217/laws.FnExactCountCompletions", spec := "fnExactCountCompletions", unfollowed := true, recurses := true, plainKeys := false, apart := false }
def FnExactCountCompletionsSaid : Prop := fnExactCountCompletionsRow.holds Try.pinned (OpenSpec.ofChange fnExactCountCompletionsSpec)

/-- ITS FALSE NEIGHBOUR: 'it returns false'. Refute it at one input. -/
def fnExactCountCompletionsWrong : ChangeSpec := { name := "fnExactCountCompletions", fn := fun _ => fun
  | [d1, d2] => { results := [.lit (.bool false)], args := [d1, d2] }
  | _ => none }
def FnExactCountCompletionsWrongFalsely : Prop := fnExactCountCompletionsRow.holds Try.pinned (OpenSpec.ofChange fnExactCountCompletionsWrong)

/-- 'laws.FnExactFirstCompletion': WHATEVER THE INPUT: true; the input reads as it did. -/
def fnExactFirstCompletionSpec : ChangeSpec := { name := "fnExactFirstCompletion", fn := fun _ => fun
  | [d1, d2] => { results := [.lit (.bool true)], args := [d1, d2] }
  | _ => none }
def fnExactFirstCompletionRow : OpenClaim := { program := "ythiimllafcfieaa", sum := "b948eada8729d5b529e716f2e4e844524f15c1edb6fa130144d1feb96437417d", func := "loop.example/g01217/laws.FnExactFirstCompletion", spec := "fnExactFirstCompletion", unfollowed := true, recurses := true, plainKeys := false, apart := false }
def FnExactFirstCompletionSaid : Prop := fnExactFirstCompletionRow.holds Try.pinned (OpenSpec.ofChange fnExactFirstCompletionSpec)

/-- ITS FALSE NEIGHBOUR: 'it returns false'. Refute it at one input. -/
def fnExactFirstCompletionWrong : ChangeSpec := { name := "fnExactFirstCompletion", fn := fun _ => fun
  | [d1, d2] => { results := [.lit (.bool false)], args := [d1, d2] }
  | _ => none }
def FnExactFirstCompletionWrongFalsely : Prop := fnExactFirstCompletionRow.holds Try.pinned (OpenSpec.ofChange fnExactFirstCompletionWrong)

/-- 'laws.FnExactLeastToClose': WHATEVER THE INPUT: true; the input reads as it did. -/
def fnExactLeastToCloseSpec : ChangeSpec := { name := "fnExactLeastToClose", fn := fun _ => fun
  | [d] => { results := [.lit (.bool true)], args := [d] }
  | _ => none }
def fnExactLeastToCloseRow : OpenClaim := { program := "ythiimllafcfieaa", sum := "b948eada8729d5b529e716f2e4e844524f15c1edb6fa130144d1feb96437417d", func := "loop.example/g01217/laws.FnExactLeastToClose", spec := "fnExactLeastToClose", unfollowed := true, recurses := true, plainKeys := false, apart := false }
def FnExactLeastToCloseSaid : Prop := fnExactLeastToCloseRow.holds Try.pinned (OpenSpec.ofChange fnExactLeastToCloseSpec)

/-- ITS FALSE NEIGHBOUR: 'it returns false'. Refute it at one input. -/
def fnExactLeastToCloseWrong : ChangeSpec := { name := "fnExactLeastToClose", fn := fun _ => fun
  | [d] => { results := [.lit (.bool false)], args := [d] }
  | _ => none }
def FnExactLeastToCloseWrongFalsely : Prop := fnExactLeastToCloseRow.holds Try.pinned (OpenSpec.ofChange fnExactLeastToCloseWrong)

/-- 'laws.FnExactClosingPieces': WHATEVER THE INPUT: true; the input reads as it did. -/
def fnExactClosingPiecesSpec : ChangeSpec := { name := "fnExactClosingPieces", fn := fun _ => fun
  | [d] => { results := [.lit (.bool true)], args := [d] }
  | _ => none }
def fnExactClosingPiecesRow : OpenClaim := { program := "ythiimllafcfieaa", sum := "b948eada8729d5b529e716f2e4e844524f15c1edb6fa130144d1feb96437417d", func := "loop.example/g01217/laws.FnExactClosingPieces", spec := "fnExactClosingPieces", unfollowed := true, recurses := true, plainKeys := false, apart := false }
def FnExactClosingPiecesSaid : Prop := fnExactClosingPiecesRow.holds Try.pinned (OpenSpec.ofChange fnExactClosingPiecesSpec)

/-- ITS FALSE NEIGHBOUR: 'it returns false'. Refute it at one input. -/
def fnExactClosingPiecesWrong : ChangeSpec := { name := "fnExactClosingPieces", fn := fun _ => fun
  | [d] => { results := [.lit (.bool false)], args := [d] }
  | _ => none }
def FnExactClosingPiecesWrongFalsely : Prop := fnExactClosingPiecesRow.holds Try.pinned (OpenSpec.ofChange fnExactClosingPiecesWrong)

/-- 'laws.FnExactHalfTurns': WHATEVER THE INPUT: true; the input reads as it did. -/
def fnExactHalfTurnsSpec : ChangeSpec := { name := "fnExactHalfTurns", fn := fun _ => fun
  | [d] => { results := [.lit (.bool true)], args := [d] }
  | _ => none }
def fnExactHalfTurnsRow : OpenClaim := { program := "ythiimllafcfieaa", sum := "b948eada8729d5b529e716f2e4e844524f15c1edb6fa130144d1feb96437417d", func := "loop.example/g01217/laws.FnExactHalfTurns", spec := "fnExactHalfTurns", unfollowed := true, recurses := true, plainKeys := false, apart := false }
def FnExactHalfTurnsSaid : Prop := fnExactHalfTurnsRow.holds Try.pinned (OpenSpec.ofChange fnExactHalfTurnsSpec)

/-- ITS FALSE NEIGHBOUR: 'it returns false'. Refute it at one input. -/
def fnExactHalfTurnsWrong : ChangeSpec := { name := "fnExactHalfTurns", fn := fun _ => fun
  | [d] => { results := [.lit (.bool false)], args := [d] }
  | _ => none }
def FnExactHalfTurnsWrongFalsely : Prop := fnExactHalfTurnsRow.holds Try.pinned (OpenSpec.ofChange fnExactHalfTurnsWrong)

/-- 'laws.FnExactLongestRing': WHATEVER THE INPUT: true; the input reads as it did. -/
def fnExactLongestRingSpec : ChangeSpec := { name := "fnExactLongestRing", fn := fun _ => fun
  | [d] => { results := [.lit (.bool true)], args := [d] }
  | _ => none }
def fnExactLongestRingRow : OpenClaim := { program := "ythiimllafcfieaa", sum := "b948eada8729d5b529e716f2e4e844524f15c1edb6fa130144d1feb96437417d", func := "loop.example/g01217/laws.FnExactLongestRing", spec := "fnExactLongestRing", inPlace := ["internal/bytealg.CountString", "internal/bytealg.IndexByteString", "internal/bytealg.IndexString"], unfollowed := true, recurses := true, named := ["internal/bytealg.MaxLen"], plainKeys := false, apart := false }
def FnExactLongestRingSaid : Prop := fnExactLongestRingRow.holds Try.pinned (OpenSpec.ofChange fnExactLongestRingSpec)

/-- ITS FALSE NEIGHBOUR: 'it returns false'. Refute it at one input. -/
def fnExactLongestRingWrong : ChangeSpec := { name := "fnExactLongestRing", fn := fun _ => fun
  | [d] => { results := [.lit (.bool false)], args := [d] }
  | _ => none }
def FnExactLongestRingWrongFalsely : Prop := fnExactLongestRingRow.holds Try.pinned (OpenSpec.ofChange fnExactLongestRingWrong)

/-- 'laws.FnExactRingBoxes': WHATEVER THE INPUT: true; the input reads as it did. -/
def fnExactRingBoxesSpec : ChangeSpec := { name := "fnExactRingBoxes", fn := fun _ => fun
  | [d] => { results := [.lit (.bool true)], args := [d] }
  | _ => none }
def fnExactRingBoxesRow : OpenClaim := { program := "ythiimllafcfieaa", sum := "b948eada8729d5b529e716f2e4e844524f15c1edb6fa130144d1feb96437417d", func := "loop.example/g01217/laws.FnExactRingBoxes", spec := "fnExactRingBoxes", inPlace := ["internal/bytealg.CountString", "internal/bytealg.IndexByteString", "internal/bytealg.IndexString"], unfollowed := true, recurses := true, named := ["internal/bytealg.MaxLen"], plainKeys := false, apart := false }
def FnExactRingBoxesSaid : Prop := fnExactRingBoxesRow.holds Try.pinned (OpenSpec.ofChange fnExactRingBoxesSpec)

/-- ITS FALSE NEIGHBOUR: 'it returns false'. Refute it at one input. -/
def fnExactRingBoxesWrong : ChangeSpec := { name := "fnExactRingBoxes", fn := fun _ => fun
  | [d] => { results := [.lit (.bool false)], args := [d] }
  | _ => none }
def FnExactRingBoxesWrongFalsely : Prop := fnExactRingBoxesRow.holds Try.pinned (OpenSpec.ofChange fnExactRingBoxesWrong)

/-- 'laws.FnExactCountEnds': WHATEVER THE INPUT: true; the input reads as it did. -/
def fnExactCountEndsSpec : ChangeSpec := { name := "fnExactCountEnds", fn := fun _ => fun
  | [d] => { results := [.lit (.bool true)], args := [d] }
  | _ => none }
def fnExactCountEndsRow : OpenClaim := { program := "ythiimllafcfieaa", sum := "b948eada8729d5b529e716f2e4e844524f15c1edb6fa130144d1feb96437417d", func := "loop.example/g01217/laws.FnExactCountEnds", spec := "fnExactCountEnds", inPlace := ["internal/bytealg.CountString", "internal/bytealg.IndexByteString", "internal/bytealg.IndexString"], unfollowed := true, recurses := true, named := ["internal/bytealg.MaxLen"], plainKeys := false, apart := false }
def FnExactCountEndsSaid : Prop := fnExactCountEndsRow.holds Try.pinned (OpenSpec.ofChange fnExactCountEndsSpec)

/-- ITS FALSE NEIGHBOUR: 'it returns false'. Refute it at one input. -/
def fnExactCountEndsWrong : ChangeSpec := { name := "fnExactCountEnds", fn := fun _ => fun
  | [d] => { results := [.lit (.bool false)], args := [d] }
  | _ => none }
def FnExactCountEndsWrongFalsely : Prop := fnExactCountEndsRow.holds Try.pinned (OpenSpec.ofChange fnExactCountEndsWrong)

/-- 'laws.FnExactFarthestEnd': WHATEVER THE INPUT: true; the input reads as it did. -/
def fnExactFarthestEndSpec : ChangeSpec := { name := "fnExactFarthestEnd", fn := fun _ => fun
  | [d] => { results := [.lit (.bool true)], args := [d] }
  | _ => none }
def fnExactFarthestEndRow : OpenClaim := { program := "ythiimllafcfieaa", sum := "b948eada8729d5b529e716f2e4e844524f15c1edb6fa130144d1feb96437417d", func := "loop.example/g01217/laws.FnExactFarthestEnd", spec := "fnExactFarthestEnd", inPlace := ["internal/bytealg.CountString", "internal/bytealg.IndexByteString", "internal/bytealg.IndexString"], unfollowed := true, recurses := true, named := ["internal/bytealg.MaxLen"], plainKeys := false, apart := false }
def FnExactFarthestEndSaid : Prop := fnExactFarthestEndRow.holds Try.pinned (OpenSpec.ofChange fnExactFarthestEndSpec)

/-- ITS FALSE NEIGHBOUR: 'it returns false'. Refute it at one input. -/
def fnExactFarthestEndWrong : ChangeSpec := { name := "fnExactFarthestEnd", fn := fun _ => fun
  | [d] => { results := [.lit (.bool false)], args := [d] }
  | _ => none }
def FnExactFarthestEndWrongFalsely : Prop := fnExactFarthestEndRow.holds Try.pinned (OpenSpec.ofChange fnExactFarthestEndWrong)

/-- 'laws.FnExactCheapestRing': WHATEVER THE INPUT: true; the input reads as it did. -/
def fnExactCheapestRingSpec : ChangeSpec := { name := "fnExactCheapestRing", fn := fun _ => fun
  | [d1, d2, d3] => { results := [.lit (.bool true)], args := [d1, d2, d3] }
  | _ => none }
def fnExactCheapestRingRow : OpenClaim := { program := "ythiimllafcfieaa", sum := "b948eada8729d5b529e716f2e4e844524f15c1edb6fa130144d1feb96437417d", func := "loop.example/g01217/laws.FnExactCheapestRing", spec := "fnExactCheapestRing", inPlace := ["internal/bytealg.CountString", "internal/bytealg.IndexByteString", "internal/bytealg.IndexString"], unfollowed := true, recurses := true, named := ["internal/bytealg.MaxLen"], plainKeys := false, apart := false }
def FnExactCheapestRingSaid : Prop := fnExactCheapestRingRow.holds Try.pinned (OpenSpec.ofChange fnExactCheapestRingSpec)

/-- ITS FALSE NEIGHBOUR: 'it returns false'. Refute it at one input. -/
def fnExactCheapestRingWrong : ChangeSpec := { name := "fnExactCheapestRing", fn := fun _ => fun
  | [d1, d2, d3] => { results := [.lit (.bool false)], args := [d1, d2, d3] }
  | _ => none }
def FnExactCheapestRingWrongFalsely : Prop := fnExactCheapestRingRow.holds Try.pinned (OpenSpec.ofChange fnExactCheapestRingWrong)

/- THE SECOND FORM. 'bulk': how many values and letters a reading holds, each counted each time it is reached (what is shared counts as often as it is met; a slice's spare places count too). A statement '..UptoSaid' is the law's where the arguments, and the package variables that the reading takes, are together of bulk at most 1048576: NARROWER than '..Said'. Prove '..Said' where nothing that the law and all that it calls make is longer than what came in: it says more and counts as full. Else prove '..UptoSaid'. A law counts once. -/
mutual
def uptoBulk {H : Type} : DataW H → Nat
  | .lit (.string bytes) => bytes.length + 1
  | .lit _ => 1
  | .nil => 1
  | .ptr d => uptoBulk d + 1
  | .slice elems spare => uptoBulkAll elems + uptoBulkAll spare + 1
  | .agg parts => uptoBulkAll parts + 1
  | .iface _ d => uptoBulk d + 1
  | .map entries => uptoBulkEntries entries + 1
  | .held _ => 1
def uptoBulkAll {H : Type} : List (DataW H) → Nat
  | [] => 0
  | d :: r => uptoBulk d + uptoBulkAll r
def uptoBulkEntries {H : Type} : List (Lit × DataW H) → Nat
  | [] => 0
  | x :: r => uptoBulkEntry x + uptoBulkEntries r
def uptoBulkEntry {H : Type} : Lit × DataW H → Nat
  | (.string bytes, d) => bytes.length + uptoBulk d + 1
  | (_, d) => uptoBulk d + 1
 end
def uptoSmall : (H : Type) → List (DataW H) → Bool := fun _ ds => decide (uptoBulkAll ds ≤ 1048576)
def OpenSpec.upto (s : _root_.Go.ChangeSpec) : _root_.Go.OpenSpec := { _root_.Go.OpenSpec.ofChange s with cond := some uptoSmall }

/-- 'laws.FnExactFirstClosed', WHERE WHAT IT READS IS OF BULK AT MOST 1048576: true; the input reads as it did. -/
def fnExactFirstClosedUptoRow : OpenClaim := { program := "ythiimllafcfieaa", sum := "b948eada8729d5b529e716f2e4e844524f15c1edb6fa130144d1feb96437417d", func := "loop.example/g01217/laws.FnExactFirstClosed", spec := "fnExactFirstClosed", unfollowed := true, recurses := true, plainKeys := false, apart := false, narrowed := true }
def FnExactFirstClosedUptoSaid : Prop := fnExactFirstClosedUptoRow.holds Try.pinned (OpenSpec.upto fnExactFirstClosedSpec)

/-- 'laws.FnExactClosedTracks', WHERE WHAT IT READS IS OF BULK AT MOST 1048576: true; the input reads as it did. -/
def fnExactClosedTracksUptoRow : OpenClaim := { program := "ythiimllafcfieaa", sum := "b948eada8729d5b529e716f2e4e844524f15c1edb6fa130144d1feb96437417d", func := "loop.example/g01217/laws.FnExactClosedTracks", spec := "fnExactClosedTracks", unfollowed := true, recurses := true, plainKeys := false, apart := false, narrowed := true }
def FnExactClosedTracksUptoSaid : Prop := fnExactClosedTracksUptoRow.holds Try.pinned (OpenSpec.upto fnExactClosedTracksSpec)

/-- 'laws.FnExactCountCompletions', WHERE WHAT IT READS IS OF BULK AT MOST 1048576: true; the input reads as it did. -/
def fnExactCountCompletionsUptoRow : OpenClaim := { program := "ythiimllafcfieaa", sum := "b948eada8729d5b529e716f2e4e844524f15c1edb6fa130144d1feb96437417d", func := "loop.example/g01217/laws.FnExactCountCompletions", spec := "fnExactCountCompletions", unfollowed := true, recurses := true, plainKeys := false, apart := false, narrowed := true }
def FnExactCountCompletionsUptoSaid : Prop := fnExactCountCompletionsUptoRow.holds Try.pinned (OpenSpec.upto fnExactCountCompletionsSpec)

/-- 'laws.FnExactFirstCompletion', WHERE WHAT IT READS IS OF BULK AT MOST 1048576: true; the input reads as it did. -/
def fnExactFirstCompletionUptoRow : OpenClaim := { program := "ythiimllafcfieaa", sum := "b948eada8729d5b529e716f2e4e844524f15c1edb6fa130144d1feb96437417d", func := "loop.example/g01217/laws.FnExactFirstCompletion", spec := "fnExactFirstCompletion", unfollowed := true, recurses := true, plainKeys := false, apart := false, narrowed := true }
def FnExactFirstCompletionUptoSaid : Prop := fnExactFirstCompletionUptoRow.holds Try.pinned (OpenSpec.upto fnExactFirstCompletionSpec)

/-- 'laws.FnExactLeastToClose', WHERE WHAT IT READS IS OF BULK AT MOST 1048576: true; the input reads as it did. -/
def fnExactLeastToCloseUptoRow : OpenClaim := { program := "ythiimllafcfieaa", sum := "b948eada8729d5b529e716f2e4e844524f15c1edb6fa130144d1feb96437417d", func := "loop.example/g01217/laws.FnExactLeastToClose", spec := "fnExactLeastToClose", unfollowed := true, recurses := true, plainKeys := false, apart := false, narrowed := true }
def FnExactLeastToCloseUptoSaid : Prop := fnExactLeastToCloseUptoRow.holds Try.pinned (OpenSpec.upto fnExactLeastToCloseSpec)

/-- 'laws.FnExactClosingPieces', WHERE WHAT IT READS IS OF BULK AT MOST 1048576: true; the input reads as it did. -/
def fnExactClosingPiecesUptoRow : OpenClaim := { program := "ythiimllafcfieaa", sum := "b948eada8729d5b529e716f2e4e844524f15c1edb6fa130144d1feb96437417d", func := "loop.example/g01217/laws.FnExactClosingPieces", spec := "fnExactClosingPieces", unfollowed := true, recurses := true, plainKeys := false, apart := false, narrowed := true }
def FnExactClosingPiecesUptoSaid : Prop := fnExactClosingPiecesUptoRow.holds Try.pinned (OpenSpec.upto fnExactClosingPiecesSpec)

/-- 'laws.FnExactHalfTurns', WHERE WHAT IT READS IS OF BULK AT MOST 1048576: true; the input reads as it did. -/
def fnExactHalfTurnsUptoRow : OpenClaim := { program := "ythiimllafcfieaa", sum := "b948eada8729d5b529e716f2e4e844524f15c1edb6fa130144d1feb96437417d", func := "loop.example/g01217/laws.FnExactHalfTurns", spec := "fnExactHalfTurns", unfollowed := true, recurses := true, plainKeys := false, apart := false, narrowed := true }
def FnExactHalfTurnsUptoSaid : Prop := fnExactHalfTurnsUptoRow.holds Try.pinned (OpenSpec.upto fnExactHalfTurnsSpec)

/-- 'laws.FnExactLongestRing', WHERE WHAT IT READS IS OF BULK AT MOST 1048576: true; the input reads as it did. -/
def fnExactLongestRingUptoRow : OpenClaim := { program := "ythiimllafcfieaa", sum := "b948eada8729d5b529e716f2e4e844524f15c1edb6fa130144d1feb96437417d", func := "loop.example/g01217/laws.FnExactLongestRing", spec := "fnExactLongestRing", inPlace := ["internal/bytealg.CountString", "internal/bytealg.IndexByteString", "internal/bytealg.IndexString"], unfollowed := true, recurses := true, named := ["internal/bytealg.MaxLen"], plainKeys := false, apart := false, narrowed := true }
def FnExactLongestRingUptoSaid : Prop := fnExactLongestRingUptoRow.holds Try.pinned (OpenSpec.upto fnExactLongestRingSpec)

/-- 'laws.FnExactRingBoxes', WHERE WHAT IT READS IS OF BULK AT MOST 1048576: true; the input reads as it did. -/
def fnExactRingBoxesUptoRow : OpenClaim := { program := "ythiimllafcfieaa", sum := "b948eada8729d5b529e716f2e4e844524f15c1edb6fa130144d1feb96437417d", func := "loop.example/g01217/laws.FnExactRingBoxes", spec := "fnExactRingBoxes", inPlace := ["internal/bytealg.CountString", "internal/bytealg.IndexByteString", "internal/bytealg.IndexString"], unfollowed := true, recurses := true, named := ["internal/bytealg.MaxLen"], plainKeys := false, apart := false, narrowed := true }
def FnExactRingBoxesUptoSaid : Prop := fnExactRingBoxesUptoRow.holds Try.pinned (OpenSpec.upto fnExactRingBoxesSpec)

/-- 'laws.FnExactCountEnds', WHERE WHAT IT READS IS OF BULK AT MOST 1048576: true; the input reads as it did. -/
def fnExactCountEndsUptoRow : OpenClaim := { program := "ythiimllafcfieaa", sum := "b948eada8729d5b529e716f2e4e844524f15c1edb6fa130144d1feb96437417d", func := "loop.example/g01217/laws.FnExactCountEnds", spec := "fnExactCountEnds", inPlace := ["internal/bytealg.CountString", "internal/bytealg.IndexByteString", "internal/bytealg.IndexString"], unfollowed := true, recurses := true, named := ["internal/bytealg.MaxLen"], plainKeys := false, apart := false, narrowed := true }
def FnExactCountEndsUptoSaid : Prop := fnExactCountEndsUptoRow.holds Try.pinned (OpenSpec.upto fnExactCountEndsSpec)

/-- 'laws.FnExactFarthestEnd', WHERE WHAT IT READS IS OF BULK AT MOST 1048576: true; the input reads as it did. -/
def fnExactFarthestEndUptoRow : OpenClaim := { program := "ythiimllafcfieaa", sum := "b948eada8729d5b529e716f2e4e844524f15c1edb6fa130144d1feb96437417d", func := "loop.example/g01217/laws.FnExactFarthestEnd", spec := "fnExactFarthestEnd", inPlace := ["internal/bytealg.CountString", "internal/bytealg.IndexByteString", "internal/bytealg.IndexString"], unfollowed := true, recurses := true, named := ["internal/bytealg.MaxLen"], plainKeys := false, apart := false, narrowed := true }
def FnExactFarthestEndUptoSaid : Prop := fnExactFarthestEndUptoRow.holds Try.pinned (OpenSpec.upto fnExactFarthestEndSpec)

/-- 'laws.FnExactCheapestRing', WHERE WHAT IT READS IS OF BULK AT MOST 1048576: true; the input reads as it did. -/
def fnExactCheapestRingUptoRow : OpenClaim := { program := "ythiimllafcfieaa", sum := "b948eada8729d5b529e716f2e4e844524f15c1edb6fa130144d1feb96437417d", func := "loop.example/g01217/laws.FnExactCheapestRing", spec := "fnExactCheapestRing", inPlace := ["internal/bytealg.CountString", "internal/bytealg.IndexByteString", "internal/bytealg.IndexString"], unfollowed := true, recurses := true, named := ["internal/bytealg.MaxLen"], plainKeys := false, apart := false, narrowed := true }
def FnExactCheapestRingUptoSaid : Prop := fnExactCheapestRingUptoRow.holds Try.pinned (OpenSpec.upto fnExactCheapestRingSpec)

end Rows
end Go.Proofs.Ythiimllafcfieaa
