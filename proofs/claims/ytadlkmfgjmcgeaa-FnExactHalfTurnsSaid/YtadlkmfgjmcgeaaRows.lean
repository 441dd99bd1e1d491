/-
  No cell of these rows narrows 'for every input' (looked for: loops, veiled, ifaces, maps, wideKeys, modest, calm, conditions, laid).
  DERIVED. THE GIVEN ROWS OF THIS SEAT. 10 by the template 'for every input the law returns true; each argument reads behind the call as it read before'; 0 by the template 'total and deterministic' (their statements: YtadlkmfgjmcgeaaTotals.lean).
  GIVEN WITH THE SEED: the statements are not yours to turn. If you find one false, say at which input.
  Laid BY PROGRAM, IN A SANDBOX (cutbox-rows.mjs): the forced cells as the released guide's own fill.sh prints them over the translation 084ccdc7a357b659… (all of the seat's roots in one cut). By AI agents, Wed Nov 11 2026. No macro, syntax, notation, axiom, sorry.
-/
import Derived.Test.YtadlkmfgjmcgeaaChecked
import GoSem.Claim
import GoSem.ClaimJoined
import GoSem.ClaimMapViews
import Derived.JoinedTies
import Derived.KernelRfl
namespace Go.Proofs.Ytadlkmfgjmcgeaa
/- THE CELL 'sum', in the pinned program and in every row, IS THE sha256 OF THE DUMP (.gsa) THAT YtadlkmfgjmcgeaaProg.lean LOADS. Nothing in Lean hashes anything: it is a label: what it is worth is what the hold of that sum in a sandbox is worth. -/
noncomputable def Try.pinned : Pinned := { name := "ytadlkmfgjmcgeaa", sum := "084ccdc7a357b6592e5989357d0875fdacd6045ddbe2ee4cb359bd8b97e66f48", checked := Try.checked }
namespace Rows
def none {H : Type} : Left H := { results := [], args := [] }

/-- 'laws.FnExactIsClosed': WHATEVER THE INPUT: true; the input reads as it did. -/
def fnExactIsClosedSpec : ChangeSpec := { name := "fnExactIsClosed", fn := fun _ => fun
  | [d] => { results := [.lit (.bool true)], args := [d] }
  | _ => none }
def fnExactIsClosedRow : OpenClaim := { program := "ytadlkmfgjmcgeaa", sum := "084ccdc7a357b6592e5989357d0875fdacd6045ddbe2ee4cb359bd8b97e66f48", func := "loop.example/g01217/laws.FnExactIsClosed", spec := "fnExactIsClosed", unfollowed := true, recurses := true, plainKeys := false, apart := false }
def FnExactIsClosedSaid : Prop := fnExactIsClosedRow.holds Try.pinned (OpenSpec.ofChange fnExactIsClosedSpec)

/-- ITS FALSE NEIGHBOUR: 'it returns false'. Refute it at one input. -/
def fnExactIsClosedWrong : ChangeSpec := { name := "fnExactIsClosed", fn := fun _ => fun
  | [d] => { results := [.lit (.bool false)], args := [d] }
  | _ => none }
def FnExactIsClosedWrongFalsely : Prop := fnExactIsClosedRow.holds Try.pinned (OpenSpec.ofChange fnExactIsClosedWrong)

/-- 'laws.FnExactWindingOf': WHATEVER THE INPUT: true; the input reads as it did. -/
def fnExactWindingOfSpec : ChangeSpec := { name := "fnExactWindingOf", fn := fun _ => fun
  | [d] => { results := [.lit (.bool true)], args := [d] }
  | _ => none }
def fnExactWindingOfRow : OpenClaim := { program := "ytadlkmfgjmcgeaa", sum := "084ccdc7a357b6592e5989357d0875fdacd6045ddbe2ee4cb359bd8b97e66f48", func := "loop.example/g01217/laws.FnExactWindingOf", spec := "fnExactWindingOf", inPlace := ["internal/bytealg.CountString", "internal/bytealg.IndexByteString", "internal/bytealg.IndexString"], unfollowed := true, recurses := true, named := ["internal/bytealg.MaxLen"], plainKeys := false, apart := false }
def FnExactWindingOfSaid : Prop := fnExactWindingOfRow.holds Try.pinned (OpenSpec.ofChange fnExactWindingOfSpec)

/-- ITS FALSE NEIGHBOUR: 'it returns false'. Refute it at one input. -/
def fnExactWindingOfWrong : ChangeSpec := { name := "fnExactWindingOf", fn := fun _ => fun
  | [d] => { results := [.lit (.bool false)], args := [d] }
  | _ => none }
def FnExactWindingOfWrongFalsely : Prop := fnExactWindingOfRow.holds Try.pinned (OpenSpec.ofChange fnExactWindingOfWrong)

/-- 'laws.FnExactIsPlain': WHATEVER THE INPUT: true; the input reads as it did. -/
def fnExactIsPlainSpec : ChangeSpec := { name := "fnExactIsPlain", fn := fun _ => fun
  | [d] => { results := [.lit (.bool true)], args := [d] }
  | _ => none }
def fnExactIsPlainRow : OpenClaim := { program := "ytadlkmfgjmcgeaa", sum := "084ccdc7a357b6592e5989357d0875fdacd6045ddbe2ee4cb359bd8b97e66f48", func := "loop.example/g01217/laws.FnExactIsPlain", spec := "fnExactIsPlain", unfollowed := true, recurses := true, plainKeys := false, apart := false }
def FnExactIsPlainSaid : Prop := fnExactIsPlainRow.holds Try.pinned (OpenSpec.ofChange fnExactIsPlainSpec)

/-- ITS FALSE NEIGHBOUR: 'it returns false'. Refute it at one input. -/
def fnExactIsPlainWrong : ChangeSpec := { name := "fnExactIsPlain", fn := fun _ => fun
  | [d] => { results := [.lit (.bool false)], args := [d] }
  | _ => none }
def FnExactIsPlainWrongFalsely : Prop := fnExactIsPlainRow.holds Try.pinned (OpenSpec.ofChange fnExactIsPlainWrong)

/-- 'laws.FnExactSpinTrack': WHATEVER THE INPUT: true; the input reads as it did. -/
def fnExactSpinTrackSpec : ChangeSpec := { name := "fnExactSpinTrack", fn := fun _ => fun
  | [d1, d2] => { results := [.lit (.bool true)], args := [d1, d2] }
  | _ => none }
def fnExactSpinTrackRow : OpenClaim := { program := "ytadlkmfgjmcgeaa", sum := "084ccdc7a357b6592e5989357d0875fdacd6045ddbe2ee4cb359bd8b97e66f48", func := "loop.example/g01217/laws.FnExactSpinTrack", spec := "fnExactSpinTrack", inPlace := ["internal/abi.NoEscape"], unfollowed := true, recurses := true, plainKeys := false, apart := false }
def FnExactSpinTrackSaid : Prop := fnExactSpinTrackRow.holds Try.pinned (OpenSpec.ofChange fnExactSpinTrackSpec)

/-- ITS FALSE NEIGHBOUR: 'it returns false'. Refute it at one input. -/
def fnExactSpinTrackWrong : ChangeSpec := { name := "fnExactSpinTrack", fn := fun _ => fun
  | [d1, d2] => { results := [.lit (.bool false)], args := [d1, d2] }
  | _ => none }
def FnExactSpinTrackWrongFalsely : Prop := fnExactSpinTrackRow.holds Try.pinned (OpenSpec.ofChange fnExactSpinTrackWrong)

/-- 'laws.FnExactHalfTurns': WHATEVER THE INPUT: true; the input reads as it did. -/
def fnExactHalfTurnsSpec : ChangeSpec := { name := "fnExactHalfTurns", fn := fun _ => fun
  | [d] => { results := [.lit (.bool true)], args := [d] }
  | _ => none }
def fnExactHalfTurnsRow : OpenClaim := { program := "ytadlkmfgjmcgeaa", sum := "084ccdc7a357b6592e5989357d0875fdacd6045ddbe2ee4cb359bd8b97e66f48", func := "loop.example/g01217/laws.FnExactHalfTurns", spec := "fnExactHalfTurns", unfollowed := true, recurses := true, plainKeys := false, apart := false }
def FnExactHalfTurnsSaid : Prop := fnExactHalfTurnsRow.holds Try.pinned (OpenSpec.ofChange fnExactHalfTurnsSpec)

/-- ITS FALSE NEIGHBOUR: 'it returns false'. Refute it at one input. -/
def fnExactHalfTurnsWrong : ChangeSpec := { name := "fnExactHalfTurns", fn := fun _ => fun
  | [d] => { results := [.lit (.bool false)], args := [d] }
  | _ => none }
def FnExactHalfTurnsWrongFalsely : Prop := fnExactHalfTurnsRow.holds Try.pinned (OpenSpec.ofChange fnExactHalfTurnsWrong)

/-- 'laws.FnExactClosedTracks': WHATEVER THE INPUT: true; the input reads as it did. -/
def fnExactClosedTracksSpec : ChangeSpec := { name := "fnExactClosedTracks", fn := fun _ => fun
  | [d] => { results := [.lit (.bool true)], args := [d] }
  | _ => none }
def fnExactClosedTracksRow : OpenClaim := { program := "ytadlkmfgjmcgeaa", sum := "084ccdc7a357b6592e5989357d0875fdacd6045ddbe2ee4cb359bd8b97e66f48", func := "loop.example/g01217/laws.FnExactClosedTracks", spec := "fnExactClosedTracks", unfollowed := true, recurses := true, plainKeys := false, apart := false }
def FnExactClosedTracksSaid : Prop := fnExactClosedTracksRow.holds Try.pinned (OpenSpec.ofChange fnExactClosedTracksSpec)

/-- ITS FALSE NEIGHBOUR: 'it returns false'. Refute it at one input. -/
def fnExactClosedTracksWrong : ChangeSpec := { name := "fnExactClosedTracks", fn := fun _ => fun
  | [d] => { results := [.lit (.bool false)], args := [d] }
  | _ => none }
def FnExactClosedTracksWrongFalsely : Prop := fnExactClosedTracksRow.holds Try.pinned (OpenSpec.ofChange fnExactClosedTracksWrong)

/-- 'laws.FnExactCountCompletions': WHATEVER THE INPUT: true; the input reads as it did. -/
def fnExactCountCompletionsSpec : ChangeSpec := { name := "fnExactCountCompletions", fn := fun _ => fun
  | [d1, d2] => { results := [.lit (.bool true)], args := [d1, d2] }
  | _ => none }
def fnExactCountCompletionsRow : OpenClaim := { program := "ytadlkmfgjmcgeaa", sum := "084ccdc7a357b6592e5989357d0875fdacd6045ddbe2ee4cb359bd8b97e66f48", func := "loop.example/g01217/laws.FnExactCountCompletions", spec := "fnExactCountCompletions", unfollowed := true, recurses := true, plainKeys := false, apart := false }
def FnExactCountCompletionsSaid : Prop := fnExactCountCompletionsRow.holds Try.pinned (OpenSpec.ofChange fnExactCountCompletionsSpec)

/-- ITS FALSE NEIGHBOUR: 'it returns false'. Refute it at one input. -/
def fnExactCountCompletionsWrong : ChangeSpec := { name := "fnExactCountCompletions", fn := fun _ => fun
  | [d1, d2] => { results := [.lit (.bool false)], args := [d1, d2] }
  | _ => none }
def FnExactCountCompletionsWrongFalsely : Prop := fnExactCountCompletionsRow.holds Try.pinned (OpenSpec.ofChange fnExactCountCompletionsWrong)

/-- 'laws.FnExactFirstCompletion': WHATEVER THE INPUT: true; the input reads as it did. -/
def fnExactFirstCompletionSpec : ChangeSpec := { name := "fnExactFirstCompletion", fn := fun _ => fun
  | [d1, d2] => { results := [.lit (.bool true)], args := [d1, d2] }
  | _ => none }
def fnExactFirstCompletionRow : OpenClaim := { program := "ytadlkmfgjmcgeaa", sum := "084ccdc7a357b6592e5989357d0875fdacd6045ddbe2ee4cb359bd8b97e66f48", func := "loop.example/g01217/laws.FnExactFirstCompletion", spec := "fnExactFirstCompletion", unfollowed := true, recurses := true, plainKeys := false, apart := false }
def FnExactFirstCompletionSaid : Prop := fnExactFirstCompletionRow.holds Try.pinned (OpenSpec.ofChange fnExactFirstCompletionSpec)

/-- ITS FALSE NEIGHBOUR: 'it returns false'. Refute it at one input. -/
def fnExactFirstCompletionWrong : ChangeSpec := { name := "fnExactFirstCompletion", fn := fun _ => fun
  | [d1, d2] => { results := [.lit (.bool false)], args := [d1, d2] }
  | _ => none }
def FnExactFirstCompletionWrongFalsely : Prop := fnExactFirstCompletionRow.holds Try.pinned (OpenSpec.ofChange fnExactFirstCompletionWrong)

/-- 'laws.FnExactLeastToClose': WHATEVER THE INPUT: true; the input reads as it did. -/
def fnExactLeastToCloseSpec : ChangeSpec := { name := "fnExactLeastToClose", fn := fun _ => fun
  | [d] => { results := [.lit (.bool true)], args := [d] }
  | _ => none }
def fnExactLeastToCloseRow : OpenClaim := { program := "ytadlkmfgjmcgeaa", sum := "084ccdc7a357b6592e5989357d0875fdacd6045ddbe2ee4cb359bd8b97e66f48", func := "loop.example/g01217/laws.FnExactLeastToClose", spec := "fnExactLeastToClose", unfollowed := true, recurses := true, plainKeys := false, apart := false }
def FnExactLeastToCloseSaid : Prop := fnExactLeastToCloseRow.holds Try.pinned (OpenSpec.ofChange fnExactLeastToCloseSpec)

/-- ITS FALSE NEIGHBOUR: 'it returns false'. Refute it at one input. -/
def fnExactLeastToCloseWrong : ChangeSpec := { name := "fnExactLeastToClose", fn := fun _ => fun
  | [d] => { results := [.lit (.bool false)], args := [d] }
  | _ => none }
def FnExactLeastToCloseWrongFalsely : Prop := fnExactLeastToCloseRow.holds Try.pinned (OpenSpec.ofChange fnExactLeastToCloseWrong)

/-- 'laws.FnExactClosingPieces': WHATEVER THE INPUT: true; the input reads as it did. -/
def fnExactClosingPiecesSpec : ChangeSpec := { name := "fnExactClosingPieces", fn := fun _ => fun
  | [d] => { results := [.lit (.bool true)], args := [d] }
  | _ => none }
def fnExactClosingPiecesRow : OpenClaim := { program := "ytadlkmfgjmcgeaa", sum := "084ccdc7a357b6592e5989357d0875fdacd6045ddbe2ee4cb359bd8b97e66f48", func := "loop.example/g01217/laws.FnExactClosingPieces", spec := "fnExactClosingPieces", unfollowed := true, recurses := true, plainKeys := false, apart := false }
def FnExactClosingPiecesSaid : Prop := fnExactClosingPiecesRow.holds Try.pinned (OpenSpec.ofChange fnExactClosingPiecesSpec)

/-- ITS FALSE NEIGHBOUR: 'it returns false'. Refute it at one input. -/
def fnExactClosingPiecesWrong : ChangeSpec := { name := "fnExactClosingPieces", fn := fun _ => fun
  | [d] => { results := [.lit (.bool false)], args := [d] }
  | _ => none }
def FnExactClosingPiecesWrongFalsely : Prop := fnExactClosingPiecesRow.holds Try.pinned (OpenSpec.ofChange fnExactClosingPiecesWrong)

/- THE SECOND FORM. 'bulk': how many values and letters a reading holds, each counted each time it is reached (what is shared counts as often as it is met; a slice's spare places count too). A statement '..UptoSaid' is the law's where the arguments, and the package variables that the reading takes, are together of bulk at most 1048576: NARROWER than '..Said'. Prove '..Said' where nothing that the law and all that it calls make is longer than what came in: it says more and counts as full. Else prove '..UptoSaid'. A law counts once. -/
mutual
def uptoBulk {H : Type} : DataW H → Nat
  | .lit (.string bytes) => bytes.length + 1
  | .lit _ => 1
  | .nil => 1
  | .ptr d => uptoBulk d + 1
  | .slice elems spare => uptoBulkAll elems + uptoBulkAll spare + 1
  | .agg parts => uptoBulkAll parts + 1
  | .iface _ d => uptoBulk d + 1
  | .map entries => uptoBulkEntries entries + 1
  | .held _ => 1
def uptoBulkAll {H : Type} : List (DataW H) → Nat
  | [] => 0
  | d :: r => uptoBulk d + uptoBulkAll r
def uptoBulkEntries {H : Type} : List (Lit × DataW H) → Nat
  | [] => 0
  | x :: r => uptoBulkEntry x + uptoBulkEntries r
def uptoBulkEntry {H : Type} : Lit × DataW H → Nat
  | (.string bytes, d) => bytes.length + uptoBulk d + 1
  | (_, d) => uptoBulk d + 1
 end
def uptoSmall : (H : Type) → List (DataW H) → Bool := fun _ ds => decide (uptoBulkAll ds ≤ 1048576)
def OpenSpec.upto (s : _root_.Go.ChangeSpec) : _root_.Go.OpenSpec := { _root_.Go.OpenSpec.ofChange s with cond := some uptoSmall }

/-- 'laws.FnExactIsClosed', WHERE WHAT IT READS IS OF BULK AT MOST 1048576: true; the input reads as it did. -/
def fnExactIsClosedUptoRow : OpenClaim := { program := "ytadlkmfgjmcgeaa", sum := "084ccdc7a357b6592e5989357d0875fdacd6045ddbe2ee4cb359bd8b97e66f48", func := "loop.example/g01217/laws.FnExactIsClosed", spec := "fnExactIsClosed", unfollowed := true, recurses := true, plainKeys := false, apart := false, narrowed := true }
def FnExactIsClosedUptoSaid : Prop := fnExactIsClosedUptoRow.holds Try.pinned (OpenSpec.upto fnExactIsClosedSpec)

/-- 'laws.FnExactWindingOf', WHERE WHAT IT READS IS OF BULK AT MOST 1048576: true; the input reads as it did. -/
def fnExactWindingOfUptoRow : OpenClaim := { program := "ytadlkmfgjmcgeaa", sum := "084ccdc7a357b6592e5989357d0875fdacd6045ddbe2ee4cb359bd8b97e66f48", func := "loop.example/g01217/laws.FnExactWindingOf", spec := "fnExactWindingOf", inPlace := ["internal/bytealg.CountString", "internal/bytealg.IndexByteString", "internal/bytealg.IndexString"], unfollowed := true, recurses := true, named := ["internal/bytealg.MaxLen"], plainKeys := false, apart := false, narrowed := true }
def FnExactWindingOfUptoSaid : Prop := fnExactWindingOfUptoRow.holds Try.pinned (OpenSpec.upto fnExactWindingOfSpec)

/-- 'laws.FnExactIsPlain', WHERE WHAT IT READS IS OF BULK AT MOST 1048576: true; the input reads as it did. -/
def fnExactIsPlainUptoRow : OpenClaim := { program := "ytadlkmfgjmcgeaa", sum := "084ccdc7a357b6592e5989357d0875fdacd6045ddbe2ee4cb359bd8b97e66f48", func := "loop.example/g01217/laws.FnExactIsPlain", spec := "fnExactIsPlain", unfollowed := true, recurses := true, plainKeys := false, apart := false, narrowed := true }
def FnExactIsPlainUptoSaid : Prop := fnExactIsPlainUptoRow.holds Try.pinned (OpenSpec.upto fnExactIsPlainSpec)

/-- 'laws.FnExactSpinTrack', WHERE WHAT IT READS IS OF BULK AT MOST 1048576: true; the input reads as it did. -/
def fnExactSpinTrackUptoRow : OpenClaim := { program := "ytadlkmfgjmcgeaa", sum := "084ccdc7a357b6592e5989357d0875fdacd6045ddbe2ee4cb359bd8b97e66f48", func := "loop.example/g01217/laws.FnExactSpinTrack", spec := "fnExactSpinTrack", inPlace := ["internal/abi.NoEscape"], unfollowed := true, recurses := true, plainKeys := false, apart := false, narrowed := true }
def FnExactSpinTrackUptoSaid : Prop := fnExactSpinTrackUptoRow.holds Try.pinned (OpenSpec.upto fnExactSpinTrackSpec)

/-- 'laws.FnExactHalfTurns', WHERE WHAT IT READS IS OF BULK AT MOST 1048576: true; the input reads as it did. -/
def fnExactHalfTurnsUptoRow : OpenClaim := { program := "ytadlkmfgjmcgeaa", sum := "084ccdc7a357b6592e5989357d0875fdacd6045ddbe2ee4cb359bd8b97e66f48", func := "loop.example/g01217/laws.FnExactHalfTurns", spec := "fnExactHalfTurns", unfollowed := true, recurses := true, plainKeys := false, apart := false, narrowed := true }
def FnExactHalfTurnsUptoSaid : Prop := fnExactHalfTurnsUptoRow.holds Try.pinned (OpenSpec.upto fnExactHalfTurnsSpec)

/-- 'laws.FnExactClosedTracks', WHERE WHAT IT READS IS OF BULK AT MOST 1048576: true; the input reads as it did. -/
def fnExactClosedTracksUptoRow : OpenClaim := { program := "ytadlkmfgjmcgeaa", sum := "084ccdc7a357b6592e5989357d0875fdacd6045ddbe2ee4cb359bd8b97e66f48", func := "loop.example/g01217/laws.FnExactClosedTracks", spec := "fnExactClosedTracks", unfollowed := true, recurses := true, plainKeys := false, apart := false, narrowed := true }
def FnExactClosedTracksUptoSaid : Prop := fnExactClosedTracksUptoRow.holds Try.pinned (OpenSpec.upto fnExactClosedTracksSpec)

/-- 'laws.FnExactCountCompletions', WHERE WHAT IT READS IS OF BULK AT MOST 1048576: true; the input reads as it did. -/
def fnExactCountCompletionsUptoRow : OpenClaim := { program := "ytadlkmfgjmcgeaa", sum := "084ccdc7a357b6592e5989357d0875fdacd6045ddbe2ee4cb359bd8b97e66f48", func := "loop.example/g01217/laws.FnExactCountCompletions", spec := "fnExactCountCompletions", unfollowed := true, recurses := true, plainKeys := false, apart := false, narrowed := true }
def FnExactCountCompletionsUptoSaid : Prop := fnExactCountCompletionsUptoRow.holds Try.pinned (OpenSpec.upto fnExactCountCompletionsSpec)

/-- 'laws.FnExactFirstCompletion', WHERE WHAT IT READS IS OF BULK AT MOST 1048576: true; the input reads as it did. -/
def fnExactFirstCompletionUptoRow : OpenClaim := { program := "ytadlkmfgjmcgeaa", sum := "084ccdc7a357b6592e5989357d0875fdacd6045ddbe2ee4cb359bd8b97e66f48", func := "loop.example/g01217/laws.FnExactFirstCompletion", spec := "fnExactFirstCompletion", unfollowed := true, recurses := true, plainKeys := false, apart := false, narrowed := true }
def FnExactFirstCompletionUptoSaid : Prop := fnExactFirstCompletionUptoRow.holds Try.pinned (OpenSpec.upto fnExactFirstCompletionSpec)

/-- 'laws.FnExactLeastToClose', WHERE WHAT IT READS IS OF BULK AT MOST 1048576: true; the input reads as it did. -/
def fnExactLeastToCloseUptoRow : OpenClaim := { program := "ytadlkmfgjmcgeaa", sum := "084ccdc7a357b6592e5989357d0875fdacd6045ddbe2ee4cb359bd8b97e66f48", func := "loop.example/g01217/laws.FnExactLeastToClose", spec := "fnExactLeastToClose", unfollowed := true, recurses := true, plainKeys := false, apart := false, narrowed := true }
def FnExactLeastToCloseUptoSaid : Prop := fnExactLeastToCloseUptoRow.holds Try.pinned (OpenSpec.upto fnExactLeastToCloseSpec)

/-- 'laws.FnExactClosingPieces', WHERE WHAT IT READS IS OF BULK AT MOST 1048576: true; the input reads as it did. -/
def fnExactClosingPiecesUptoRow : OpenClaim := { program := "ytadlkmfgjmcgeaa", sum := "084ccdc7a357b6592e5989357d0875fdacd6045ddbe2ee4cb359bd8b97e66f48", func := "loop.example/g01217/laws.FnExactClosingPieces", spec := "fnExactClosingPieces", unfollowed := true, recurses := true, plainKeys := false, apart := false, narrowed := true }
def FnExactClosingPiecesUptoSaid : Prop := fnExactClosingPiecesUptoRow.holds Try.pinned (OpenSpec.upto fnExactClosingPiecesSpec)

end Rows
end Go.Proofs.Ytadlkmfgjmcgeaa
