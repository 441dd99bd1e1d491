/-
  No cell of these rows narrows 'for every input' (looked for: loops, veiled, ifaces, maps, wideKeys, modest, calm, conditions, laid).
  DERIVED. THE GIVEN ROWS OF THIS SEAT. 9 by the template 'for every input the law returns true; each argument reads behind the call as it read before'; 0 by the template 'total and deterministic' (their statements: YtpaimngepmfemabTotals.lean).
  GIVEN WITH THE SEED: the statements are not yours to turn. If you find one false, say at which input.
  Laid BY PROGRAM, IN A SANDBOX (cutbox-rows.mjs): the forced cells as the released guide's own fill.sh prints them over the translation e3501aae37540aa7… (all of the seat's roots in one cut). By AI agents, Wed Nov 11 2026. No macro, syntax, notation, axiom, sorry.
-/
import Derived.Test.YtpaimngepmfemabChecked
import GoSem.Claim
import GoSem.ClaimJoined
import GoSem.ClaimMapViews
import Derived.JoinedTies
import Derived.KernelRfl
namespace Go.Proofs.Ytpaimngepmfemab
/- THE CELL 'sum', in the pinned program and in every row, IS THE sha256 OF THE DUMP (.gsa) THAT YtpaimngepmfemabProg.lean LOADS. Nothing in Lean hashes anything: it is a label: what it is worth is what the hold of that sum in a sandbox is worth. -/
noncomputable def Try.pinned : Pinned := { name := "ytpaimngepmfemab", sum := "e3501aae37540aa7c7074b5de4011618b8cd969c8fb5c4bf2c18f8e1216ca851", checked := Try.checked }
namespace Rows
def none {H : Type} : Left H := { results := [], args := [] }

/-- 'laws.FnExactJointsOf': WHATEVER THE INPUT: true; the input reads as it did. -/
def fnExactJointsOfSpec : ChangeSpec := { name := "fnExactJointsOf", fn := fun _ => fun
  | [d] => { results := [.lit (.bool true)], args := [d] }
  | _ => none }
def fnExactJointsOfRow : OpenClaim := { program := "ytpaimngepmfemab", sum := "e3501aae37540aa7c7074b5de4011618b8cd969c8fb5c4bf2c18f8e1216ca851", func := "loop.example/g01217/laws.FnExactJointsOf", spec := "fnExactJointsOf", unfollowed := true, recurses := true, apart := false }
def FnExactJointsOfSaid : Prop := fnExactJointsOfRow.holds Try.pinned (OpenSpec.ofChange fnExactJointsOfSpec)

/-- ITS FALSE NEIGHBOUR: 'it returns false'. Refute it at one input. -/
def fnExactJointsOfWrong : ChangeSpec := { name := "fnExactJointsOf", fn := fun _ => fun
  | [d] => { results := [.lit (.bool false)], args := [d] }
  | _ => none }
def FnExactJointsOfWrongFalsely : Prop := fnExactJointsOfRow.holds Try.pinned (OpenSpec.ofChange fnExactJointsOfWrong)

/-- 'laws.FnExactHeadingsOf': WHATEVER THE INPUT: true; the input reads as it did. -/
def fnExactHeadingsOfSpec : ChangeSpec := { name := "fnExactHeadingsOf", fn := fun _ => fun
  | [d] => { results := [.lit (.bool true)], args := [d] }
  | _ => none }
def fnExactHeadingsOfRow : OpenClaim := { program := "ytpaimngepmfemab", sum := "e3501aae37540aa7c7074b5de4011618b8cd969c8fb5c4bf2c18f8e1216ca851", func := "loop.example/g01217/laws.FnExactHeadingsOf", spec := "fnExactHeadingsOf", unfollowed := true, recurses := true, apart := false }
def FnExactHeadingsOfSaid : Prop := fnExactHeadingsOfRow.holds Try.pinned (OpenSpec.ofChange fnExactHeadingsOfSpec)

/-- ITS FALSE NEIGHBOUR: 'it returns false'. Refute it at one input. -/
def fnExactHeadingsOfWrong : ChangeSpec := { name := "fnExactHeadingsOf", fn := fun _ => fun
  | [d] => { results := [.lit (.bool false)], args := [d] }
  | _ => none }
def FnExactHeadingsOfWrongFalsely : Prop := fnExactHeadingsOfRow.holds Try.pinned (OpenSpec.ofChange fnExactHeadingsOfWrong)

/-- 'laws.FnExactEndOf': WHATEVER THE INPUT: true; the input reads as it did. -/
def fnExactEndOfSpec : ChangeSpec := { name := "fnExactEndOf", fn := fun _ => fun
  | [d] => { results := [.lit (.bool true)], args := [d] }
  | _ => none }
def fnExactEndOfRow : OpenClaim := { program := "ytpaimngepmfemab", sum := "e3501aae37540aa7c7074b5de4011618b8cd969c8fb5c4bf2c18f8e1216ca851", func := "loop.example/g01217/laws.FnExactEndOf", spec := "fnExactEndOf", unfollowed := true, recurses := true, apart := false }
def FnExactEndOfSaid : Prop := fnExactEndOfRow.holds Try.pinned (OpenSpec.ofChange fnExactEndOfSpec)

/-- ITS FALSE NEIGHBOUR: 'it returns false'. Refute it at one input. -/
def fnExactEndOfWrong : ChangeSpec := { name := "fnExactEndOf", fn := fun _ => fun
  | [d] => { results := [.lit (.bool false)], args := [d] }
  | _ => none }
def FnExactEndOfWrongFalsely : Prop := fnExactEndOfRow.holds Try.pinned (OpenSpec.ofChange fnExactEndOfWrong)

/-- 'laws.FnExactEndFrom': WHATEVER THE INPUT: true; the input reads as it did. -/
def fnExactEndFromSpec : ChangeSpec := { name := "fnExactEndFrom", fn := fun _ => fun
  | [d1, d2, d3] => { results := [.lit (.bool true)], args := [d1, d2, d3] }
  | _ => none }
def fnExactEndFromRow : OpenClaim := { program := "ytpaimngepmfemab", sum := "e3501aae37540aa7c7074b5de4011618b8cd969c8fb5c4bf2c18f8e1216ca851", func := "loop.example/g01217/laws.FnExactEndFrom", spec := "fnExactEndFrom", unfollowed := true, recurses := true, apart := false }
def FnExactEndFromSaid : Prop := fnExactEndFromRow.holds Try.pinned (OpenSpec.ofChange fnExactEndFromSpec)

/-- ITS FALSE NEIGHBOUR: 'it returns false'. Refute it at one input. -/
def fnExactEndFromWrong : ChangeSpec := { name := "fnExactEndFrom", fn := fun _ => fun
  | [d1, d2, d3] => { results := [.lit (.bool false)], args := [d1, d2, d3] }
  | _ => none }
def FnExactEndFromWrongFalsely : Prop := fnExactEndFromRow.holds Try.pinned (OpenSpec.ofChange fnExactEndFromWrong)

/-- 'laws.FnExactHeadingCounts': WHATEVER THE INPUT: true; the input reads as it did. -/
def fnExactHeadingCountsSpec : ChangeSpec := { name := "fnExactHeadingCounts", fn := fun _ => fun
  | [d] => { results := [.lit (.bool true)], args := [d] }
  | _ => none }
def fnExactHeadingCountsRow : OpenClaim := { program := "ytpaimngepmfemab", sum := "e3501aae37540aa7c7074b5de4011618b8cd969c8fb5c4bf2c18f8e1216ca851", func := "loop.example/g01217/laws.FnExactHeadingCounts", spec := "fnExactHeadingCounts", unfollowed := true, recurses := true, apart := false }
def FnExactHeadingCountsSaid : Prop := fnExactHeadingCountsRow.holds Try.pinned (OpenSpec.ofChange fnExactHeadingCountsSpec)

/-- ITS FALSE NEIGHBOUR: 'it returns false'. Refute it at one input. -/
def fnExactHeadingCountsWrong : ChangeSpec := { name := "fnExactHeadingCounts", fn := fun _ => fun
  | [d] => { results := [.lit (.bool false)], args := [d] }
  | _ => none }
def FnExactHeadingCountsWrongFalsely : Prop := fnExactHeadingCountsRow.holds Try.pinned (OpenSpec.ofChange fnExactHeadingCountsWrong)

/-- 'laws.FnExactFirstMeeting': WHATEVER THE INPUT: true; the input reads as it did. -/
def fnExactFirstMeetingSpec : ChangeSpec := { name := "fnExactFirstMeeting", fn := fun _ => fun
  | [d] => { results := [.lit (.bool true)], args := [d] }
  | _ => none }
def fnExactFirstMeetingRow : OpenClaim := { program := "ytpaimngepmfemab", sum := "e3501aae37540aa7c7074b5de4011618b8cd969c8fb5c4bf2c18f8e1216ca851", func := "loop.example/g01217/laws.FnExactFirstMeeting", spec := "fnExactFirstMeeting", unfollowed := true, recurses := true, apart := false }
def FnExactFirstMeetingSaid : Prop := fnExactFirstMeetingRow.holds Try.pinned (OpenSpec.ofChange fnExactFirstMeetingSpec)

/-- ITS FALSE NEIGHBOUR: 'it returns false'. Refute it at one input. -/
def fnExactFirstMeetingWrong : ChangeSpec := { name := "fnExactFirstMeeting", fn := fun _ => fun
  | [d] => { results := [.lit (.bool false)], args := [d] }
  | _ => none }
def FnExactFirstMeetingWrongFalsely : Prop := fnExactFirstMeetingRow.holds Try.pinned (OpenSpec.ofChange fnExactFirstMeetingWrong)

/-- 'laws.FnExactCountMeetings': WHATEVER THE INPUT: true; the input reads as it did. -/
def fnExactCountMeetingsSpec : ChangeSpec := { name := "fnExactCountMeetings", fn := fun _ => fun
  | [d] => { results := [.lit (.bool true)], args := [d] }
  | _ => none }
def fnExactCountMeetingsRow : OpenClaim := { program := "ytpaimngepmfemab", sum := "e3501aae37540aa7c7074b5de4011618b8cd969c8fb5c4bf2c18f8e1216ca851", func := "loop.example/g01217/laws.FnExactCountMeetings", spec := "fnExactCountMeetings", unfollowed := true, recurses := true, apart := false }
def FnExactCountMeetingsSaid : Prop := fnExactCountMeetingsRow.holds Try.pinned (OpenSpec.ofChange fnExactCountMeetingsSpec)

/-- ITS FALSE NEIGHBOUR: 'it returns false'. Refute it at one input. -/
def fnExactCountMeetingsWrong : ChangeSpec := { name := "fnExactCountMeetings", fn := fun _ => fun
  | [d] => { results := [.lit (.bool false)], args := [d] }
  | _ => none }
def FnExactCountMeetingsWrongFalsely : Prop := fnExactCountMeetingsRow.holds Try.pinned (OpenSpec.ofChange fnExactCountMeetingsWrong)

/-- 'laws.FnExactFarthestJoint': WHATEVER THE INPUT: true; the input reads as it did. -/
def fnExactFarthestJointSpec : ChangeSpec := { name := "fnExactFarthestJoint", fn := fun _ => fun
  | [d] => { results := [.lit (.bool true)], args := [d] }
  | _ => none }
def fnExactFarthestJointRow : OpenClaim := { program := "ytpaimngepmfemab", sum := "e3501aae37540aa7c7074b5de4011618b8cd969c8fb5c4bf2c18f8e1216ca851", func := "loop.example/g01217/laws.FnExactFarthestJoint", spec := "fnExactFarthestJoint", unfollowed := true, recurses := true, apart := false }
def FnExactFarthestJointSaid : Prop := fnExactFarthestJointRow.holds Try.pinned (OpenSpec.ofChange fnExactFarthestJointSpec)

/-- ITS FALSE NEIGHBOUR: 'it returns false'. Refute it at one input. -/
def fnExactFarthestJointWrong : ChangeSpec := { name := "fnExactFarthestJoint", fn := fun _ => fun
  | [d] => { results := [.lit (.bool false)], args := [d] }
  | _ => none }
def FnExactFarthestJointWrongFalsely : Prop := fnExactFarthestJointRow.holds Try.pinned (OpenSpec.ofChange fnExactFarthestJointWrong)

/-- 'laws.FnExactAreSameEnds': WHATEVER THE INPUT: true; the input reads as it did. -/
def fnExactAreSameEndsSpec : ChangeSpec := { name := "fnExactAreSameEnds", fn := fun _ => fun
  | [d1, d2] => { results := [.lit (.bool true)], args := [d1, d2] }
  | _ => none }
def fnExactAreSameEndsRow : OpenClaim := { program := "ytpaimngepmfemab", sum := "e3501aae37540aa7c7074b5de4011618b8cd969c8fb5c4bf2c18f8e1216ca851", func := "loop.example/g01217/laws.FnExactAreSameEnds", spec := "fnExactAreSameEnds", unfollowed := true, recurses := true, apart := false }
def FnExactAreSameEndsSaid : Prop := fnExactAreSameEndsRow.holds Try.pinned (OpenSpec.ofChange fnExactAreSameEndsSpec)

/-- ITS FALSE NEIGHBOUR: 'it returns false'. Refute it at one input. -/
def fnExactAreSameEndsWrong : ChangeSpec := { name := "fnExactAreSameEnds", fn := fun _ => fun
  | [d1, d2] => { results := [.lit (.bool false)], args := [d1, d2] }
  | _ => none }
def FnExactAreSameEndsWrongFalsely : Prop := fnExactAreSameEndsRow.holds Try.pinned (OpenSpec.ofChange fnExactAreSameEndsWrong)

/- THE SECOND FORM. 'bulk': how many values and letters a reading holds, each counted each time it is reached (what is shared counts as often as it is met; a slice's spare places count too). A statement '..UptoSaid' is the law's where the arguments, and the package variables that the reading takes, are together of bulk at most 1048576: NARROWER than '..Said'. Prove '..Said' where nothing that the law and all that it calls make is longer than what came in: it says more and counts as full. Else prove '..UptoSaid'. A law counts once. -/
mutual
def uptoBulk {H : Type} : DataW H → Nat
  | .lit (.string bytes) => bytes.length + 1
  | .lit _ => 1
  | .nil => 1
  | .ptr d => uptoBulk d + 1
  | .slice elems spare => uptoBulkAll elems + uptoBulkAll spare + 1
  | .agg parts => uptoBulkAll parts + 1
  | .iface _ d => uptoBulk d + 1
  | .map entries => uptoBulkEntries entries + 1
  | .held _ => 1
def uptoBulkAll {H : Type} : List (DataW H) → Nat
  | [] => 0
  | d :: r => uptoBulk d + uptoBulkAll r
def uptoBulkEntries {H : Type} : List (Lit × DataW H) → Nat
  | [] => 0
  | x :: r => uptoBulkEntry x + uptoBulkEntries r
def uptoBulkEntry {H : Type} : Lit × DataW H → Nat
  | (.string bytes, d) => bytes.length + uptoBulk d + 1
  | (_, d) => uptoBulk d + 1
 end
def uptoSmall : (H : Type) → List (DataW H) → Bool := fun _ ds => decide (uptoBulkAll ds ≤ 1048576)
def OpenSpec.upto (s : _root_.Go.ChangeSpec) : _root_.Go.OpenSpec := { _root_.Go.OpenSpec.ofChange s with cond := some uptoSmall }

/-- 'laws.FnExactJointsOf', WHERE WHAT IT READS IS OF BULK AT MOST 1048576: true; the input reads as it did. -/
def fnExactJointsOfUptoRow : OpenClaim := { program := "ytpaimngepmfemab", sum := "e3501aae37540aa7c7074b5de4011618b8cd969c8fb5c4bf2c18f8e1216ca851", func := "loop.example/g01217/laws.FnExactJointsOf", spec := "fnExactJointsOf", unfollowed := true, recurses := true, apart := false, narrowed := true }
def FnExactJointsOfUptoSaid : Prop := fnExactJointsOfUptoRow.holds Try.pinned (OpenSpec.upto fnExactJointsOfSpec)

/-- 'laws.FnExactHeadingsOf', WHERE WHAT IT READS IS OF BULK AT MOST 1048576: true; the input reads as it did. -/
def fnExactHeadingsOfUptoRow : OpenClaim := { program := "ytpaimngepmfemab", sum := "e3501aae37540aa7c7074b5de4011618b8cd969c8fb5c4bf2c18f8e1216ca851", func := "loop.example/g01217/laws.FnExactHeadingsOf", spec := "fnExactHeadingsOf", unfollowed := true, recurses := true, apart := false, narrowed := true }
def FnExactHeadingsOfUptoSaid : Prop := fnExactHeadingsOfUptoRow.holds Try.pinned (OpenSpec.upto fnExactHeadingsOfSpec)

/-- 'laws.FnExactEndOf', WHERE WHAT IT READS IS OF BULK AT MOST 1048576: true; the input reads as it did. -/
def fnExactEndOfUptoRow : OpenClaim := { program := "ytpaimngepmfemab", sum := "e3501aae37540aa7c7074b5de4011618b8cd969c8fb5c4bf2c18f8e1216ca851", func := "loop.example/g01217/laws.FnExactEndOf", spec := "fnExactEndOf", unfollowed := true, recurses := true, apart := false, narrowed := true }
def FnExactEndOfUptoSaid : Prop := fnExactEndOfUptoRow.holds Try.pinned (OpenSpec.upto fnExactEndOfSpec)

/-- 'laws.FnExactEndFrom', WHERE WHAT IT READS IS OF BULK AT MOST 1048576: true; the input reads as it did. -/
def fnExactEndFromUptoRow : OpenClaim := { program := "ytpaimngepmfemab", sum := "e3501aae37540aa7c7074b5de4011618b8cd969c8fb5c4bf2c18f8e1216ca851", func := "loop.example/g01217/laws.FnExactEndFrom", spec := "fnExactEndFrom", unfollowed := true, recurses := true, apart := false, narrowed := true }
def FnExactEndFromUptoSaid : Prop := fnExactEndFromUptoRow.holds Try.pinned (OpenSpec.upto fnExactEndFromSpec)

/-- 'laws.FnExactHeadingCounts', WHERE WHAT IT READS IS OF BULK AT MOST 1048576: true; the input reads as it did. -/
def fnExactHeadingCountsUptoRow : OpenClaim := { program := "ytpaimngepmfemab", sum := "e3501aae37540aa7c7074b5de4011618b8cd969c8fb5c4bf2c18f8e1216ca851", func := "loop.example/g01217/laws.FnExactHeadingCounts", spec := "fnExactHeadingCounts", unfollowed := true, recurses := true, apart := false, narrowed := true }
def FnExactHeadingCountsUptoSaid : Prop := fnExactHeadingCountsUptoRow.holds Try.pinned (OpenSpec.upto fnExactHeadingCountsSpec)

/-- 'laws.FnExactFirstMeeting', WHERE WHAT IT READS IS OF BULK AT MOST 1048576: true; the input reads as it did. -/
def fnExactFirstMeetingUptoRow : OpenClaim := { program := "ytpaimngepmfemab", sum := "e3501aae37540aa7c7074b5de4011618b8cd969c8fb5c4bf2c18f8e1216ca851", func := "loop.example/g01217/laws.FnExactFirstMeeting", spec := "fnExactFirstMeeting", unfollowed := true, recurses := true, apart := false, narrowed := true }
def FnExactFirstMeetingUptoSaid : Prop := fnExactFirstMeetingUptoRow.holds Try.pinned (OpenSpec.upto fnExactFirstMeetingSpec)

/-- 'laws.FnExactCountMeetings', WHERE WHAT IT READS IS OF BULK AT MOST 1048576: true; the input reads as it did. -/
def fnExactCountMeetingsUptoRow : OpenClaim := { program := "ytpaimngepmfemab", sum := "e3501aae37540aa7c7074b5de4011618b8cd969c8fb5c4bf2c18f8e1216ca851", func := "loop.example/g01217/laws.FnExactCountMeetings", spec := "fnExactCountMeetings", unfollowed := true, recurses := true, apart := false, narrowed := true }
def FnExactCountMeetingsUptoSaid : Prop := fnExactCountMeetingsUptoRow.holds Try.pinned (OpenSpec.upto fnExactCountMeetingsSpec)

/-- 'laws.FnExactFarthestJoint', WHERE WHAT IT READS IS OF BULK AT MOST 1048576: true; the input reads as it did. -/
def fnExactFarthestJointUptoRow : OpenClaim := { program := "ytpaimngepmfemab", sum := "e3501aae37540aa7c7074b5de4011618b8cd969c8fb5c4bf2c18f8e1216ca851", func := "loop.example/g01217/laws.FnExactFarthestJoint", spec := "fnExactFarthestJoint", unfollowed := true, recurses := true, apart := false, narrowed := true }
def FnExactFarthestJointUptoSaid : Prop := fnExactFarthestJointUptoRow.holds Try.pinned (OpenSpec.upto fnExactFarthestJointSpec)

/-- 'laws.FnExactAreSameEnds', WHERE WHAT IT READS IS OF BULK AT MOST 1048576: true; the input reads as it did. -/
def fnExactAreSameEndsUptoRow : OpenClaim := { program := "ytpaimngepmfemab", sum := "e3501aae37540aa7c7074b5de4011618b8cd969c8fb5c4bf2c18f8e1216ca851", func := "loop.example/g01217/laws.FnExactAreSameEnds", spec := "fnExactAreSameEnds", unfollowed := true, recurses := true, apart := false, narrowed := true }
def FnExactAreSameEndsUptoSaid : Prop := fnExactAreSameEndsUptoRow.holds Try.pinned (OpenSpec.upto fnExactAreSameEndsSpec)

end Rows
end Go.Proofs.Ytpaimngepmfemab
