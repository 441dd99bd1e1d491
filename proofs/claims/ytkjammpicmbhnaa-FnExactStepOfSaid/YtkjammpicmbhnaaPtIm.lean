/- Contracts: the steps of pieces, in the program. -/
import Derived.Test.YtkjammpicmbhnaaPtCurve
import Derived.Test.YtkjammpicmbhnaaPtSp
namespace Go.Proofs.Ytkjammpicmbhnaa
open Go.ChangeShapes Go.WideShapes Go.ChangeAt Go.RowKit

set_option linter.unusedVariables false
set_option linter.unusedSimpArgs false

@[go_sem high] theorem fneq_L (w : World) : (binOp .eql 50 (.func (Fn.func 57) #[] #[]) .nilFunc).run Try.prog w = .ok (.bool false) w := by kernel_rfl
@[go_sem high] theorem fneq_R (w : World) : (binOp .eql 50 (.func (Fn.func 58) #[] #[]) .nilFunc).run Try.prog w = .ok (.bool false) w := by kernel_rfl
@[go_sem high] theorem fneq_S (w : World) : (binOp .eql 50 (.func (Fn.func 56) #[] #[]) .nilFunc).run Try.prog w = .ok (.bool false) w := by kernel_rfl
@[go_sem high] theorem fneq_no (w : World) : (binOp .eql 50 .nilFunc .nilFunc).run Try.prog w = .ok (.bool true) w := by kernel_rfl

theorem lay_L (w : World) :
    Calls Try.prog 53 #[.string ⟨#[76]⟩] w fun e w' => e = .returned (.func (Fn.func 57) #[] #[]) ∧ w = w' := by
  go_enter Try.func53, Try.ntmps53
  go_wp2
  go_ret
  exact ⟨rfl, rfl⟩

set_option maxRecDepth 100000 in
set_option maxHeartbeats 1600000 in
theorem imStepOf_L (h : Int) (w : World) :
    Calls Try.prog 31 #[.string ⟨#[76]⟩, .int .i64 h] w fun e w' => e = .returned (.tuple #[.agg #[.int .i64 (sel (inB h 0 7) ((tu0 ((h + 7) % 8) 1 0 0 0) - (tu0 ((h + 6) % 8) 1 0 0 0))), .int .i64 (sel (inB h 0 7) ((tu1 ((h + 7) % 8) 1 0 0 0) - (tu1 ((h + 6) % 8) 1 0 0 0))), .int .i64 (sel (inB h 0 7) ((tu2 ((h + 7) % 8) 1 0 0 0) - (tu2 ((h + 6) % 8) 1 0 0 0))), .int .i64 (sel (inB h 0 7) ((tu3 ((h + 7) % 8) 1 0 0 0) - (tu3 ((h + 6) % 8) 1 0 0 0)))], .int .i64 (sel (inB h 0 7) ((h + 1) % 8)), .bool (inB h 0 7)]) ∧ Below w.heap.size w w' := by
  cases hh : inB h 0 7
  · go_enter Try.func31, Try.ntmps31
    go_wp2_with (first | (go_at_call 53; refine (lay_L _).mono ?_; rintro e w' ⟨rfl, rfl⟩) | (go_at_call 44; refine (isHeading_any _ _).mono ?_; rintro e w' ⟨rfl, rfl⟩))
    refine bodyPost_ret (by simp [results, Try.results31, go_sem, *]; try rfl) rfl ?_
    exact ⟨by simp [sel], by go_grown⟩
  · obtain ⟨h0, h7⟩ := in_bd hh
    go_enter Try.func31, Try.ntmps31
    go_wp2_with (first | (go_at_call 53; refine (lay_L _).mono ?_; rintro e w' ⟨rfl, rfl⟩) | (go_at_call 44; refine (isHeading_any _ _).mono ?_; rintro e w' ⟨rfl, rfl⟩) | (go_at_call 57; refine (left_any h h0 h7 _).mono ?_; rintro e w1 ⟨rfl, h1⟩; have hB : Below w.heap.size w w1 := ba (by go_grown) h1; obtain ⟨hc1, hf1⟩ := bcell h1; have hq := h1.size; (try simp at hq); have hz0 : w.heap.size < w1.heap.size := (by omega); clear h1 hq))
    go_region
    all_goals go_wp2
    all_goals
      refine bodyPost_ret (by simp [results, Try.results31, go_sem, *]; try rfl) rfl ?_
      exact ⟨by simp [sel], by go_grown⟩

theorem lay_R (w : World) :
    Calls Try.prog 53 #[.string ⟨#[82]⟩] w fun e w' => e = .returned (.func (Fn.func 58) #[] #[]) ∧ w = w' := by
  go_enter Try.func53, Try.ntmps53
  go_wp2
  go_ret
  exact ⟨rfl, rfl⟩

set_option maxRecDepth 100000 in
set_option maxHeartbeats 1600000 in
theorem imStepOf_R (h : Int) (w : World) :
    Calls Try.prog 31 #[.string ⟨#[82]⟩, .int .i64 h] w fun e w' => e = .returned (.tuple #[.agg #[.int .i64 (sel (inB h 0 7) ((tu0 ((h + 1) % 8) 1 0 0 0) - (tu0 ((h + 2) % 8) 1 0 0 0))), .int .i64 (sel (inB h 0 7) ((tu1 ((h + 1) % 8) 1 0 0 0) - (tu1 ((h + 2) % 8) 1 0 0 0))), .int .i64 (sel (inB h 0 7) ((tu2 ((h + 1) % 8) 1 0 0 0) - (tu2 ((h + 2) % 8) 1 0 0 0))), .int .i64 (sel (inB h 0 7) ((tu3 ((h + 1) % 8) 1 0 0 0) - (tu3 ((h + 2) % 8) 1 0 0 0)))], .int .i64 (sel (inB h 0 7) ((h + 7) % 8)), .bool (inB h 0 7)]) ∧ Below w.heap.size w w' := by
  cases hh : inB h 0 7
  · go_enter Try.func31, Try.ntmps31
    go_wp2_with (first | (go_at_call 53; refine (lay_R _).mono ?_; rintro e w' ⟨rfl, rfl⟩) | (go_at_call 44; refine (isHeading_any _ _).mono ?_; rintro e w' ⟨rfl, rfl⟩))
    refine bodyPost_ret (by simp [results, Try.results31, go_sem, *]; try rfl) rfl ?_
    exact ⟨by simp [sel], by go_grown⟩
  · obtain ⟨h0, h7⟩ := in_bd hh
    go_enter Try.func31, Try.ntmps31
    go_wp2_with (first | (go_at_call 53; refine (lay_R _).mono ?_; rintro e w' ⟨rfl, rfl⟩) | (go_at_call 44; refine (isHeading_any _ _).mono ?_; rintro e w' ⟨rfl, rfl⟩) | (go_at_call 58; refine (right_any h h0 h7 _).mono ?_; rintro e w1 ⟨rfl, h1⟩; have hB : Below w.heap.size w w1 := ba (by go_grown) h1; obtain ⟨hc1, hf1⟩ := bcell h1; have hq := h1.size; (try simp at hq); have hz0 : w.heap.size < w1.heap.size := (by omega); clear h1 hq))
    go_region
    all_goals go_wp2
    all_goals
      refine bodyPost_ret (by simp [results, Try.results31, go_sem, *]; try rfl) rfl ?_
      exact ⟨by simp [sel], by go_grown⟩

theorem lay_S (w : World) :
    Calls Try.prog 53 #[.string ⟨#[83]⟩] w fun e w' => e = .returned (.func (Fn.func 56) #[] #[]) ∧ w = w' := by
  go_enter Try.func53, Try.ntmps53
  go_wp2
  go_ret
  exact ⟨rfl, rfl⟩

set_option maxRecDepth 100000 in
set_option maxHeartbeats 1600000 in
theorem imStepOf_S (h : Int) (w : World) :
    Calls Try.prog 31 #[.string ⟨#[83]⟩, .int .i64 h] w fun e w' => e = .returned (.tuple #[.agg #[.int .i64 (sel (inB h 0 7) ((tu0 h 1 0 0 0))), .int .i64 (sel (inB h 0 7) ((tu1 h 1 0 0 0))), .int .i64 (sel (inB h 0 7) ((tu2 h 1 0 0 0))), .int .i64 (sel (inB h 0 7) ((tu3 h 1 0 0 0)))], .int .i64 (sel (inB h 0 7) (h)), .bool (inB h 0 7)]) ∧ Below w.heap.size w w' := by
  cases hh : inB h 0 7
  · go_enter Try.func31, Try.ntmps31
    go_wp2_with (first | (go_at_call 53; refine (lay_S _).mono ?_; rintro e w' ⟨rfl, rfl⟩) | (go_at_call 44; refine (isHeading_any _ _).mono ?_; rintro e w' ⟨rfl, rfl⟩))
    refine bodyPost_ret (by simp [results, Try.results31, go_sem, *]; try rfl) rfl ?_
    exact ⟨by simp [sel], by go_grown⟩
  · obtain ⟨h0, h7⟩ := in_bd hh
    go_enter Try.func31, Try.ntmps31
    go_wp2_with (first | (go_at_call 53; refine (lay_S _).mono ?_; rintro e w' ⟨rfl, rfl⟩) | (go_at_call 44; refine (isHeading_any _ _).mono ?_; rintro e w' ⟨rfl, rfl⟩) | (go_at_call 56; refine (straight_any h h0 h7 _).mono ?_; rintro e w1 ⟨rfl, h1⟩; have hB : Below w.heap.size w w1 := ba (by go_grown) h1; obtain ⟨hc1, hf1⟩ := bcell h1; have hq := h1.size; (try simp at hq); have hz0 : w.heap.size < w1.heap.size := (by omega); clear h1 hq))
    go_region
    all_goals go_wp2
    all_goals
      refine bodyPost_ret (by simp [results, Try.results31, go_sem, *]; try rfl) rfl ?_
      exact ⟨by simp [sel], by go_grown⟩

theorem lay_no (s : ByteArray) (n1 : (s.toList == [83]) = false) (n2 : (s.toList == [76]) = false) (n3 : (s.toList == [82]) = false) (w : World) :
    Calls Try.prog 53 #[.string s] w fun e w' => e = .returned .nilFunc ∧ w = w' := by
  go_enter Try.func53, Try.ntmps53
  go_wp2
  go_ret
  exact ⟨rfl, rfl⟩

set_option maxRecDepth 100000 in
theorem imStepOf_no (s : ByteArray) (h : Int) (n1 : (s.toList == [83]) = false) (n2 : (s.toList == [76]) = false) (n3 : (s.toList == [82]) = false) (w : World) :
    Calls Try.prog 31 #[.string s, .int .i64 h] w fun e w' => e = .returned (.tuple #[.agg #[.int .i64 0, .int .i64 0, .int .i64 0, .int .i64 0], .int .i64 0, .bool false]) ∧ Below w.heap.size w w' := by
  go_enter Try.func31, Try.ntmps31
  go_wp2_with (first | (go_at_call 53; refine (lay_no s n1 n2 n3 _).mono ?_; rintro e w' ⟨rfl, rfl⟩) | (go_at_call 44; refine (isHeading_any _ _).mono ?_; rintro e w' ⟨rfl, rfl⟩))
  all_goals
    refine bodyPost_ret (by simp [results, Try.results31, go_sem, *]; try rfl) rfl ?_
    exact ⟨rfl, by go_grown⟩

end Go.Proofs.Ytkjammpicmbhnaa
