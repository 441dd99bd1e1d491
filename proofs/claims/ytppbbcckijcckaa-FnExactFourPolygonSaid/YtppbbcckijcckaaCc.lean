/- Contracts: whether a track is closed. -/
import Derived.Test.YtppbbcckijcckaaSa
namespace Go.Proofs.Ytppbbcckijcckaa
open Go.ChangeShapes Go.WideShapes Go.ChangeAt Go.RowKit

def zP (s : ByteArray) : Bool := (enS s).x0 == 0 && ((enS s).x1 == 0 && ((enS s).x2 == 0 && (enS s).x3 == 0))

def zS (s : ByteArray) : Bool := zP s && (enS s).h == 0

def clB (s : ByteArray) : Bool := tkB s && (decide (0 < s.size) && zS s)

theorem clB_tk {s : ByteArray} (h : clB s = true) : tkB s = true := by
  simp only [clB, Bool.and_eq_true] at h
  exact h.1

theorem clB_no {s : ByteArray} (h : tkB s = false) : clB s = false := by simp [clB, h]

theorem clB_yes {s : ByteArray} (h : tkB s = true) : clB s = (decide (0 < s.size) && zS s) := by simp [clB, h]

set_option maxRecDepth 100000 in
set_option maxHeartbeats 800000 in
theorem clClosed_any (s : ByteArray) (ht : tkB s = true) (w : World) :
    Calls Try.prog 115 #[.string s] w fun e w' => e = .returned (.bool (clB s)) ∧ Below w.heap.size w w' := by
  have hc := tkEnd_yes s ht
  have hR := clB_yes ht
  unfold zS zP at hR
  generalize enS s = p at hR hc
  obtain ⟨x0, x1, x2, x3, x4⟩ := p
  simp only at hR
  have HC := Lib.hid hc
  clear hc
  by_cases h0 : 0 < s.size
  · cases hq : (x0 == 0 && (x1 == 0 && (x2 == 0 && x3 == 0)))
    all_goals
      rw [hq] at hR
      have R := Lib.hid hR
      clear hR
      go_enter Try.func115, Try.ntmps115
      go_wp2_with fail
      (go_at_call 149; (with_reducible refine (HC.out _).mono ?_); rintro e wA ⟨rfl, h1⟩; (try with_reducible replace h1 := undrew h1); have hB : Below w.heap.size w wA := ba (by go_grown) h1; obtain ⟨hcwA, hfwA⟩ := bcell h1; have hqwA := h1.size; (try simp at hqwA); )
      go_wp2_with fail
      go_ret
      exact ⟨by rw [R.out]; simp [h0], by go_grown⟩
  · have R := Lib.hid hR
    clear hR
    go_enter Try.func115, Try.ntmps115
    go_wp2_with fail
    (go_at_call 149; (with_reducible refine (HC.out _).mono ?_); rintro e wA ⟨rfl, h1⟩; (try with_reducible replace h1 := undrew h1); have hB : Below w.heap.size w wA := ba (by go_grown) h1; obtain ⟨hcwA, hfwA⟩ := bcell h1; have hqwA := h1.size; (try simp at hqwA); )
    go_wp2_with fail
    go_ret
    exact ⟨by rw [R.out]; simp [h0], by go_grown⟩

theorem clGood_any (s : ByteArray) (hs : s.size ≤ 1048576) (w : World) :
    Calls Try.prog 61 #[.string s] w fun e w' => e = .returned (.bool (clB s)) ∧ Below w.heap.size w w' := by
  cases ht : tkB s
  · have R := Lib.hid (clB_no ht)
    go_enter Try.func61, Try.ntmps61
    go_wp2_with (go_at_call 72; refine (tkGood_any s hs _).mono ?_; rintro e w' ⟨rfl, rfl⟩)
    go_ret
    exact ⟨by rw [R.out]; rfl, by go_grown⟩
  · have HC := Lib.hid (clClosed_any s ht)
    go_enter Try.func61, Try.ntmps61
    go_wp2_with (first | (go_at_call 72; refine (tkGood_any s hs _).mono ?_; rintro e w' ⟨rfl, rfl⟩) | (go_at_call 115; (with_reducible refine (HC.out _).mono ?_); rintro e wA ⟨rfl, h1⟩; (try with_reducible replace h1 := undrew h1); have hB : Below w.heap.size w wA := ba (by go_grown) h1; obtain ⟨hcwA, hfwA⟩ := bcell h1; have hqwA := h1.size; (try simp at hqwA); ))
    go_ret
    exact ⟨rfl, by go_grown⟩

set_option maxRecDepth 100000 in
set_option maxHeartbeats 800000 in
theorem isClosed_any (s : ByteArray) (hs : s.size ≤ 1048576) (w : World) :
    Calls Try.prog 64 #[.string s] w fun e w' => e = .returned (.bool (clB s)) ∧ Below w.heap.size w w' := by
  have hc := endOf_any s hs
  cases ht : tkB s
  · have R := Lib.hid (clB_no ht)
    rw [ht] at hc
    generalize enS s = p at hc
    obtain ⟨x0, x1, x2, x3, x4⟩ := p
    have HC := Lib.hid hc
    clear hc ht
    go_enter Try.func64, Try.ntmps64
    go_wp2_with fail
    (go_at_call 117; (with_reducible refine (HC.out _).mono ?_); rintro e wA ⟨rfl, h1⟩; (try with_reducible replace h1 := undrew h1); have hB : Below w.heap.size w wA := ba (by go_grown) h1; obtain ⟨hcwA, hfwA⟩ := bcell h1; have hqwA := h1.size; (try simp at hqwA); )
    go_wp2_with fail
    go_ret
    exact ⟨by rw [R.out]; rfl, by go_grown⟩
  · have hR := clB_yes ht
    unfold zS zP at hR
    rw [ht] at hc
    generalize enS s = p at hR hc
    obtain ⟨x0, x1, x2, x3, x4⟩ := p
    simp only at hR
    have R := Lib.hid hR
    have HC := Lib.hid hc
    clear hc ht hR
    by_cases h0 : s.size = 0
    · have he : s.toList = [] := by rw [ByteArray.toList_eq]; exact List.eq_nil_of_length_eq_zero (by rw [size_list]; exact h0)
      go_enter Try.func64, Try.ntmps64
      go_wp2_with fail
      (go_at_call 117; (with_reducible refine (HC.out _).mono ?_); rintro e wA ⟨rfl, h1⟩; (try with_reducible replace h1 := undrew h1); have hB : Below w.heap.size w wA := ba (by go_grown) h1; obtain ⟨hcwA, hfwA⟩ := bcell h1; have hqwA := h1.size; (try simp at hqwA); )
      go_wp2_with fail
      go_ret
      exact ⟨by rw [R.out]; simp [h0], by go_grown⟩
    · have hp : 0 < s.size := by omega
      have he : ¬ s.toList = [] := fun h => h0 (by rw [ByteArray.toList_eq] at h; rw [← size_list, h]; rfl)
      go_enter Try.func64, Try.ntmps64
      go_wp2_with fail
      (go_at_call 117; (with_reducible refine (HC.out _).mono ?_); rintro e wA ⟨rfl, h1⟩; (try with_reducible replace h1 := undrew h1); have hB : Below w.heap.size w wA := ba (by go_grown) h1; obtain ⟨hcwA, hfwA⟩ := bcell h1; have hqwA := h1.size; (try simp at hqwA); )
      go_wp2_with fail
      go_ret
      exact ⟨by rw [R.out]; simp [hp, he], by go_grown⟩

end Go.Proofs.Ytppbbcckijcckaa
