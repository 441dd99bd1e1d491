/- Contracts: whether a track is closed. -/
import Derived.Test.YtoenkgenoloihaaDoorSa
namespace Go.Proofs.YtoenkgenoloihaaDoor
open Go.ChangeShapes Go.WideShapes Go.ChangeAt Go.RowKit

def zP (s : ByteArray) : Bool := (enS s).x0 == 0 && ((enS s).x1 == 0 && ((enS s).x2 == 0 && (enS s).x3 == 0))

def zS (s : ByteArray) : Bool := zP s && (enS s).h == 0

def clB (s : ByteArray) : Bool := tkB s && (decide (0 < s.size) && zS s)

theorem clB_tk {s : ByteArray} (h : clB s = true) : tkB s = true := by
  simp only [clB, Bool.and_eq_true] at h
  exact h.1

theorem clB_no {s : ByteArray} (h : tkB s = false) : clB s = false := by simp [clB, h]

theorem clB_yes {s : ByteArray} (h : tkB s = true) : clB s = (decide (0 < s.size) && zS s) := by simp [clB, h]

set_option maxRecDepth 100000 in
set_option maxHeartbeats 800000 in
theorem isClosed_any (s : ByteArray) (hs : s.size ≤ 1048576) (w : World) :
    Calls Tryd.prog 90 #[.string s] w fun e w' => e = .returned (.bool (clB s)) ∧ Below w.heap.size w w' := by
  have hc := endOf_any s hs
  cases ht : tkB s
  · have R := Lib.hid (clB_no ht)
    rw [ht] at hc
    generalize enS s = p at hc
    obtain ⟨x0, x1, x2, x3, x4⟩ := p
    have HC := Lib.hid hc
    clear hc ht
    go_enter Tryd.func90, Tryd.ntmps90
    go_wp2_with fail
    (go_at_call 108; (with_reducible refine (HC.out _).mono ?_); rintro e wA ⟨rfl, h1⟩; (try with_reducible replace h1 := undrew h1); have hB : Below w.heap.size w wA := ba (by go_grown) h1; obtain ⟨hcwA, hfwA⟩ := bcell h1; have hqwA := h1.size; (try simp at hqwA); )
    go_wp2_with fail
    go_ret
    exact ⟨by rw [R.out]; rfl, by go_grown⟩
  · have hR := clB_yes ht
    unfold zS zP at hR
    rw [ht] at hc
    generalize enS s = p at hR hc
    obtain ⟨x0, x1, x2, x3, x4⟩ := p
    simp only at hR
    have R := Lib.hid hR
    have HC := Lib.hid hc
    clear hc ht hR
    by_cases h0 : s.size = 0
    · have he : s.toList = [] := by rw [ByteArray.toList_eq]; exact List.eq_nil_of_length_eq_zero (by rw [size_list]; exact h0)
      go_enter Tryd.func90, Tryd.ntmps90
      go_wp2_with fail
      (go_at_call 108; (with_reducible refine (HC.out _).mono ?_); rintro e wA ⟨rfl, h1⟩; (try with_reducible replace h1 := undrew h1); have hB : Below w.heap.size w wA := ba (by go_grown) h1; obtain ⟨hcwA, hfwA⟩ := bcell h1; have hqwA := h1.size; (try simp at hqwA); )
      go_wp2_with fail
      go_ret
      exact ⟨by rw [R.out]; simp [h0], by go_grown⟩
    · have hp : 0 < s.size := by omega
      have he : ¬ s.toList = [] := fun h => h0 (by rw [ByteArray.toList_eq] at h; rw [← size_list, h]; rfl)
      go_enter Tryd.func90, Tryd.ntmps90
      go_wp2_with fail
      (go_at_call 108; (with_reducible refine (HC.out _).mono ?_); rintro e wA ⟨rfl, h1⟩; (try with_reducible replace h1 := undrew h1); have hB : Below w.heap.size w wA := ba (by go_grown) h1; obtain ⟨hcwA, hfwA⟩ := bcell h1; have hqwA := h1.size; (try simp at hqwA); )
      go_wp2_with fail
      go_ret
      exact ⟨by rw [R.out]; simp [hp, he], by go_grown⟩

end Go.Proofs.YtoenkgenoloihaaDoor
