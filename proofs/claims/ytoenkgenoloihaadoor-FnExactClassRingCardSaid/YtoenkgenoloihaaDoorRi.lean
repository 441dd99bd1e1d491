/- Contracts: whether a text is a ring. -/
import Derived.Test.YtoenkgenoloihaaDoorCc
namespace Go.Proofs.YtoenkgenoloihaaDoor
open Go.ChangeShapes Go.WideShapes Go.ChangeAt Go.RowKit

set_option maxRecDepth 100000 in
set_option maxHeartbeats 800000 in
theorem csRing_any (s : ByteArray) (hs : s.size ≤ 1048576) (w : World) :
    Calls Tryd.prog 45 #[.string s] w fun e w' => e = .returned (.bool (clB s)) ∧ Below w.heap.size w w' := by
  cases ht : tkB s
  · have R := Lib.hid (clB_no ht)
    go_enter Tryd.func45, Tryd.ntmps45
    go_wp2_with (go_at_call 70; refine (tkGood_any s hs _).mono ?_; rintro e w' ⟨rfl, rfl⟩)
    go_ret
    exact ⟨by rw [R.out]; rfl, by go_grown⟩
  · have hc := tkEnd_yes s ht
    have hR := clB_yes ht
    unfold zS zP at hR
    generalize enS s = p at hR hc
    obtain ⟨x0, x1, x2, x3, x4⟩ := p
    simp only at hR
    have HC := Lib.hid hc
    clear hc
    by_cases h0 : s.size = 0
    · have R := Lib.hid hR
      have he : s.toList = [] := by rw [ByteArray.toList_eq]; exact List.eq_nil_of_length_eq_zero (by rw [size_list]; exact h0)
      clear hR
      go_enter Tryd.func45, Tryd.ntmps45
      go_wp2_with (go_at_call 70; refine (tkGood_any s hs _).mono ?_; rintro e w' ⟨rfl, rfl⟩)
      go_ret
      exact ⟨by rw [R.out]; simp [h0], by go_grown⟩
    · have hp : 0 < s.size := by omega
      have he : ¬ s.toList = [] := fun h => h0 (by rw [ByteArray.toList_eq] at h; rw [← size_list, h]; rfl)
      have hi : s.toList.isEmpty = false := by cases hl : s.toList with
        | nil => exact absurd hl he
        | cons a l => rfl
      cases hq : (x0 == 0 && (x1 == 0 && (x2 == 0 && x3 == 0)))
      all_goals
        rw [hq] at hR
        have R := Lib.hid hR
        clear hR
        go_enter Tryd.func45, Tryd.ntmps45
        go_wp2_with (first | (go_at_call 70; refine (tkGood_any s hs _).mono ?_; rintro e w' ⟨rfl, rfl⟩) | (go_at_call 71; (with_reducible refine (HC.out _).mono ?_); rintro e wA ⟨rfl, h1⟩; (try with_reducible replace h1 := undrew h1); have hB : Below w.heap.size w wA := ba (by go_grown) h1; obtain ⟨hcwA, hfwA⟩ := bcell h1; have hqwA := h1.size; (try simp at hqwA); ))
        go_ret
        exact ⟨by rw [R.out]; simp [hp], by go_grown⟩

theorem imIsRing (s : ByteArray) (hs : s.size ≤ 1048576) (w : World) :
    Calls Tryd.prog 73 #[.string s] w fun e w' => e = .returned (.bool (clB s)) ∧ Below w.heap.size w w' := by
  have HC := Lib.hid (isClosed_any s hs)
  go_enter Tryd.func73, Tryd.ntmps73
  go_wp2_with (go_at_call 90; (with_reducible refine (HC.out _).mono ?_); rintro e wA ⟨rfl, h1⟩; (try with_reducible replace h1 := undrew h1); have hB : Below w.heap.size w wA := ba (by go_grown) h1; obtain ⟨hcwA, hfwA⟩ := bcell h1; have hqwA := h1.size; (try simp at hqwA); )
  go_ret
  exact ⟨rfl, by go_grown⟩

end Go.Proofs.YtoenkgenoloihaaDoor
