/- Contracts: RepeatTrack of the model and of the program. -/
import Derived.Test.YtamojnbhnbeecabDoorJoJ
import Derived.Test.YtamojnbhnbeecabDoorRp
import Derived.Laws.Concat
namespace Go.Proofs.YtamojnbhnbeecabDoor
open Go.ChangeShapes Go.WideShapes Go.ChangeAt Go.RowKit

theorem ret_rp {s x : ByteArray} {k : Int} {b : Bool} (hb : rpB s k = b) (hs : rpS s k = x) : Ending.returned (.tuple #[.string x, .bool b]) = Ending.returned (.tuple #[.string (rpS s k), .bool (rpB s k)]) := by rw [hb, hs]
theorem rp_no {s : ByteArray} {k : Int} (h : rpB s k = false) : rpS s k = ⟨#[]⟩ := by simp [rpS, h]
theorem div_no {k : Int} {z : Nat} (hz : 0 < z) (h : ¬ k * (z : Int) ≤ 40) : 40 / (z : Int) < k := by
  rcases Int.lt_or_le (40 / (z : Int)) k with h1 | h1
  · exact h1
  · exact absurd ((Int.le_ediv_iff_mul_le (by omega)).1 h1) h
theorem div_yes {k : Int} {z : Nat} (hz : 0 < z) (h : k * (z : Int) ≤ 40) : ¬ 40 / (z : Int) < k := by
  have := (Int.le_ediv_iff_mul_le (by omega : (0 : Int) < z)).2 h
  omega
theorem k_le {k : Int} {z : Nat} (hz : 0 < z) (h0 : 0 ≤ k) (h : k * (z : Int) ≤ 40) : k ≤ 40 := by
  rcases Int.lt_or_le 40 k with h2 | h2
  · have : k * 1 ≤ k * (z : Int) := Int.mul_le_mul_of_nonneg_left (by omega) h0
    omega
  · exact h2

set_option maxRecDepth 100000 in
set_option maxHeartbeats 800000 in
theorem imRepeatTrack (s : ByteArray) (k : Int) (hs : s.size ≤ 1048576) (w : World) :
    Calls Tryd.prog 37 #[.string s, .int .i64 k] w fun e w' => e = .returned (.tuple #[.string (rpS s k), .bool (rpB s k)]) ∧ Below w.heap.size w w' := by
  cases ts : tkB s
  · have R1 := Lib.hid (show rpB s k = false by simp [rpB, ts])
    go_enter Tryd.func37, Tryd.ntmps37
    go_wp2_with (go_at_call 11; refine (imIsTrack_any s hs _).mono ?_; rintro e w' ⟨rfl, rfl⟩)
    go_ret2
    exact ⟨ret_rp R1.out (rp_no R1.out), Below.refl _ _⟩
  by_cases hk : k < 0
  · have R1 := Lib.hid (show rpB s k = false by simp [rpB]; omega)
    go_enter Tryd.func37, Tryd.ntmps37
    go_wp2_with (go_at_call 11; refine (imIsTrack_any s hs _).mono ?_; rintro e w' ⟨rfl, rfl⟩)
    go_ret2
    exact ⟨ret_rp R1.out (rp_no R1.out), Below.refl _ _⟩
  have h0 : 0 ≤ k := by omega
  obtain ⟨t, ht⟩ : ∃ t : Nat, (t : Int) = min k 41 := ⟨(min k 41).toNat, by omega⟩
  have t41 : t ≤ 41 := by omega
  obtain ⟨r1, r2⟩ := jo_rep ts k t h0 ht
  have R1 := Lib.hid r1
  have R2 := Lib.hid r2
  have T := Lib.hid ht
  clear r1 r2 ht
  go_enter Tryd.func37, Tryd.ntmps37
  go_wp2_with (go_at_call 11; refine (imIsTrack_any s hs _).mono ?_; rintro e w' ⟨rfl, rfl⟩)
  rw [← T.out]
  refine (repeat_any s t w.heap.size t41 _ (by simp) (by go_simp)).mono ?_
  rintro e w1 ⟨g, rfl, hg, hcs, hb1⟩
  have HB := Lib.hid (ba (by go_grown) hb1 : Below w.heap.size w w1)
  have HC := Lib.hid hcs
  clear hb1 hcs
  go_wp2_with fail
  refine (joined_any g 0 t t (List.replicate t s) _ List.length_replicate (by omega) (by intro x hx; rw [(List.mem_replicate.1 hx).2]; exact hs) hg (by
    intro j x hx
    obtain ⟨hj, rfl⟩ := List.getElem?_eq_some_iff.1 hx
    have hj' : j < t := by simpa using hj
    simpa using HC.out j hj')).mono ?_
  rintro e w2 ⟨rfl, hb2⟩
  have HB2 := Lib.hid (HB.out.trans (hb2.mono HB.out.size))
  clear hb2
  go_wp2_with fail
  go_ret2
  exact ⟨ret_rp R1.out.symm R2.out.symm, HB2.out⟩

end Go.Proofs.YtamojnbhnbeecabDoor
