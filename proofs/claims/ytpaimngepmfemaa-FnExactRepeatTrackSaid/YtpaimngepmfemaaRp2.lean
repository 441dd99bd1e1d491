/- Contracts: RepeatTrack of the model and of the program. -/
import Derived.Test.YtpaimngepmfemaaJoJ
import Derived.Test.YtpaimngepmfemaaRp
import Derived.Laws.Concat
namespace Go.Proofs.Ytpaimngepmfemaa
open Go.ChangeShapes Go.WideShapes Go.ChangeAt Go.RowKit

theorem ret_rp {s x : ByteArray} {k : Int} {b : Bool} (hb : rpB s k = b) (hs : rpS s k = x) : Ending.returned (.tuple #[.string x, .bool b]) = Ending.returned (.tuple #[.string (rpS s k), .bool (rpB s k)]) := by rw [hb, hs]
theorem rp_no {s : ByteArray} {k : Int} (h : rpB s k = false) : rpS s k = ⟨#[]⟩ := by simp [rpS, h]
theorem div_no {k : Int} {z : Nat} (hz : 0 < z) (h : ¬ k * (z : Int) ≤ 40) : 40 / (z : Int) < k := by
  rcases Int.lt_or_le (40 / (z : Int)) k with h1 | h1
  · exact h1
  · exact absurd ((Int.le_ediv_iff_mul_le (by omega)).1 h1) h
theorem div_yes {k : Int} {z : Nat} (hz : 0 < z) (h : k * (z : Int) ≤ 40) : ¬ 40 / (z : Int) < k := by
  have := (Int.le_ediv_iff_mul_le (by omega : (0 : Int) < z)).2 h
  omega
theorem k_le {k : Int} {z : Nat} (hz : 0 < z) (h0 : 0 ≤ k) (h : k * (z : Int) ≤ 40) : k ≤ 40 := by
  rcases Int.lt_or_le 40 k with h2 | h2
  · have : k * 1 ≤ k * (z : Int) := Int.mul_le_mul_of_nonneg_left (by omega) h0
    omega
  · exact h2

set_option maxRecDepth 100000 in
set_option maxHeartbeats 800000 in
theorem spRepeatTrack (s : ByteArray) (k : Int) (hs : s.size ≤ 1048576) (w : World) :
    Calls Try.prog 23 #[.string s, .int .i64 k] w fun e w' => e = .returned (.tuple #[.string (rpS s k), .bool (rpB s k)]) ∧ Below w.heap.size w w' := by
  cases ts : tkB s
  · have R1 := Lib.hid (show rpB s k = false by simp [rpB, ts])
    go_enter Try.func23, Try.ntmps23
    go_wp2_with (go_at_call 27; refine (tkGood_any s hs _).mono ?_; rintro e w' ⟨rfl, rfl⟩)
    go_ret2
    exact ⟨ret_rp R1.out (rp_no R1.out), Below.refl _ _⟩
  by_cases hk : k < 0
  · have R1 := Lib.hid (show rpB s k = false by simp [rpB]; omega)
    go_enter Try.func23, Try.ntmps23
    go_wp2_with (go_at_call 27; refine (tkGood_any s hs _).mono ?_; rintro e w' ⟨rfl, rfl⟩)
    go_ret2
    exact ⟨ret_rp R1.out (rp_no R1.out), Below.refl _ _⟩
  have h0 : 0 ≤ k := by omega
  by_cases hz : s.size = 0
  · have R1 := Lib.hid (show rpB s k = true by simp [rpB, ts, hz, h0])
    have R2 := Lib.hid (show rpS s k = ⟨#[]⟩ by simp [rpS, R1.out, hz])
    go_enter Try.func23, Try.ntmps23
    go_wp2_with (go_at_call 27; refine (tkGood_any s hs _).mono ?_; rintro e w' ⟨rfl, rfl⟩)
    go_loopw [1, 6] (fun v o wr => v = .int .i64 k ∧ o = .string ⟨#[]⟩ ∧ Below w.heap.size w wr) (fun _ _ _ => 0)
    case atStart => exact ⟨rfl, rfl, by go_grown⟩
    case round =>
      obtain ⟨rfl, rfl, hb⟩ := hrel
      have HB := Lib.hid hb
      clear hb
      by_cases hk0 : 0 < k
      all_goals
        go_wp2_with fail
        go_ret2
        exact ⟨ret_rp R1.out R2.out, HB.out⟩
  have hzp : 0 < s.size := by omega
  by_cases hm : k * (s.size : Int) ≤ 40
  · have hk40 := k_le hzp h0 hm
    obtain ⟨n, rfl⟩ : ∃ n : Nat, k = n := ⟨k.toNat, by omega⟩
    have R1 := Lib.hid (show rpB s n = true by simp [rpB, ts, hm])
    have R2 := Lib.hid (show rpS s n = ofL (rpL s n) by simp [rpS, R1.out, hz])
    have D := div_yes hzp hm
    have n40 : n ≤ 40 := by omega
    have MM := Lib.hid hm
    clear hm
    go_enter Try.func23, Try.ntmps23
    go_wp2_with (go_at_call 27; refine (tkGood_any s hs _).mono ?_; rintro e w' ⟨rfl, rfl⟩)
    go_loopw [1, 6] (fun v o wr => ∃ m j : Nat, m + j = n ∧ v = .int .i64 j ∧ o = .string (ofL (rpL s m)) ∧ Below w.heap.size w wr) (fun v _ _ => (intOf v).toNat)
    case atStart => exact ⟨0, n, Nat.zero_add _, rfl, rfl, by go_grown⟩
    case round =>
      obtain ⟨m, j, hmj, rfl, rfl, hb⟩ := hrel
      have HB := Lib.hid hb
      clear hb
      by_cases hj : 0 < j
      · have e1 : ofL (rpL s m) ++ s = ofL (rpL s (m + 1)) := by
          rw [rpL_snoc, append_ofL]
          rfl
        have E := Lib.hid e1
        clear e1
        have hsz : (ofL (rpL s m)).size ≤ 1600 := by
          have h1 : (ofL (rpL s m)).size = m * s.size := by rw [← rpL_length]; rfl
          have h2 : ((m * s.size : Nat) : Int) ≤ ((n * s.size : Nat) : Int) := Int.ofNat_le.2 (Nat.mul_le_mul_right _ (by omega))
          have h3 := MM.out
          rw [← Int.natCast_mul] at h3
          omega
        have hss : s.size ≤ 40 := tkB_size ts
        go_wp2_with fail
        exact ⟨⟨m + 1, j - 1, by omega, by go_num, congrArg Value.string E.out, HB.out⟩, by simp [intOf]; omega⟩
      · obtain rfl : j = 0 := by omega
        obtain rfl : m = n := by omega
        go_wp2_with fail
        go_ret2
        exact ⟨ret_rp R1.out R2.out, HB.out⟩
  · have R1 := Lib.hid (show rpB s k = false by simp [rpB, hz, hm])
    have D := div_no hzp hm
    clear hm
    go_enter Try.func23, Try.ntmps23
    go_wp2_with (go_at_call 27; refine (tkGood_any s hs _).mono ?_; rintro e w' ⟨rfl, rfl⟩)
    go_ret2
    exact ⟨ret_rp R1.out (rp_no R1.out), Below.refl _ _⟩

set_option maxRecDepth 100000 in
set_option maxHeartbeats 800000 in
theorem imRepeatTrack (s : ByteArray) (k : Int) (hs : s.size ≤ 1048576) (w : World) :
    Calls Try.prog 24 #[.string s, .int .i64 k] w fun e w' => e = .returned (.tuple #[.string (rpS s k), .bool (rpB s k)]) ∧ Below w.heap.size w w' := by
  cases ts : tkB s
  · have R1 := Lib.hid (show rpB s k = false by simp [rpB, ts])
    go_enter Try.func24, Try.ntmps24
    go_wp2_with (go_at_call 12; refine (imIsTrack_any s hs _).mono ?_; rintro e w' ⟨rfl, rfl⟩)
    go_ret2
    exact ⟨ret_rp R1.out (rp_no R1.out), Below.refl _ _⟩
  by_cases hk : k < 0
  · have R1 := Lib.hid (show rpB s k = false by simp [rpB]; omega)
    go_enter Try.func24, Try.ntmps24
    go_wp2_with (go_at_call 12; refine (imIsTrack_any s hs _).mono ?_; rintro e w' ⟨rfl, rfl⟩)
    go_ret2
    exact ⟨ret_rp R1.out (rp_no R1.out), Below.refl _ _⟩
  have h0 : 0 ≤ k := by omega
  obtain ⟨t, ht⟩ : ∃ t : Nat, (t : Int) = min k 41 := ⟨(min k 41).toNat, by omega⟩
  have t41 : t ≤ 41 := by omega
  obtain ⟨r1, r2⟩ := jo_rep ts k t h0 ht
  have R1 := Lib.hid r1
  have R2 := Lib.hid r2
  have T := Lib.hid ht
  clear r1 r2 ht
  go_enter Try.func24, Try.ntmps24
  go_wp2_with (go_at_call 12; refine (imIsTrack_any s hs _).mono ?_; rintro e w' ⟨rfl, rfl⟩)
  rw [← T.out]
  refine (repeat_any s t w.heap.size t41 _ (by simp) (by go_simp)).mono ?_
  rintro e w1 ⟨g, rfl, hg, hcs, hb1⟩
  have HB := Lib.hid (ba (by go_grown) hb1 : Below w.heap.size w w1)
  have HC := Lib.hid hcs
  clear hb1 hcs
  go_wp2_with fail
  refine (joined_any g 0 t t (List.replicate t s) _ List.length_replicate (by omega) (by intro x hx; rw [(List.mem_replicate.1 hx).2]; exact hs) hg (by
    intro j x hx
    obtain ⟨hj, rfl⟩ := List.getElem?_eq_some_iff.1 hx
    have hj' : j < t := by simpa using hj
    simpa using HC.out j hj')).mono ?_
  rintro e w2 ⟨rfl, hb2⟩
  have HB2 := Lib.hid (HB.out.trans (hb2.mono HB.out.size))
  clear hb2
  go_wp2_with fail
  go_ret2
  exact ⟨ret_rp R1.out.symm R2.out.symm, HB2.out⟩

end Go.Proofs.Ytpaimngepmfemaa
