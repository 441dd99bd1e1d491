/- Contracts and facts, put together (part 2). Conditions: each says its own. -/
import Derived.Test.YtoenkgenoloihabR1

/- Contract of the program: closed tracks of told pieces. -/
namespace Go.Proofs.Ytoenkgenoloihab
open Go Go.ChangeMaps Go.MapKept Go.ChangeShapes Go.WideShapes Go.ChangeAt Go.RowKit

set_option linter.unusedVariables false

theorem s3_blk {B0 : Nat} {v0 v1 v2 : Value} {W W' : World} (h : W.cell? ⟨B0, 0, none⟩ = some v0 ∧ W.cell? ⟨B0, 1, none⟩ = some v1 ∧ W.cell? ⟨B0, 2, none⟩ = some v2) (e0 : W'.heap[B0]? = W.heap[B0]?) : W'.cell? ⟨B0, 0, none⟩ = some v0 ∧ W'.cell? ⟨B0, 1, none⟩ = some v1 ∧ W'.cell? ⟨B0, 2, none⟩ = some v2 := by
  simp only [World.cell?] at h ⊢
  rw [e0]
  exact h

theorem cm_any (m k n : Nat) (hn : m + k = n) (hm : m ≤ 7) (hk : k ≤ 7) (ta tb tc : Int) (ha : 0 ≤ ta ∧ ta ≤ 1000) (hb : 0 ≤ tb ∧ tb ≤ 1000) (hc : 0 ≤ tc ∧ tc ≤ 1000) (bb bd m1 m2 : Nat) (w : World) (hM1 : HvAt w bb m1 (hcn (hvs m))) (hM2 : HvAt w bd m2 (hcn (hvs k))) :
    Calls Try.prog 44 #[.map (some bb), .map (some bd), .agg #[.int .i64 ta, .int .i64 tb, .int .i64 tc]] w fun e w' => e = .returned (.int .i64 (cwt n ta tb tc : Nat)) ∧ Below w.heap.size w w' := by
  subst hn
  exact countMeeting_any m k hm hk ta tb tc ha hb hc bb bd m1 m2 w hM1 hM2

set_option maxRecDepth 100000 in
set_option maxHeartbeats 6400000 in
theorem imCountClosedWith (a b c : Int) (w : World) : Calls Try.prog 23 #[.int .i64 a, .int .i64 b, .int .i64 c] w fun e w' => e = .returned (.tuple #[.int .i64 (cwI a b c), .bool (cwB a b c)]) ∧ Below w.heap.size w w' := by
  have LR := Lib.hid (fun n lo hi w => isInRange_any n lo hi w)
  cases hg : g3B a b c
  · have hb : cwB a b c = false := by simp [cwB, hg]
    rw [cw_no hb, hb]
    have hgg : (inB a 0 12 && (inB b 0 12 && inB c 0 12)) = false := hg
    clear hb hg
    cases h1 : inB a 0 12
    · clear hgg
      go_enter Try.func23, Try.ntmps23
      go_wp2_with fail
      refine wp_loop_rounds 4 ?_
      repeat any_goals (rw [rounds_succ]; go_wp2_with (go_at_call 41; refine (LR.out _ _ _ _).mono ?_; rintro e w' ⟨rfl, rfl⟩))
      all_goals go_ret2
      all_goals exact ⟨rfl, by go_grown⟩
    · cases h2 : inB b 0 12
      · clear hgg
        go_enter Try.func23, Try.ntmps23
        go_wp2_with fail
        refine wp_loop_rounds 4 ?_
        repeat any_goals (rw [rounds_succ]; go_wp2_with (go_at_call 41; refine (LR.out _ _ _ _).mono ?_; rintro e w' ⟨rfl, rfl⟩))
        all_goals go_ret2
        all_goals exact ⟨rfl, by go_grown⟩
      · have h3 : inB c 0 12 = false := by rw [h1, h2] at hgg; simpa using hgg
        clear hgg
        go_enter Try.func23, Try.ntmps23
        go_wp2_with fail
        refine wp_loop_rounds 4 ?_
        repeat any_goals (rw [rounds_succ]; go_wp2_with (go_at_call 41; refine (LR.out _ _ _ _).mono ?_; rintro e w' ⟨rfl, rfl⟩))
        all_goals go_ret2
        all_goals exact ⟨rfl, by go_grown⟩
  · obtain ⟨x, y, z, rfl, rfl, rfl, hx, hy, hz⟩ := g3_num hg
    have h1 : inB (x : Int) 0 12 = true := by simp [inB]; omega
    have h2 : inB (y : Int) 0 12 = true := by simp [inB]; omega
    have h3 : inB (z : Int) 0 12 = true := by simp [inB]; omega
    cases hi : inB ((x : Int) + (y : Int) + (z : Int)) 1 12
    · have hb : cwB (x : Int) (y : Int) (z : Int) = false := by simp [cwB, hi]
      rw [cw_no hb, hb]
      clear hb hg
      go_enter Try.func23, Try.ntmps23
      go_wp2_with fail
      refine wp_loop_rounds 4 ?_
      repeat any_goals (rw [rounds_succ]; go_wp2_with (go_at_call 41; refine (LR.out _ _ _ _).mono ?_; rintro e w' ⟨rfl, rfl⟩))
      all_goals go_ret2
      all_goals exact ⟨rfl, by go_grown⟩
    · have hb : cwB (x : Int) (y : Int) (z : Int) = true := by simp [cwB, hg, hi]
      rw [cw_yes hb, hb, show ((x : Int) + (y : Int) + (z : Int)).toNat = x + y + z by omega]
      have hn : x + y + z ≤ 12 := by simp only [inB, decide_eq_true_eq] at hi; omega
      obtain ⟨n, hnn⟩ : ∃ n, x + y + z = n := ⟨_, rfl⟩
      obtain ⟨m, hm⟩ : ∃ m, n / 2 = m := ⟨_, rfl⟩
      obtain ⟨k, hk⟩ : ∃ k, n - m = k := ⟨_, rfl⟩
      have hsum : (x : Int) + (y : Int) + (z : Int) = (n : Int) := by omega
      have hq : (n : Int).tdiv 2 = (m : Int) := by rw [Int.tdiv_eq_ediv_of_nonneg (by omega)]; omega
      have hs : (n : Int) - (m : Int) = (k : Int) := by omega
      have hwm : IntKind.i64.wrap (m : Int) = (m : Int) := by rw [IntKind.wrap_i64]; omega
      have hwk : IntKind.i64.wrap (k : Int) = (k : Int) := by rw [IntKind.wrap_i64]; omega
      have H1 := Lib.hid (fun w => halvesOf_any m (by omega) w)
      have H2 := Lib.hid (fun w => halvesOf_any k (by omega) w)
      have HCM := Lib.hid (fun bb bd m1 m2 w h1 h2 => cm_any m k n (by omega) (by omega) (by omega) (x : Nat) (y : Nat) (z : Nat) (by omega) (by omega) (by omega) bb bd m1 m2 w h1 h2)
      rw [hnn]
      rw [hsum] at hi
      generalize cwt n (x : Int) (y : Int) (z : Int) = C at *
      clear hb hg hnn
      go_enter Try.func23, Try.ntmps23
      go_wp2_with fail
      refine wp_loop_rounds 4 ?_
      repeat any_goals (rw [rounds_succ]; go_wp2_with (go_at_call 41; refine (LR.out _ _ _ _).mono ?_; rintro e w' ⟨rfl, rfl⟩))
      have hsz : (w.alloc (.cells #[.int .i64 (x : Nat), .int .i64 (y : Nat), .int .i64 (z : Nat)] 3)).heap.size = w.heap.size + 1 := by simp
      have hbx := heap_alloc_new (w.alloc (.cells #[.int .i64 (x : Nat), .int .i64 (y : Nat), .int .i64 (z : Nat)] 3)) (.cells #[.int .i64 (x : Nat), .int .i64 (y : Nat), .int .i64 (z : Nat)] 60)
      rw [hsz] at hbx
      have hS0 := blk3 hbx
      have hTl : w.heap.size + 1 < ((w.alloc (.cells #[.int .i64 (x : Nat), .int .i64 (y : Nat), .int .i64 (z : Nat)] 3)).alloc (.cells #[.int .i64 (x : Nat), .int .i64 (y : Nat), .int .i64 (z : Nat)] 60)).heap.size := by simp
      have HB0 := Lib.hid (show Below w.heap.size w ((w.alloc (.cells #[.int .i64 (x : Nat), .int .i64 (y : Nat), .int .i64 (z : Nat)] 3)).alloc (.cells #[.int .i64 (x : Nat), .int .i64 (y : Nat), .int .i64 (z : Nat)] 60)) from (Below.alloc (Below.refl _ _) (Nat.le_refl _) (.cells #[.int .i64 (x : Nat), .int .i64 (y : Nat), .int .i64 (z : Nat)] 3)).alloc (by simp) (.cells #[.int .i64 (x : Nat), .int .i64 (y : Nat), .int .i64 (z : Nat)] 60))
      clear hsz hbx
      go_region_held3 (fun w' => w'.cell? ⟨w.heap.size + 1, 0, none⟩ = some (.int .i64 (x : Nat)) ∧ w'.cell? ⟨w.heap.size + 1, 1, none⟩ = some (.int .i64 (y : Nat)) ∧ w'.cell? ⟨w.heap.size + 1, 2, none⟩ = some (.int .i64 (z : Nat)))
        (first | (with_reducible exact hSC) | (with_reducible exact hSB) | (with_reducible exact hSA) | (with_reducible exact hS0) | (exact hS0))
        (first | ((with_reducible refine (H1.out _).mono ?_); rintro e wA ⟨b1, m1, rfl, hM1, hl1, hm1, hA⟩; (try with_reducible replace hA := undrew hA); have hSA := s3_blk hS0 (hA.block (w.heap.size + 1) hTl)) | ((with_reducible refine (H2.out _).mono ?_); rintro e wB ⟨b2, m2, rfl, hM2, hl2, hm2, hB'⟩; have hB := ba hA hB'; have hM1B := hM1.below hB'; have hSB := s3_blk hS0 (hB.block (w.heap.size + 1) hTl)) | ((with_reducible refine (HCM.out b1 b2 m1 m2 _ hM1B hM2).mono ?_); rintro e wC ⟨rfl, hC'⟩; have hC := ba hB hC'; have hSC := s3_blk hS0 (hC.block (w.heap.size + 1) hTl)))
      all_goals
        have HB := Lib.hid (HB0.out.trans (hC.mono (by simp; omega)))
        clear hS0 hSA hSB hSC hA hB hB' hC hC' hM1 hM2 hM1B
        go_wp2_with fail
        go_ret2
        exact ⟨rfl, HB.out⟩

end Go.Proofs.Ytoenkgenoloihab
