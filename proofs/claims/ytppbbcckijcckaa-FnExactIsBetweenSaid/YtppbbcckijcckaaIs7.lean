/- Contract: the program's isStraight. -/
import Derived.Test.YtppbbcckijcckaaPq
import Derived.Test.YtppbbcckijcckaaQe
namespace Go.Proofs.Ytppbbcckijcckaa
open Go.ChangeShapes Go.WideShapes Go.ChangeAt Go.RowKit Go.Sort

set_option linter.unusedVariables false
set_option linter.unusedSimpArgs false

theorem three_len {l : List Pl} (h : l.length = 3) : ∃ a b c, l = [a, b, c] := by
  rcases l with _ | ⟨a, _ | ⟨b, _ | ⟨c, _ | ⟨d, l⟩⟩⟩⟩ <;> simp at h
  exact ⟨a, b, c, rfl⟩

theorem le_leP {x y : Pl} : leP x y ↔ Pn.led true x.1 y.1 := by
  unfold leP Pn.led
  rcases Pn.ltd_tri true x.1 y.1 with h | h | h
  · simp [h, Pn.ltd_asymm h]
  · rw [h]; simp; exact fun k => Pn.ltd_ne k rfl
  · have n1 := Pn.ltd_asymm h
    have n2 : x.1 ≠ y.1 := fun e => Pn.ltd_ne h e.symm
    simp [h, n1, n2]

/-- Three places sorted: in their order or backwards, if the middle one lies between. -/
theorem three_sorted {x y z s0 s1 s2 : Pl} (h : srtP [x, y, z] = [s0, s1, s2]) :
    (decide (Pn.sd x.1 y.1 z.1 = 0) && ((decide (x.1 = s0.1) && (decide (y.1 = s1.1) && decide (z.1 = s2.1))) || (decide (z.1 = s0.1) && (decide (y.1 = s1.1) && decide (x.1 = s2.1))))) = Pn.btw x.1 z.1 y.1 := by
  have a := srtP_eq (l := [x, y, z]) (m := [x, y, z]) (List.Perm.refl _)
  have b := srtP_eq (l := [x, y, z]) (m := [z, y, x]) (by
    have := List.reverse_perm [x, y, z]
    simpa using this)
  rw [h] at a b
  have e : ∀ u v t : Pl, [u, v, t] = [s0, s1, s2] ↔ u.1 = s0.1 ∧ v.1 = s1.1 ∧ t.1 = s2.1 := fun u v t => by
    simp only [List.cons.injEq, and_true]
    exact ⟨fun ⟨h1, h2, h3⟩ => ⟨by rw [h1], by rw [h2], by rw [h3]⟩, fun ⟨h1, h2, h3⟩ => ⟨Subtype.ext h1, Subtype.ext h2, Subtype.ext h3⟩⟩
  rw [e] at a b
  simp only [List.pairwise_cons, List.mem_cons, List.not_mem_nil, or_false, forall_eq_or_imp, forall_eq, List.Pairwise.nil, and_true, false_implies, implies_true, le_leP] at a b
  have sw := Pn.sd_swap x.1 z.1 y.1
  rw [Bool.eq_iff_iff, Pn.btw_iff]
  simp only [Bool.and_eq_true, Bool.or_eq_true, decide_eq_true_eq]
  rw [a, b]
  unfold Pn.lexbt
  constructor
  · rintro ⟨h0, ⟨⟨h1, h2⟩, h3⟩ | ⟨⟨h1, h2⟩, h3⟩⟩
    · exact ⟨by omega, .inl ⟨h1, h3⟩⟩
    · exact ⟨by omega, .inr ⟨h3, h1⟩⟩
  · rintro ⟨h0, ⟨h1, h2⟩ | ⟨h1, h2⟩⟩
    · exact ⟨by omega, .inl ⟨⟨h1, Pn.led_trans h1 h2⟩, h2⟩⟩
    · exact ⟨by omega, .inr ⟨⟨h2, Pn.led_trans h2 h1⟩, h1⟩⟩

set_option maxRecDepth 100000 in
set_option maxHeartbeats 3200000 in
theorem isStraightP (x y z : Pn) (hx : Bd 100000 x) (hy : Bd 100000 y) (bz : Bd 100000 z) (w : World) :
    Calls Try.prog 113 #[tv x y z] w fun e w' => e = .returned (.bool (Pn.btw x z y)) ∧ Below w.heap.size w w' := by
  obtain ⟨s0, s1, s2, hsrt⟩ : ∃ s0 s1 s2, srtP [⟨x, hx⟩, ⟨y, hy⟩, ⟨z, bz⟩] = [s0, s1, s2] := by
    have hl := (srtP_perm [⟨x, hx⟩, ⟨y, hy⟩, ⟨z, bz⟩]).length_eq
    generalize srtP [⟨x, hx⟩, ⟨y, hy⟩, ⟨z, bz⟩] = l at hl
    exact three_len hl
  have hbt := three_sorted hsrt
  simp only at hbt
  go_enter Try.func113, Try.ntmps113
  go_wp2_with fail
  refine absW (F := fun W => (W.cell? ⟨w.heap.size, 0, none⟩ = some (.int .i64 (x).a) ∧ W.cell? ⟨w.heap.size, 1, none⟩ = some (.int .i64 (x).b) ∧ W.cell? ⟨w.heap.size, 2, none⟩ = some (.int .i64 (x).c) ∧ W.cell? ⟨w.heap.size, 3, none⟩ = some (.int .i64 (x).d)) ∧ (W.cell? ⟨w.heap.size, 4, none⟩ = some (.int .i64 (y).a) ∧ W.cell? ⟨w.heap.size, 5, none⟩ = some (.int .i64 (y).b) ∧ W.cell? ⟨w.heap.size, 6, none⟩ = some (.int .i64 (y).c) ∧ W.cell? ⟨w.heap.size, 7, none⟩ = some (.int .i64 (y).d)) ∧ (W.cell? ⟨w.heap.size, 8, none⟩ = some (.int .i64 (z).a) ∧ W.cell? ⟨w.heap.size, 9, none⟩ = some (.int .i64 (z).b) ∧ W.cell? ⟨w.heap.size, 10, none⟩ = some (.int .i64 (z).c) ∧ W.cell? ⟨w.heap.size, 11, none⟩ = some (.int .i64 (z).d)) ∧ Below w.heap.size w W ∧ W.heap.size = w.heap.size + 1) ⟨⟨by go_simp, by go_simp, by go_simp, by go_simp⟩, ⟨by go_simp, by go_simp, by go_simp, by go_simp⟩, ⟨by go_simp, by go_simp, by go_simp, by go_simp⟩, by go_grown, by first | (simp; done) | (simp; omega)⟩ ?_
  rintro W ⟨⟨cI_0, cI_1, cI_2, cI_3⟩, ⟨cI_4, cI_5, cI_6, cI_7⟩, ⟨cI_8, cI_9, cI_10, cI_11⟩, HB, hz⟩
  have kI_0 := fun d os => cell_regrown cI_0 d os
  have kI_1 := fun d os => cell_regrown cI_1 d os
  have kI_2 := fun d os => cell_regrown cI_2 d os
  have kI_3 := fun d os => cell_regrown cI_3 d os
  have kI_4 := fun d os => cell_regrown cI_4 d os
  have kI_5 := fun d os => cell_regrown cI_5 d os
  have kI_6 := fun d os => cell_regrown cI_6 d os
  have kI_7 := fun d os => cell_regrown cI_7 d os
  have kI_8 := fun d os => cell_regrown cI_8 d os
  have kI_9 := fun d os => cell_regrown cI_9 d os
  have kI_10 := fun d os => cell_regrown cI_10 d os
  have kI_11 := fun d os => cell_regrown cI_11 d os
  have ne0 : ¬ W.heap.size = w.heap.size := by omega
  have ne1 : ¬ W.heap.size + 1 = w.heap.size := by omega
  go_region_held3 (fun w' => (w'.cell? ⟨w.heap.size, 0, none⟩ = some (.int .i64 (x).a) ∧ w'.cell? ⟨w.heap.size, 1, none⟩ = some (.int .i64 (x).b) ∧ w'.cell? ⟨w.heap.size, 2, none⟩ = some (.int .i64 (x).c) ∧ w'.cell? ⟨w.heap.size, 3, none⟩ = some (.int .i64 (x).d)) ∧ (w'.cell? ⟨w.heap.size, 4, none⟩ = some (.int .i64 (y).a) ∧ w'.cell? ⟨w.heap.size, 5, none⟩ = some (.int .i64 (y).b) ∧ w'.cell? ⟨w.heap.size, 6, none⟩ = some (.int .i64 (y).c) ∧ w'.cell? ⟨w.heap.size, 7, none⟩ = some (.int .i64 (y).d)) ∧ (w'.cell? ⟨w.heap.size, 8, none⟩ = some (.int .i64 (z).a) ∧ w'.cell? ⟨w.heap.size, 9, none⟩ = some (.int .i64 (z).b) ∧ w'.cell? ⟨w.heap.size, 10, none⟩ = some (.int .i64 (z).c) ∧ w'.cell? ⟨w.heap.size, 11, none⟩ = some (.int .i64 (z).d))) (go_keep) (fail)
  · skip
    refine absE (F := fun X => (X.cell? ⟨w.heap.size, 0, none⟩ = some (.int .i64 (x).a) ∧ X.cell? ⟨w.heap.size, 1, none⟩ = some (.int .i64 (x).b) ∧ X.cell? ⟨w.heap.size, 2, none⟩ = some (.int .i64 (x).c) ∧ X.cell? ⟨w.heap.size, 3, none⟩ = some (.int .i64 (x).d)) ∧ (X.cell? ⟨w.heap.size, 4, none⟩ = some (.int .i64 (y).a) ∧ X.cell? ⟨w.heap.size, 5, none⟩ = some (.int .i64 (y).b) ∧ X.cell? ⟨w.heap.size, 6, none⟩ = some (.int .i64 (y).c) ∧ X.cell? ⟨w.heap.size, 7, none⟩ = some (.int .i64 (y).d)) ∧ (X.cell? ⟨w.heap.size, 8, none⟩ = some (.int .i64 (z).a) ∧ X.cell? ⟨w.heap.size, 9, none⟩ = some (.int .i64 (z).b) ∧ X.cell? ⟨w.heap.size, 10, none⟩ = some (.int .i64 (z).c) ∧ X.cell? ⟨w.heap.size, 11, none⟩ = some (.int .i64 (z).d)) ∧ (X.cell? ⟨w.heap.size + 1, 0, none⟩ = some (.int .i64 (x).a) ∧ X.cell? ⟨w.heap.size + 1, 1, none⟩ = some (.int .i64 (x).b) ∧ X.cell? ⟨w.heap.size + 1, 2, none⟩ = some (.int .i64 (x).c) ∧ X.cell? ⟨w.heap.size + 1, 3, none⟩ = some (.int .i64 (x).d)) ∧ (X.cell? ⟨w.heap.size + 1, 4, none⟩ = some (.int .i64 (y).a) ∧ X.cell? ⟨w.heap.size + 1, 5, none⟩ = some (.int .i64 (y).b) ∧ X.cell? ⟨w.heap.size + 1, 6, none⟩ = some (.int .i64 (y).c) ∧ X.cell? ⟨w.heap.size + 1, 7, none⟩ = some (.int .i64 (y).d)) ∧ (X.cell? ⟨w.heap.size + 1, 8, none⟩ = some (.int .i64 (z).a) ∧ X.cell? ⟨w.heap.size + 1, 9, none⟩ = some (.int .i64 (z).b) ∧ X.cell? ⟨w.heap.size + 1, 10, none⟩ = some (.int .i64 (z).c) ∧ X.cell? ⟨w.heap.size + 1, 11, none⟩ = some (.int .i64 (z).d)) ∧ (∀ i, X.frozen? ⟨w.heap.size + 1, i, none⟩ = false) ∧ (X.cell? ⟨w.heap.size + 1 + 1, 0, none⟩ = some (.int .i64 (z).a) ∧ X.cell? ⟨w.heap.size + 1 + 1, 1, none⟩ = some (.int .i64 (z).b) ∧ X.cell? ⟨w.heap.size + 1 + 1, 2, none⟩ = some (.int .i64 (z).c) ∧ X.cell? ⟨w.heap.size + 1 + 1, 3, none⟩ = some (.int .i64 (z).d)) ∧ (X.cell? ⟨w.heap.size + 1 + 1, 4, none⟩ = some (.int .i64 (y).a) ∧ X.cell? ⟨w.heap.size + 1 + 1, 5, none⟩ = some (.int .i64 (y).b) ∧ X.cell? ⟨w.heap.size + 1 + 1, 6, none⟩ = some (.int .i64 (y).c) ∧ X.cell? ⟨w.heap.size + 1 + 1, 7, none⟩ = some (.int .i64 (y).d)) ∧ (X.cell? ⟨w.heap.size + 1 + 1, 8, none⟩ = some (.int .i64 (x).a) ∧ X.cell? ⟨w.heap.size + 1 + 1, 9, none⟩ = some (.int .i64 (x).b) ∧ X.cell? ⟨w.heap.size + 1 + 1, 10, none⟩ = some (.int .i64 (x).c) ∧ X.cell? ⟨w.heap.size + 1 + 1, 11, none⟩ = some (.int .i64 (x).d)) ∧ Below w.heap.size w X ∧ X.heap.size = w.heap.size + 1 + 1 + 1) ⟨⟨by go_simp, by go_simp, by go_simp, by go_simp⟩, ⟨by go_simp, by go_simp, by go_simp, by go_simp⟩, ⟨by go_simp, by go_simp, by go_simp, by go_simp⟩, ⟨by go_simp, by go_simp, by go_simp, by go_simp⟩, ⟨by go_simp, by go_simp, by go_simp, by go_simp⟩, ⟨by go_simp, by go_simp, by go_simp, by go_simp⟩, fun i => by go_simp, ⟨by go_simp, by go_simp, by go_simp, by go_simp⟩, ⟨by go_simp, by go_simp, by go_simp, by go_simp⟩, ⟨by go_simp, by go_simp, by go_simp, by go_simp⟩, by go_grown, by first | (simp; done) | (simp; omega)⟩ ?_
    rintro X ⟨⟨c0_0, c0_1, c0_2, c0_3⟩, ⟨c0_4, c0_5, c0_6, c0_7⟩, ⟨c0_8, c0_9, c0_10, c0_11⟩, ⟨c1_0, c1_1, c1_2, c1_3⟩, ⟨c1_4, c1_5, c1_6, c1_7⟩, ⟨c1_8, c1_9, c1_10, c1_11⟩, fr1, ⟨c2_0, c2_1, c2_2, c2_3⟩, ⟨c2_4, c2_5, c2_6, c2_7⟩, ⟨c2_8, c2_9, c2_10, c2_11⟩, HB, hz⟩
    have k0_0 := fun d os => cell_regrown c0_0 d os
    have k0_1 := fun d os => cell_regrown c0_1 d os
    have k0_2 := fun d os => cell_regrown c0_2 d os
    have k0_3 := fun d os => cell_regrown c0_3 d os
    have k0_4 := fun d os => cell_regrown c0_4 d os
    have k0_5 := fun d os => cell_regrown c0_5 d os
    have k0_6 := fun d os => cell_regrown c0_6 d os
    have k0_7 := fun d os => cell_regrown c0_7 d os
    have k0_8 := fun d os => cell_regrown c0_8 d os
    have k0_9 := fun d os => cell_regrown c0_9 d os
    have k0_10 := fun d os => cell_regrown c0_10 d os
    have k0_11 := fun d os => cell_regrown c0_11 d os
    have k1_0 := fun d os => cell_regrown c1_0 d os
    have k1_1 := fun d os => cell_regrown c1_1 d os
    have k1_2 := fun d os => cell_regrown c1_2 d os
    have k1_3 := fun d os => cell_regrown c1_3 d os
    have k1_4 := fun d os => cell_regrown c1_4 d os
    have k1_5 := fun d os => cell_regrown c1_5 d os
    have k1_6 := fun d os => cell_regrown c1_6 d os
    have k1_7 := fun d os => cell_regrown c1_7 d os
    have k1_8 := fun d os => cell_regrown c1_8 d os
    have k1_9 := fun d os => cell_regrown c1_9 d os
    have k1_10 := fun d os => cell_regrown c1_10 d os
    have k1_11 := fun d os => cell_regrown c1_11 d os
    have k2_0 := fun d os => cell_regrown c2_0 d os
    have k2_1 := fun d os => cell_regrown c2_1 d os
    have k2_2 := fun d os => cell_regrown c2_2 d os
    have k2_3 := fun d os => cell_regrown c2_3 d os
    have k2_4 := fun d os => cell_regrown c2_4 d os
    have k2_5 := fun d os => cell_regrown c2_5 d os
    have k2_6 := fun d os => cell_regrown c2_6 d os
    have k2_7 := fun d os => cell_regrown c2_7 d os
    have k2_8 := fun d os => cell_regrown c2_8 d os
    have k2_9 := fun d os => cell_regrown c2_9 d os
    have k2_10 := fun d os => cell_regrown c2_10 d os
    have k2_11 := fun d os => cell_regrown c2_11 d os
    clear ne0 ne1 cI_0 kI_0 cI_1 kI_1 cI_2 kI_2 cI_3 kI_3 cI_4 kI_4 cI_5 kI_5 cI_6 kI_6 cI_7 kI_7 cI_8 kI_8 cI_9 kI_9 cI_10 kI_10 cI_11 kI_11
    go_wp2_with fail
    (go_at_call 89; (refine (sortP_any [⟨x, hx⟩, ⟨y, hy⟩, ⟨z, bz⟩] 3 rfl (by omega) (w.heap.size + 1) 3 _ (HoldsP.of (rowP3 c1_0 c1_1 c1_2 c1_3 c1_4 c1_5 c1_6 c1_7 c1_8 c1_9 c1_10 c1_11) (fun j _ => fr1 j)) (by omega)).mono ?_); rintro e w2 ⟨rfl, hH, hO⟩)
    rw [hsrt] at hH
    obtain ⟨d0, d1, d2, d3⟩ := hH.rowP 0 s0.1 rfl
    obtain ⟨d4, d5, d6, d7⟩ := hH.rowP 1 s1.1 rfl
    obtain ⟨d8, d9, d10, d11⟩ := hH.rowP 2 s2.1 rfl
    simp only [Nat.zero_mul, Nat.one_mul, Nat.reduceMul, Nat.reduceAdd, Nat.zero_add] at d0 d1 d2 d3 d4 d5 d6 d7 d8 d9 d10 d11
    have f0_0 := hO.cell (by omega) c0_0
    have f0_1 := hO.cell (by omega) c0_1
    have f0_2 := hO.cell (by omega) c0_2
    have f0_3 := hO.cell (by omega) c0_3
    have f0_4 := hO.cell (by omega) c0_4
    have f0_5 := hO.cell (by omega) c0_5
    have f0_6 := hO.cell (by omega) c0_6
    have f0_7 := hO.cell (by omega) c0_7
    have f0_8 := hO.cell (by omega) c0_8
    have f0_9 := hO.cell (by omega) c0_9
    have f0_10 := hO.cell (by omega) c0_10
    have f0_11 := hO.cell (by omega) c0_11
    have f2_0 := hO.cell (by omega) c2_0
    have f2_1 := hO.cell (by omega) c2_1
    have f2_2 := hO.cell (by omega) c2_2
    have f2_3 := hO.cell (by omega) c2_3
    have f2_4 := hO.cell (by omega) c2_4
    have f2_5 := hO.cell (by omega) c2_5
    have f2_6 := hO.cell (by omega) c2_6
    have f2_7 := hO.cell (by omega) c2_7
    have f2_8 := hO.cell (by omega) c2_8
    have f2_9 := hO.cell (by omega) c2_9
    have f2_10 := hO.cell (by omega) c2_10
    have f2_11 := hO.cell (by omega) c2_11
    have hBO : Below w.heap.size w w2 := HB.trans (hO.below (by omega) (by omega))
    have hz2 := hO.size
    have y0 : w.heap.size < w2.heap.size := by omega
    have y1 : w.heap.size + 1 < w2.heap.size := by omega
    have y2 : w.heap.size + 1 + 1 < w2.heap.size := by omega
    clear hH hO c0_0 k0_0 c0_1 k0_1 c0_2 k0_2 c0_3 k0_3 c0_4 k0_4 c0_5 k0_5 c0_6 k0_6 c0_7 k0_7 c0_8 k0_8 c0_9 k0_9 c0_10 k0_10 c0_11 k0_11 c1_0 k1_0 c1_1 k1_1 c1_2 k1_2 c1_3 k1_3 c1_4 k1_4 c1_5 k1_5 c1_6 k1_6 c1_7 k1_7 c1_8 k1_8 c1_9 k1_9 c1_10 k1_10 c1_11 k1_11 c2_0 k2_0 c2_1 k2_1 c2_2 k2_2 c2_3 k2_3 c2_4 k2_4 c2_5 k2_5 c2_6 k2_6 c2_7 k2_7 c2_8 k2_8 c2_9 k2_9 c2_10 k2_10 c2_11 k2_11 fr1 HB
    by_cases h0 : Pn.sd x y z = 0
    · cases hA1 : (decide (x = s0.1) && (decide (y = s1.1) && decide (z = s2.1))) <;> cases hA2 : (decide (z = s0.1) && (decide (y = s1.1) && decide (x = s2.1)))
      all_goals
        go_wp2_with (go_at_call 56; (with_reducible refine (sideP x y z hx hy bz _).mono ?_); rintro e w3 ⟨rfl, h1⟩; (try with_reducible replace h1 := undrew h1); have hB : Below w.heap.size w w3 := ba (by go_grown) h1; obtain ⟨hcw3, hfw3⟩ := bcell h1; have hqw3 := h1.size; (try simp at hqw3); (try have hz0w3 : w.heap.size < w3.heap.size := (by omega)); (try have he0w3 : w.heap.size ≤ w3.heap.size := (by omega)); (try have hz1w3 : w.heap.size + 1 < w3.heap.size := (by omega)); (try have he1w3 : w.heap.size + 1 ≤ w3.heap.size := (by omega)); (try have hz2w3 : w.heap.size + 1 + 1 < w3.heap.size := (by omega)); (try have he2w3 : w.heap.size + 1 + 1 ≤ w3.heap.size := (by omega)))
        go_returns
        exact ⟨by rw [← hbt, hA1, hA2]; simp [h0], by go_grown⟩
    · go_wp2_with (go_at_call 56; (with_reducible refine (sideP x y z hx hy bz _).mono ?_); rintro e w3 ⟨rfl, h1⟩; (try with_reducible replace h1 := undrew h1); have hB : Below w.heap.size w w3 := ba (by go_grown) h1; obtain ⟨hcw3, hfw3⟩ := bcell h1; have hqw3 := h1.size; (try simp at hqw3); (try have hz0w3 : w.heap.size < w3.heap.size := (by omega)); (try have he0w3 : w.heap.size ≤ w3.heap.size := (by omega)); (try have hz1w3 : w.heap.size + 1 < w3.heap.size := (by omega)); (try have he1w3 : w.heap.size + 1 ≤ w3.heap.size := (by omega)); (try have hz2w3 : w.heap.size + 1 + 1 < w3.heap.size := (by omega)); (try have he2w3 : w.heap.size + 1 + 1 ≤ w3.heap.size := (by omega)))
      go_returns
      exact ⟨by rw [← hbt]; simp [h0], by go_grown⟩
  · skip
    refine absE (F := fun X => (X.cell? ⟨w.heap.size, 0, none⟩ = some (.int .i64 (x).a) ∧ X.cell? ⟨w.heap.size, 1, none⟩ = some (.int .i64 (x).b) ∧ X.cell? ⟨w.heap.size, 2, none⟩ = some (.int .i64 (x).c) ∧ X.cell? ⟨w.heap.size, 3, none⟩ = some (.int .i64 (x).d)) ∧ (X.cell? ⟨w.heap.size, 4, none⟩ = some (.int .i64 (y).a) ∧ X.cell? ⟨w.heap.size, 5, none⟩ = some (.int .i64 (y).b) ∧ X.cell? ⟨w.heap.size, 6, none⟩ = some (.int .i64 (y).c) ∧ X.cell? ⟨w.heap.size, 7, none⟩ = some (.int .i64 (y).d)) ∧ (X.cell? ⟨w.heap.size, 8, none⟩ = some (.int .i64 (z).a) ∧ X.cell? ⟨w.heap.size, 9, none⟩ = some (.int .i64 (z).b) ∧ X.cell? ⟨w.heap.size, 10, none⟩ = some (.int .i64 (z).c) ∧ X.cell? ⟨w.heap.size, 11, none⟩ = some (.int .i64 (z).d)) ∧ (X.cell? ⟨w.heap.size + 1 + 1, 0, none⟩ = some (.int .i64 (x).a) ∧ X.cell? ⟨w.heap.size + 1 + 1, 1, none⟩ = some (.int .i64 (x).b) ∧ X.cell? ⟨w.heap.size + 1 + 1, 2, none⟩ = some (.int .i64 (x).c) ∧ X.cell? ⟨w.heap.size + 1 + 1, 3, none⟩ = some (.int .i64 (x).d)) ∧ (X.cell? ⟨w.heap.size + 1 + 1, 4, none⟩ = some (.int .i64 (y).a) ∧ X.cell? ⟨w.heap.size + 1 + 1, 5, none⟩ = some (.int .i64 (y).b) ∧ X.cell? ⟨w.heap.size + 1 + 1, 6, none⟩ = some (.int .i64 (y).c) ∧ X.cell? ⟨w.heap.size + 1 + 1, 7, none⟩ = some (.int .i64 (y).d)) ∧ (X.cell? ⟨w.heap.size + 1 + 1, 8, none⟩ = some (.int .i64 (z).a) ∧ X.cell? ⟨w.heap.size + 1 + 1, 9, none⟩ = some (.int .i64 (z).b) ∧ X.cell? ⟨w.heap.size + 1 + 1, 10, none⟩ = some (.int .i64 (z).c) ∧ X.cell? ⟨w.heap.size + 1 + 1, 11, none⟩ = some (.int .i64 (z).d)) ∧ (∀ i, X.frozen? ⟨w.heap.size + 1 + 1, i, none⟩ = false) ∧ (X.cell? ⟨w.heap.size + 1, 0, none⟩ = some (.int .i64 (z).a) ∧ X.cell? ⟨w.heap.size + 1, 1, none⟩ = some (.int .i64 (z).b) ∧ X.cell? ⟨w.heap.size + 1, 2, none⟩ = some (.int .i64 (z).c) ∧ X.cell? ⟨w.heap.size + 1, 3, none⟩ = some (.int .i64 (z).d)) ∧ (X.cell? ⟨w.heap.size + 1, 4, none⟩ = some (.int .i64 (y).a) ∧ X.cell? ⟨w.heap.size + 1, 5, none⟩ = some (.int .i64 (y).b) ∧ X.cell? ⟨w.heap.size + 1, 6, none⟩ = some (.int .i64 (y).c) ∧ X.cell? ⟨w.heap.size + 1, 7, none⟩ = some (.int .i64 (y).d)) ∧ (X.cell? ⟨w.heap.size + 1, 8, none⟩ = some (.int .i64 (x).a) ∧ X.cell? ⟨w.heap.size + 1, 9, none⟩ = some (.int .i64 (x).b) ∧ X.cell? ⟨w.heap.size + 1, 10, none⟩ = some (.int .i64 (x).c) ∧ X.cell? ⟨w.heap.size + 1, 11, none⟩ = some (.int .i64 (x).d)) ∧ Below w.heap.size w X ∧ X.heap.size = w.heap.size + 1 + 1 + 1) ⟨⟨by go_simp, by go_simp, by go_simp, by go_simp⟩, ⟨by go_simp, by go_simp, by go_simp, by go_simp⟩, ⟨by go_simp, by go_simp, by go_simp, by go_simp⟩, ⟨by go_simp, by go_simp, by go_simp, by go_simp⟩, ⟨by go_simp, by go_simp, by go_simp, by go_simp⟩, ⟨by go_simp, by go_simp, by go_simp, by go_simp⟩, fun i => by go_simp, ⟨by go_simp, by go_simp, by go_simp, by go_simp⟩, ⟨by go_simp, by go_simp, by go_simp, by go_simp⟩, ⟨by go_simp, by go_simp, by go_simp, by go_simp⟩, by go_grown, by first | (simp; done) | (simp; omega)⟩ ?_
    rintro X ⟨⟨c0_0, c0_1, c0_2, c0_3⟩, ⟨c0_4, c0_5, c0_6, c0_7⟩, ⟨c0_8, c0_9, c0_10, c0_11⟩, ⟨c2_0, c2_1, c2_2, c2_3⟩, ⟨c2_4, c2_5, c2_6, c2_7⟩, ⟨c2_8, c2_9, c2_10, c2_11⟩, fr2, ⟨c1_0, c1_1, c1_2, c1_3⟩, ⟨c1_4, c1_5, c1_6, c1_7⟩, ⟨c1_8, c1_9, c1_10, c1_11⟩, HB, hz⟩
    have k0_0 := fun d os => cell_regrown c0_0 d os
    have k0_1 := fun d os => cell_regrown c0_1 d os
    have k0_2 := fun d os => cell_regrown c0_2 d os
    have k0_3 := fun d os => cell_regrown c0_3 d os
    have k0_4 := fun d os => cell_regrown c0_4 d os
    have k0_5 := fun d os => cell_regrown c0_5 d os
    have k0_6 := fun d os => cell_regrown c0_6 d os
    have k0_7 := fun d os => cell_regrown c0_7 d os
    have k0_8 := fun d os => cell_regrown c0_8 d os
    have k0_9 := fun d os => cell_regrown c0_9 d os
    have k0_10 := fun d os => cell_regrown c0_10 d os
    have k0_11 := fun d os => cell_regrown c0_11 d os
    have k2_0 := fun d os => cell_regrown c2_0 d os
    have k2_1 := fun d os => cell_regrown c2_1 d os
    have k2_2 := fun d os => cell_regrown c2_2 d os
    have k2_3 := fun d os => cell_regrown c2_3 d os
    have k2_4 := fun d os => cell_regrown c2_4 d os
    have k2_5 := fun d os => cell_regrown c2_5 d os
    have k2_6 := fun d os => cell_regrown c2_6 d os
    have k2_7 := fun d os => cell_regrown c2_7 d os
    have k2_8 := fun d os => cell_regrown c2_8 d os
    have k2_9 := fun d os => cell_regrown c2_9 d os
    have k2_10 := fun d os => cell_regrown c2_10 d os
    have k2_11 := fun d os => cell_regrown c2_11 d os
    have k1_0 := fun d os => cell_regrown c1_0 d os
    have k1_1 := fun d os => cell_regrown c1_1 d os
    have k1_2 := fun d os => cell_regrown c1_2 d os
    have k1_3 := fun d os => cell_regrown c1_3 d os
    have k1_4 := fun d os => cell_regrown c1_4 d os
    have k1_5 := fun d os => cell_regrown c1_5 d os
    have k1_6 := fun d os => cell_regrown c1_6 d os
    have k1_7 := fun d os => cell_regrown c1_7 d os
    have k1_8 := fun d os => cell_regrown c1_8 d os
    have k1_9 := fun d os => cell_regrown c1_9 d os
    have k1_10 := fun d os => cell_regrown c1_10 d os
    have k1_11 := fun d os => cell_regrown c1_11 d os
    clear ne0 ne1 cI_0 kI_0 cI_1 kI_1 cI_2 kI_2 cI_3 kI_3 cI_4 kI_4 cI_5 kI_5 cI_6 kI_6 cI_7 kI_7 cI_8 kI_8 cI_9 kI_9 cI_10 kI_10 cI_11 kI_11
    go_wp2_with fail
    (go_at_call 89; (refine (sortP_any [⟨x, hx⟩, ⟨y, hy⟩, ⟨z, bz⟩] 3 rfl (by omega) (w.heap.size + 1 + 1) 3 _ (HoldsP.of (rowP3 c2_0 c2_1 c2_2 c2_3 c2_4 c2_5 c2_6 c2_7 c2_8 c2_9 c2_10 c2_11) (fun j _ => fr2 j)) (by omega)).mono ?_); rintro e w2 ⟨rfl, hH, hO⟩)
    rw [hsrt] at hH
    obtain ⟨d0, d1, d2, d3⟩ := hH.rowP 0 s0.1 rfl
    obtain ⟨d4, d5, d6, d7⟩ := hH.rowP 1 s1.1 rfl
    obtain ⟨d8, d9, d10, d11⟩ := hH.rowP 2 s2.1 rfl
    simp only [Nat.zero_mul, Nat.one_mul, Nat.reduceMul, Nat.reduceAdd, Nat.zero_add] at d0 d1 d2 d3 d4 d5 d6 d7 d8 d9 d10 d11
    have f0_0 := hO.cell (by omega) c0_0
    have f0_1 := hO.cell (by omega) c0_1
    have f0_2 := hO.cell (by omega) c0_2
    have f0_3 := hO.cell (by omega) c0_3
    have f0_4 := hO.cell (by omega) c0_4
    have f0_5 := hO.cell (by omega) c0_5
    have f0_6 := hO.cell (by omega) c0_6
    have f0_7 := hO.cell (by omega) c0_7
    have f0_8 := hO.cell (by omega) c0_8
    have f0_9 := hO.cell (by omega) c0_9
    have f0_10 := hO.cell (by omega) c0_10
    have f0_11 := hO.cell (by omega) c0_11
    have f1_0 := hO.cell (by omega) c1_0
    have f1_1 := hO.cell (by omega) c1_1
    have f1_2 := hO.cell (by omega) c1_2
    have f1_3 := hO.cell (by omega) c1_3
    have f1_4 := hO.cell (by omega) c1_4
    have f1_5 := hO.cell (by omega) c1_5
    have f1_6 := hO.cell (by omega) c1_6
    have f1_7 := hO.cell (by omega) c1_7
    have f1_8 := hO.cell (by omega) c1_8
    have f1_9 := hO.cell (by omega) c1_9
    have f1_10 := hO.cell (by omega) c1_10
    have f1_11 := hO.cell (by omega) c1_11
    have hBO : Below w.heap.size w w2 := HB.trans (hO.below (by omega) (by omega))
    have hz2 := hO.size
    have y0 : w.heap.size < w2.heap.size := by omega
    have y1 : w.heap.size + 1 < w2.heap.size := by omega
    have y2 : w.heap.size + 1 + 1 < w2.heap.size := by omega
    clear hH hO c0_0 k0_0 c0_1 k0_1 c0_2 k0_2 c0_3 k0_3 c0_4 k0_4 c0_5 k0_5 c0_6 k0_6 c0_7 k0_7 c0_8 k0_8 c0_9 k0_9 c0_10 k0_10 c0_11 k0_11 c2_0 k2_0 c2_1 k2_1 c2_2 k2_2 c2_3 k2_3 c2_4 k2_4 c2_5 k2_5 c2_6 k2_6 c2_7 k2_7 c2_8 k2_8 c2_9 k2_9 c2_10 k2_10 c2_11 k2_11 c1_0 k1_0 c1_1 k1_1 c1_2 k1_2 c1_3 k1_3 c1_4 k1_4 c1_5 k1_5 c1_6 k1_6 c1_7 k1_7 c1_8 k1_8 c1_9 k1_9 c1_10 k1_10 c1_11 k1_11 fr2 HB
    by_cases h0 : Pn.sd x y z = 0
    · cases hA1 : (decide (x = s0.1) && (decide (y = s1.1) && decide (z = s2.1))) <;> cases hA2 : (decide (z = s0.1) && (decide (y = s1.1) && decide (x = s2.1)))
      all_goals
        go_wp2_with (go_at_call 56; (with_reducible refine (sideP x y z hx hy bz _).mono ?_); rintro e w3 ⟨rfl, h1⟩; (try with_reducible replace h1 := undrew h1); have hB : Below w.heap.size w w3 := ba (by go_grown) h1; obtain ⟨hcw3, hfw3⟩ := bcell h1; have hqw3 := h1.size; (try simp at hqw3); (try have hz0w3 : w.heap.size < w3.heap.size := (by omega)); (try have he0w3 : w.heap.size ≤ w3.heap.size := (by omega)); (try have hz1w3 : w.heap.size + 1 < w3.heap.size := (by omega)); (try have he1w3 : w.heap.size + 1 ≤ w3.heap.size := (by omega)); (try have hz2w3 : w.heap.size + 1 + 1 < w3.heap.size := (by omega)); (try have he2w3 : w.heap.size + 1 + 1 ≤ w3.heap.size := (by omega)))
        go_returns
        exact ⟨by rw [← hbt, hA1, hA2]; simp [h0], by go_grown⟩
    · go_wp2_with (go_at_call 56; (with_reducible refine (sideP x y z hx hy bz _).mono ?_); rintro e w3 ⟨rfl, h1⟩; (try with_reducible replace h1 := undrew h1); have hB : Below w.heap.size w w3 := ba (by go_grown) h1; obtain ⟨hcw3, hfw3⟩ := bcell h1; have hqw3 := h1.size; (try simp at hqw3); (try have hz0w3 : w.heap.size < w3.heap.size := (by omega)); (try have he0w3 : w.heap.size ≤ w3.heap.size := (by omega)); (try have hz1w3 : w.heap.size + 1 < w3.heap.size := (by omega)); (try have he1w3 : w.heap.size + 1 ≤ w3.heap.size := (by omega)); (try have hz2w3 : w.heap.size + 1 + 1 < w3.heap.size := (by omega)); (try have he2w3 : w.heap.size + 1 + 1 ≤ w3.heap.size := (by omega)))
      go_returns
      exact ⟨by rw [← hbt]; simp [h0], by go_grown⟩

end Go.Proofs.Ytppbbcckijcckaa
