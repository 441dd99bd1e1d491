/- Contracts: four times an area, summed over chords, in the program; over points, in the model. -/
import Derived.Test.YtppbbcckijcckaaFa
namespace Go.Proofs.Ytppbbcckijcckaa
open Go.ChangeShapes Go.WideShapes Go.ChangeAt Go.RowKit Go.Sort

set_option linter.unusedVariables false
set_option linter.unusedSimpArgs false

def RowC (w : World) (g : Nat) (l : List (Pn × Pn)) : Prop :=
  ∀ (k : Nat) (a b : Pn), l[k]? = some (a, b) → (w.cell? ⟨g, k * 8, none⟩ = some (.int .i64 a.a) ∧ w.cell? ⟨g, k * 8 + 1, none⟩ = some (.int .i64 a.b) ∧ w.cell? ⟨g, k * 8 + 2, none⟩ = some (.int .i64 a.c) ∧ w.cell? ⟨g, k * 8 + 3, none⟩ = some (.int .i64 a.d)) ∧ w.cell? ⟨g, k * 8 + 4, none⟩ = some (.int .i64 b.a) ∧ w.cell? ⟨g, k * 8 + 5, none⟩ = some (.int .i64 b.b) ∧ w.cell? ⟨g, k * 8 + 6, none⟩ = some (.int .i64 b.c) ∧ w.cell? ⟨g, k * 8 + 7, none⟩ = some (.int .i64 b.d)

theorem RowC.below {w w' : World} {g n : Nat} {l : List (Pn × Pn)} (h : RowC w g l) (hg : g < n) (hb : Below n w w') : RowC w' g l := fun k a b hp => by
  obtain ⟨⟨c0, c1, c2, c3⟩, c4, c5, c6, c7⟩ := h k a b hp
  exact ⟨⟨by rw [hb.cell (p := ⟨g, k * 8, none⟩) hg]; exact c0, by rw [hb.cell (p := ⟨g, k * 8 + 1, none⟩) hg]; exact c1, by rw [hb.cell (p := ⟨g, k * 8 + 2, none⟩) hg]; exact c2, by rw [hb.cell (p := ⟨g, k * 8 + 3, none⟩) hg]; exact c3⟩,
    by rw [hb.cell (p := ⟨g, k * 8 + 4, none⟩) hg]; exact c4, by rw [hb.cell (p := ⟨g, k * 8 + 5, none⟩) hg]; exact c5, by rw [hb.cell (p := ⟨g, k * 8 + 6, none⟩) hg]; exact c6, by rw [hb.cell (p := ⟨g, k * 8 + 7, none⟩) hg]; exact c7⟩

theorem chC_get : ∀ (l : List (Pn × Pn)) (k : Nat) (x : Pn × Pn) (i : Nat) (v : Value), l[k]? = some x → (pnC x.1 ++ pnC x.2)[i]? = some v → (chC l)[k * 8 + i]? = some v
  | [], _, _, _, _, h, _ => by simp at h
  | y :: l, 0, x, i, v, h, hv => by
    simp at h; subst h
    have hi : i < 8 := by have := (List.getElem?_eq_some_iff.1 hv).1; simpa [pnC] using this
    simp only [chC, List.flatMap_cons, Nat.zero_mul, Nat.zero_add]
    rw [List.getElem?_append_left (by simp [pnC]; omega)]; exact hv
  | y :: l, k + 1, x, i, v, h, hv => by
    have ih := chC_get l k x i v (by simpa using h) hv
    simp only [chC, List.flatMap_cons] at ih ⊢
    rw [List.getElem?_append_right (by simp [pnC]; omega)]
    rw [← ih]; congr 1; simp [pnC]; omega

theorem RowC.own {W : World} {B n g cap : Nat} {e : TypeId} {l : List (Pn × Pn)} (h : W.ownsRow B e 8 (.slice (some ⟨g, 0, none⟩) n cap) n (chC l)) (hn : l.length = n) : RowC W g l := fun k a b hp => by
  have hk : k < n := by rw [← hn]; exact (List.getElem?_eq_some_iff.1 hp).1
  have c : ∀ (i : Nat) (v : Value), (pnC a ++ pnC b)[i]? = some v → W.cell? ⟨g, k * 8 + i, none⟩ = some v := fun i v hv => by
    have hi : i < 8 := by have := (List.getElem?_eq_some_iff.1 hv).1; simpa [pnC] using this
    rw [h.cellAt (k * 8 + i) (by omega)]
    exact chC_get l k (a, b) i v hp hv
  exact ⟨⟨c 0 _ rfl, c 1 _ rfl, c 2 _ rfl, c 3 _ rfl⟩, c 4 _ rfl, c 5 _ rfl, c 6 _ rfl, c 7 _ rfl⟩

theorem imSPlusQ (s t : Su) (h : Bs 4000000000000000000 s) (k : Bs 4000000000000000000 t) (w : World) : Calls Try.prog 119 #[sv s, sv t] w fun e w' => e = .returned (sv (s + t)) ∧ Below w.heap.size w w' := by
  have e1 : wrap64 (s.x + t.x) = (s + t).x := by unfold Bs at h k; exact w64p _ (by omega) (by omega)
  have e2 : wrap64 (s.r + t.r) = (s + t).r := by unfold Bs at h k; exact w64p _ (by omega) (by omega)
  go_enter Try.func119, Try.ntmps119
  go_wp2
  go_returns
  exact ⟨by simp [*], by go_grown⟩

theorem spSumQ (s t : Su) (h : Bs 4000000000000000000 s) (k : Bs 4000000000000000000 t) (w : World) : Calls Try.prog 69 #[sv s, sv t] w fun e w' => e = .returned (sv (s + t)) ∧ Below w.heap.size w w' := by
  have e1 : wrap64 (s.x + t.x) = (s + t).x := by unfold Bs at h k; exact w64p _ (by omega) (by omega)
  have e2 : wrap64 (s.r + t.r) = (s + t).r := by unfold Bs at h k; exact w64p _ (by omega) (by omega)
  go_enter Try.func69, Try.ntmps69
  go_wp2
  go_returns
  exact ⟨by simp [*], by go_grown⟩

/-- The sum over chords. -/
def sumC (l : List (Pn × Pn)) : Su := l.foldl (fun s x => s + x.1.cx x.2) 0

theorem sumC_snoc (l : List (Pn × Pn)) (x : Pn × Pn) : sumC (l ++ [x]) = sumC l + x.1.cx x.2 := by simp [sumC]

theorem Bs.add_bd {n m : Int} {s t : Su} (h : Bs n s) (k : Bs m t) : Bs (n + m) (s + t) := by
  unfold Bs at *
  rw [Su.add_x, Su.add_r]; omega

theorem sumC_bd (l : List (Pn × Pn)) (h : ∀ x ∈ l, Bd 100000 x.1 ∧ Bd 100000 x.2) : ∀ k, k ≤ l.length → Bs (k * 320000000000) (sumC (l.take k))
  | 0, _ => by simp [sumC, Bs, Su.zero_x, Su.zero_r]
  | k + 1, hk => by
    have hx : l[k]? = some l[k] := List.getElem?_eq_getElem (by omega)
    have e : l.take (k + 1) = l.take k ++ [l[k]] := by
      rw [List.take_add_one, hx]; rfl
    have hm := h l[k] (List.getElem_mem _)
    rw [e, sumC_snoc]
    have := (sumC_bd l h k (by omega)).add_bd (cx_bd (hm.1.mono (by omega)) (hm.2.mono (by omega)))
    exact this.mono (by push_cast; omega)

set_option maxRecDepth 100000 in
set_option maxHeartbeats 1600000 in
theorem fourAreaP (g n cap : Nat) (l : List (Pn × Pn)) (hn : l.length = n) (hb : n ≤ 1000) (hbd : ∀ x ∈ l, Bd 100000 x.1 ∧ Bd 100000 x.2) (w : World) (hg : g < w.heap.size) (h1 : RowC w g l) :
    Calls Try.prog 66 #[.slice (some ⟨g, 0, none⟩) n cap] w fun e w' => e = .returned (sv (sumC l)) ∧ Below w.heap.size w w' := by
  have HN := Lib.hid hn
  have H1 := Lib.hid h1
  have HBD := Lib.hid hbd
  clear hn h1 hbd
  go_enter Try.func66, Try.ntmps66
  go_wp2_with fail
  go_loopw [8] (fun i wr => ∃ k : Nat, k ≤ n ∧ i = .int .i64 k ∧ (wr.cell? ⟨w.heap.size + 1, 0, none⟩ = some (.int .i64 (sumC (l.take k)).x) ∧ wr.cell? ⟨w.heap.size + 1, 1, none⟩ = some (.int .i64 (sumC (l.take k)).r)) ∧ (∀ i, wr.frozen? ⟨w.heap.size + 1, i, none⟩ = false) ∧ (∀ i, wr.frozen? ⟨w.heap.size, i, none⟩ = false) ∧ (wr.cell? ⟨w.heap.size, 0, none⟩ = some (.int .i64 ((⟨0, 0⟩ : Su)).x) ∧ wr.cell? ⟨w.heap.size, 1, none⟩ = some (.int .i64 ((⟨0, 0⟩ : Su)).r)) ∧ w.heap.size + 2 ≤ wr.heap.size ∧ Below w.heap.size w wr) (fun i _ => n - (intOf i).toNat)
  case atStart => exact ⟨0, Nat.zero_le _, rfl, ⟨by rw [show (sumC (List.take 0 l)).x = 0 by simp [sumC, Su.zero_x]]; go_simp, by rw [show (sumC (List.take 0 l)).r = 0 by simp [sumC, Su.zero_r]]; go_simp⟩, fun i => by go_simp, fun i => by go_simp, ⟨by go_simp, by go_simp⟩, by simp, by go_grown⟩
  case round =>
    obtain ⟨k, hk, rfl, ⟨s0, s1⟩, fs, fr, ⟨r0, r1⟩, hz, hB⟩ := hrel
    have z0 : w.heap.size < wr.heap.size := by omega
    have z1 : w.heap.size + 1 < wr.heap.size := by omega
    have zg : g < wr.heap.size := by omega
    by_cases hlt : k < n
    · obtain ⟨⟨p, q⟩, hp⟩ : ∃ x, l[k]? = some x := ⟨_, List.getElem?_eq_getElem (by rw [HN.out]; exact hlt)⟩
      obtain ⟨⟨c0, c1, c2, c3⟩, c4, c5, c6, c7⟩ := (H1.out.below hg hB) k p q hp
      have hm := HBD.out (p, q) (List.mem_of_getElem? hp)
      have hS := Lib.hid (show sumC (l.take (k + 1)) = sumC (l.take k) + p.cx q by
        rw [List.take_add_one, hp]; exact sumC_snoc _ _)
      have hb1 := (sumC_bd l HBD.out k (by rw [HN.out]; omega)).mono (m := 1000000000000000) (by omega)
      generalize sumC (l.take k) = S at *
      have TC := twiceCrossP p q (hm.1.mono (by omega)) (hm.2.mono (by omega))
      have PL := imSPlusQ S (p.cx q) (hb1.mono (by omega)) ((cx_bd (hm.1.mono (by omega)) (hm.2.mono (by omega))).mono (by omega))
      have j1 : (0 : Int) ≤ (k : Int) := by omega
      have j2 : (k : Int) < (n : Int) := by omega
      clear hp hm hb1
      go_wp2_with fail
      refine absW (F := fun W => (W.cell? ⟨w.heap.size + 1, 0, none⟩ = some (.int .i64 (S).x) ∧ W.cell? ⟨w.heap.size + 1, 1, none⟩ = some (.int .i64 (S).r)) ∧ (W.cell? ⟨wr.heap.size, 0, none⟩ = some (.int .i64 (p).a) ∧ W.cell? ⟨wr.heap.size, 1, none⟩ = some (.int .i64 (p).b) ∧ W.cell? ⟨wr.heap.size, 2, none⟩ = some (.int .i64 (p).c) ∧ W.cell? ⟨wr.heap.size, 3, none⟩ = some (.int .i64 (p).d)) ∧ (W.cell? ⟨wr.heap.size, 4, none⟩ = some (.int .i64 (q).a) ∧ W.cell? ⟨wr.heap.size, 5, none⟩ = some (.int .i64 (q).b) ∧ W.cell? ⟨wr.heap.size, 6, none⟩ = some (.int .i64 (q).c) ∧ W.cell? ⟨wr.heap.size, 7, none⟩ = some (.int .i64 (q).d)) ∧ (∀ i, W.frozen? ⟨w.heap.size + 1, i, none⟩ = false) ∧ (∀ i, W.frozen? ⟨w.heap.size, i, none⟩ = false) ∧ (W.cell? ⟨w.heap.size, 0, none⟩ = some (.int .i64 ((⟨0, 0⟩ : Su)).x) ∧ W.cell? ⟨w.heap.size, 1, none⟩ = some (.int .i64 ((⟨0, 0⟩ : Su)).r)) ∧ (wr.heap.size < W.heap.size) ∧ Below w.heap.size w W) ⟨⟨by go_simp, by go_simp⟩, ⟨by go_simp, by go_simp, by go_simp, by go_simp⟩, ⟨by go_simp, by go_simp, by go_simp, by go_simp⟩, fun i => by go_simp, fun i => by go_simp, ⟨by go_simp, by go_simp⟩, by simp, by go_grown⟩ ?_
      rintro W ⟨⟨cS_0, cS_1⟩, ⟨cC_0, cC_1, cC_2, cC_3⟩, ⟨cC_4, cC_5, cC_6, cC_7⟩, frS, frR, ⟨cR_0, cR_1⟩, hzW, HB⟩
      have kS_0 := fun d os => cell_regrown cS_0 d os
      have kS_1 := fun d os => cell_regrown cS_1 d os
      have kC_0 := fun d os => cell_regrown cC_0 d os
      have kC_1 := fun d os => cell_regrown cC_1 d os
      have kC_2 := fun d os => cell_regrown cC_2 d os
      have kC_3 := fun d os => cell_regrown cC_3 d os
      have kC_4 := fun d os => cell_regrown cC_4 d os
      have kC_5 := fun d os => cell_regrown cC_5 d os
      have kC_6 := fun d os => cell_regrown cC_6 d os
      have kC_7 := fun d os => cell_regrown cC_7 d os
      have kR_0 := fun d os => cell_regrown cR_0 d os
      have kR_1 := fun d os => cell_regrown cR_1 d os
      have y0 : w.heap.size < W.heap.size := by omega
      have y1 : w.heap.size + 1 < W.heap.size := by omega
      refine region_below_tail 7 (by kernel_rfl) (by kernel_rfl) ?_
      simp only [List.take_succ_cons, List.take_zero, List.drop_succ_cons, List.drop_zero]
      repeat (quiet_step (first | (go_at_call 109; with_reducible exact Calls.regrown_of (TC _)) | (go_at_call 119; with_reducible exact Calls.regrown_of (PL _))))
      refine wpQuiet_nil ?_
      rintro _ ⟨⟨dq, osq⟩, rfl⟩
      have hbw1 := below_regrown W dq osq
      generalize grow (redrawn W dq) osq = w1 at hbw1 ⊢
      obtain ⟨hcw1, hfw1⟩ := bcell hbw1
      have hlw1 := hbw1.size
      replace HB := ba HB hbw1
      have y0' : w.heap.size < w1.heap.size := by omega
      have y1' : w.heap.size + 1 < w1.heap.size := by omega
      go_wp2_with fail
      go_roundw
      case rel => exact ⟨k + 1, by omega, by go_num, by rw [hS.out]; exact ⟨by go_simp, by go_simp⟩, fun i => by go_simp, fun i => by go_simp, ⟨by go_simp, by go_simp⟩, by simp; omega, by go_grown⟩
      case measure => simp [intOf]; omega
    · have hkn : k = n := by omega
      have hr : l.take k = l := List.take_of_length_le (by rw [HN.out]; omega)
      rw [hr] at s0 s1
      go_wp2_with fail
      refine bodyPost_ret (by simp [results, Try.results66, go_sem, *]; try rfl) rfl ?_
      exact ⟨rfl, by go_grown⟩

/-- The sum over points, each with the one behind it, the last one with the first. -/
def ring (l : List Pn) : List (Pn × Pn) := (List.range l.length).map fun i => (l[i]!, l[(i + 1) % l.length]!)

set_option maxRecDepth 100000 in
set_option maxHeartbeats 1600000 in
theorem arPolygonP (g n cap : Nat) (l : List Pn) (hn : l.length = n) (hb : n ≤ 1000) (hbd : ∀ x ∈ l, Bd 100000 x) (w : World) (hg : g < w.heap.size) (h1 : RowP w g l) :
    Calls Try.prog 62 #[.slice (some ⟨g, 0, none⟩) n cap] w fun e w' => e = .returned (sv (sumC (ring l))) ∧ Below w.heap.size w w' := by
  have HN := Lib.hid hn
  have H1 := Lib.hid h1
  have HBD := Lib.hid hbd
  have HRL : (ring l).length = l.length := by simp [ring]
  have HRB : ∀ x ∈ ring l, Bd 100000 x.1 ∧ Bd 100000 x.2 := by
    intro x hx
    simp only [ring, List.mem_map, List.mem_range] at hx
    obtain ⟨i, hi, rfl⟩ := hx
    have hm : (i + 1) % l.length < l.length := Nat.mod_lt _ (by omega)
    exact ⟨hbd _ (by rw [getElem!_pos l i hi]; exact List.getElem_mem _), hbd _ (by rw [getElem!_pos l ((i + 1) % l.length) hm]; exact List.getElem_mem _)⟩
  clear hn h1 hbd
  go_enter Try.func62, Try.ntmps62
  go_wp2_with fail
  go_loopw [9] (fun i wr => ∃ k : Nat, k ≤ n ∧ i = .int .i64 k ∧ (wr.cell? ⟨w.heap.size + 1, 0, none⟩ = some (.int .i64 (sumC ((ring l).take k)).x) ∧ wr.cell? ⟨w.heap.size + 1, 1, none⟩ = some (.int .i64 (sumC ((ring l).take k)).r)) ∧ (∀ i, wr.frozen? ⟨w.heap.size + 1, i, none⟩ = false) ∧ (∀ i, wr.frozen? ⟨w.heap.size, i, none⟩ = false) ∧ (wr.cell? ⟨w.heap.size, 0, none⟩ = some (.int .i64 ((⟨0, 0⟩ : Su)).x) ∧ wr.cell? ⟨w.heap.size, 1, none⟩ = some (.int .i64 ((⟨0, 0⟩ : Su)).r)) ∧ w.heap.size + 2 ≤ wr.heap.size ∧ Below w.heap.size w wr) (fun i _ => n - (intOf i).toNat)
  case atStart => exact ⟨0, Nat.zero_le _, rfl, ⟨by rw [show (sumC (List.take 0 (ring l))).x = 0 by simp [sumC, Su.zero_x]]; go_simp, by rw [show (sumC (List.take 0 (ring l))).r = 0 by simp [sumC, Su.zero_r]]; go_simp⟩, fun i => by go_simp, fun i => by go_simp, ⟨by go_simp, by go_simp⟩, by simp, by go_grown⟩
  case round =>
    obtain ⟨k, hk, rfl, ⟨s0, s1⟩, fs, fr, ⟨r0, r1⟩, hz, hB⟩ := hrel
    have z0 : w.heap.size < wr.heap.size := by omega
    have z1 : w.heap.size + 1 < wr.heap.size := by omega
    have zg : g < wr.heap.size := by omega
    by_cases hlt : k < n
    · have hmod : (k + 1) % n < n := Nat.mod_lt _ (by omega)
      obtain ⟨p, hp⟩ : ∃ x, l[k]? = some x := ⟨_, List.getElem?_eq_getElem (by rw [HN.out]; exact hlt)⟩
      obtain ⟨q, hq⟩ : ∃ x, l[(k + 1) % n]? = some x := ⟨_, List.getElem?_eq_getElem (by rw [HN.out]; exact hmod)⟩
      have R := H1.out.below hg hB
      obtain ⟨c0, c1, c2, c3⟩ := R k p hp
      obtain ⟨d0, d1, d2, d3⟩ := R ((k + 1) % n) q hq
      have hrk : (ring l)[k]? = some (p, q) := by
        have e1 : l[k]! = p := by rw [getElem!_pos l k (by rw [HN.out]; exact hlt)]; exact (List.getElem?_eq_some_iff.1 hp).2
        have e2 : l[(k + 1) % l.length]! = q := by
          rw [HN.out, getElem!_pos l ((k + 1) % n) (by rw [HN.out]; exact hmod)]; exact (List.getElem?_eq_some_iff.1 hq).2
        simp only [ring, List.getElem?_map, List.getElem?_range (show k < l.length by rw [HN.out]; exact hlt), Option.map_some, e1, e2]
      have hm := HRB (p, q) (List.mem_of_getElem? hrk)
      have hS := Lib.hid (show sumC ((ring l).take (k + 1)) = sumC ((ring l).take k) + p.cx q by
        rw [List.take_add_one, hrk]; exact sumC_snoc _ _)
      have hb1 := (sumC_bd (ring l) HRB k (by rw [HRL, HN.out]; omega)).mono (m := 1000000000000000) (by omega)
      generalize sumC ((ring l).take k) = S at *
      have TC := arCrossP p q (hm.1.mono (by omega)) (hm.2.mono (by omega))
      have PL := spSumQ S (p.cx q) (hb1.mono (by omega)) ((cx_bd (hm.1.mono (by omega)) (hm.2.mono (by omega))).mono (by omega))
      have j1 : (0 : Int) ≤ (k : Int) := by omega
      have j2 : (k : Int) < (n : Int) := by omega
      have j3 : IntKind.i64.wrap ((k : Int) + 1) = (k : Int) + 1 := IntWalk.i64_in _ ⟨by omega, by omega⟩
      obtain ⟨m, hM⟩ : ∃ m, (k + 1) % n = m := ⟨_, rfl⟩
      have j4 : ((k : Int) + 1).tmod (n : Int) = (m : Int) := by rw [← hM, Int.tmod_eq_emod_of_nonneg (by omega)]; push_cast; rfl
      have j4' : ((k : Int) + 1) % (n : Int) = (m : Int) := by rw [← hM]; push_cast; rfl
      have j5 : IntKind.i64.wrap (m : Int) = (m : Int) := IntWalk.i64_in _ ⟨by omega, by omega⟩
      have j6 : (0 : Int) ≤ (m : Int) := by omega
      have j7 : (m : Int) < (n : Int) := by omega
      have j8 : ¬ (n : Int) = 0 := by omega
      have j9 : ¬ n = 0 := by omega
      rw [hM] at d0 d1 d2 d3
      clear hp hq hm hb1 R hrk hM
      have k0 := c0
      go_wp2_with fail
      refine absW (F := fun W => (W.cell? ⟨w.heap.size + 1, 0, none⟩ = some (.int .i64 (S).x) ∧ W.cell? ⟨w.heap.size + 1, 1, none⟩ = some (.int .i64 (S).r)) ∧ (W.cell? ⟨wr.heap.size, 0, none⟩ = some (.int .i64 (p).a) ∧ W.cell? ⟨wr.heap.size, 1, none⟩ = some (.int .i64 (p).b) ∧ W.cell? ⟨wr.heap.size, 2, none⟩ = some (.int .i64 (p).c) ∧ W.cell? ⟨wr.heap.size, 3, none⟩ = some (.int .i64 (p).d)) ∧ (∀ i, W.frozen? ⟨w.heap.size + 1, i, none⟩ = false) ∧ (∀ i, W.frozen? ⟨w.heap.size, i, none⟩ = false) ∧ (W.cell? ⟨w.heap.size, 0, none⟩ = some (.int .i64 ((⟨0, 0⟩ : Su)).x) ∧ W.cell? ⟨w.heap.size, 1, none⟩ = some (.int .i64 ((⟨0, 0⟩ : Su)).r)) ∧ (wr.heap.size < W.heap.size) ∧ (W.cell? ⟨g, m * 4, none⟩ = some (.int .i64 q.a)) ∧ (W.cell? ⟨g, m * 4 + 1, none⟩ = some (.int .i64 q.b)) ∧ (W.cell? ⟨g, m * 4 + 2, none⟩ = some (.int .i64 q.c)) ∧ (W.cell? ⟨g, m * 4 + 3, none⟩ = some (.int .i64 q.d)) ∧ Below w.heap.size w W) ⟨⟨by go_simp, by go_simp⟩, ⟨by go_simp, by go_simp, by go_simp, by go_simp⟩, fun i => by go_simp, fun i => by go_simp, ⟨by go_simp, by go_simp⟩, by simp, by go_simp, by go_simp, by go_simp, by go_simp, by go_grown⟩ ?_
      rintro W ⟨⟨cS_0, cS_1⟩, ⟨cC_0, cC_1, cC_2, cC_3⟩, frS, frR, ⟨cR_0, cR_1⟩, hzW, e0, e1, e2, e3, HB⟩
      have kS_0 := fun d os => cell_regrown cS_0 d os
      have kS_1 := fun d os => cell_regrown cS_1 d os
      have kC_0 := fun d os => cell_regrown cC_0 d os
      have kC_1 := fun d os => cell_regrown cC_1 d os
      have kC_2 := fun d os => cell_regrown cC_2 d os
      have kC_3 := fun d os => cell_regrown cC_3 d os
      have kR_0 := fun d os => cell_regrown cR_0 d os
      have kR_1 := fun d os => cell_regrown cR_1 d os
      have E0 := fun d os => cell_regrown e0 d os
      have E1 := fun d os => cell_regrown e1 d os
      have E2 := fun d os => cell_regrown e2 d os
      have E3 := fun d os => cell_regrown e3 d os
      have y0 : w.heap.size < W.heap.size := by omega
      have y1 : w.heap.size + 1 < W.heap.size := by omega
      refine region_below_tail 12 (by kernel_rfl) (by kernel_rfl) ?_
      simp only [List.take_succ_cons, List.take_zero, List.drop_succ_cons, List.drop_zero]
      repeat (quiet_step (first | (go_at_call 107; with_reducible exact Calls.regrown_of (TC _)) | (go_at_call 69; with_reducible exact Calls.regrown_of (PL _))))
      refine wpQuiet_nil ?_
      rintro _ ⟨⟨dq, osq⟩, rfl⟩
      have hbw1 := below_regrown W dq osq
      generalize grow (redrawn W dq) osq = w1 at hbw1 ⊢
      obtain ⟨hcw1, hfw1⟩ := bcell hbw1
      have hlw1 := hbw1.size
      replace HB := ba HB hbw1
      have y0' : w.heap.size < w1.heap.size := by omega
      have y1' : w.heap.size + 1 < w1.heap.size := by omega
      go_wp2_with fail
      go_roundw
      case rel => exact ⟨k + 1, by omega, by go_num, by rw [hS.out]; exact ⟨by go_simp, by go_simp⟩, fun i => by go_simp, fun i => by go_simp, ⟨by go_simp, by go_simp⟩, by simp; omega, by go_grown⟩
      case measure => simp [intOf]; omega
    · have hkn : k = n := by omega
      have hr : (ring l).take k = ring l := List.take_of_length_le (by rw [HRL, HN.out]; omega)
      rw [hr] at s0 s1
      go_wp2_with fail
      refine bodyPost_ret (by simp [results, Try.results62, go_sem, *]; try rfl) rfl ?_
      exact ⟨rfl, by go_grown⟩

end Go.Proofs.Ytppbbcckijcckaa
