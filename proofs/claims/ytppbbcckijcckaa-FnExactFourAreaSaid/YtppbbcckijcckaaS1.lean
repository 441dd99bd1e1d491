/- Contracts and facts, put together (part 1). Conditions: each says its own. -/
import Derived.Test.YtppbbcckijcckaaR2

/- Contracts: rows of surds, the greatest less the least: in the model, and by the library's MaxFunc and MinFunc. -/
namespace Go.Proofs.Ytppbbcckijcckaa
open Go.ChangeShapes Go.WideShapes Go.ChangeAt Go.RowKit Go.Sort

set_option linter.unusedVariables false
set_option linter.unusedSimpArgs false

def suC (s : Su) : List Value := [.int .i64 s.x, .int .i64 s.r]

def suCs (l : List Su) : List Value := l.flatMap suC

theorem suCs_append (l m : List Su) : suCs (l ++ m) = suCs l ++ suCs m := by simp [suCs]

theorem suCs_get : ∀ (l : List Su) (k : Nat) (x : Su) (i : Nat) (v : Value), l[k]? = some x → (suC x)[i]? = some v → (suCs l)[k * 2 + i]? = some v
  | [], _, _, _, _, h, _ => by simp at h
  | y :: l, 0, x, i, v, h, hv => by
    simp at h; subst h
    have hi : i < 2 := by have := (List.getElem?_eq_some_iff.1 hv).1; simpa [suC] using this
    simp only [suCs, List.flatMap_cons, Nat.zero_mul, Nat.zero_add]
    rw [List.getElem?_append_left (by simp [suC]; omega)]; exact hv
  | y :: l, k + 1, x, i, v, h, hv => by
    have ih := suCs_get l k x i v (by simpa using h) hv
    simp only [suCs, List.flatMap_cons] at ih ⊢
    rw [List.getElem?_append_right (by simp [suC]; omega)]
    rw [← ih]; congr 1; simp [suC]; omega

def RowS (w : World) (g : Nat) (l : List Su) : Prop :=
  ∀ (k : Nat) (s : Su), l[k]? = some s → w.cell? ⟨g, k * 2, none⟩ = some (.int .i64 s.x) ∧ w.cell? ⟨g, k * 2 + 1, none⟩ = some (.int .i64 s.r)

theorem RowS.below {w w' : World} {g n : Nat} {l : List Su} (h : RowS w g l) (hg : g < n) (hb : Below n w w') : RowS w' g l := fun k s hp =>
  ⟨by rw [hb.cell (p := ⟨g, k * 2, none⟩) hg]; exact (h k s hp).1, by rw [hb.cell (p := ⟨g, k * 2 + 1, none⟩) hg]; exact (h k s hp).2⟩

theorem RowS.own {W : World} {B n g cap : Nat} {e : TypeId} {l : List Su} (h : W.ownsRow B e 2 (.slice (some ⟨g, 0, none⟩) n cap) n (suCs l)) (hn : l.length = n) : RowS W g l := fun k s hp => by
  have hk : k < n := by rw [← hn]; exact (List.getElem?_eq_some_iff.1 hp).1
  have c : ∀ (i : Nat) (v : Value), (suC s)[i]? = some v → W.cell? ⟨g, k * 2 + i, none⟩ = some v := fun i v hv => by
    have hi : i < 2 := by have := (List.getElem?_eq_some_iff.1 hv).1; simpa [suC] using this
    rw [h.cellAt (k * 2 + i) (by omega)]
    exact suCs_get l k s i v hp hv
  exact ⟨c 0 _ rfl, c 1 _ rfl⟩

theorem suInfo : (Try.prog.info? 34).map (fun i => (i.zero, i.size, i.bytes)) = some (some (.agg #[.int .i64 0, .int .i64 0]), 2, 16) := by kernel_rfl

theorem sn_self (s : Su) : (s - s).sn = 0 := by
  rw [Su.sn_zero]
  apply Su.ext' <;> simp only [Su.sub_x, Su.sub_r, Su.zero_x, Su.zero_r] <;> omega

/-- The greatest, and the least, of a list of surds and one more, the first such. -/
def mxS (m : Su) (l : List Su) : Su := l.foldl (fun m y => if 0 < (y - m).sn then y else m) m

def mnS (m : Su) (l : List Su) : Su := l.foldl (fun m y => if (y - m).sn < 0 then y else m) m

theorem mxS_snoc (m y : Su) (l : List Su) : mxS m (l ++ [y]) = if 0 < (y - mxS m l).sn then y else mxS m l := by
  unfold mxS; rw [List.foldl_append]; rfl

theorem mnS_snoc (m y : Su) (l : List Su) : mnS m (l ++ [y]) = if (y - mnS m l).sn < 0 then y else mnS m l := by
  unfold mnS; rw [List.foldl_append]; rfl

theorem mxS_bd {n : Int} : ∀ {m : Su} (_ : Bs n m) (l : List Su) (_ : ∀ x ∈ l, Bs n x), Bs n (mxS m l)
  | _, h, [], _ => h
  | m, h, y :: l, k => by
    have e : mxS m (y :: l) = mxS (if 0 < (y - m).sn then y else m) l := rfl
    rw [e]
    exact mxS_bd (by split; exact k y (by simp); exact h) l (fun x hx => k x (by simp [hx]))

theorem mnS_bd {n : Int} : ∀ {m : Su} (_ : Bs n m) (l : List Su) (_ : ∀ x ∈ l, Bs n x), Bs n (mnS m l)
  | _, h, [], _ => h
  | m, h, y :: l, k => by
    have e : mnS m (y :: l) = mnS (if (y - m).sn < 0 then y else m) l := rfl
    rw [e]
    exact mnS_bd (by split; exact k y (by simp); exact h) l (fun x hx => k x (by simp [hx]))

theorem imCmp7 (s t : Su) (h : Bs 2000000000000000 s) (k : Bs 2000000000000000 t) (w : World) : Calls Try.prog 99 #[sv s, sv t] w fun e w' => e = .returned (.int .i64 (s - t).sn) ∧ Below w.heap.size w w' :=
  (imCmpG s t h k w).mono fun _ _ h => ⟨h.1, h.2.1⟩

theorem imSuLess7 (s t : Su) (h : Bs 4000000000000000000 s) (k : Bs 4000000000000000000 t) (w : World) : Calls Try.prog 71 #[sv s, sv t] w fun e w' => e = .returned (sv (s - t)) ∧ Below w.heap.size w w' :=
  (imSuLess s t h k w).mono fun _ _ h => ⟨h.1, h.2.1⟩

set_option maxRecDepth 100000 in
set_option maxHeartbeats 3200000 in
theorem arSpreadP (g n cap : Nat) (s0 : Su) (l : List Su) (hl : l[0]? = some s0) (hn : l.length = n) (hb : n ≤ 1000) (hbd : ∀ x ∈ l, Bs 1000000 x) (w : World) (hg : g < w.heap.size) (h1 : RowS w g l) :
    Calls Try.prog 74 #[.slice (some ⟨g, 0, none⟩) n cap] w fun e w' => e = .returned (sv (mxS s0 l - mnS s0 l)) ∧ Below w.heap.size w w' := by
  have hn0 : 0 < n := by rw [← hn]; exact (List.getElem?_eq_some_iff.1 hl).1
  have HN := Lib.hid hn
  have H1 := Lib.hid h1
  have HBD := Lib.hid hbd
  have HB0 := Lib.hid (hbd s0 (List.mem_of_getElem? hl))
  have HW := Lib.hid (sub_w64 (mxS_bd (hbd s0 (List.mem_of_getElem? hl)) l hbd) (mnS_bd (hbd s0 (List.mem_of_getElem? hl)) l hbd) (by omega))
  obtain ⟨a0, a1⟩ := h1 0 s0 hl
  simp only [Nat.zero_mul, Nat.zero_add] at a0 a1
  have n1 : (0 : Int) < (n : Int) := by omega
  clear hn h1 hbd hl
  go_enter Try.func74, Try.ntmps74
  go_wp2_with fail
  refine absW (F := fun W => (∀ i, W.frozen? ⟨w.heap.size, i, none⟩ = false) ∧ (W.cell? ⟨w.heap.size, 0, none⟩ = some (.int .i64 ((⟨0, 0⟩ : Su)).x) ∧ W.cell? ⟨w.heap.size, 1, none⟩ = some (.int .i64 ((⟨0, 0⟩ : Su)).r)) ∧ (W.cell? ⟨g, 0, none⟩ = some (.int .i64 s0.x)) ∧ (W.cell? ⟨g, 1, none⟩ = some (.int .i64 s0.r)) ∧ (g < W.heap.size) ∧ Below w.heap.size w W ∧ W.heap.size = w.heap.size + 1) ⟨fun i => by go_simp, ⟨by go_simp, by go_simp⟩, by go_simp, by go_simp, by simp; omega, by go_grown, by first | (simp; done) | (simp; omega)⟩ ?_
  rintro W ⟨frR, ⟨cR_0, cR_1⟩, b0, b1, gW, HB, hz⟩
  have kR_0 := fun d os => cell_regrown cR_0 d os
  have kR_1 := fun d os => cell_regrown cR_1 d os
  have ne0 : ¬ W.heap.size = w.heap.size := by omega
  have ne1 : ¬ W.heap.size + 1 = w.heap.size := by omega
  go_region_held3 (fun w' => w'.cell? ⟨g, 0, none⟩ = some (.int .i64 s0.x) ∧ w'.cell? ⟨g, 1, none⟩ = some (.int .i64 s0.r)) (go_keep) (fail)
  · skip
    refine absE (F := fun X => (X.cell? ⟨w.heap.size + 1, 0, none⟩ = some (.int .i64 (s0).x) ∧ X.cell? ⟨w.heap.size + 1, 1, none⟩ = some (.int .i64 (s0).r)) ∧ (X.cell? ⟨w.heap.size + 1 + 1, 0, none⟩ = some (.int .i64 (s0).x) ∧ X.cell? ⟨w.heap.size + 1 + 1, 1, none⟩ = some (.int .i64 (s0).r)) ∧ (∀ i, X.frozen? ⟨w.heap.size + 1, i, none⟩ = false) ∧ (∀ i, X.frozen? ⟨w.heap.size + 1 + 1, i, none⟩ = false) ∧ (∀ i, X.frozen? ⟨w.heap.size, i, none⟩ = false) ∧ (X.cell? ⟨w.heap.size, 0, none⟩ = some (.int .i64 ((⟨0, 0⟩ : Su)).x) ∧ X.cell? ⟨w.heap.size, 1, none⟩ = some (.int .i64 ((⟨0, 0⟩ : Su)).r)) ∧ (w.heap.size + 1 + 1 < X.heap.size) ∧ Below w.heap.size w X) ⟨⟨by go_simp, by go_simp⟩, ⟨by go_simp, by go_simp⟩, fun i => by go_simp, fun i => by go_simp, fun i => by go_simp, ⟨by go_simp, by go_simp⟩, by first | (simp; done) | (simp; omega), by go_grown⟩ ?_
    rintro X ⟨⟨cA_0, cA_1⟩, ⟨cB_0, cB_1⟩, frA, frB, frR, ⟨cR_0, cR_1⟩, hzX, HB⟩
    have kA_0 := fun d os => cell_regrown cA_0 d os
    have kA_1 := fun d os => cell_regrown cA_1 d os
    have kB_0 := fun d os => cell_regrown cB_0 d os
    have kB_1 := fun d os => cell_regrown cB_1 d os
    have kR_0 := fun d os => cell_regrown cR_0 d os
    have kR_1 := fun d os => cell_regrown cR_1 d os
    clear a0 a1 b0 b1 ne0 ne1
    go_wp2_with fail
    go_loopw [15] (fun i wr => ∃ k : Nat, k ≤ n ∧ i = .int .i64 k ∧ (wr.cell? ⟨w.heap.size + 1, 0, none⟩ = some (.int .i64 (mnS s0 (l.take k)).x) ∧ wr.cell? ⟨w.heap.size + 1, 1, none⟩ = some (.int .i64 (mnS s0 (l.take k)).r)) ∧ (wr.cell? ⟨w.heap.size + 1 + 1, 0, none⟩ = some (.int .i64 (mxS s0 (l.take k)).x) ∧ wr.cell? ⟨w.heap.size + 1 + 1, 1, none⟩ = some (.int .i64 (mxS s0 (l.take k)).r)) ∧ (∀ i, wr.frozen? ⟨w.heap.size + 1, i, none⟩ = false) ∧ (∀ i, wr.frozen? ⟨w.heap.size + 1 + 1, i, none⟩ = false) ∧ (∀ i, wr.frozen? ⟨w.heap.size, i, none⟩ = false) ∧ (wr.cell? ⟨w.heap.size, 0, none⟩ = some (.int .i64 ((⟨0, 0⟩ : Su)).x) ∧ wr.cell? ⟨w.heap.size, 1, none⟩ = some (.int .i64 ((⟨0, 0⟩ : Su)).r)) ∧ w.heap.size + 3 ≤ wr.heap.size ∧ Below w.heap.size w wr) (fun i _ => n - (intOf i).toNat)
    case atStart => exact ⟨0, Nat.zero_le _, rfl, ⟨cA_0, cA_1⟩, ⟨cB_0, cB_1⟩, frA, frB, frR, ⟨cR_0, cR_1⟩, by omega, HB⟩
    case round =>
      obtain ⟨k, hk, rfl, ⟨m0, m1⟩, ⟨x0, x1⟩, fa, fb, fr, ⟨r0, r1⟩, hz, hB⟩ := hrel
      have z0 : w.heap.size < wr.heap.size := by omega
      have z1 : w.heap.size + 1 < wr.heap.size := by omega
      have z2 : w.heap.size + 1 + 1 < wr.heap.size := by omega
      have zg : g < wr.heap.size := by omega
      by_cases hlt : k < n
      · obtain ⟨y, hy⟩ : ∃ x, l[k]? = some x := ⟨_, List.getElem?_eq_getElem (by rw [HN.out]; exact hlt)⟩
        obtain ⟨e0, e1⟩ := (H1.out.below hg hB) k y hy
        have hmY := HBD.out y (List.mem_of_getElem? hy)
        have hmM := mnS_bd HB0.out (l.take k) (fun x hx => HBD.out x (List.mem_of_mem_take hx))
        have hmX := mxS_bd HB0.out (l.take k) (fun x hx => HBD.out x (List.mem_of_mem_take hx))
        have EM := Lib.hid (show mnS s0 (l.take (k + 1)) = (if (y - mnS s0 (l.take k)).sn < 0 then y else mnS s0 (l.take k)) by
          rw [List.take_add_one, hy]; exact mnS_snoc _ _ _)
        have EX := Lib.hid (show mxS s0 (l.take (k + 1)) = (if 0 < (y - mxS s0 (l.take k)).sn then y else mxS s0 (l.take k)) by
          rw [List.take_add_one, hy]; exact mxS_snoc _ _ _)
        generalize mnS s0 (l.take k) = M at *
        generalize mxS s0 (l.take k) = X1 at *
        have CM := spCmpQ y M (hmY.mono (by omega)) (hmM.mono (by omega))
        have CX := spCmpQ y X1 (hmY.mono (by omega)) (hmX.mono (by omega))
        have j1 : (0 : Int) ≤ (k : Int) := by omega
        have j2 : (k : Int) < (n : Int) := by omega
        generalize (y - M).sn = u at *
        generalize (y - X1).sn = v at *
        clear hy hmY hmM hmX
        by_cases hL : u < 0 <;> by_cases hG : 0 < v
        all_goals
          (first | have EMc := Lib.hid (EM.out.trans (if_pos hL)) | have EMc := Lib.hid (EM.out.trans (if_neg hL)))
          (first | have EXc := Lib.hid (EX.out.trans (if_pos hG)) | have EXc := Lib.hid (EX.out.trans (if_neg hG)))
          clear EM EX
          go_wp2_with (go_at_call 97; (with_reducible refine (CM _).mono ?_); rintro e w1 ⟨rfl, h1⟩; (try with_reducible replace h1 := undrew h1); have hB : Below w.heap.size w w1 := ba (by go_grown) h1; obtain ⟨hcw1, hfw1⟩ := bcell h1; have hqw1 := h1.size; (try simp at hqw1); (try have hz0w1 : w.heap.size < w1.heap.size := (by omega)); (try have he0w1 : w.heap.size ≤ w1.heap.size := (by omega)); (try have hz1w1 : w.heap.size + 1 < w1.heap.size := (by omega)); (try have he1w1 : w.heap.size + 1 ≤ w1.heap.size := (by omega)); (try have hz2w1 : w.heap.size + 1 + 1 < w1.heap.size := (by omega)); (try have he2w1 : w.heap.size + 1 + 1 ≤ w1.heap.size := (by omega)); (try have hz3w1 : wr.heap.size < w1.heap.size := (by omega)); (try have he3w1 : wr.heap.size ≤ w1.heap.size := (by omega)))
          go_wp2_with (go_at_call 97; (with_reducible refine (CX _).mono ?_); rintro e w2 ⟨rfl, h1⟩; (try with_reducible replace h1 := undrew h1); have hB : Below w.heap.size w w2 := ba (by go_grown) h1; obtain ⟨hcw2, hfw2⟩ := bcell h1; have hqw2 := h1.size; (try simp at hqw2); (try have hz0w2 : w.heap.size < w2.heap.size := (by omega)); (try have he0w2 : w.heap.size ≤ w2.heap.size := (by omega)); (try have hz1w2 : w.heap.size + 1 < w2.heap.size := (by omega)); (try have he1w2 : w.heap.size + 1 ≤ w2.heap.size := (by omega)); (try have hz2w2 : w.heap.size + 1 + 1 < w2.heap.size := (by omega)); (try have he2w2 : w.heap.size + 1 + 1 ≤ w2.heap.size := (by omega)); (try have hz3w2 : wr.heap.size < w2.heap.size := (by omega)); (try have he3w2 : wr.heap.size ≤ w2.heap.size := (by omega)))
          go_roundw
          case rel => exact ⟨k + 1, by omega, by go_num, by rw [EMc.out]; exact ⟨by go_simp, by go_simp⟩, by rw [EXc.out]; exact ⟨by go_simp, by go_simp⟩, fun i => by go_simp, fun i => by go_simp, fun i => by go_simp, ⟨by go_simp, by go_simp⟩, by (try simp); omega, by go_grown⟩
          case measure => simp [intOf]; omega
      · have hkn : k = n := by omega
        have hr : l.take k = l := List.take_of_length_le (by rw [HN.out]; omega)
        rw [hr] at m0 m1 x0 x1
        have hw := HW.out
        obtain ⟨hw0, hw1⟩ := hw
        go_wp2_with fail
        refine bodyPost_ret (by simp [results, Try.results74, go_sem, *]; try rfl) rfl ?_
        exact ⟨rfl, by go_grown⟩
  · skip
    refine absE (F := fun X => (X.cell? ⟨w.heap.size + 1 + 1, 0, none⟩ = some (.int .i64 (s0).x) ∧ X.cell? ⟨w.heap.size + 1 + 1, 1, none⟩ = some (.int .i64 (s0).r)) ∧ (X.cell? ⟨w.heap.size + 1, 0, none⟩ = some (.int .i64 (s0).x) ∧ X.cell? ⟨w.heap.size + 1, 1, none⟩ = some (.int .i64 (s0).r)) ∧ (∀ i, X.frozen? ⟨w.heap.size + 1 + 1, i, none⟩ = false) ∧ (∀ i, X.frozen? ⟨w.heap.size + 1, i, none⟩ = false) ∧ (∀ i, X.frozen? ⟨w.heap.size, i, none⟩ = false) ∧ (X.cell? ⟨w.heap.size, 0, none⟩ = some (.int .i64 ((⟨0, 0⟩ : Su)).x) ∧ X.cell? ⟨w.heap.size, 1, none⟩ = some (.int .i64 ((⟨0, 0⟩ : Su)).r)) ∧ (w.heap.size + 1 + 1 < X.heap.size) ∧ Below w.heap.size w X) ⟨⟨by go_simp, by go_simp⟩, ⟨by go_simp, by go_simp⟩, fun i => by go_simp, fun i => by go_simp, fun i => by go_simp, ⟨by go_simp, by go_simp⟩, by first | (simp; done) | (simp; omega), by go_grown⟩ ?_
    rintro X ⟨⟨cA_0, cA_1⟩, ⟨cB_0, cB_1⟩, frA, frB, frR, ⟨cR_0, cR_1⟩, hzX, HB⟩
    have kA_0 := fun d os => cell_regrown cA_0 d os
    have kA_1 := fun d os => cell_regrown cA_1 d os
    have kB_0 := fun d os => cell_regrown cB_0 d os
    have kB_1 := fun d os => cell_regrown cB_1 d os
    have kR_0 := fun d os => cell_regrown cR_0 d os
    have kR_1 := fun d os => cell_regrown cR_1 d os
    clear a0 a1 b0 b1 ne0 ne1
    go_wp2_with fail
    go_loopw [15] (fun i wr => ∃ k : Nat, k ≤ n ∧ i = .int .i64 k ∧ (wr.cell? ⟨w.heap.size + 1 + 1, 0, none⟩ = some (.int .i64 (mnS s0 (l.take k)).x) ∧ wr.cell? ⟨w.heap.size + 1 + 1, 1, none⟩ = some (.int .i64 (mnS s0 (l.take k)).r)) ∧ (wr.cell? ⟨w.heap.size + 1, 0, none⟩ = some (.int .i64 (mxS s0 (l.take k)).x) ∧ wr.cell? ⟨w.heap.size + 1, 1, none⟩ = some (.int .i64 (mxS s0 (l.take k)).r)) ∧ (∀ i, wr.frozen? ⟨w.heap.size + 1 + 1, i, none⟩ = false) ∧ (∀ i, wr.frozen? ⟨w.heap.size + 1, i, none⟩ = false) ∧ (∀ i, wr.frozen? ⟨w.heap.size, i, none⟩ = false) ∧ (wr.cell? ⟨w.heap.size, 0, none⟩ = some (.int .i64 ((⟨0, 0⟩ : Su)).x) ∧ wr.cell? ⟨w.heap.size, 1, none⟩ = some (.int .i64 ((⟨0, 0⟩ : Su)).r)) ∧ w.heap.size + 3 ≤ wr.heap.size ∧ Below w.heap.size w wr) (fun i _ => n - (intOf i).toNat)
    case atStart => exact ⟨0, Nat.zero_le _, rfl, ⟨cA_0, cA_1⟩, ⟨cB_0, cB_1⟩, frA, frB, frR, ⟨cR_0, cR_1⟩, by omega, HB⟩
    case round =>
      obtain ⟨k, hk, rfl, ⟨m0, m1⟩, ⟨x0, x1⟩, fa, fb, fr, ⟨r0, r1⟩, hz, hB⟩ := hrel
      have z0 : w.heap.size < wr.heap.size := by omega
      have z1 : w.heap.size + 1 < wr.heap.size := by omega
      have z2 : w.heap.size + 1 + 1 < wr.heap.size := by omega
      have zg : g < wr.heap.size := by omega
      by_cases hlt : k < n
      · obtain ⟨y, hy⟩ : ∃ x, l[k]? = some x := ⟨_, List.getElem?_eq_getElem (by rw [HN.out]; exact hlt)⟩
        obtain ⟨e0, e1⟩ := (H1.out.below hg hB) k y hy
        have hmY := HBD.out y (List.mem_of_getElem? hy)
        have hmM := mnS_bd HB0.out (l.take k) (fun x hx => HBD.out x (List.mem_of_mem_take hx))
        have hmX := mxS_bd HB0.out (l.take k) (fun x hx => HBD.out x (List.mem_of_mem_take hx))
        have EM := Lib.hid (show mnS s0 (l.take (k + 1)) = (if (y - mnS s0 (l.take k)).sn < 0 then y else mnS s0 (l.take k)) by
          rw [List.take_add_one, hy]; exact mnS_snoc _ _ _)
        have EX := Lib.hid (show mxS s0 (l.take (k + 1)) = (if 0 < (y - mxS s0 (l.take k)).sn then y else mxS s0 (l.take k)) by
          rw [List.take_add_one, hy]; exact mxS_snoc _ _ _)
        generalize mnS s0 (l.take k) = M at *
        generalize mxS s0 (l.take k) = X1 at *
        have CM := spCmpQ y M (hmY.mono (by omega)) (hmM.mono (by omega))
        have CX := spCmpQ y X1 (hmY.mono (by omega)) (hmX.mono (by omega))
        have j1 : (0 : Int) ≤ (k : Int) := by omega
        have j2 : (k : Int) < (n : Int) := by omega
        generalize (y - M).sn = u at *
        generalize (y - X1).sn = v at *
        clear hy hmY hmM hmX
        by_cases hL : u < 0 <;> by_cases hG : 0 < v
        all_goals
          (first | have EMc := Lib.hid (EM.out.trans (if_pos hL)) | have EMc := Lib.hid (EM.out.trans (if_neg hL)))
          (first | have EXc := Lib.hid (EX.out.trans (if_pos hG)) | have EXc := Lib.hid (EX.out.trans (if_neg hG)))
          clear EM EX
          go_wp2_with (go_at_call 97; (with_reducible refine (CM _).mono ?_); rintro e w1 ⟨rfl, h1⟩; (try with_reducible replace h1 := undrew h1); have hB : Below w.heap.size w w1 := ba (by go_grown) h1; obtain ⟨hcw1, hfw1⟩ := bcell h1; have hqw1 := h1.size; (try simp at hqw1); (try have hz0w1 : w.heap.size < w1.heap.size := (by omega)); (try have he0w1 : w.heap.size ≤ w1.heap.size := (by omega)); (try have hz1w1 : w.heap.size + 1 < w1.heap.size := (by omega)); (try have he1w1 : w.heap.size + 1 ≤ w1.heap.size := (by omega)); (try have hz2w1 : w.heap.size + 1 + 1 < w1.heap.size := (by omega)); (try have he2w1 : w.heap.size + 1 + 1 ≤ w1.heap.size := (by omega)); (try have hz3w1 : wr.heap.size < w1.heap.size := (by omega)); (try have he3w1 : wr.heap.size ≤ w1.heap.size := (by omega)))
          go_wp2_with (go_at_call 97; (with_reducible refine (CX _).mono ?_); rintro e w2 ⟨rfl, h1⟩; (try with_reducible replace h1 := undrew h1); have hB : Below w.heap.size w w2 := ba (by go_grown) h1; obtain ⟨hcw2, hfw2⟩ := bcell h1; have hqw2 := h1.size; (try simp at hqw2); (try have hz0w2 : w.heap.size < w2.heap.size := (by omega)); (try have he0w2 : w.heap.size ≤ w2.heap.size := (by omega)); (try have hz1w2 : w.heap.size + 1 < w2.heap.size := (by omega)); (try have he1w2 : w.heap.size + 1 ≤ w2.heap.size := (by omega)); (try have hz2w2 : w.heap.size + 1 + 1 < w2.heap.size := (by omega)); (try have he2w2 : w.heap.size + 1 + 1 ≤ w2.heap.size := (by omega)); (try have hz3w2 : wr.heap.size < w2.heap.size := (by omega)); (try have he3w2 : wr.heap.size ≤ w2.heap.size := (by omega)))
          go_roundw
          case rel => exact ⟨k + 1, by omega, by go_num, by rw [EMc.out]; exact ⟨by go_simp, by go_simp⟩, by rw [EXc.out]; exact ⟨by go_simp, by go_simp⟩, fun i => by go_simp, fun i => by go_simp, fun i => by go_simp, ⟨by go_simp, by go_simp⟩, by (try simp); omega, by go_grown⟩
          case measure => simp [intOf]; omega
      · have hkn : k = n := by omega
        have hr : l.take k = l := List.take_of_length_le (by rw [HN.out]; omega)
        rw [hr] at m0 m1 x0 x1
        have hw := HW.out
        obtain ⟨hw0, hw1⟩ := hw
        go_wp2_with fail
        refine bodyPost_ret (by simp [results, Try.results74, go_sem, *]; try rfl) rfl ?_
        exact ⟨rfl, by go_grown⟩

set_option maxRecDepth 100000 in
set_option maxHeartbeats 1600000 in
theorem maxfuncS (g n cap : Nat) (s0 : Su) (l : List Su) (hl : l[0]? = some s0) (hn : l.length = n) (hb : n ≤ 1000) (hbd : ∀ x ∈ l, Bs 1000000 x) (w : World) (hg : g < w.heap.size) (h1 : RowS w g l) :
    Calls Try.prog 123 #[.slice (some ⟨g, 0, none⟩) n cap, .func (.func 99) #[] #[]] w fun e w' => e = .returned (sv (mxS s0 l)) ∧ Below w.heap.size w w' := by
  have hn0 : 0 < n := by rw [← hn]; exact (List.getElem?_eq_some_iff.1 hl).1
  have HN := Lib.hid hn
  have H1 := Lib.hid h1
  have HBD := Lib.hid hbd
  have HB0 := Lib.hid (hbd s0 (List.mem_of_getElem? hl))
  obtain ⟨a0, a1⟩ := h1 0 s0 hl
  simp only [Nat.zero_mul, Nat.zero_add] at a0 a1
  have HT1 := Lib.hid (show mxS s0 (l.take 1) = s0 by
    cases l with
    | nil => simp at hl
    | cons a t => simp at hl; subst hl; simp [mxS, sn_self])
  have n0 : ¬ (n : Int) < 1 := by omega
  have n1 : (0 : Int) < (n : Int) := by omega
  clear hn h1 hbd hl
  go_enter Try.func123, Try.ntmps123
  go_wp2_with fail
  go_loopw [6] (fun i wr => ∃ k : Nat, 1 ≤ k ∧ k ≤ n ∧ i = .int .i64 k ∧ (wr.cell? ⟨w.heap.size + 1, 0, none⟩ = some (.int .i64 (mxS s0 (l.take k)).x) ∧ wr.cell? ⟨w.heap.size + 1, 1, none⟩ = some (.int .i64 (mxS s0 (l.take k)).r)) ∧ (∀ i, wr.frozen? ⟨w.heap.size + 1, i, none⟩ = false) ∧ (∀ i, wr.frozen? ⟨w.heap.size, i, none⟩ = false) ∧ (wr.cell? ⟨w.heap.size, 0, none⟩ = some (.int .i64 ((⟨0, 0⟩ : Su)).x) ∧ wr.cell? ⟨w.heap.size, 1, none⟩ = some (.int .i64 ((⟨0, 0⟩ : Su)).r)) ∧ w.heap.size + 2 ≤ wr.heap.size ∧ Below w.heap.size w wr) (fun i _ => n - (intOf i).toNat)
  case atStart => exact ⟨1, Nat.le_refl _, by omega, rfl, by rw [HT1.out]; exact ⟨by go_simp, by go_simp⟩, fun i => by go_simp, fun i => by go_simp, ⟨by go_simp, by go_simp⟩, by simp, by go_grown⟩
  case round =>
    obtain ⟨k, hk1, hk, rfl, ⟨m0, m1⟩, fs, fr, ⟨r0, r1⟩, hz, hB⟩ := hrel
    clear a0 a1 n0 n1
    have z0 : w.heap.size < wr.heap.size := by omega
    have z1 : w.heap.size + 1 < wr.heap.size := by omega
    have zg : g < wr.heap.size := by omega
    by_cases hlt : k < n
    · obtain ⟨y, hy⟩ : ∃ x, l[k]? = some x := ⟨_, List.getElem?_eq_getElem (by rw [HN.out]; exact hlt)⟩
      obtain ⟨e0, e1⟩ := (H1.out.below hg hB) k y hy
      have hmY := HBD.out y (List.mem_of_getElem? hy)
      have hmM := mxS_bd HB0.out (l.take k) (fun x hx => HBD.out x (List.mem_of_mem_take hx))
      have EM := Lib.hid (show mxS s0 (l.take (k + 1)) = (if 0 < (y - mxS s0 (l.take k)).sn then y else mxS s0 (l.take k)) by
        rw [List.take_add_one, hy]; exact mxS_snoc _ _ _)
      generalize mxS s0 (l.take k) = M at *
      have CM := imCmp7 y M (hmY.mono (by omega)) (hmM.mono (by omega))
      have j1 : (0 : Int) ≤ (k : Int) := by omega
      have j2 : (k : Int) < (n : Int) := by omega
      generalize (y - M).sn = u at *
      clear hy hmY hmM
      go_wp2_with fail
      refine absW (F := fun W => (W.cell? ⟨w.heap.size + 1, 0, none⟩ = some (.int .i64 (M).x) ∧ W.cell? ⟨w.heap.size + 1, 1, none⟩ = some (.int .i64 (M).r)) ∧ (∀ i, W.frozen? ⟨w.heap.size + 1, i, none⟩ = false) ∧ (∀ i, W.frozen? ⟨w.heap.size, i, none⟩ = false) ∧ (W.cell? ⟨w.heap.size, 0, none⟩ = some (.int .i64 ((⟨0, 0⟩ : Su)).x) ∧ W.cell? ⟨w.heap.size, 1, none⟩ = some (.int .i64 ((⟨0, 0⟩ : Su)).r)) ∧ (W.heap.size = wr.heap.size) ∧ (W.cell? ⟨g, k * 2, none⟩ = some (.int .i64 y.x)) ∧ (W.cell? ⟨g, k * 2 + 1, none⟩ = some (.int .i64 y.r)) ∧ Below w.heap.size w W) ⟨⟨by go_simp, by go_simp⟩, fun i => by go_simp, fun i => by go_simp, ⟨by go_simp, by go_simp⟩, by rfl, by go_simp, by go_simp, by go_grown⟩ ?_
      rintro W ⟨⟨cM_0, cM_1⟩, frM, frR, ⟨cR_0, cR_1⟩, hzW, i0, i1, HB⟩
      have kM_0 := fun d os => cell_regrown cM_0 d os
      have kM_1 := fun d os => cell_regrown cM_1 d os
      have kR_0 := fun d os => cell_regrown cR_0 d os
      have kR_1 := fun d os => cell_regrown cR_1 d os
      have I0 := fun d os => cell_regrown i0 d os
      have I1 := fun d os => cell_regrown i1 d os
      have y0 : w.heap.size < W.heap.size := by omega
      have y1 : w.heap.size + 1 < W.heap.size := by omega
      have yg : g < W.heap.size := by omega
      refine wp_region_quiet_below (by kernel_rfl) (by kernel_rfl) ?_
      repeat (quiet_step (first | (go_at_call 99; with_reducible exact Calls.regrown_of (CM _))))
      refine wpQuiet_nil ?_
      rintro _ ⟨⟨dq, osq⟩, rfl⟩
      have hbw1 := below_regrown W dq osq
      generalize grow (redrawn W dq) osq = w1 at hbw1 ⊢
      obtain ⟨hcw1, hfw1⟩ := bcell hbw1
      have hlw1 := hbw1.size
      replace HB := ba HB hbw1
      have y0' : w.heap.size < w1.heap.size := by omega
      have y1' : w.heap.size + 1 < w1.heap.size := by omega
      have yg' : g < w1.heap.size := by omega
      by_cases hL : 0 < u
      all_goals
        (first | have EMc := Lib.hid (EM.out.trans (if_pos hL)) | have EMc := Lib.hid (EM.out.trans (if_neg hL)))
        clear EM
        go_wp2_with fail
        go_roundw
        case rel => exact ⟨k + 1, by omega, by omega, by go_num, by rw [EMc.out]; exact ⟨by go_simp, by go_simp⟩, fun i => by go_simp, fun i => by go_simp, ⟨by go_simp, by go_simp⟩, by (try simp); omega, by go_grown⟩
        case measure => simp [intOf]; omega
    · have hkn : k = n := by omega
      have hr : l.take k = l := List.take_of_length_le (by rw [HN.out]; omega)
      rw [hr] at m0 m1
      go_wp2_with fail
      refine bodyPost_ret (by simp [results, Try.results123, go_sem, *]; try rfl) rfl ?_
      exact ⟨rfl, by go_grown⟩

set_option maxRecDepth 100000 in
set_option maxHeartbeats 1600000 in
theorem minfuncS (g n cap : Nat) (s0 : Su) (l : List Su) (hl : l[0]? = some s0) (hn : l.length = n) (hb : n ≤ 1000) (hbd : ∀ x ∈ l, Bs 1000000 x) (w : World) (hg : g < w.heap.size) (h1 : RowS w g l) :
    Calls Try.prog 124 #[.slice (some ⟨g, 0, none⟩) n cap, .func (.func 99) #[] #[]] w fun e w' => e = .returned (sv (mnS s0 l)) ∧ Below w.heap.size w w' := by
  have hn0 : 0 < n := by rw [← hn]; exact (List.getElem?_eq_some_iff.1 hl).1
  have HN := Lib.hid hn
  have H1 := Lib.hid h1
  have HBD := Lib.hid hbd
  have HB0 := Lib.hid (hbd s0 (List.mem_of_getElem? hl))
  obtain ⟨a0, a1⟩ := h1 0 s0 hl
  simp only [Nat.zero_mul, Nat.zero_add] at a0 a1
  have HT1 := Lib.hid (show mnS s0 (l.take 1) = s0 by
    cases l with
    | nil => simp at hl
    | cons a t => simp at hl; subst hl; simp [mnS, sn_self])
  have n0 : ¬ (n : Int) < 1 := by omega
  have n1 : (0 : Int) < (n : Int) := by omega
  clear hn h1 hbd hl
  go_enter Try.func124, Try.ntmps124
  go_wp2_with fail
  go_loopw [6] (fun i wr => ∃ k : Nat, 1 ≤ k ∧ k ≤ n ∧ i = .int .i64 k ∧ (wr.cell? ⟨w.heap.size + 1, 0, none⟩ = some (.int .i64 (mnS s0 (l.take k)).x) ∧ wr.cell? ⟨w.heap.size + 1, 1, none⟩ = some (.int .i64 (mnS s0 (l.take k)).r)) ∧ (∀ i, wr.frozen? ⟨w.heap.size + 1, i, none⟩ = false) ∧ (∀ i, wr.frozen? ⟨w.heap.size, i, none⟩ = false) ∧ (wr.cell? ⟨w.heap.size, 0, none⟩ = some (.int .i64 ((⟨0, 0⟩ : Su)).x) ∧ wr.cell? ⟨w.heap.size, 1, none⟩ = some (.int .i64 ((⟨0, 0⟩ : Su)).r)) ∧ w.heap.size + 2 ≤ wr.heap.size ∧ Below w.heap.size w wr) (fun i _ => n - (intOf i).toNat)
  case atStart => exact ⟨1, Nat.le_refl _, by omega, rfl, by rw [HT1.out]; exact ⟨by go_simp, by go_simp⟩, fun i => by go_simp, fun i => by go_simp, ⟨by go_simp, by go_simp⟩, by simp, by go_grown⟩
  case round =>
    obtain ⟨k, hk1, hk, rfl, ⟨m0, m1⟩, fs, fr, ⟨r0, r1⟩, hz, hB⟩ := hrel
    clear a0 a1 n0 n1
    have z0 : w.heap.size < wr.heap.size := by omega
    have z1 : w.heap.size + 1 < wr.heap.size := by omega
    have zg : g < wr.heap.size := by omega
    by_cases hlt : k < n
    · obtain ⟨y, hy⟩ : ∃ x, l[k]? = some x := ⟨_, List.getElem?_eq_getElem (by rw [HN.out]; exact hlt)⟩
      obtain ⟨e0, e1⟩ := (H1.out.below hg hB) k y hy
      have hmY := HBD.out y (List.mem_of_getElem? hy)
      have hmM := mnS_bd HB0.out (l.take k) (fun x hx => HBD.out x (List.mem_of_mem_take hx))
      have EM := Lib.hid (show mnS s0 (l.take (k + 1)) = (if (y - mnS s0 (l.take k)).sn < 0 then y else mnS s0 (l.take k)) by
        rw [List.take_add_one, hy]; exact mnS_snoc _ _ _)
      generalize mnS s0 (l.take k) = M at *
      have CM := imCmp7 y M (hmY.mono (by omega)) (hmM.mono (by omega))
      have j1 : (0 : Int) ≤ (k : Int) := by omega
      have j2 : (k : Int) < (n : Int) := by omega
      generalize (y - M).sn = u at *
      clear hy hmY hmM
      go_wp2_with fail
      refine absW (F := fun W => (W.cell? ⟨w.heap.size + 1, 0, none⟩ = some (.int .i64 (M).x) ∧ W.cell? ⟨w.heap.size + 1, 1, none⟩ = some (.int .i64 (M).r)) ∧ (∀ i, W.frozen? ⟨w.heap.size + 1, i, none⟩ = false) ∧ (∀ i, W.frozen? ⟨w.heap.size, i, none⟩ = false) ∧ (W.cell? ⟨w.heap.size, 0, none⟩ = some (.int .i64 ((⟨0, 0⟩ : Su)).x) ∧ W.cell? ⟨w.heap.size, 1, none⟩ = some (.int .i64 ((⟨0, 0⟩ : Su)).r)) ∧ (W.heap.size = wr.heap.size) ∧ (W.cell? ⟨g, k * 2, none⟩ = some (.int .i64 y.x)) ∧ (W.cell? ⟨g, k * 2 + 1, none⟩ = some (.int .i64 y.r)) ∧ Below w.heap.size w W) ⟨⟨by go_simp, by go_simp⟩, fun i => by go_simp, fun i => by go_simp, ⟨by go_simp, by go_simp⟩, by rfl, by go_simp, by go_simp, by go_grown⟩ ?_
      rintro W ⟨⟨cM_0, cM_1⟩, frM, frR, ⟨cR_0, cR_1⟩, hzW, i0, i1, HB⟩
      have kM_0 := fun d os => cell_regrown cM_0 d os
      have kM_1 := fun d os => cell_regrown cM_1 d os
      have kR_0 := fun d os => cell_regrown cR_0 d os
      have kR_1 := fun d os => cell_regrown cR_1 d os
      have I0 := fun d os => cell_regrown i0 d os
      have I1 := fun d os => cell_regrown i1 d os
      have y0 : w.heap.size < W.heap.size := by omega
      have y1 : w.heap.size + 1 < W.heap.size := by omega
      have yg : g < W.heap.size := by omega
      refine wp_region_quiet_below (by kernel_rfl) (by kernel_rfl) ?_
      repeat (quiet_step (first | (go_at_call 99; with_reducible exact Calls.regrown_of (CM _))))
      refine wpQuiet_nil ?_
      rintro _ ⟨⟨dq, osq⟩, rfl⟩
      have hbw1 := below_regrown W dq osq
      generalize grow (redrawn W dq) osq = w1 at hbw1 ⊢
      obtain ⟨hcw1, hfw1⟩ := bcell hbw1
      have hlw1 := hbw1.size
      replace HB := ba HB hbw1
      have y0' : w.heap.size < w1.heap.size := by omega
      have y1' : w.heap.size + 1 < w1.heap.size := by omega
      have yg' : g < w1.heap.size := by omega
      by_cases hL : u < 0
      all_goals
        (first | have EMc := Lib.hid (EM.out.trans (if_pos hL)) | have EMc := Lib.hid (EM.out.trans (if_neg hL)))
        clear EM
        go_wp2_with fail
        go_roundw
        case rel => exact ⟨k + 1, by omega, by omega, by go_num, by rw [EMc.out]; exact ⟨by go_simp, by go_simp⟩, fun i => by go_simp, fun i => by go_simp, ⟨by go_simp, by go_simp⟩, by (try simp); omega, by go_grown⟩
        case measure => simp [intOf]; omega
    · have hkn : k = n := by omega
      have hr : l.take k = l := List.take_of_length_le (by rw [HN.out]; omega)
      rw [hr] at m0 m1
      go_wp2_with fail
      refine bodyPost_ret (by simp [results, Try.results124, go_sem, *]; try rfl) rfl ?_
      exact ⟨rfl, by go_grown⟩

end Go.Proofs.Ytppbbcckijcckaa

/- Contracts: WidthOf and HeightOf, in the model and in the program. -/
namespace Go.Proofs.Ytppbbcckijcckaa
open Go.ChangeShapes Go.WideShapes Go.ChangeAt Go.RowKit Go.Sort

set_option linter.unusedVariables false
set_option linter.unusedSimpArgs false

/-- The greatest of some number of a track's joints less the least one. -/
def spS (l : List Su) : Su := mxS (l.headD 0) l - mnS (l.headD 0) l

def spanR (F : Pn → Su) (s : ByteArray) : Su := cond (tkB s) (spS ((jp s).map F)) 0

theorem span_no {F : Pn → Su} {s : ByteArray} (h : tkB s = false) : spanR F s = 0 := by simp [spanR, h]

theorem map_bd {F : Pn → Su} {l : List Pn} (h : ∀ x ∈ l, Bd 100000 x) (hF : ∀ p, Bd 100000 p → Bs (2 * 100000) (F p)) : ∀ x ∈ l.map F, Bs 1000000 x := by
  intro x hx
  obtain ⟨p, hp, rfl⟩ := List.mem_map.1 hx
  exact (hF p (h p hp)).mono (by omega)

theorem span_yes {F : Pn → Su} {s : ByteArray} (h : tkB s = true) (hF : ∀ p, Bd 100000 p → Bs (2 * 100000) (F p)) : ∃ s0, ((jp s).map F)[0]? = some s0 ∧ spanR F s = mxS s0 ((jp s).map F) - mnS s0 ((jp s).map F) ∧ Bs 1000000000000000 (mxS s0 ((jp s).map F) - mnS s0 ((jp s).map F)) := by
  have hl : ((jp s).map F).length = s.size + 1 := by rw [List.length_map, jp_len]
  have hb := map_bd (F := F) (jp_bd h) hF
  have e : spanR F s = spS ((jp s).map F) := by simp [spanR, h]
  rw [e]
  unfold spS
  generalize (jp s).map F = m at *
  match m, hl with
  | a :: t, _ =>
    refine ⟨a, rfl, rfl, ?_⟩
    have h0 := hb a (by simp)
    exact (mxS_bd h0 _ hb).sub_bd (mnS_bd h0 _ hb) |>.mono (by omega)

set_option maxRecDepth 100000 in
set_option maxHeartbeats 1600000 in
theorem spWidthOf (s : ByteArray) (hs : s.size ≤ 1048576) (w : World) :
    Calls Try.prog 29 #[.string s] w fun e w' => e = .returned (.tuple #[.agg #[.int .i64 (spanR Pn.tx s).x, .int .i64 (spanR Pn.tx s).r], .bool (tkB s)]) ∧ Below w.heap.size w w' := by
  obtain ⟨i0, hi, iz0, iz1, iz2⟩ := info_parts suInfo
  have TG := Lib.hid (tkGood_any s hs)
  cases ht : tkB s <;> rw [ht] at TG
  · rw [span_no ht]
    go_enter Try.func29, Try.ntmps29
    go_wp2_with (go_at_call 72; refine (TG.out _).mono ?_; rintro e w' ⟨rfl, rfl⟩)
    refine bodyPost_ret (by simp [results, Try.results29, go_sem, *]; try rfl) rfl ?_
    exact ⟨rfl, by go_grown⟩
  · have h40 := tkB_size ht
    obtain ⟨s0, hs0, eS, bS⟩ := span_yes (F := Pn.tx) ht (fun p h => h.tx_bd)
    have HL := Lib.hid (jp_len s)
    have HM := Lib.hid (jp_bd ht)
    have HM2 := Lib.hid (map_bd (F := Pn.tx) (jp_bd ht) (fun p h => h.tx_bd))
    rw [eS]
    clear eS
    generalize hlj : jp s = l at *
    have HLJ := Lib.hid hlj
    generalize hT : mxS s0 (l.map Pn.tx) - mnS s0 (l.map Pn.tx) = T at *
    have HTT := Lib.hid hT
    clear hlj hT
    go_enter Try.func29, Try.ntmps29
    go_wp2_with fail
    (go_at_call 72; refine (TG.out _).mono ?_; rintro e w' ⟨rfl, rfl⟩)
    go_wp2_with fail
    refine (tkJoints_yes s ht _).mono ?_
    rintro er w1 ⟨g, cap, rfl, hO, hb1⟩
    have hR : RowP w1 g l := by rw [← HLJ.out]; exact rowP_own (n := 0) hO
    have hg := own_lt7 hO
    have hz1 := hb1.size
    have F0 := Lib.hid (show ∀ i, w1.frozen? ⟨w.heap.size, i, none⟩ = false from fun i => by rw [hb1.frozen (p := ⟨w.heap.size, i, none⟩) (by simp)]; go_simp)
    have Q0 := Lib.hid (show w1.cell? ⟨w.heap.size, 0, none⟩ = some (.int .i64 0) by rw [hb1.cell (p := ⟨w.heap.size, 0, none⟩) (by simp)]; go_simp)
    have Q1 := Lib.hid (show w1.cell? ⟨w.heap.size, 1, none⟩ = some (.int .i64 0) by rw [hb1.cell (p := ⟨w.heap.size, 1, none⟩) (by simp)]; go_simp)
    have HBw := Lib.hid (show Below w.heap.size w w1 from ba (by go_grown) hb1)
    have H1 := Lib.hid hR
    have ylt : w.heap.size < w1.heap.size := by (simp at hz1; omega)
    clear hO hR hb1
    go_wp2_with fail
    go_loopw [4, 14] (fun t i wr => ∃ (k : Nat) (v : Value), k ≤ s.size + 1 ∧ i = .int .i64 k ∧ t = v ∧ wr.ownsRow w1.heap.size 34 2 v k (suCs ((l.map Pn.tx).take k)) ∧ Below w1.heap.size w1 wr) (fun _ i _ => s.size + 1 - (intOf i).toNat)
    case atStart => exact ⟨0, _, Nat.zero_le _, rfl, rfl, World.ownsRow_nil _ _ _ _, Below.refl _ _⟩
    case round =>
      obtain ⟨k, v, hk, rfl, rfl, hJ, hB⟩ := hrel
      have hzr := hB.size
      have zg : g < wr.heap.size := by omega
      by_cases hlt : k < s.size + 1
      · obtain ⟨p, hp⟩ : ∃ p, l[k]? = some p := ⟨_, List.getElem?_eq_getElem (by rw [HL.out]; exact hlt)⟩
        obtain ⟨c0, c1, c2, c3⟩ := (H1.out.below hg hB) k p hp
        have hm := HM.out p (List.mem_of_getElem? hp)
        have HT := Lib.hid (show (l.map Pn.tx).take (k + 1) = (l.map Pn.tx).take k ++ [Pn.tx p] by rw [List.take_add_one, List.getElem?_map, hp]; rfl)
        have CX := spXP p (hm.mono (by omega))
        have HJ := Lib.hid hJ
        have HB1 := Lib.hid hB
        have hz1r := hzr
        have j1 : (0 : Int) ≤ (k : Int) := by omega
        have j2 : (k : Int) < (s.size : Int) + 1 := by omega
        have j3 : IntKind.i64.wrap ((k : Int) + 1) = (k : Int) + 1 := IntWalk.i64_in _ ⟨by omega, by omega⟩
        clear hp hm hJ hB
        go_wp2_with fail
        refine (CX _).mono ?_
        rintro e w2 ⟨rfl, hb2⟩
        have HJ2 := Lib.hid (own_below7 (HJ.out.alloc _) hb2)
        have HB2 := Lib.hid ((HB1.out.alloc hzr _).trans (hb2.mono (by simp; omega)))
        have hz2 := hb2.size
        simp at hz2
        clear hb2 c0 c1 c2 c3
        generalize Pn.tx p = q at *
        go_wp2_with (at_builtin; refine wpList_append_own _ rfl _ _ 77 rfl w1.heap.size 34 i0 (.agg #[.int .i64 0, .int .i64 0]) 2 16 Try.underlying77 hi iz0 iz1 iz2 rfl (by decide) _ _ _ rfl (HJ2.out.alloc _) ⟨w2.heap.size, 0, none⟩ 1 1 [.int .i64 q.x, .int .i64 q.r] rfl rfl (newc7 rfl) (by intro u hu; simp at hu; rcases hu with rfl | rfl <;> rfl) (by unfold maxLen; omega) (by omega) (by simp; omega) ?_)
        intro v' w3 hJ3 hg3 _
        have HJA := Lib.hid (HJ2.out.alloc (.cells #[.int .i64 q.x, .int .i64 q.r] 34))
        have HB3 := Lib.hid ((HB2.out.alloc (by omega) (.cells #[.int .i64 q.x, .int .i64 q.r] 34)).grown hg3 (by simp; omega) (fun k hk => (HJA.out.lt k hk).1))
        have HJ3 := Lib.hid hJ3
        clear hJ3 hg3
        go_wp2_with fail
        go_roundw
        case rel => exact ⟨k + 1, v', by omega, by go_num, rfl, by rw [HT.out, suCs_append]; exact HJ3.out, HB3.out⟩
        case measure => simp [intOf]; omega
      · obtain rfl : k = s.size + 1 := by omega
        have hE : (l.map Pn.tx).take (s.size + 1) = l.map Pn.tx := List.take_of_length_le (by rw [List.length_map, HL.out]; omega)
        rw [hE] at hJ
        obtain ⟨g2, cap2, rfl, _⟩ := hJ.form (by omega)
        have R2 := RowS.own hJ (by rw [List.length_map, HL.out])
        have hg2 := own_lt7 hJ
        have HBx := ba HBw.out (hB.mono (by omega))
        have y0 : w.heap.size < wr.heap.size := by omega
        have f0 : ∀ i, wr.frozen? ⟨w.heap.size, i, none⟩ = false := fun i => (hB.frozen (p := ⟨w.heap.size, i, none⟩) (by show w.heap.size < w1.heap.size; omega)).trans (F0.out i)
        have q0 : wr.cell? ⟨w.heap.size, 0, none⟩ = some (.int .i64 0) := (hB.cell (p := ⟨w.heap.size, 0, none⟩) (by show w.heap.size < w1.heap.size; omega)).trans Q0.out
        have q1 : wr.cell? ⟨w.heap.size, 1, none⟩ = some (.int .i64 0) := (hB.cell (p := ⟨w.heap.size, 1, none⟩) (by show w.heap.size < w1.heap.size; omega)).trans Q1.out
        clear hJ hB
        have SP := arSpreadP g2 (s.size + 1) cap2 s0 (l.map Pn.tx) hs0 (by rw [List.length_map, HL.out]) (by omega) HM2.out wr hg2 R2
        rw [HTT.out] at SP
        have SP := Lib.hid SP
        clear R2
        go_wp2_with fail
        refine SP.out.mono ?_
        rintro e w4 ⟨rfl, hb4⟩
        obtain ⟨hc4, hf4⟩ := bcell hb4
        have hz4 := hb4.size
        have hB4 : Below w.heap.size w w4 := ba HBx hb4
        have y1 : w.heap.size < w4.heap.size := by omega
        go_wp2_with fail
        refine bodyPost_ret (by simp [results, Try.results29, go_sem, *]; try rfl) rfl ?_
        exact ⟨rfl, by go_grown⟩

set_option maxRecDepth 100000 in
set_option maxHeartbeats 1600000 in
theorem reachWidthOf (s : ByteArray) (hs : s.size ≤ 1048576) (w : World) :
    Calls Try.prog 75 #[.string s, .func (.func 76) #[] #[]] w fun e w' => e = .returned (.tuple #[.agg #[.int .i64 (spanR Pn.tx s).x, .int .i64 (spanR Pn.tx s).r], .bool (tkB s)]) ∧ Below w.heap.size w w' := by
  obtain ⟨i0, hi, iz0, iz1, iz2⟩ := info_parts suInfo
  cases ht : tkB s
  · rw [span_no ht]
    go_enter Try.func75, Try.ntmps75
    go_wp2_with (go_at_call 103; refine (imJointsOf_no s hs ht _).mono ?_; rintro e w' ⟨rfl, rfl⟩)
    refine bodyPost_ret (by simp [results, Try.results75, go_sem, *]; try rfl) rfl ?_
    exact ⟨rfl, by go_grown⟩
  · have h40 := tkB_size ht
    obtain ⟨s0, hs0, eS, bS⟩ := span_yes (F := Pn.tx) ht (fun p h => h.tx_bd)
    have HL := Lib.hid (jp_len s)
    have HM := Lib.hid (jp_bd ht)
    have HM2 := Lib.hid (map_bd (F := Pn.tx) (jp_bd ht) (fun p h => h.tx_bd))
    rw [eS]
    clear eS
    generalize hlj : jp s = l at *
    have HLJ := Lib.hid hlj
    generalize hT : mxS s0 (l.map Pn.tx) - mnS s0 (l.map Pn.tx) = T at *
    have HTT := Lib.hid hT
    clear hlj hT
    go_enter Try.func75, Try.ntmps75
    go_wp2_with fail
    refine (imJointsOf_yes s ht _).mono ?_
    rintro er w1 ⟨g, cap, he, hO, hb1⟩
    replace he : er = .returned (.tuple #[.slice (some ⟨g, 0, none⟩) (s.size + 1) cap, .bool true]) := he
    subst he
    have hR : RowP w1 g l := by rw [← HLJ.out]; exact rowP_own (n := 0) hO
    have hg := own_lt7 hO
    have hz1 := hb1.size
    have F0 := Lib.hid (show ∀ i, w1.frozen? ⟨w.heap.size, i, none⟩ = false from fun i => by rw [hb1.frozen (p := ⟨w.heap.size, i, none⟩) (by simp)]; go_simp)
    have Q0 := Lib.hid (show w1.cell? ⟨w.heap.size, 0, none⟩ = some (.int .i64 0) by rw [hb1.cell (p := ⟨w.heap.size, 0, none⟩) (by simp)]; go_simp)
    have Q1 := Lib.hid (show w1.cell? ⟨w.heap.size, 1, none⟩ = some (.int .i64 0) by rw [hb1.cell (p := ⟨w.heap.size, 1, none⟩) (by simp)]; go_simp)
    have HBw := Lib.hid (show Below w.heap.size w w1 from ba (by go_grown) hb1)
    have H1 := Lib.hid hR
    have ylt : w.heap.size < w1.heap.size := by (simp at hz1; omega)
    clear hO hR hb1
    go_wp2_with fail
    go_loopw [8, 21] (fun t i wr => ∃ (k : Nat) (v : Value), k ≤ s.size + 1 ∧ i = .int .i64 k ∧ t = v ∧ wr.ownsRow w1.heap.size 34 2 v k (suCs ((l.map Pn.tx).take k)) ∧ Below w1.heap.size w1 wr) (fun _ i _ => s.size + 1 - (intOf i).toNat)
    case atStart => exact ⟨0, _, Nat.zero_le _, rfl, rfl, World.ownsRow_nil _ _ _ _, Below.refl _ _⟩
    case round =>
      obtain ⟨k, v, hk, rfl, rfl, hJ, hB⟩ := hrel
      have hzr := hB.size
      have zg : g < wr.heap.size := by omega
      by_cases hlt : k < s.size + 1
      · obtain ⟨p, hp⟩ : ∃ p, l[k]? = some p := ⟨_, List.getElem?_eq_getElem (by rw [HL.out]; exact hlt)⟩
        obtain ⟨c0, c1, c2, c3⟩ := (H1.out.below hg hB) k p hp
        have hm := HM.out p (List.mem_of_getElem? hp)
        have HT := Lib.hid (show (l.map Pn.tx).take (k + 1) = (l.map Pn.tx).take k ++ [Pn.tx p] by rw [List.take_add_one, List.getElem?_map, hp]; rfl)
        have CX := imXP p (hm.mono (by omega))
        have HJ := Lib.hid hJ
        have HB1 := Lib.hid hB
        have hz1r := hzr
        have j1 : (0 : Int) ≤ (k : Int) := by omega
        have j2 : (k : Int) < (s.size : Int) + 1 := by omega
        have j3 : IntKind.i64.wrap ((k : Int) + 1) = (k : Int) + 1 := IntWalk.i64_in _ ⟨by omega, by omega⟩
        clear hp hm hJ hB
        go_wp2_with fail
        refine (CX _).mono ?_
        rintro e w2 ⟨rfl, hb2⟩
        have HJ2 := Lib.hid (own_below7 (HJ.out.alloc _) hb2)
        have HB2 := Lib.hid ((HB1.out.alloc hzr _).trans (hb2.mono (by simp; omega)))
        have hz2 := hb2.size
        simp at hz2
        clear hb2 c0 c1 c2 c3
        generalize Pn.tx p = q at *
        go_wp2_with (at_builtin; refine wpList_append_own _ rfl _ _ 77 rfl w1.heap.size 34 i0 (.agg #[.int .i64 0, .int .i64 0]) 2 16 Try.underlying77 hi iz0 iz1 iz2 rfl (by decide) _ _ _ rfl (HJ2.out.alloc _) ⟨w2.heap.size, 0, none⟩ 1 1 [.int .i64 q.x, .int .i64 q.r] rfl rfl (newc7 rfl) (by intro u hu; simp at hu; rcases hu with rfl | rfl <;> rfl) (by unfold maxLen; omega) (by omega) (by simp; omega) ?_)
        intro v' w3 hJ3 hg3 _
        have HJA := Lib.hid (HJ2.out.alloc (.cells #[.int .i64 q.x, .int .i64 q.r] 34))
        have HB3 := Lib.hid ((HB2.out.alloc (by omega) (.cells #[.int .i64 q.x, .int .i64 q.r] 34)).grown hg3 (by simp; omega) (fun k hk => (HJA.out.lt k hk).1))
        have HJ3 := Lib.hid hJ3
        clear hJ3 hg3
        go_wp2_with fail
        go_roundw
        case rel => exact ⟨k + 1, v', by omega, by go_num, rfl, by rw [HT.out, suCs_append]; exact HJ3.out, HB3.out⟩
        case measure => simp [intOf]; omega
      · obtain rfl : k = s.size + 1 := by omega
        have hE : (l.map Pn.tx).take (s.size + 1) = l.map Pn.tx := List.take_of_length_le (by rw [List.length_map, HL.out]; omega)
        rw [hE] at hJ
        obtain ⟨g2, cap2, rfl, _⟩ := hJ.form (by omega)
        have R2 := RowS.own hJ (by rw [List.length_map, HL.out])
        have hg2 := own_lt7 hJ
        have HBx := ba HBw.out (hB.mono (by omega))
        have y0 : w.heap.size < wr.heap.size := by omega
        have f0 : ∀ i, wr.frozen? ⟨w.heap.size, i, none⟩ = false := fun i => (hB.frozen (p := ⟨w.heap.size, i, none⟩) (by show w.heap.size < w1.heap.size; omega)).trans (F0.out i)
        have q0 : wr.cell? ⟨w.heap.size, 0, none⟩ = some (.int .i64 0) := (hB.cell (p := ⟨w.heap.size, 0, none⟩) (by show w.heap.size < w1.heap.size; omega)).trans Q0.out
        have q1 : wr.cell? ⟨w.heap.size, 1, none⟩ = some (.int .i64 0) := (hB.cell (p := ⟨w.heap.size, 1, none⟩) (by show w.heap.size < w1.heap.size; omega)).trans Q1.out
        clear hJ hB
        have MX := fun w' (hw : Below wr.heap.size wr w') => maxfuncS g2 (s.size + 1) cap2 s0 (l.map Pn.tx) hs0 (by rw [List.length_map, HL.out]) (by omega) HM2.out w' (Nat.lt_of_lt_of_le hg2 hw.size) (R2.below hg2 hw)
        have MN := fun w' (hw : Below wr.heap.size wr w') => minfuncS g2 (s.size + 1) cap2 s0 (l.map Pn.tx) hs0 (by rw [List.length_map, HL.out]) (by omega) HM2.out w' (Nat.lt_of_lt_of_le hg2 hw.size) (R2.below hg2 hw)
        have SB := surdB_of bS
        have LE := imSuLess7 (mxS s0 (l.map Pn.tx)) (mnS s0 (l.map Pn.tx)) ((mxS_bd (HM2.out _ (List.mem_of_getElem? hs0)) _ HM2.out).mono (by omega)) ((mnS_bd (HM2.out _ (List.mem_of_getElem? hs0)) _ HM2.out).mono (by omega))
        rw [HTT.out] at LE
        have ON := imOnlySurd_any T.x T.r
        rw [SB] at ON
        simp only [show ∀ z, sel true z = z from fun _ => rfl] at ON
        generalize mxS s0 (l.map Pn.tx) = T1 at *
        generalize mnS s0 (l.map Pn.tx) = T2 at *
        have MX := Lib.hid MX
        have MN := Lib.hid MN
        have LE := Lib.hid LE
        have ON := Lib.hid ON
        clear R2 SB
        go_wp2_with fail
        refine (MX.out _ (Below.refl _ _)).mono ?_
        rintro e w4 ⟨rfl, hb4⟩
        have hz4 := hb4.size
        go_wp2_with fail
        refine (MN.out _ hb4).mono ?_
        rintro e w5 ⟨rfl, hb5⟩
        have hz5 := hb5.size
        have hb6 : Below wr.heap.size wr w5 := hb4.trans (hb5.mono hz4)
        obtain ⟨hc6, hf6⟩ := bcell hb6
        have y1 : w.heap.size < w5.heap.size := by omega
        have hB : Below w.heap.size w w5 := ba HBx hb6
        clear hb4 hb5 hb6
        go_wp2_with fail
        (go_at_call 71; (with_reducible refine (LE.out _).mono ?_); rintro e w7 ⟨rfl, h1⟩; (try with_reducible replace h1 := undrew h1); have hB : Below w.heap.size w w7 := ba (by go_grown) h1; obtain ⟨hcw7, hfw7⟩ := bcell h1; have hqw7 := h1.size; (try simp at hqw7); (try have hz0w7 : w.heap.size < w7.heap.size := (by omega)); (try have he0w7 : w.heap.size ≤ w7.heap.size := (by omega)))
        go_wp2_with fail
        (go_at_call 65; (with_reducible refine (ON.out _).mono ?_); rintro e w8 ⟨rfl, h1⟩; (try with_reducible replace h1 := undrew h1); have hB : Below w.heap.size w w8 := ba (by go_grown) h1; obtain ⟨hcw8, hfw8⟩ := bcell h1; have hqw8 := h1.size; (try simp at hqw8); (try have hz0w8 : w.heap.size < w8.heap.size := (by omega)); (try have he0w8 : w.heap.size ≤ w8.heap.size := (by omega)))
        go_wp2_with fail
        refine bodyPost_ret (by simp [results, Try.results75, go_sem, *]; try rfl) rfl ?_
        exact ⟨rfl, by go_grown⟩

set_option maxRecDepth 100000 in
set_option maxHeartbeats 800000 in
theorem imWidthOf (s : ByteArray) (hs : s.size ≤ 1048576) (w : World) :
    Calls Try.prog 30 #[.string s] w fun e w' => e = .returned (.tuple #[.agg #[.int .i64 (spanR Pn.tx s).x, .int .i64 (spanR Pn.tx s).r], .bool (tkB s)]) ∧ Below w.heap.size w w' := by
  have RE := Lib.hid (reachWidthOf s hs)
  go_enter Try.func30, Try.ntmps30
  go_wp2_with (go_at_call 75; (with_reducible refine (RE.out _).mono ?_); rintro e w1 ⟨rfl, h1⟩; (try with_reducible replace h1 := undrew h1); have hB : Below w.heap.size w w1 := ba (by go_grown) h1; obtain ⟨hcw1, hfw1⟩ := bcell h1; have hqw1 := h1.size; (try simp at hqw1); (try have hz0w1 : w.heap.size < w1.heap.size := (by omega)); (try have he0w1 : w.heap.size ≤ w1.heap.size := (by omega)))
  refine bodyPost_ret (by simp [results, Try.results30, go_sem, *]; try rfl) rfl ?_
  exact ⟨rfl, by go_grown⟩

set_option maxRecDepth 100000 in
set_option maxHeartbeats 1600000 in
theorem spHeightOf (s : ByteArray) (hs : s.size ≤ 1048576) (w : World) :
    Calls Try.prog 31 #[.string s] w fun e w' => e = .returned (.tuple #[.agg #[.int .i64 (spanR Pn.ty s).x, .int .i64 (spanR Pn.ty s).r], .bool (tkB s)]) ∧ Below w.heap.size w w' := by
  obtain ⟨i0, hi, iz0, iz1, iz2⟩ := info_parts suInfo
  have TG := Lib.hid (tkGood_any s hs)
  cases ht : tkB s <;> rw [ht] at TG
  · rw [span_no ht]
    go_enter Try.func31, Try.ntmps31
    go_wp2_with (go_at_call 72; refine (TG.out _).mono ?_; rintro e w' ⟨rfl, rfl⟩)
    refine bodyPost_ret (by simp [results, Try.results31, go_sem, *]; try rfl) rfl ?_
    exact ⟨rfl, by go_grown⟩
  · have h40 := tkB_size ht
    obtain ⟨s0, hs0, eS, bS⟩ := span_yes (F := Pn.ty) ht (fun p h => h.ty_bd)
    have HL := Lib.hid (jp_len s)
    have HM := Lib.hid (jp_bd ht)
    have HM2 := Lib.hid (map_bd (F := Pn.ty) (jp_bd ht) (fun p h => h.ty_bd))
    rw [eS]
    clear eS
    generalize hlj : jp s = l at *
    have HLJ := Lib.hid hlj
    generalize hT : mxS s0 (l.map Pn.ty) - mnS s0 (l.map Pn.ty) = T at *
    have HTT := Lib.hid hT
    clear hlj hT
    go_enter Try.func31, Try.ntmps31
    go_wp2_with fail
    (go_at_call 72; refine (TG.out _).mono ?_; rintro e w' ⟨rfl, rfl⟩)
    go_wp2_with fail
    refine (tkJoints_yes s ht _).mono ?_
    rintro er w1 ⟨g, cap, rfl, hO, hb1⟩
    have hR : RowP w1 g l := by rw [← HLJ.out]; exact rowP_own (n := 0) hO
    have hg := own_lt7 hO
    have hz1 := hb1.size
    have F0 := Lib.hid (show ∀ i, w1.frozen? ⟨w.heap.size, i, none⟩ = false from fun i => by rw [hb1.frozen (p := ⟨w.heap.size, i, none⟩) (by simp)]; go_simp)
    have Q0 := Lib.hid (show w1.cell? ⟨w.heap.size, 0, none⟩ = some (.int .i64 0) by rw [hb1.cell (p := ⟨w.heap.size, 0, none⟩) (by simp)]; go_simp)
    have Q1 := Lib.hid (show w1.cell? ⟨w.heap.size, 1, none⟩ = some (.int .i64 0) by rw [hb1.cell (p := ⟨w.heap.size, 1, none⟩) (by simp)]; go_simp)
    have HBw := Lib.hid (show Below w.heap.size w w1 from ba (by go_grown) hb1)
    have H1 := Lib.hid hR
    have ylt : w.heap.size < w1.heap.size := by (simp at hz1; omega)
    clear hO hR hb1
    go_wp2_with fail
    go_loopw [4, 14] (fun t i wr => ∃ (k : Nat) (v : Value), k ≤ s.size + 1 ∧ i = .int .i64 k ∧ t = v ∧ wr.ownsRow w1.heap.size 34 2 v k (suCs ((l.map Pn.ty).take k)) ∧ Below w1.heap.size w1 wr) (fun _ i _ => s.size + 1 - (intOf i).toNat)
    case atStart => exact ⟨0, _, Nat.zero_le _, rfl, rfl, World.ownsRow_nil _ _ _ _, Below.refl _ _⟩
    case round =>
      obtain ⟨k, v, hk, rfl, rfl, hJ, hB⟩ := hrel
      have hzr := hB.size
      have zg : g < wr.heap.size := by omega
      by_cases hlt : k < s.size + 1
      · obtain ⟨p, hp⟩ : ∃ p, l[k]? = some p := ⟨_, List.getElem?_eq_getElem (by rw [HL.out]; exact hlt)⟩
        obtain ⟨c0, c1, c2, c3⟩ := (H1.out.below hg hB) k p hp
        have hm := HM.out p (List.mem_of_getElem? hp)
        have HT := Lib.hid (show (l.map Pn.ty).take (k + 1) = (l.map Pn.ty).take k ++ [Pn.ty p] by rw [List.take_add_one, List.getElem?_map, hp]; rfl)
        have CX := spYP p (hm.mono (by omega))
        have HJ := Lib.hid hJ
        have HB1 := Lib.hid hB
        have hz1r := hzr
        have j1 : (0 : Int) ≤ (k : Int) := by omega
        have j2 : (k : Int) < (s.size : Int) + 1 := by omega
        have j3 : IntKind.i64.wrap ((k : Int) + 1) = (k : Int) + 1 := IntWalk.i64_in _ ⟨by omega, by omega⟩
        clear hp hm hJ hB
        go_wp2_with fail
        refine (CX _).mono ?_
        rintro e w2 ⟨rfl, hb2⟩
        have HJ2 := Lib.hid (own_below7 (HJ.out.alloc _) hb2)
        have HB2 := Lib.hid ((HB1.out.alloc hzr _).trans (hb2.mono (by simp; omega)))
        have hz2 := hb2.size
        simp at hz2
        clear hb2 c0 c1 c2 c3
        generalize Pn.ty p = q at *
        go_wp2_with (at_builtin; refine wpList_append_own _ rfl _ _ 77 rfl w1.heap.size 34 i0 (.agg #[.int .i64 0, .int .i64 0]) 2 16 Try.underlying77 hi iz0 iz1 iz2 rfl (by decide) _ _ _ rfl (HJ2.out.alloc _) ⟨w2.heap.size, 0, none⟩ 1 1 [.int .i64 q.x, .int .i64 q.r] rfl rfl (newc7 rfl) (by intro u hu; simp at hu; rcases hu with rfl | rfl <;> rfl) (by unfold maxLen; omega) (by omega) (by simp; omega) ?_)
        intro v' w3 hJ3 hg3 _
        have HJA := Lib.hid (HJ2.out.alloc (.cells #[.int .i64 q.x, .int .i64 q.r] 34))
        have HB3 := Lib.hid ((HB2.out.alloc (by omega) (.cells #[.int .i64 q.x, .int .i64 q.r] 34)).grown hg3 (by simp; omega) (fun k hk => (HJA.out.lt k hk).1))
        have HJ3 := Lib.hid hJ3
        clear hJ3 hg3
        go_wp2_with fail
        go_roundw
        case rel => exact ⟨k + 1, v', by omega, by go_num, rfl, by rw [HT.out, suCs_append]; exact HJ3.out, HB3.out⟩
        case measure => simp [intOf]; omega
      · obtain rfl : k = s.size + 1 := by omega
        have hE : (l.map Pn.ty).take (s.size + 1) = l.map Pn.ty := List.take_of_length_le (by rw [List.length_map, HL.out]; omega)
        rw [hE] at hJ
        obtain ⟨g2, cap2, rfl, _⟩ := hJ.form (by omega)
        have R2 := RowS.own hJ (by rw [List.length_map, HL.out])
        have hg2 := own_lt7 hJ
        have HBx := ba HBw.out (hB.mono (by omega))
        have y0 : w.heap.size < wr.heap.size := by omega
        have f0 : ∀ i, wr.frozen? ⟨w.heap.size, i, none⟩ = false := fun i => (hB.frozen (p := ⟨w.heap.size, i, none⟩) (by show w.heap.size < w1.heap.size; omega)).trans (F0.out i)
        have q0 : wr.cell? ⟨w.heap.size, 0, none⟩ = some (.int .i64 0) := (hB.cell (p := ⟨w.heap.size, 0, none⟩) (by show w.heap.size < w1.heap.size; omega)).trans Q0.out
        have q1 : wr.cell? ⟨w.heap.size, 1, none⟩ = some (.int .i64 0) := (hB.cell (p := ⟨w.heap.size, 1, none⟩) (by show w.heap.size < w1.heap.size; omega)).trans Q1.out
        clear hJ hB
        have SP := arSpreadP g2 (s.size + 1) cap2 s0 (l.map Pn.ty) hs0 (by rw [List.length_map, HL.out]) (by omega) HM2.out wr hg2 R2
        rw [HTT.out] at SP
        have SP := Lib.hid SP
        clear R2
        go_wp2_with fail
        refine SP.out.mono ?_
        rintro e w4 ⟨rfl, hb4⟩
        obtain ⟨hc4, hf4⟩ := bcell hb4
        have hz4 := hb4.size
        have hB4 : Below w.heap.size w w4 := ba HBx hb4
        have y1 : w.heap.size < w4.heap.size := by omega
        go_wp2_with fail
        refine bodyPost_ret (by simp [results, Try.results31, go_sem, *]; try rfl) rfl ?_
        exact ⟨rfl, by go_grown⟩

set_option maxRecDepth 100000 in
set_option maxHeartbeats 1600000 in
theorem reachHeightOf (s : ByteArray) (hs : s.size ≤ 1048576) (w : World) :
    Calls Try.prog 75 #[.string s, .func (.func 78) #[] #[]] w fun e w' => e = .returned (.tuple #[.agg #[.int .i64 (spanR Pn.ty s).x, .int .i64 (spanR Pn.ty s).r], .bool (tkB s)]) ∧ Below w.heap.size w w' := by
  obtain ⟨i0, hi, iz0, iz1, iz2⟩ := info_parts suInfo
  cases ht : tkB s
  · rw [span_no ht]
    go_enter Try.func75, Try.ntmps75
    go_wp2_with (go_at_call 103; refine (imJointsOf_no s hs ht _).mono ?_; rintro e w' ⟨rfl, rfl⟩)
    refine bodyPost_ret (by simp [results, Try.results75, go_sem, *]; try rfl) rfl ?_
    exact ⟨rfl, by go_grown⟩
  · have h40 := tkB_size ht
    obtain ⟨s0, hs0, eS, bS⟩ := span_yes (F := Pn.ty) ht (fun p h => h.ty_bd)
    have HL := Lib.hid (jp_len s)
    have HM := Lib.hid (jp_bd ht)
    have HM2 := Lib.hid (map_bd (F := Pn.ty) (jp_bd ht) (fun p h => h.ty_bd))
    rw [eS]
    clear eS
    generalize hlj : jp s = l at *
    have HLJ := Lib.hid hlj
    generalize hT : mxS s0 (l.map Pn.ty) - mnS s0 (l.map Pn.ty) = T at *
    have HTT := Lib.hid hT
    clear hlj hT
    go_enter Try.func75, Try.ntmps75
    go_wp2_with fail
    refine (imJointsOf_yes s ht _).mono ?_
    rintro er w1 ⟨g, cap, he, hO, hb1⟩
    replace he : er = .returned (.tuple #[.slice (some ⟨g, 0, none⟩) (s.size + 1) cap, .bool true]) := he
    subst he
    have hR : RowP w1 g l := by rw [← HLJ.out]; exact rowP_own (n := 0) hO
    have hg := own_lt7 hO
    have hz1 := hb1.size
    have F0 := Lib.hid (show ∀ i, w1.frozen? ⟨w.heap.size, i, none⟩ = false from fun i => by rw [hb1.frozen (p := ⟨w.heap.size, i, none⟩) (by simp)]; go_simp)
    have Q0 := Lib.hid (show w1.cell? ⟨w.heap.size, 0, none⟩ = some (.int .i64 0) by rw [hb1.cell (p := ⟨w.heap.size, 0, none⟩) (by simp)]; go_simp)
    have Q1 := Lib.hid (show w1.cell? ⟨w.heap.size, 1, none⟩ = some (.int .i64 0) by rw [hb1.cell (p := ⟨w.heap.size, 1, none⟩) (by simp)]; go_simp)
    have HBw := Lib.hid (show Below w.heap.size w w1 from ba (by go_grown) hb1)
    have H1 := Lib.hid hR
    have ylt : w.heap.size < w1.heap.size := by (simp at hz1; omega)
    clear hO hR hb1
    go_wp2_with fail
    go_loopw [8, 21] (fun t i wr => ∃ (k : Nat) (v : Value), k ≤ s.size + 1 ∧ i = .int .i64 k ∧ t = v ∧ wr.ownsRow w1.heap.size 34 2 v k (suCs ((l.map Pn.ty).take k)) ∧ Below w1.heap.size w1 wr) (fun _ i _ => s.size + 1 - (intOf i).toNat)
    case atStart => exact ⟨0, _, Nat.zero_le _, rfl, rfl, World.ownsRow_nil _ _ _ _, Below.refl _ _⟩
    case round =>
      obtain ⟨k, v, hk, rfl, rfl, hJ, hB⟩ := hrel
      have hzr := hB.size
      have zg : g < wr.heap.size := by omega
      by_cases hlt : k < s.size + 1
      · obtain ⟨p, hp⟩ : ∃ p, l[k]? = some p := ⟨_, List.getElem?_eq_getElem (by rw [HL.out]; exact hlt)⟩
        obtain ⟨c0, c1, c2, c3⟩ := (H1.out.below hg hB) k p hp
        have hm := HM.out p (List.mem_of_getElem? hp)
        have HT := Lib.hid (show (l.map Pn.ty).take (k + 1) = (l.map Pn.ty).take k ++ [Pn.ty p] by rw [List.take_add_one, List.getElem?_map, hp]; rfl)
        have CX := imYP p (hm.mono (by omega))
        have HJ := Lib.hid hJ
        have HB1 := Lib.hid hB
        have hz1r := hzr
        have j1 : (0 : Int) ≤ (k : Int) := by omega
        have j2 : (k : Int) < (s.size : Int) + 1 := by omega
        have j3 : IntKind.i64.wrap ((k : Int) + 1) = (k : Int) + 1 := IntWalk.i64_in _ ⟨by omega, by omega⟩
        clear hp hm hJ hB
        go_wp2_with fail
        refine (CX _).mono ?_
        rintro e w2 ⟨rfl, hb2⟩
        have HJ2 := Lib.hid (own_below7 (HJ.out.alloc _) hb2)
        have HB2 := Lib.hid ((HB1.out.alloc hzr _).trans (hb2.mono (by simp; omega)))
        have hz2 := hb2.size
        simp at hz2
        clear hb2 c0 c1 c2 c3
        generalize Pn.ty p = q at *
        go_wp2_with (at_builtin; refine wpList_append_own _ rfl _ _ 77 rfl w1.heap.size 34 i0 (.agg #[.int .i64 0, .int .i64 0]) 2 16 Try.underlying77 hi iz0 iz1 iz2 rfl (by decide) _ _ _ rfl (HJ2.out.alloc _) ⟨w2.heap.size, 0, none⟩ 1 1 [.int .i64 q.x, .int .i64 q.r] rfl rfl (newc7 rfl) (by intro u hu; simp at hu; rcases hu with rfl | rfl <;> rfl) (by unfold maxLen; omega) (by omega) (by simp; omega) ?_)
        intro v' w3 hJ3 hg3 _
        have HJA := Lib.hid (HJ2.out.alloc (.cells #[.int .i64 q.x, .int .i64 q.r] 34))
        have HB3 := Lib.hid ((HB2.out.alloc (by omega) (.cells #[.int .i64 q.x, .int .i64 q.r] 34)).grown hg3 (by simp; omega) (fun k hk => (HJA.out.lt k hk).1))
        have HJ3 := Lib.hid hJ3
        clear hJ3 hg3
        go_wp2_with fail
        go_roundw
        case rel => exact ⟨k + 1, v', by omega, by go_num, rfl, by rw [HT.out, suCs_append]; exact HJ3.out, HB3.out⟩
        case measure => simp [intOf]; omega
      · obtain rfl : k = s.size + 1 := by omega
        have hE : (l.map Pn.ty).take (s.size + 1) = l.map Pn.ty := List.take_of_length_le (by rw [List.length_map, HL.out]; omega)
        rw [hE] at hJ
        obtain ⟨g2, cap2, rfl, _⟩ := hJ.form (by omega)
        have R2 := RowS.own hJ (by rw [List.length_map, HL.out])
        have hg2 := own_lt7 hJ
        have HBx := ba HBw.out (hB.mono (by omega))
        have y0 : w.heap.size < wr.heap.size := by omega
        have f0 : ∀ i, wr.frozen? ⟨w.heap.size, i, none⟩ = false := fun i => (hB.frozen (p := ⟨w.heap.size, i, none⟩) (by show w.heap.size < w1.heap.size; omega)).trans (F0.out i)
        have q0 : wr.cell? ⟨w.heap.size, 0, none⟩ = some (.int .i64 0) := (hB.cell (p := ⟨w.heap.size, 0, none⟩) (by show w.heap.size < w1.heap.size; omega)).trans Q0.out
        have q1 : wr.cell? ⟨w.heap.size, 1, none⟩ = some (.int .i64 0) := (hB.cell (p := ⟨w.heap.size, 1, none⟩) (by show w.heap.size < w1.heap.size; omega)).trans Q1.out
        clear hJ hB
        have MX := fun w' (hw : Below wr.heap.size wr w') => maxfuncS g2 (s.size + 1) cap2 s0 (l.map Pn.ty) hs0 (by rw [List.length_map, HL.out]) (by omega) HM2.out w' (Nat.lt_of_lt_of_le hg2 hw.size) (R2.below hg2 hw)
        have MN := fun w' (hw : Below wr.heap.size wr w') => minfuncS g2 (s.size + 1) cap2 s0 (l.map Pn.ty) hs0 (by rw [List.length_map, HL.out]) (by omega) HM2.out w' (Nat.lt_of_lt_of_le hg2 hw.size) (R2.below hg2 hw)
        have SB := surdB_of bS
        have LE := imSuLess7 (mxS s0 (l.map Pn.ty)) (mnS s0 (l.map Pn.ty)) ((mxS_bd (HM2.out _ (List.mem_of_getElem? hs0)) _ HM2.out).mono (by omega)) ((mnS_bd (HM2.out _ (List.mem_of_getElem? hs0)) _ HM2.out).mono (by omega))
        rw [HTT.out] at LE
        have ON := imOnlySurd_any T.x T.r
        rw [SB] at ON
        simp only [show ∀ z, sel true z = z from fun _ => rfl] at ON
        generalize mxS s0 (l.map Pn.ty) = T1 at *
        generalize mnS s0 (l.map Pn.ty) = T2 at *
        have MX := Lib.hid MX
        have MN := Lib.hid MN
        have LE := Lib.hid LE
        have ON := Lib.hid ON
        clear R2 SB
        go_wp2_with fail
        refine (MX.out _ (Below.refl _ _)).mono ?_
        rintro e w4 ⟨rfl, hb4⟩
        have hz4 := hb4.size
        go_wp2_with fail
        refine (MN.out _ hb4).mono ?_
        rintro e w5 ⟨rfl, hb5⟩
        have hz5 := hb5.size
        have hb6 : Below wr.heap.size wr w5 := hb4.trans (hb5.mono hz4)
        obtain ⟨hc6, hf6⟩ := bcell hb6
        have y1 : w.heap.size < w5.heap.size := by omega
        have hB : Below w.heap.size w w5 := ba HBx hb6
        clear hb4 hb5 hb6
        go_wp2_with fail
        (go_at_call 71; (with_reducible refine (LE.out _).mono ?_); rintro e w7 ⟨rfl, h1⟩; (try with_reducible replace h1 := undrew h1); have hB : Below w.heap.size w w7 := ba (by go_grown) h1; obtain ⟨hcw7, hfw7⟩ := bcell h1; have hqw7 := h1.size; (try simp at hqw7); (try have hz0w7 : w.heap.size < w7.heap.size := (by omega)); (try have he0w7 : w.heap.size ≤ w7.heap.size := (by omega)))
        go_wp2_with fail
        (go_at_call 65; (with_reducible refine (ON.out _).mono ?_); rintro e w8 ⟨rfl, h1⟩; (try with_reducible replace h1 := undrew h1); have hB : Below w.heap.size w w8 := ba (by go_grown) h1; obtain ⟨hcw8, hfw8⟩ := bcell h1; have hqw8 := h1.size; (try simp at hqw8); (try have hz0w8 : w.heap.size < w8.heap.size := (by omega)); (try have he0w8 : w.heap.size ≤ w8.heap.size := (by omega)))
        go_wp2_with fail
        refine bodyPost_ret (by simp [results, Try.results75, go_sem, *]; try rfl) rfl ?_
        exact ⟨rfl, by go_grown⟩

set_option maxRecDepth 100000 in
set_option maxHeartbeats 800000 in
theorem imHeightOf (s : ByteArray) (hs : s.size ≤ 1048576) (w : World) :
    Calls Try.prog 32 #[.string s] w fun e w' => e = .returned (.tuple #[.agg #[.int .i64 (spanR Pn.ty s).x, .int .i64 (spanR Pn.ty s).r], .bool (tkB s)]) ∧ Below w.heap.size w w' := by
  have RE := Lib.hid (reachHeightOf s hs)
  go_enter Try.func32, Try.ntmps32
  go_wp2_with (go_at_call 75; (with_reducible refine (RE.out _).mono ?_); rintro e w1 ⟨rfl, h1⟩; (try with_reducible replace h1 := undrew h1); have hB : Below w.heap.size w w1 := ba (by go_grown) h1; obtain ⟨hcw1, hfw1⟩ := bcell h1; have hqw1 := h1.size; (try simp at hqw1); (try have hz0w1 : w.heap.size < w1.heap.size := (by omega)); (try have he0w1 : w.heap.size ≤ w1.heap.size := (by omega)))
  refine bodyPost_ret (by simp [results, Try.results32, go_sem, *]; try rfl) rfl ?_
  exact ⟨rfl, by go_grown⟩

end Go.Proofs.Ytppbbcckijcckaa
