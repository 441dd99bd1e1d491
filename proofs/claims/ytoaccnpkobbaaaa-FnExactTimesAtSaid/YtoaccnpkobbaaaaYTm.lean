/- Contracts: the numbers of steps behind which a train is at an end, in the model and in the program. -/
import Derived.Test.YtoaccnpkobbaaaaYEi
namespace Go.Proofs.Ytoaccnpkobbaaaa
open Go.ChangeShapes Go.WideShapes Go.ChangeAt Go.RowKit
open Yd

set_option linter.unusedVariables false

/-- The places, below k, at which e stands. -/
def tmL (e : Int) (L : List Int) (k : Nat) : List Int := ((List.range k).filter fun i => decide (L.getD i 0 = e)).map fun (i : Nat) => (i : Int)

theorem tmL_yes {e : Int} {L : List Int} {k : Nat} (h : L[k]? = some e) : tmL e L (k + 1) = tmL e L k ++ [(k : Int)] := by
  simp [tmL, List.range_succ, h]

theorem tmL_no {e x : Int} {L : List Int} {k : Nat} (h : L[k]? = some x) (hx : ¬ x = e) : tmL e L (k + 1) = tmL e L k := by
  simp [tmL, List.range_succ, h, hx]

theorem tmL_le (e : Int) (L : List Int) (k : Nat) : (tmL e L k).length ≤ k := by
  rw [tmL, List.length_map]
  exact Nat.le_trans (List.length_filter_le _ _) (by simp)

/-- Perhaps none. -/
def TmPost (xs : List Int) (w' : World) (e : Ending) (w'' : World) : Prop :=
  (xs = [] ∧ e = .returned (.tuple #[.slice none 0 0, .bool true]) ∧ Below w'.heap.size w' w'') ∨ (xs ≠ [] ∧ LsPost xs.length xs true w' e w'')

theorem spTimes_no (x N E : Int) (g c h d p q n m l : Nat) (ks rs ss : List Int) (hn : ks.length = n) (hm : rs.length = m) (hl : ss.length = l) (hb : n ≤ 2000000) (hb' : m ≤ 2000000) (hb2 : l ≤ 2000000) (hno : (rnB ks rs x ss && inB N 0 200 && inB E 0 ((m : Int) - 1)) = false) (w : World) (h1 : RL w g n ks) (h2 : RL w h m rs) (h3 : RL w p l ss) :
    Calls Try.prog 42 #[.agg #[.slice (some ⟨g, 0, none⟩) n c, .slice (some ⟨h, 0, none⟩) m d], .agg #[.int .i64 x, .slice (some ⟨p, 0, none⟩) l q], .int .i64 E, .int .i64 N] w fun e w' => e = .returned (.tuple #[.slice none 0 0, .bool false]) ∧ Below w.heap.size w w' := by
  have hb9 := hb'
  cases hr : (rnB ks rs x ss && inB N 0 200)
  · have R := Lib.hid (fun w' (hw : Below w.heap.size w w') => spEnds_no x N g c h d p q n m l ks rs ss hn hm hl hb hb' hb2 hr w' (h1.keep hw) (h2.keep hw) (h3.keep hw))
    clear hn hm hl h1 h2 h3 hno hr
    go_enter Try.func42, Try.ntmps42
    go_wp2_with fail
    refine (R.out _ (by go_grown)).mono ?_
    rintro e w1 ⟨rfl, k1⟩
    have hB : Below w.heap.size w w1 := ba (by go_grown) k1
    clear k1
    go_wp2_with fail
    go_ret2
    exact ⟨rfl, hB⟩
  · rw [hr, Bool.true_and] at hno
    rw [Bool.and_eq_true] at hr
    obtain ⟨hg, a, rfl, ho⟩ := (run_iff ks rs x ss).1 hr.1
    have hi := hr.2
    simp [inB] at hi
    obtain ⟨M, rfl⟩ : ∃ M : Nat, N = (M : Int) := ⟨N.toNat, by omega⟩
    have R := Lib.hid (fun w' (hw : Below w.heap.size w w') => spEnds_yes a M g c h d p q n m l ks rs ss hn hm hl hg ho (by omega) w' (h1.keep hw) (h2.keep hw) (h3.keep hw))
    have j0 : (0 : Int) ≤ (m : Int) := by omega
    clear hn hm hl h1 h2 h3 hr hi hg ho
    go_enter Try.func42, Try.ntmps42
    go_wp2_with fail
    refine (R.out _ (by go_grown)).mono ?_
    rintro e w1 ⟨gE, cE, rfl, _, _, k1⟩
    have hB : Below w.heap.size w w1 := ba (by go_grown) k1
    have hs1 := k1.size
    simp at hs1
    have z0 : w.heap.size < w1.heap.size := by omega
    have c0 := cl_below (b := w.heap.size) (o := 0) (v := .slice (some ⟨g, 0, none⟩) n c) (by simp [go_sem]) (by simp <;> omega) k1
    have c1 := cl_below (b := w.heap.size) (o := 1) (v := .slice (some ⟨h, 0, none⟩) m d) (by simp [go_sem]) (by simp <;> omega) k1
    clear k1
    go_wp2_with (go_at_call 72; refine (l1In_any _ _ _ _).mono ?_; rintro e w' ⟨rfl, rfl⟩)
    go_ret2
    exact ⟨rfl, hB⟩

set_option maxRecDepth 100000 in
set_option maxHeartbeats 3200000 in
theorem spTimes_ok (E : Int) (a N : Nat) (g c h d p u n m l : Nat) (ks rs ss : List Int) (hn : ks.length = n) (hm : rs.length = m) (hl : ss.length = l) (hg : YdOk ks rs) (ho : RnOk ks a ss) (hN : N ≤ 200) (hE : inB E 0 ((m : Int) - 1) = true) (w : World) (h1 : RL w g n ks) (h2 : RL w h m rs) (h3 : RL w p l ss) :
    Calls Try.prog 42 #[.agg #[.slice (some ⟨g, 0, none⟩) n c, .slice (some ⟨h, 0, none⟩) m d], .agg #[.int .i64 (a:Nat), .slice (some ⟨p, 0, none⟩) l u], .int .i64 E, .int .i64 (N : Nat)] w (TmPost (tmL E (enL ks rs a ss (N + 1)) (N + 1)) w) := by
  obtain ⟨i0, hi, iz0, iz1, iz2⟩ := info_of numInfo
  have hb9 : m ≤ 2000000 := by have := hg.nr; have := hg.n6; omega
  have R := Lib.hid (fun w' (hw : Below w.heap.size w w') => spEnds_yes a N g c h d p u n m l ks rs ss hn hm hl hg ho hN w' (h1.keep hw) (h2.keep hw) (h3.keep hw))
  have LN := Lib.hid (enL_len ks rs a ss (N + 1))
  have j0 : (0 : Int) ≤ (m : Int) := by omega
  generalize enL ks rs a ss (N + 1) = L at *
  obtain ⟨M, hM⟩ : ∃ M, M = N + 1 := ⟨_, rfl⟩
  rw [← hM] at R LN ⊢
  have hM2 : M ≤ 201 := by omega
  clear hn hm hl h1 h2 h3 hg ho hM
  go_enter Try.func42, Try.ntmps42
  go_wp2_with fail
  refine (R.out _ (by go_grown)).mono ?_
  rintro e w1 ⟨gE, cE, rfl, hgE, rE, k1⟩
  have B1 : Below w.heap.size w w1 := ba (by go_grown) k1
  have hs1 := k1.size
  simp at hs1
  have z0 : w.heap.size < w1.heap.size := by omega
  have c0 := cl_below (b := w.heap.size) (o := 0) (v := .slice (some ⟨g, 0, none⟩) n c) (by simp [go_sem]) (by simp <;> omega) k1
  have c1 := cl_below (b := w.heap.size) (o := 1) (v := .slice (some ⟨h, 0, none⟩) m d) (by simp [go_sem]) (by simp <;> omega) k1
  have RE := Lib.hid rE
  have hlE := rE.lt
  clear k1 rE hgE
  go_wp2_with (go_at_call 72; refine (l1In_any _ _ _ _).mono ?_; rintro e w' ⟨rfl, rfl⟩)
  have RE2 := RE
  have B2 := B1
  obtain ⟨w2, hw2⟩ : ∃ w2, w2 = w1 := ⟨_, rfl⟩
  have hq2 : w1.heap.size ≤ w2.heap.size := by rw [hw2]; exact Nat.le_refl _
  rw [← hw2] at RE2 B2 ⊢
  go_loopw [12, 35] (fun t i wr => ∃ (k : Nat) (v : Value), k ≤ M ∧ i = .int .i64 k ∧ v = t ∧ wr.ownsRow w2.heap.size 3 1 v (tmL E L k).length ((tmL E L k).map (Value.int .i64)) ∧ (tmL E L k = [] → v = .slice none 0 0) ∧ RL wr gE M L ∧ w2.heap.size ≤ wr.heap.size ∧ Below w.heap.size w wr) (fun _ i _ => M - (intOf i).toNat)
  case atStart => exact ⟨0, _, Nat.zero_le _, rfl, rfl, World.ownsRow_nil _ _ _ _, fun _ => rfl, RE2.out, Nat.le_refl _, B2⟩
  case round =>
    obtain ⟨k, v, hk, rfl, rfl, hV, hnv, hR, hsz, hB⟩ := hrel
    have HV := Lib.hid hV
    have HR := Lib.hid hR
    have HB := Lib.hid hB
    have HNV := Lib.hid hnv
    by_cases hlt : k < M
    · obtain ⟨x, hx⟩ : ∃ x, L[k]? = some x := ⟨_, List.getElem?_eq_getElem (by rw [LN.out]; exact hlt)⟩
      have c2 := hR.get hlt hx
      have j1 : (0 : Int) ≤ (k : Int) := by omega
      have j2 : (k : Int) < (M : Int) := by omega
      have hwp : IntKind.i64.wrap ((k : Int) + 1) = (k : Int) + 1 := by rw [IntKind.wrap_i64]; omega
      by_cases he : x = E
      · subst he
        have TY := Lib.hid (tmL_yes hx)
        have hle := tmL_le x L k
        have HV2 := Lib.hid (hV.alloc (.cells #[.int .i64 (k : Int)] 3))
        have hj := hV.lt
        clear hV hnv hR hB hx
        generalize tmL x L k = T at *
        go_wp2_with (at_builtin; refine wpList_append_own_at _ rfl _ _ 22 rfl w2.heap.size 3 i0 (.int .i64 0) 1 8 Try.underlying22 hi iz0 iz1 iz2 rfl (by decide) v _ _ rfl HV2.out ⟨wr.heap.size, 0, none⟩ 1 1 [.int .i64 (k : Int)] rfl rfl (cell_one_new _ _ _) (by intro u hu; simp at hu; subst hu; rfl) (by unfold maxLen; omega) (by omega) (by simp; omega) ?_; intro v' w4 hown' hgrow hnil hloc)
        have HR4 := Lib.hid ((HR.out.keep ((Below.refl _ _).alloc (Nat.le_refl _) (.cells #[.int .i64 (k : Int)] 3))).of_block hgrow.size (hgrow.block gE (by simp; have := HR.out.lt; omega) (fun e => by have := (hj gE e.symm).1; omega)))
        have HB4 := Lib.hid ((HB.out.alloc HB.out.size (.cells #[.int .i64 (k : Int)] 3)).grown hgrow (by simp; have := HB.out.size; omega) (fun j hjv => by have := (hj j hjv).1; have := B2.size; omega))
        have HW := Lib.hid hown'
        have hs4 := hgrow.size
        simp at hs4
        clear hown' hgrow hnil hloc hj c2
        go_wp2_with fail
        go_roundw
        case rel => exact ⟨k + 1, v', by omega, by go_num, rfl, by rw [TY.out, List.length_append, List.map_append]; exact HW.out, fun e => by rw [TY.out] at e; simp at e, HR4.out, by omega, HB4.out⟩
        case measure => simp [intOf]; omega
      · have TN := Lib.hid (tmL_no hx he)
        have he2 : (x == E) = false := by simpa using he
        clear hV hnv hR hB hx
        go_wp2_with fail
        go_roundw
        case rel => exact ⟨k + 1, v, by omega, by go_num, rfl, by rw [TN.out]; exact HV.out, fun e => by rw [TN.out] at e; exact HNV.out e, HR.out, by omega, HB.out⟩
        case measure => simp [intOf]; omega
    · obtain rfl : k = M := by omega
      by_cases hT : tmL E L k = []
      · obtain rfl := hnv hT
        have HT := Lib.hid hT
        clear hV hnv hR hB hT
        go_wp2_with fail
        go_ret2
        exact Or.inl ⟨HT.out, rfl, HB.out⟩
      · have hlen : 0 < (tmL E L k).length := List.length_pos_iff.2 hT
        obtain ⟨g1, cc, rfl, hg1, hR1⟩ := own_RL hV rfl (fun e => by
          rcases hV.2 with ⟨_, h0⟩ | ⟨g'', cap'', cur, e2, _⟩
          · omega
          · rw [e] at e2; cases e2)
        have HT := Lib.hid hT
        have HRL := Lib.hid hR1
        clear hV hnv hR hB hR1 hT
        go_wp2_with fail
        go_ret2
        exact Or.inr ⟨HT.out, g1, cc, rfl, by have := B2.size; omega, HRL.out, HB.out⟩

theorem imTimes_no (x N E : Int) (g c h d p q n m l : Nat) (ks rs ss : List Int) (hn : ks.length = n) (hm : rs.length = m) (hl : ss.length = l) (hb : n ≤ 2000000) (hb' : m ≤ 2000000) (hb2 : l ≤ 2000000) (hno : (rnB ks rs x ss && inB N 0 200 && inB E 0 ((m : Int) - 1)) = false) (w : World) (h1 : RL w g n ks) (h2 : RL w h m rs) (h3 : RL w p l ss) :
    Calls Try.prog 43 #[.agg #[.slice (some ⟨g, 0, none⟩) n c, .slice (some ⟨h, 0, none⟩) m d], .agg #[.int .i64 x, .slice (some ⟨p, 0, none⟩) l q], .int .i64 E, .int .i64 N] w fun e w' => e = .returned (.tuple #[.slice none 0 0, .bool false]) ∧ Below w.heap.size w w' := by
  have hb9 := hb'
  cases hr : (rnB ks rs x ss && inB N 0 200)
  · have R := Lib.hid (fun w' (hw : Below w.heap.size w w') => imEnds_no x N g c h d p q n m l ks rs ss hn hm hl hb hb' hb2 hr w' (h1.keep hw) (h2.keep hw) (h3.keep hw))
    clear hn hm hl h1 h2 h3 hno hr
    go_enter Try.func43, Try.ntmps43
    go_wp2_with fail
    refine (R.out _ (by go_grown)).mono ?_
    rintro e w1 ⟨rfl, k1⟩
    have hB : Below w.heap.size w w1 := ba (by go_grown) k1
    clear k1
    go_wp2_with fail
    go_ret2
    exact ⟨rfl, hB⟩
  · rw [hr, Bool.true_and] at hno
    rw [Bool.and_eq_true] at hr
    obtain ⟨hg, a, rfl, ho⟩ := (run_iff ks rs x ss).1 hr.1
    have hi := hr.2
    simp [inB] at hi
    obtain ⟨M, rfl⟩ : ∃ M : Nat, N = (M : Int) := ⟨N.toNat, by omega⟩
    have R := Lib.hid (fun w' (hw : Below w.heap.size w w') => imEnds_yes a M g c h d p q n m l ks rs ss hn hm hl hg ho (by omega) w' (h1.keep hw) (h2.keep hw) (h3.keep hw))
    have j0 : (0 : Int) ≤ (m : Int) := by omega
    clear hn hm hl h1 h2 h3 hr hi hg ho
    go_enter Try.func43, Try.ntmps43
    go_wp2_with fail
    refine (R.out _ (by go_grown)).mono ?_
    rintro e w1 ⟨gE, cE, rfl, _, _, k1⟩
    have hB : Below w.heap.size w w1 := ba (by go_grown) k1
    have hs1 := k1.size
    simp at hs1
    have z0 : w.heap.size < w1.heap.size := by omega
    have c0 := cl_below (b := w.heap.size) (o := 0) (v := .slice (some ⟨g, 0, none⟩) n c) (by simp [go_sem]) (by simp <;> omega) k1
    have c1 := cl_below (b := w.heap.size) (o := 1) (v := .slice (some ⟨h, 0, none⟩) m d) (by simp [go_sem]) (by simp <;> omega) k1
    clear k1
    go_wp2_with (go_at_call 63; refine (hasEnd_any _ h m d hb9 E _).mono ?_; rintro e w2 ⟨rfl, k2⟩)
    go_ret2
    exact ⟨rfl, hB.trans (k2.mono hB.size)⟩

set_option maxRecDepth 100000 in
set_option maxHeartbeats 3200000 in
theorem imTimes_ok (E : Int) (a N : Nat) (g c h d p u n m l : Nat) (ks rs ss : List Int) (hn : ks.length = n) (hm : rs.length = m) (hl : ss.length = l) (hg : YdOk ks rs) (ho : RnOk ks a ss) (hN : N ≤ 200) (hE : inB E 0 ((m : Int) - 1) = true) (w : World) (h1 : RL w g n ks) (h2 : RL w h m rs) (h3 : RL w p l ss) :
    Calls Try.prog 43 #[.agg #[.slice (some ⟨g, 0, none⟩) n c, .slice (some ⟨h, 0, none⟩) m d], .agg #[.int .i64 (a:Nat), .slice (some ⟨p, 0, none⟩) l u], .int .i64 E, .int .i64 (N : Nat)] w (TmPost (tmL E (enL ks rs a ss (N + 1)) (N + 1)) w) := by
  obtain ⟨i0, hi, iz0, iz1, iz2⟩ := info_of numInfo
  have hb9 : m ≤ 2000000 := by have := hg.nr; have := hg.n6; omega
  have R := Lib.hid (fun w' (hw : Below w.heap.size w w') => imEnds_yes a N g c h d p u n m l ks rs ss hn hm hl hg ho hN w' (h1.keep hw) (h2.keep hw) (h3.keep hw))
  have LN := Lib.hid (enL_len ks rs a ss (N + 1))
  have j0 : (0 : Int) ≤ (m : Int) := by omega
  generalize enL ks rs a ss (N + 1) = L at *
  obtain ⟨M, hM⟩ : ∃ M, M = N + 1 := ⟨_, rfl⟩
  rw [← hM] at R LN ⊢
  have hM2 : M ≤ 201 := by omega
  clear hn hm hl h1 h2 h3 hg ho hM
  go_enter Try.func43, Try.ntmps43
  go_wp2_with fail
  refine (R.out _ (by go_grown)).mono ?_
  rintro e w1 ⟨gE, cE, rfl, hgE, rE, k1⟩
  have B1 : Below w.heap.size w w1 := ba (by go_grown) k1
  have hs1 := k1.size
  simp at hs1
  have z0 : w.heap.size < w1.heap.size := by omega
  have c0 := cl_below (b := w.heap.size) (o := 0) (v := .slice (some ⟨g, 0, none⟩) n c) (by simp [go_sem]) (by simp <;> omega) k1
  have c1 := cl_below (b := w.heap.size) (o := 1) (v := .slice (some ⟨h, 0, none⟩) m d) (by simp [go_sem]) (by simp <;> omega) k1
  have RE := Lib.hid rE
  have hlE := rE.lt
  clear k1 rE hgE
  go_wp2_with fail
  refine (hasEnd_any _ h m d hb9 E _).mono ?_
  rintro e w2 ⟨rfl, k2⟩
  have RE2 := Lib.hid (RE.out.keep k2)
  have B2 := B1.trans (k2.mono B1.size)
  have hq2 := k2.size
  clear k2
  go_wp2_with fail
  go_loopw [12, 32] (fun t i wr => ∃ (k : Nat) (v : Value), k ≤ M ∧ i = .int .i64 k ∧ v = t ∧ wr.ownsRow w2.heap.size 3 1 v (tmL E L k).length ((tmL E L k).map (Value.int .i64)) ∧ (tmL E L k = [] → v = .slice none 0 0) ∧ RL wr gE M L ∧ w2.heap.size ≤ wr.heap.size ∧ Below w.heap.size w wr) (fun _ i _ => M - (intOf i).toNat)
  case atStart => exact ⟨0, _, Nat.zero_le _, rfl, rfl, World.ownsRow_nil _ _ _ _, fun _ => rfl, RE2.out, Nat.le_refl _, B2⟩
  case round =>
    obtain ⟨k, v, hk, rfl, rfl, hV, hnv, hR, hsz, hB⟩ := hrel
    have HV := Lib.hid hV
    have HR := Lib.hid hR
    have HB := Lib.hid hB
    have HNV := Lib.hid hnv
    by_cases hlt : k < M
    · obtain ⟨x, hx⟩ : ∃ x, L[k]? = some x := ⟨_, List.getElem?_eq_getElem (by rw [LN.out]; exact hlt)⟩
      have c2 := hR.get hlt hx
      have j1 : (0 : Int) ≤ (k : Int) := by omega
      have j2 : (k : Int) < (M : Int) := by omega
      have hwp : IntKind.i64.wrap ((k : Int) + 1) = (k : Int) + 1 := by rw [IntKind.wrap_i64]; omega
      by_cases he : x = E
      · subst he
        have TY := Lib.hid (tmL_yes hx)
        have hle := tmL_le x L k
        have HV2 := Lib.hid (hV.alloc (.cells #[.int .i64 (k : Int)] 3))
        have hj := hV.lt
        clear hV hnv hR hB hx
        generalize tmL x L k = T at *
        go_wp2_with (at_builtin; refine wpList_append_own_at _ rfl _ _ 22 rfl w2.heap.size 3 i0 (.int .i64 0) 1 8 Try.underlying22 hi iz0 iz1 iz2 rfl (by decide) v _ _ rfl HV2.out ⟨wr.heap.size, 0, none⟩ 1 1 [.int .i64 (k : Int)] rfl rfl (cell_one_new _ _ _) (by intro u hu; simp at hu; subst hu; rfl) (by unfold maxLen; omega) (by omega) (by simp; omega) ?_; intro v' w4 hown' hgrow hnil hloc)
        have HR4 := Lib.hid ((HR.out.keep ((Below.refl _ _).alloc (Nat.le_refl _) (.cells #[.int .i64 (k : Int)] 3))).of_block hgrow.size (hgrow.block gE (by simp; have := HR.out.lt; omega) (fun e => by have := (hj gE e.symm).1; omega)))
        have HB4 := Lib.hid ((HB.out.alloc HB.out.size (.cells #[.int .i64 (k : Int)] 3)).grown hgrow (by simp; have := HB.out.size; omega) (fun j hjv => by have := (hj j hjv).1; have := B2.size; omega))
        have HW := Lib.hid hown'
        have hs4 := hgrow.size
        simp at hs4
        clear hown' hgrow hnil hloc hj c2
        go_wp2_with fail
        go_roundw
        case rel => exact ⟨k + 1, v', by omega, by go_num, rfl, by rw [TY.out, List.length_append, List.map_append]; exact HW.out, fun e => by rw [TY.out] at e; simp at e, HR4.out, by omega, HB4.out⟩
        case measure => simp [intOf]; omega
      · have TN := Lib.hid (tmL_no hx he)
        have he2 : (x == E) = false := by simpa using he
        clear hV hnv hR hB hx
        go_wp2_with fail
        go_roundw
        case rel => exact ⟨k + 1, v, by omega, by go_num, rfl, by rw [TN.out]; exact HV.out, fun e => by rw [TN.out] at e; exact HNV.out e, HR.out, by omega, HB.out⟩
        case measure => simp [intOf]; omega
    · obtain rfl : k = M := by omega
      by_cases hT : tmL E L k = []
      · obtain rfl := hnv hT
        have HT := Lib.hid hT
        clear hV hnv hR hB hT
        go_wp2_with fail
        go_ret2
        exact Or.inl ⟨HT.out, rfl, HB.out⟩
      · have hlen : 0 < (tmL E L k).length := List.length_pos_iff.2 hT
        obtain ⟨g1, cc, rfl, hg1, hR1⟩ := own_RL hV rfl (fun e => by
          rcases hV.2 with ⟨_, h0⟩ | ⟨g'', cap'', cur, e2, _⟩
          · omega
          · rw [e] at e2; cases e2)
        have HT := Lib.hid hT
        have HRL := Lib.hid hR1
        clear hV hnv hR hB hR1 hT
        go_wp2_with fail
        go_ret2
        exact Or.inr ⟨HT.out, g1, cc, rfl, by have := B2.size; omega, HRL.out, HB.out⟩

end Go.Proofs.Ytoaccnpkobbaaaa
