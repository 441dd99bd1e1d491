/- Contracts and facts, put together (part 3). Conditions: each says its own. -/
import Derived.Test.YtoenkgenoloihabQ2
import Derived.Maps.AppendAt
import Derived.Deep.RegionHeld3
import Derived.Deep.QuietTactic
import Derived.BigQuiet

/- Contracts: lists of numbers sorted and searched, in the model. -/
namespace Go.Proofs.Ytoenkgenoloihab
open Go.ChangeShapes Go.WideShapes Go.ChangeAt Go.RowKit

set_option linter.unusedVariables false

theorem nmInfoS : (Try.prog.info? 3).map (fun i => (i.zero, i.size, i.bytes)) = some (some (.int .i64 0), 1, 8) := by kernel_rfl

/-- A slice of numbers that can be read. -/
def IntV (w : World) (v : Value) (xs : List Int) : Prop :=
  ∃ av cap, v = .slice av xs.length cap ∧ xs.length ≤ cap ∧ cap ≤ maxLen ∧ (xs = [] ∨ ∃ g o, av = some ⟨g, o, none⟩ ∧ g < w.heap.size ∧ ∀ j x, xs[j]? = some x → w.cell? ⟨g, o + j, none⟩ = some (.int .i64 x))

theorem IntV.below {w w' : World} {v : Value} {xs : List Int} (h : IntV w v xs) (hb : Below w.heap.size w w') : IntV w' v xs := by
  obtain ⟨av, cap, rfl, h1, h2, h⟩ := h
  refine ⟨av, cap, rfl, h1, h2, h.imp id ?_⟩
  rintro ⟨g, o, rfl, hg, hs⟩
  exact ⟨g, o, rfl, Nat.lt_of_lt_of_le hg hb.size, fun j x hx => by rw [hb.cell (p := ⟨g, o + j, none⟩) hg]; exact hs j x hx⟩

theorem IntV.grown {w w' : World} {v : Value} {xs : List Int} {row : Option Nat} (h : IntV w v xs) (hg : w.grownBy w' row) (hne : ∀ k, v.ownBlock = some k → some k ≠ row) : IntV w' v xs := by
  obtain ⟨av, cap, rfl, h1, h2, h⟩ := h
  refine ⟨av, cap, rfl, h1, h2, h.imp id ?_⟩
  rintro ⟨g, o, rfl, hlt, hs⟩
  exact ⟨g, o, rfl, Nat.lt_of_lt_of_le hlt hg.size, fun j x hx => hg.cell (hs j x hx) (hne g rfl)⟩

theorem iv_own {W : World} {B : Nat} {v : Value} {xs : List Int} (h : W.ownsRow B 3 1 v xs.length (xs.map (Value.int .i64))) : IntV W v xs := by
  have h0 := h
  rcases h.2 with ⟨rfl, h2⟩ | ⟨g, cap, cur, rfl, _, _, hc, hc2, _⟩
  · exact ⟨none, 0, by rw [h2], by omega, by unfold maxLen; omega, .inl (List.eq_nil_of_length_eq_zero h2)⟩
  · refine ⟨_, cap, rfl, hc, hc2, .inr ⟨g, 0, rfl, (h0.lt g rfl).2, fun j x hx => ?_⟩⟩
    have hj : j < xs.length := (List.getElem?_eq_some_iff.1 hx).1
    rw [Nat.zero_add, h0.cellAt j (by omega)]
    simp [hx]

theorem IntV.cons {w : World} {v : Value} {x : Int} {A : List Int} (h : IntV w v (x :: A)) : ∃ g o cap, v = .slice (some ⟨g, o, none⟩) (A.length + 1) cap ∧ A.length + 1 ≤ cap ∧ g < w.heap.size ∧ w.cell? ⟨g, o, none⟩ = some (.int .i64 x) ∧
    (cap = 1 → IntV w (.slice (some ⟨g, o, none⟩) 0 0) A) ∧ (cap ≠ 1 → IntV w (.slice (some ⟨g, o + 1, none⟩) A.length (cap - 1)) A) := by
  obtain ⟨av, cap, rfl, h1, h2, h⟩ := h
  obtain ⟨g, o, rfl, hg, hs⟩ := h.resolve_left (by simp)
  simp only [List.length_cons] at h1
  refine ⟨g, o, cap, rfl, h1, hg, hs 0 x rfl, fun hc => ?_, fun hc => ?_⟩
  · have hA : A = [] := List.eq_nil_of_length_eq_zero (by omega)
    subst hA
    exact ⟨_, 0, rfl, by simp, by unfold maxLen; omega, .inl rfl⟩
  · refine ⟨_, cap - 1, rfl, by omega, by omega, .inr ⟨g, o + 1, rfl, hg, fun j z hz => ?_⟩⟩
    have := hs (j + 1) z (by simpa using hz)
    rwa [show o + (j + 1) = o + 1 + j by omega] at this

def lenV : Value → Nat
  | .slice _ n _ => n
  | _ => 0

/-- What stands while two sorted lists are merged. -/
def MergeF (O A B xs : List Int) : Prop := (O ++ (A ++ B)).Perm xs ∧ A.Pairwise (· ≤ ·) ∧ B.Pairwise (· ≤ ·) ∧ O.Pairwise (· ≤ ·) ∧ ∀ o ∈ O, ∀ x ∈ A ++ B, o ≤ x

theorem MergeF.takeA {O A B xs : List Int} {x : Int} (h : MergeF O (x :: A) B xs) (hB : ∀ z ∈ B, x ≤ z) : MergeF (O ++ [x]) A B xs := by
  obtain ⟨h1, h2, h3, h4, h5⟩ := h
  refine ⟨by simpa using h1, (List.pairwise_cons.1 h2).2, h3, List.pairwise_append.2 ⟨h4, by simp, fun o ho z hz => ?_⟩, fun o ho z hz => ?_⟩
  · simp only [List.mem_singleton] at hz
    subst hz
    exact h5 o ho _ (by simp)
  · rcases List.mem_append.1 ho with ho | ho
    · exact h5 o ho z (by rcases List.mem_append.1 hz with h | h <;> simp [h])
    · simp only [List.mem_singleton] at ho
      subst ho
      rcases List.mem_append.1 hz with h | h
      · exact List.rel_of_pairwise_cons h2 h
      · exact hB z h

theorem MergeF.takeB {O A B xs : List Int} {y : Int} (h : MergeF O A (y :: B) xs) (hA : ∀ z ∈ A, y ≤ z) : MergeF (O ++ [y]) A B xs := by
  obtain ⟨h1, h2, h3, h4, h5⟩ := h
  refine ⟨List.Perm.trans ?_ h1, h2, (List.pairwise_cons.1 h3).2, List.pairwise_append.2 ⟨h4, by simp, fun o ho z hz => ?_⟩, fun o ho z hz => ?_⟩
  · rw [List.append_assoc]
    exact List.Perm.append_left O (show (y :: (A ++ B)).Perm (A ++ y :: B) from List.perm_middle.symm)
  · simp only [List.mem_singleton] at hz
    subst hz
    exact h5 o ho _ (by simp)
  · rcases List.mem_append.1 ho with ho | ho
    · exact h5 o ho z (by rcases List.mem_append.1 hz with h | h <;> simp [h])
    · simp only [List.mem_singleton] at ho
      subst ho
      rcases List.mem_append.1 hz with h | h
      · exact hA z h
      · exact List.rel_of_pairwise_cons h3 h

def SortPost (xs : List Int) (w : World) (e : Ending) (w' : World) : Prop :=
  ∃ v ys, e = .returned v ∧ IntV w' v ys ∧ ys.Perm xs ∧ ys.Pairwise (· ≤ ·) ∧ Below w.heap.size w w'

set_option maxRecDepth 100000 in
set_option maxHeartbeats 25600000 in
theorem clSort_step (xs : List Int) (hb : xs.length ≤ 5000) (h2 : 2 ≤ xs.length) (v : Value)
    (ih : ∀ (zs : List Int) (v : Value) (w : World), zs.length < xs.length → IntV w v zs → Calls Try.prog 58 #[v] w (SortPost zs w)) (w : World) (hv : IntV w v xs) :
    Calls Try.prog 58 #[v] w (SortPost xs w) := by
  obtain ⟨i0, hi, iz0, iz1, iz2⟩ := info_parts nmInfoS
  obtain ⟨av, cap, rfl, hc1, hc2, hr⟩ := hv
  obtain ⟨g, o, rfl, hg, hcell⟩ := hr.resolve_left (fun h => by rw [h] at h2; simp at h2)
  obtain ⟨n, hn⟩ : ∃ n, xs.length = n := ⟨_, rfl⟩
  obtain ⟨m, hm⟩ : ∃ m, n / 2 = m := ⟨_, rfl⟩
  have hb0 := hb
  rw [hn] at hc1 hb h2 hb0 ⊢
  have V1 : IntV w (.slice (some ⟨g, o, none⟩) m cap) (xs.take m) := by
    have hl : (xs.take m).length = m := by rw [List.length_take]; omega
    refine ⟨_, cap, by rw [hl], by omega, hc2, .inr ⟨g, o, rfl, hg, fun j x hx => hcell j x ?_⟩⟩
    have hj : j < (xs.take m).length := (List.getElem?_eq_some_iff.1 hx).1
    rwa [List.getElem?_take_of_lt (by omega)] at hx
  have V2 : IntV w (.slice (some ⟨g, o + m, none⟩) (n - m) (cap - m)) (xs.drop m) := by
    have hl : (xs.drop m).length = n - m := by rw [List.length_drop, hn]
    refine ⟨_, cap - m, by rw [hl], by omega, by omega, .inr ⟨g, o + m, rfl, hg, fun j x hx => ?_⟩⟩
    rw [List.getElem?_drop] at hx
    rw [Nat.add_assoc]
    exact hcell _ x hx
  have I1 := Lib.hid (fun (W : World) (hW : Below w.heap.size w W) => ih (xs.take m) _ W (by rw [List.length_take]; omega) (V1.below hW))
  have I2 := Lib.hid (fun (W : World) (hW : Below w.heap.size w W) => ih (xs.drop m) _ W (by rw [List.length_drop]; omega) (V2.below hW))
  have hq : (n : Int).tdiv 2 = (m : Int) := by rw [Int.tdiv_eq_ediv_of_nonneg (by omega)]; omega
  have i1 : (0 : Int) ≤ (m : Int) := by omega
  have i2 : (m : Int) ≤ (n : Int) := by omega
  have i3 : (m : Int) ≤ (cap : Int) := by omega
  have i4 : (n : Int) ≤ (cap : Int) := by omega
  have hcm : ¬ cap = m := by omega
  have hcz : ¬ cap - m = 0 := by omega
  have hcz' : 0 < cap - m := by omega
  have hnl : ¬ n < 2 := by omega
  have hc0 : ¬ cap = 0 := by omega
  have hm5 : m ≤ 2500 := by omega
  have hwm : IntKind.i64.wrap (m : Int) = (m : Int) := by rw [IntKind.wrap_i64]; omega
  have HXS := Lib.hid (show xs.take m ++ xs.drop m = xs from List.take_append_drop m xs)
  have HL1 : (xs.take m).length = m := by rw [List.length_take]; omega
  have HL2 : (xs.drop m).length = n - m := by rw [List.length_drop, hn]
  generalize hx1 : xs.take m = x1 at *
  generalize hx2 : xs.drop m = x2 at *
  clear hx1 hx2 hr V1 V2 hcell ih hm
  go_enter Try.func58, Try.ntmps58
  go_wp2_with fail
  go_region_held3 (fun _ => True) (trivial)
    ((first | ((with_reducible refine (I1.out _ (by go_grown)).mono ?_); rintro e wA ⟨va, A, rfl, hA, pA, sA, bA⟩; (try with_reducible replace bA := undrew bA); have hbA : Below w.heap.size w wA := bA) | ((with_reducible refine (I2.out _ (by go_grown)).mono ?_); rintro e wB ⟨vb, B, rfl, hB, pB, sB, bB⟩; (try with_reducible replace bB := undrew bB))))
  -- MERGE
  have IA := Lib.hid (hA.below bB)
  have IB := Lib.hid hB
  have HBB := Lib.hid (hbA.trans (bB.mono hbA.size))
  have HP := Lib.hid (show (([] : List Int) ++ (A ++ B)).Perm xs from by rw [List.nil_append, ← HXS.out]; exact pA.append pB)
  have hAl : A.length ≤ 5000 := by rw [pA.length_eq, HL1]; omega
  have hBl : B.length ≤ 5000 := by rw [pB.length_eq, HL2]; omega
  have HXL := Lib.hid hn
  have SA := Lib.hid sA
  have SB := Lib.hid sB
  clear hA hB pA pB sA sB bA hbA bB I1 I2 HXS HL1 HL2
  go_wp2_with fail
  go_loopw [3, 4, 5] (fun p q r wr => ∃ (va vb vo : Value) (O A B : List Int), va = p ∧ vb = q ∧ vo = r ∧ IntV wB va A ∧ IntV wB vb B ∧ wr.ownsRow wB.heap.size 3 1 vo O.length (O.map (Value.int .i64)) ∧ MergeF O A B xs ∧ Below wB.heap.size wB wr) (fun p q _ _ => lenV p + lenV q)
  case atStart => exact ⟨_, _, _, [], A, B, rfl, rfl, rfl, IA.out, IB.out, World.ownsRow_nil _ _ _ _, ⟨HP.out, SA.out, SB.out, List.Pairwise.nil, by simp⟩, Below.refl _ _⟩
  case round =>
    obtain ⟨va, vb, vo, O, A, B, rfl, rfl, rfl, hA, hB, hO, hF, hb⟩ := hrel
    have hz := hb.size
    have IA0 := Lib.hid hA
    have IB0 := Lib.hid hB
    have HO1 := Lib.hid hO
    have HB1 := Lib.hid hb
    have hlen : O.length + (A.length + B.length) ≤ 5000 := by have := hF.1.length_eq; rw [List.length_append, List.length_append] at this; rw [this, HXL.out]; exact hb0
    clear hO hb
    cases A with
    | nil =>
      cases B with
      | nil =>
        obtain ⟨a1, capA, rfl, _⟩ := hA
        obtain ⟨b1, capB, rfl, _⟩ := hB
        have HF := Lib.hid hF
        clear hF IA0 IB0
        go_wp2_with fail
        go_ret
        exact ⟨vo, O, rfl, iv_own HO1.out, by have := HF.out.1; simpa using this, HF.out.2.2.2.1, HBB.out.trans (HB1.out.mono HBB.out.size)⟩
      | cons y B =>
        obtain ⟨a1, capA, rfl, _⟩ := hA
        obtain ⟨gb, ob, capb, rfl, hcb, hgb, cb, tb1, tb2⟩ := hB.cons
        rw [← HB1.out.cell (p := ⟨gb, ob, none⟩) hgb] at cb
        have HFACT := Lib.hid (hF.takeB (fun z hz => by cases hz))
        clear hB hF
        go_wp2_with fail
        go_quiet (fail)
        by_cases hcap : capb = 1
        · subst hcap
          have HT := Lib.hid (tb1 rfl)
          have hW := ((show (wr.drewN nq).ownsRow wB.heap.size 3 1 vo O.length (O.map (Value.int .i64)) from HO1.out).alloc (.cells #[.int .i64 y] 3))
          have HO := Lib.hid hW
          have HLT := Lib.hid hW.lt
          have HBZ := Lib.hid ((HB1.out.trans (below_drawn nq _)).alloc hz (.cells #[.int .i64 y] 3))
          clear hW tb1 tb2
          go_wp2_with (at_builtin; refine wpList_append_own_at _ rfl _ _ 28 rfl wB.heap.size 3 i0 (.int .i64 0) 1 8 Try.underlying28 hi iz0 iz1 iz2 rfl (by decide) vo _ _ rfl HO.out ⟨wr.heap.size, 0, none⟩ 1 1 [.int .i64 y] rfl rfl (cell_one_new _ _ _) (by intro u hu; simp at hu; subst hu; rfl) (by unfold maxLen; omega) (by omega) (by simp; omega) ?_; intro v' w2 hown' hgrow hnil hloc)
          have HB8 := Lib.hid (HBZ.out.grown hgrow (by simp; omega) (fun k hk => (HLT.out k hk).1))
          have HO8 := Lib.hid hown'
          clear hgrow hown' hnil hloc
          go_roundw
          case rel => exact ⟨_, _, _, O ++ [y], [], B, rfl, rfl, rfl, IA0.out, HT.out, by rw [List.length_append, List.map_append]; exact HO8.out, HFACT.out, HB8.out⟩
          case measure => simp [lenV] <;> omega
        · have HT := Lib.hid (tb2 hcap)
          have hW := ((show (wr.drewN nq).ownsRow wB.heap.size 3 1 vo O.length (O.map (Value.int .i64)) from HO1.out).alloc (.cells #[.int .i64 y] 3))
          have HO := Lib.hid hW
          have HLT := Lib.hid hW.lt
          have HBZ := Lib.hid ((HB1.out.trans (below_drawn nq _)).alloc hz (.cells #[.int .i64 y] 3))
          clear hW tb1 tb2
          go_wp2_with (at_builtin; refine wpList_append_own_at _ rfl _ _ 28 rfl wB.heap.size 3 i0 (.int .i64 0) 1 8 Try.underlying28 hi iz0 iz1 iz2 rfl (by decide) vo _ _ rfl HO.out ⟨wr.heap.size, 0, none⟩ 1 1 [.int .i64 y] rfl rfl (cell_one_new _ _ _) (by intro u hu; simp at hu; subst hu; rfl) (by unfold maxLen; omega) (by omega) (by simp; omega) ?_; intro v' w2 hown' hgrow hnil hloc)
          have HB8 := Lib.hid (HBZ.out.grown hgrow (by simp; omega) (fun k hk => (HLT.out k hk).1))
          have HO8 := Lib.hid hown'
          clear hgrow hown' hnil hloc
          go_roundw
          case rel => exact ⟨_, _, _, O ++ [y], [], B, rfl, rfl, rfl, IA0.out, HT.out, by rw [List.length_append, List.map_append]; exact HO8.out, HFACT.out, HB8.out⟩
          case measure => simp [lenV] <;> omega
    | cons x A =>
      cases B with
      | nil =>
        obtain ⟨b1, capB, rfl, _⟩ := hB
        obtain ⟨ga, oa, capa, rfl, hca, hga, ca, ta1, ta2⟩ := hA.cons
        rw [← HB1.out.cell (p := ⟨ga, oa, none⟩) hga] at ca
        have HFACT := Lib.hid (hF.takeA (fun z hz => by cases hz))
        clear hA hF
        go_wp2_with fail
        go_quiet (fail)
        by_cases hcap : capa = 1
        · subst hcap
          have HT := Lib.hid (ta1 rfl)
          have hW := ((show (wr.drewN nq).ownsRow wB.heap.size 3 1 vo O.length (O.map (Value.int .i64)) from HO1.out).alloc (.cells #[.int .i64 x] 3))
          have HO := Lib.hid hW
          have HLT := Lib.hid hW.lt
          have HBZ := Lib.hid ((HB1.out.trans (below_drawn nq _)).alloc hz (.cells #[.int .i64 x] 3))
          clear hW ta1 ta2
          go_wp2_with (at_builtin; refine wpList_append_own_at _ rfl _ _ 28 rfl wB.heap.size 3 i0 (.int .i64 0) 1 8 Try.underlying28 hi iz0 iz1 iz2 rfl (by decide) vo _ _ rfl HO.out ⟨wr.heap.size, 0, none⟩ 1 1 [.int .i64 x] rfl rfl (cell_one_new _ _ _) (by intro u hu; simp at hu; subst hu; rfl) (by unfold maxLen; omega) (by omega) (by simp; omega) ?_; intro v' w2 hown' hgrow hnil hloc)
          have HB8 := Lib.hid (HBZ.out.grown hgrow (by simp; omega) (fun k hk => (HLT.out k hk).1))
          have HO8 := Lib.hid hown'
          clear hgrow hown' hnil hloc
          go_roundw
          case rel => exact ⟨_, _, _, O ++ [x], A, [], rfl, rfl, rfl, HT.out, IB0.out, by rw [List.length_append, List.map_append]; exact HO8.out, HFACT.out, HB8.out⟩
          case measure => simp [lenV] <;> omega
        · have HT := Lib.hid (ta2 hcap)
          have hW := ((show (wr.drewN nq).ownsRow wB.heap.size 3 1 vo O.length (O.map (Value.int .i64)) from HO1.out).alloc (.cells #[.int .i64 x] 3))
          have HO := Lib.hid hW
          have HLT := Lib.hid hW.lt
          have HBZ := Lib.hid ((HB1.out.trans (below_drawn nq _)).alloc hz (.cells #[.int .i64 x] 3))
          clear hW ta1 ta2
          go_wp2_with (at_builtin; refine wpList_append_own_at _ rfl _ _ 28 rfl wB.heap.size 3 i0 (.int .i64 0) 1 8 Try.underlying28 hi iz0 iz1 iz2 rfl (by decide) vo _ _ rfl HO.out ⟨wr.heap.size, 0, none⟩ 1 1 [.int .i64 x] rfl rfl (cell_one_new _ _ _) (by intro u hu; simp at hu; subst hu; rfl) (by unfold maxLen; omega) (by omega) (by simp; omega) ?_; intro v' w2 hown' hgrow hnil hloc)
          have HB8 := Lib.hid (HBZ.out.grown hgrow (by simp; omega) (fun k hk => (HLT.out k hk).1))
          have HO8 := Lib.hid hown'
          clear hgrow hown' hnil hloc
          go_roundw
          case rel => exact ⟨_, _, _, O ++ [x], A, [], rfl, rfl, rfl, HT.out, IB0.out, by rw [List.length_append, List.map_append]; exact HO8.out, HFACT.out, HB8.out⟩
          case measure => simp [lenV] <;> omega
      | cons y B =>
        obtain ⟨ga, oa, capa, rfl, hca, hga, ca, ta1, ta2⟩ := hA.cons
        obtain ⟨gb, ob, capb, rfl, hcb, hgb, cb, tb1, tb2⟩ := hB.cons
        rw [← HB1.out.cell (p := ⟨ga, oa, none⟩) hga] at ca
        rw [← HB1.out.cell (p := ⟨gb, ob, none⟩) hgb] at cb
        by_cases hxy : x ≤ y
        · have HFACT := Lib.hid (hF.takeA (fun z hz => by
            rcases List.mem_cons.1 hz with h | h
            · omega
            · have := List.rel_of_pairwise_cons hF.2.2.1 h; omega))
          clear hA hB hF
          go_wp2_with fail
          go_quiet (fail)
          by_cases hcap : capa = 1
          · subst hcap
            have HT := Lib.hid (ta1 rfl)
            have hW := ((show (wr.drewN nq).ownsRow wB.heap.size 3 1 vo O.length (O.map (Value.int .i64)) from HO1.out).alloc (.cells #[.int .i64 x] 3))
            have HO := Lib.hid hW
            have HLT := Lib.hid hW.lt
            have HBZ := Lib.hid ((HB1.out.trans (below_drawn nq _)).alloc hz (.cells #[.int .i64 x] 3))
            clear hW ta1 ta2 tb1 tb2
            go_wp2_with (at_builtin; refine wpList_append_own_at _ rfl _ _ 28 rfl wB.heap.size 3 i0 (.int .i64 0) 1 8 Try.underlying28 hi iz0 iz1 iz2 rfl (by decide) vo _ _ rfl HO.out ⟨wr.heap.size, 0, none⟩ 1 1 [.int .i64 x] rfl rfl (cell_one_new _ _ _) (by intro u hu; simp at hu; subst hu; rfl) (by unfold maxLen; omega) (by omega) (by simp; omega) ?_; intro v' w2 hown' hgrow hnil hloc)
            have HB8 := Lib.hid (HBZ.out.grown hgrow (by simp; omega) (fun k hk => (HLT.out k hk).1))
            have HO8 := Lib.hid hown'
            clear hgrow hown' hnil hloc
            go_roundw
            case rel => exact ⟨_, _, _, O ++ [x], A, y :: B, rfl, rfl, rfl, HT.out, IB0.out, by rw [List.length_append, List.map_append]; exact HO8.out, HFACT.out, HB8.out⟩
            case measure => simp [lenV] <;> omega
          · have HT := Lib.hid (ta2 hcap)
            have hW := ((show (wr.drewN nq).ownsRow wB.heap.size 3 1 vo O.length (O.map (Value.int .i64)) from HO1.out).alloc (.cells #[.int .i64 x] 3))
            have HO := Lib.hid hW
            have HLT := Lib.hid hW.lt
            have HBZ := Lib.hid ((HB1.out.trans (below_drawn nq _)).alloc hz (.cells #[.int .i64 x] 3))
            clear hW ta1 ta2 tb1 tb2
            go_wp2_with (at_builtin; refine wpList_append_own_at _ rfl _ _ 28 rfl wB.heap.size 3 i0 (.int .i64 0) 1 8 Try.underlying28 hi iz0 iz1 iz2 rfl (by decide) vo _ _ rfl HO.out ⟨wr.heap.size, 0, none⟩ 1 1 [.int .i64 x] rfl rfl (cell_one_new _ _ _) (by intro u hu; simp at hu; subst hu; rfl) (by unfold maxLen; omega) (by omega) (by simp; omega) ?_; intro v' w2 hown' hgrow hnil hloc)
            have HB8 := Lib.hid (HBZ.out.grown hgrow (by simp; omega) (fun k hk => (HLT.out k hk).1))
            have HO8 := Lib.hid hown'
            clear hgrow hown' hnil hloc
            go_roundw
            case rel => exact ⟨_, _, _, O ++ [x], A, y :: B, rfl, rfl, rfl, HT.out, IB0.out, by rw [List.length_append, List.map_append]; exact HO8.out, HFACT.out, HB8.out⟩
            case measure => simp [lenV] <;> omega
        · have HB0 := Lib.hid (show (((B.length : Nat) : Int) + 1 == 0) = false from beq_eq_false_iff_ne.2 (by omega))
          have HXY := Lib.hid (show decide (x ≤ y) = false from decide_eq_false hxy)
          have HFACT := Lib.hid (hF.takeB (fun z hz => by
            rcases List.mem_cons.1 hz with h | h
            · omega
            · have := List.rel_of_pairwise_cons hF.2.1 h; omega))
          clear hA hB hF
          go_wp2_with fail
          go_quiet (fail)
          simp only [HXY.out, HB0.out, Bool.or_false]
          by_cases hcap : capb = 1
          · subst hcap
            have HT := Lib.hid (tb1 rfl)
            have hW := ((show (wr.drewN nq).ownsRow wB.heap.size 3 1 vo O.length (O.map (Value.int .i64)) from HO1.out).alloc (.cells #[.int .i64 y] 3))
            have HO := Lib.hid hW
            have HLT := Lib.hid hW.lt
            have HBZ := Lib.hid ((HB1.out.trans (below_drawn nq _)).alloc hz (.cells #[.int .i64 y] 3))
            clear hW ta1 ta2 tb1 tb2
            go_wp2_with (at_builtin; refine wpList_append_own_at _ rfl _ _ 28 rfl wB.heap.size 3 i0 (.int .i64 0) 1 8 Try.underlying28 hi iz0 iz1 iz2 rfl (by decide) vo _ _ rfl HO.out ⟨wr.heap.size, 0, none⟩ 1 1 [.int .i64 y] rfl rfl (cell_one_new _ _ _) (by intro u hu; simp at hu; subst hu; rfl) (by unfold maxLen; omega) (by omega) (by simp; omega) ?_; intro v' w2 hown' hgrow hnil hloc)
            have HB8 := Lib.hid (HBZ.out.grown hgrow (by simp; omega) (fun k hk => (HLT.out k hk).1))
            have HO8 := Lib.hid hown'
            clear hgrow hown' hnil hloc
            go_roundw
            case rel => exact ⟨_, _, _, O ++ [y], x :: A, B, rfl, rfl, rfl, IA0.out, HT.out, by rw [List.length_append, List.map_append]; exact HO8.out, HFACT.out, HB8.out⟩
            case measure => simp [lenV] <;> omega
          · have HT := Lib.hid (tb2 hcap)
            have hW := ((show (wr.drewN nq).ownsRow wB.heap.size 3 1 vo O.length (O.map (Value.int .i64)) from HO1.out).alloc (.cells #[.int .i64 y] 3))
            have HO := Lib.hid hW
            have HLT := Lib.hid hW.lt
            have HBZ := Lib.hid ((HB1.out.trans (below_drawn nq _)).alloc hz (.cells #[.int .i64 y] 3))
            clear hW ta1 ta2 tb1 tb2
            go_wp2_with (at_builtin; refine wpList_append_own_at _ rfl _ _ 28 rfl wB.heap.size 3 i0 (.int .i64 0) 1 8 Try.underlying28 hi iz0 iz1 iz2 rfl (by decide) vo _ _ rfl HO.out ⟨wr.heap.size, 0, none⟩ 1 1 [.int .i64 y] rfl rfl (cell_one_new _ _ _) (by intro u hu; simp at hu; subst hu; rfl) (by unfold maxLen; omega) (by omega) (by simp; omega) ?_; intro v' w2 hown' hgrow hnil hloc)
            have HB8 := Lib.hid (HBZ.out.grown hgrow (by simp; omega) (fun k hk => (HLT.out k hk).1))
            have HO8 := Lib.hid hown'
            clear hgrow hown' hnil hloc
            go_roundw
            case rel => exact ⟨_, _, _, O ++ [y], x :: A, B, rfl, rfl, rfl, IA0.out, HT.out, by rw [List.length_append, List.map_append]; exact HO8.out, HFACT.out, HB8.out⟩
            case measure => simp [lenV] <;> omega
-- ENDMERGE

end Go.Proofs.Ytoenkgenoloihab
