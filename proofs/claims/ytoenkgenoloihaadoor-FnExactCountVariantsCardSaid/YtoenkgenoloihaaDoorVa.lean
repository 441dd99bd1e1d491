/- Contracts of the program: the variants of a ring, and the first of them. -/
import Derived.Test.YtoenkgenoloihaaDoorCp
import Derived.Test.YtoenkgenoloihaaDoorLo
import Derived.Test.YtoenkgenoloihaaDoorRl
import Derived.Maps.AppendAt
namespace Go.Proofs.YtoenkgenoloihaaDoor
open Go.ChangeShapes Go.WideShapes Go.ChangeAt Go.RowKit Go.Lib

set_option linter.unusedVariables false
set_option linter.unusedSimpArgs false

/-- The spun ones of the ring and of its first j changes. -/
def vsL (l : List UInt8) (j : Nat) : List (List UInt8) := ((four l).take (j + 1)).flatMap rot1

theorem vsL_zero (l : List UInt8) : vsL l 0 = rot1 l := by simp [vsL, four]

theorem vsL_next {l x : List UInt8} {j : Nat} (h : (four l)[j + 1]? = some x) : vsL l (j + 1) = vsL l j ++ rot1 x := by
  rw [vsL, List.take_add_one, h]
  simp [vsL, List.flatMap_append]

theorem vsL_len (l : List UInt8) : ∀ j, j ≤ 3 → (vsL l j).length = (j + 1) * l.length
  | 0, _ => by rw [vsL_zero, rot1_len]; omega
  | j + 1, h => by
    obtain ⟨x, hx⟩ : ∃ x, (four l)[j + 1]? = some x := ⟨_, List.getElem?_eq_getElem (by simp [four]; omega)⟩
    rw [vsL_next hx, List.length_append, rot1_len, vsL_len l j (by omega), four_len (List.mem_of_getElem? hx), Nat.succ_mul (j + 1)]

theorem vsL_mem {l a : List UInt8} (h0 : 0 < l.length) : a ∈ vsL l 3 ↔ ∃ x ∈ four l, orb x a := by
  have ht : (four l).take 4 = four l := rfl
  rw [vsL, show 3 + 1 = 4 from rfl, ht, List.mem_flatMap]
  constructor
  · rintro ⟨x, hx, h⟩; exact ⟨x, hx, (rot1_mem (by rw [four_len hx]; exact h0)).1 h⟩
  · rintro ⟨x, hx, h⟩; exact ⟨x, hx, (rot1_mem (by rw [four_len hx]; exact h0)).2 h⟩

theorem var_of {l : List UInt8} (h0 : 0 < l.length) (d : Array Lp) (hd : d.toList = (vsL l 3).map mkLp) (n : Nat) (hn : d.size = n) : IsVar l (compactUpTo (srtL d) n) := by
  subst hn
  refine ⟨compact_sorted (srtL d) (srtL_sorted d) d.size (by rw [srtL_size]; exact Nat.le_refl _), fun y => ?_⟩
  rw [compact_mem, srtL_mem, hd, List.mem_map]
  constructor
  · rintro ⟨a, ha, rfl⟩
    obtain ⟨x, hx, ho⟩ := (vsL_mem h0).1 ha
    exact ⟨x, hx, a, ho, rfl⟩
  · rintro ⟨x, hx, a, ho, rfl⟩
    exact ⟨a, (vsL_mem h0).2 ⟨x, hx, ho⟩, rfl⟩

theorem var_ne {l : List UInt8} {V : List Lp} (h : IsVar l V) (h0 : 0 < l.length) : 0 < V.length := by
  have := (h.mem (mkLp l)).2 ⟨l, by simp [four], l, orb_refl l, rfl⟩
  exact List.length_pos_of_mem this

def VarPost (l : List UInt8) (w : World) (e : Ending) (w' : World) : Prop :=
  ∃ (g cap : Nat) (V : List Lp), e = .returned (.slice (some ⟨g, 0, none⟩) V.length cap) ∧ IsVar l V ∧ RowLp w' g V ∧ w.heap.size ≤ g ∧ g < w'.heap.size ∧ Below w.heap.size w w'

def fnsA : Array Value := #[.func (.func 60) #[] #[], .func (.func 62) #[] #[], .func (.func 78) #[] #[]]

theorem news_own {W : World} {B n g cap : Nat} {e : TypeId} {xs : List Value} (h : W.ownsRow B e 40 (.slice (some ⟨g, 0, none⟩) n cap) n xs) : ∀ j u, xs[j]? = some u → W.cell? ((⟨g, 0, none⟩ : Addr).add j) = some u := fun j u hu => by
  have hj : j < n * 40 := by rw [← h.1]; exact (List.getElem?_eq_some_iff.1 hu).1
  rw [Addr.add_lit, Nat.zero_add, h.cellAt j hj]
  exact hu

theorem lpCells_ones (L : List Lp) : ∀ u ∈ lpCells L, u.oneCell' = true := by
  intro u hu
  simp only [lpCells, List.mem_flatMap] at hu
  obtain ⟨x, _, hx⟩ := hu
  exact enc_one x u hx

theorem fns_blk {W : World} {F : Nat} {t : TypeId} (h : W.heap[F]? = some (.cells fnsA t (0, 0))) :
    W.cell? ⟨F, 0, none⟩ = some (.func (.func 60) #[] #[]) ∧ W.cell? ⟨F, 1, none⟩ = some (.func (.func 62) #[] #[]) ∧ W.cell? ⟨F, 2, none⟩ = some (.func (.func 78) #[] #[]) := by
  simp [World.cell?, h, fnsA]

theorem HR0 {W : World} {g : Nat} {L : List Lp} {x : Lp} (h : RowLp W g L) (hx : L[0]? = some x) {K : Nat} (hK : K = 40) : Sem.run Tryd.prog (loadCellsFrom ⟨g, 0, none⟩ 0 K #[]) W = .ok (arr x) W := by
  have := h.load (j := 0) hx hK
  rwa [Nat.zero_mul] at this

set_option maxRecDepth 100000 in
set_option maxHeartbeats 3200000 in
theorem variants_any (l : List UInt8) (ht : tkB (ofL l) = true) (h0 : 0 < l.length) (w : World) :
    Calls Tryd.prog 57 #[.agg (arr (mkLp l))] w (VarPost l w) := by
  obtain ⟨i0, hi, iz0, iz1, iz2⟩ := info_parts lpInfo3
  have hl := tk_le ht
  obtain ⟨n, hn⟩ : ∃ n, l.length = n := ⟨_, rfl⟩
  have SP := Lib.hid (fun x (hx : x ∈ four l) (W : World) => spins_any x (tk_le (four_tk ht x hx)) (tk_nz (four_tk ht x hx)) W)
  have S0 := Lib.hid (fun W => spins_any l hl (tk_nz ht) W)
  have C1 := Lib.hid (fun W => mirror_any l ht W)
  have C2 := Lib.hid (fun W => back_anyL l ht W)
  have C3 := Lib.hid (fun W => mirrorBack_any l ht W)
  have HN := Lib.hid hn
  have a0 := LpAt.new w (mkLp l)
  obtain ⟨K, hK⟩ : ∃ K, K = 40 := ⟨_, rfl⟩
  have hld := a0.loadK hK
  have zE := zK hK
  have hA := aK hK (mkLp l)
  have HK := Lib.hid hK
  have A0 := Lib.hid a0
  clear hK a0
  have hn40 : n ≤ 40 := by omega
  have hn0 : 0 < n := by omega
  go_enter Tryd.func57, Tryd.ntmps57
  go_wp2_with fail
  refine (S0.out _).mono ?_
  rintro e w1 ⟨v1, rfl, hO1, hb1⟩
  have a1 := A0.out.below hb1 (by simp)
  have B1 := Lib.hid (ba (by go_grown) hb1 : Below w.heap.size w w1)
  rw [show (w.alloc (.cells (arr (mkLp l)) 45)).heap.size = w.heap.size + 1 by simp, HN.out] at hO1
  have hz1 := hb1.size
  simp at hz1
  have hlt1 := hO1.lt
  have hO1' := hO1.alloc (.cells fnsA 58)
  have A1 := Lib.hid (a1.alloc (.cells fnsA 58))
  have O1 := Lib.hid (by rw [← vsL_zero] at hO1'; exact hO1' : (w1.alloc (.cells fnsA 58)).ownsRow (w.heap.size + 1) 45 40 v1 n (lpCells ((vsL l 0).map mkLp)))
  have hnb1 : v1.ownBlock ≠ some w1.heap.size := fun e => by have := (hlt1 _ e).2; omega
  have B2 := Lib.hid (B1.out.alloc (by omega) (.cells fnsA 58))
  have F1 := Lib.hid (heap_alloc_last w1 (.cells fnsA 58))
  clear hb1 hld hO1 hO1' hlt1 a1
  go_wp2_with fail
  go_loopw [3, 10] (fun t i wr => ∃ (k : Nat) (v : Value), k ≤ 3 ∧ i = .int .i64 k ∧ v = t ∧ wr.ownsRow (w.heap.size + 1) 45 40 v ((k + 1) * n) (lpCells ((vsL l k).map mkLp)) ∧ LpAt wr w.heap.size (mkLp l) ∧ wr.heap[w1.heap.size]? = some (.cells fnsA 58 (0, 0)) ∧ v.ownBlock ≠ some w1.heap.size ∧ Below w.heap.size w wr) (fun _ i _ => 3 - (intOf i).toNat)
  case atStart => exact ⟨0, v1, by omega, rfl, rfl, by rw [Nat.zero_add, Nat.one_mul]; exact O1.out, A1.out, F1.out, hnb1, B2.out⟩
  case round =>
    obtain ⟨k, v, hk, rfl, rfl, hO, hA2, hF, hnb, hb⟩ := hrel
    have hFl : w1.heap.size < wr.heap.size := (Array.getElem?_eq_some_iff.1 hF).1
    have hld := hA2.loadK HK.out
    obtain ⟨c0, c1, c2⟩ := fns_blk hF
    have HO := Lib.hid hO
    have HA2 := Lib.hid hA2
    have HF := Lib.hid hF
    have HNB := Lib.hid hnb
    have HB := Lib.hid hb
    clear hO hA2 hF hnb hb
    by_cases hlt : k < 3
    · have hk3 : k = 0 ∨ k = 1 ∨ k = 2 := by omega
      rcases hk3 with rfl | rfl | rfl
      · have hAx := aK HK.out (mkLp (l.map mir))
        have SX := Lib.hid (fun W => SP.out (l.map mir) (by simp [four]) W)
        have HV := Lib.hid (show lpCells ((vsL l 1).map mkLp) = lpCells ((vsL l 0).map mkLp) ++ lpCells ((rot1 (l.map mir)).map mkLp) by rw [vsL_next (x := (l.map mir)) rfl, List.map_append, lpCells_append])
        have hxl : (l.map mir).length = n := by rw [← HN.out]; simp [bak]
        have HXL := Lib.hid hxl
        clear hxl
        go_wp2_with fail
        refine (C1.out _).mono ?_
        rintro e wA ⟨rfl, hbA⟩
        have hzA := hbA.size
        have OA := Lib.hid (HO.out.kept (bgr hbA) (by cases v.ownBlock <;> simp))
        have AA := Lib.hid (HA2.out.below hbA HA2.out.lt)
        have FA := Lib.hid ((hbA.block w1.heap.size hFl).trans HF.out)
        have BA := Lib.hid (HB.out.trans (hbA.mono HB.out.size))
        clear hbA hld c0 c1 c2
        go_wp2_with fail
        refine (SX.out _).mono ?_
        rintro e wB ⟨v2, rfl, hO2, hbB⟩
        rw [HXL.out] at hO2
        obtain ⟨g2, cap2, rfl, hg20, hcp2⟩ := hO2.form (by omega)
        have hzB := hbB.size
        have OB := Lib.hid (OA.out.kept (bgr hbB) (by cases v.ownBlock <;> simp))
        have AB := Lib.hid (AA.out.below hbB AA.out.lt)
        have FB := Lib.hid ((hbB.block w1.heap.size (by omega)).trans FA.out)
        have BB := Lib.hid (BA.out.trans (hbB.mono BA.out.size))
        have HO2 := Lib.hid hO2
        have hszw : w.heap.size ≤ w1.heap.size := B1.out.size
        clear hbB hO2
        go_wp2_with (at_builtin; refine wpList_append_own_at _ rfl _ _ 49 rfl (w.heap.size + 1) 45 i0 (.agg (arr zLp)) 40 40 Tryd.underlying49 hi iz0 iz1 iz2 (arr_size _) (by decide) v _ _ rfl OB.out ⟨g2, 0, none⟩ n cap2 (lpCells ((rot1 (l.map mir)).map mkLp)) rfl (by rw [lpCells_len, List.length_map, rot1_len, HXL.out]) (news_own HO2.out) (lpCells_ones _) (by unfold maxLen; omega) (by omega) (by omega) ?_; intro v' wC hown' hgrow hnil hloc)
        have hlt' := OB.out.lt
        have HB8 := Lib.hid (BB.out.grown hgrow (by omega) (fun k hk => Nat.le_of_succ_le (hlt' k hk).1))
        have F8 := Lib.hid ((hgrow.block w1.heap.size (by omega) (fun e => HNB.out e.symm)).trans FB.out)
        have A8 := Lib.hid (show LpAt wC w.heap.size (mkLp l) from (hgrow.block w.heap.size (by omega) (fun e => by have := (hlt' _ e.symm).1; omega)).trans AB.out)
        have N8 := Lib.hid (show v'.ownBlock ≠ some w1.heap.size from fun e => by
          rcases hloc with h | h
          · rw [h] at e; exact HNB.out e
          · rw [h] at e; injection e with e; omega)
        have O8 := Lib.hid hown'
        clear hlt' hgrow hown' hnil hloc
        go_roundw
        case rel => exact ⟨1, v', by omega, by go_num, rfl, by rw [HV.out, show (1 + 1) * n = (0 + 1) * n + n by omega]; exact O8.out, A8.out, F8.out, N8.out, HB8.out⟩
        case measure => simp [intOf]
      · have hAx := aK HK.out (mkLp (bak l))
        have SX := Lib.hid (fun W => SP.out (bak l) (by simp [four]) W)
        have HV := Lib.hid (show lpCells ((vsL l 2).map mkLp) = lpCells ((vsL l 1).map mkLp) ++ lpCells ((rot1 (bak l)).map mkLp) by rw [vsL_next (x := (bak l)) rfl, List.map_append, lpCells_append])
        have hxl : (bak l).length = n := by rw [← HN.out]; simp [bak]
        have HXL := Lib.hid hxl
        clear hxl
        go_wp2_with fail
        refine (C2.out _).mono ?_
        rintro e wA ⟨rfl, hbA⟩
        have hzA := hbA.size
        have OA := Lib.hid (HO.out.kept (bgr hbA) (by cases v.ownBlock <;> simp))
        have AA := Lib.hid (HA2.out.below hbA HA2.out.lt)
        have FA := Lib.hid ((hbA.block w1.heap.size hFl).trans HF.out)
        have BA := Lib.hid (HB.out.trans (hbA.mono HB.out.size))
        clear hbA hld c0 c1 c2
        go_wp2_with fail
        refine (SX.out _).mono ?_
        rintro e wB ⟨v2, rfl, hO2, hbB⟩
        rw [HXL.out] at hO2
        obtain ⟨g2, cap2, rfl, hg20, hcp2⟩ := hO2.form (by omega)
        have hzB := hbB.size
        have OB := Lib.hid (OA.out.kept (bgr hbB) (by cases v.ownBlock <;> simp))
        have AB := Lib.hid (AA.out.below hbB AA.out.lt)
        have FB := Lib.hid ((hbB.block w1.heap.size (by omega)).trans FA.out)
        have BB := Lib.hid (BA.out.trans (hbB.mono BA.out.size))
        have HO2 := Lib.hid hO2
        have hszw : w.heap.size ≤ w1.heap.size := B1.out.size
        clear hbB hO2
        go_wp2_with (at_builtin; refine wpList_append_own_at _ rfl _ _ 49 rfl (w.heap.size + 1) 45 i0 (.agg (arr zLp)) 40 40 Tryd.underlying49 hi iz0 iz1 iz2 (arr_size _) (by decide) v _ _ rfl OB.out ⟨g2, 0, none⟩ n cap2 (lpCells ((rot1 (bak l)).map mkLp)) rfl (by rw [lpCells_len, List.length_map, rot1_len, HXL.out]) (news_own HO2.out) (lpCells_ones _) (by unfold maxLen; omega) (by omega) (by omega) ?_; intro v' wC hown' hgrow hnil hloc)
        have hlt' := OB.out.lt
        have HB8 := Lib.hid (BB.out.grown hgrow (by omega) (fun k hk => Nat.le_of_succ_le (hlt' k hk).1))
        have F8 := Lib.hid ((hgrow.block w1.heap.size (by omega) (fun e => HNB.out e.symm)).trans FB.out)
        have A8 := Lib.hid (show LpAt wC w.heap.size (mkLp l) from (hgrow.block w.heap.size (by omega) (fun e => by have := (hlt' _ e.symm).1; omega)).trans AB.out)
        have N8 := Lib.hid (show v'.ownBlock ≠ some w1.heap.size from fun e => by
          rcases hloc with h | h
          · rw [h] at e; exact HNB.out e
          · rw [h] at e; injection e with e; omega)
        have O8 := Lib.hid hown'
        clear hlt' hgrow hown' hnil hloc
        go_roundw
        case rel => exact ⟨2, v', by omega, by go_num, rfl, by rw [HV.out, show (2 + 1) * n = (1 + 1) * n + n by omega]; exact O8.out, A8.out, F8.out, N8.out, HB8.out⟩
        case measure => simp [intOf]
      · have hAx := aK HK.out (mkLp ((bak l).map mir))
        have SX := Lib.hid (fun W => SP.out ((bak l).map mir) (by simp [four]) W)
        have HV := Lib.hid (show lpCells ((vsL l 3).map mkLp) = lpCells ((vsL l 2).map mkLp) ++ lpCells ((rot1 ((bak l).map mir)).map mkLp) by rw [vsL_next (x := ((bak l).map mir)) rfl, List.map_append, lpCells_append])
        have hxl : ((bak l).map mir).length = n := by rw [← HN.out]; simp [bak]
        have HXL := Lib.hid hxl
        clear hxl
        go_wp2_with fail
        refine (C3.out _).mono ?_
        rintro e wA ⟨rfl, hbA⟩
        have hzA := hbA.size
        have OA := Lib.hid (HO.out.kept (bgr hbA) (by cases v.ownBlock <;> simp))
        have AA := Lib.hid (HA2.out.below hbA HA2.out.lt)
        have FA := Lib.hid ((hbA.block w1.heap.size hFl).trans HF.out)
        have BA := Lib.hid (HB.out.trans (hbA.mono HB.out.size))
        clear hbA hld c0 c1 c2
        go_wp2_with fail
        refine (SX.out _).mono ?_
        rintro e wB ⟨v2, rfl, hO2, hbB⟩
        rw [HXL.out] at hO2
        obtain ⟨g2, cap2, rfl, hg20, hcp2⟩ := hO2.form (by omega)
        have hzB := hbB.size
        have OB := Lib.hid (OA.out.kept (bgr hbB) (by cases v.ownBlock <;> simp))
        have AB := Lib.hid (AA.out.below hbB AA.out.lt)
        have FB := Lib.hid ((hbB.block w1.heap.size (by omega)).trans FA.out)
        have BB := Lib.hid (BA.out.trans (hbB.mono BA.out.size))
        have HO2 := Lib.hid hO2
        have hszw : w.heap.size ≤ w1.heap.size := B1.out.size
        clear hbB hO2
        go_wp2_with (at_builtin; refine wpList_append_own_at _ rfl _ _ 49 rfl (w.heap.size + 1) 45 i0 (.agg (arr zLp)) 40 40 Tryd.underlying49 hi iz0 iz1 iz2 (arr_size _) (by decide) v _ _ rfl OB.out ⟨g2, 0, none⟩ n cap2 (lpCells ((rot1 ((bak l).map mir)).map mkLp)) rfl (by rw [lpCells_len, List.length_map, rot1_len, HXL.out]) (news_own HO2.out) (lpCells_ones _) (by unfold maxLen; omega) (by omega) (by omega) ?_; intro v' wC hown' hgrow hnil hloc)
        have hlt' := OB.out.lt
        have HB8 := Lib.hid (BB.out.grown hgrow (by omega) (fun k hk => Nat.le_of_succ_le (hlt' k hk).1))
        have F8 := Lib.hid ((hgrow.block w1.heap.size (by omega) (fun e => HNB.out e.symm)).trans FB.out)
        have A8 := Lib.hid (show LpAt wC w.heap.size (mkLp l) from (hgrow.block w.heap.size (by omega) (fun e => by have := (hlt' _ e.symm).1; omega)).trans AB.out)
        have N8 := Lib.hid (show v'.ownBlock ≠ some w1.heap.size from fun e => by
          rcases hloc with h | h
          · rw [h] at e; exact HNB.out e
          · rw [h] at e; injection e with e; omega)
        have O8 := Lib.hid hown'
        clear hlt' hgrow hown' hnil hloc
        go_roundw
        case rel => exact ⟨3, v', by omega, by go_num, rfl, by rw [HV.out, show (3 + 1) * n = (2 + 1) * n + n by omega]; exact O8.out, A8.out, F8.out, N8.out, HB8.out⟩
        case measure => simp [intOf]
    · obtain rfl : k = 3 := by omega
      clear c0 c1 c2 hld
      have hO3 := HO.out
      obtain ⟨g, cap, rfl, hg0, hcp⟩ := hO3.form (by omega)
      have hcap := own_capR hO3
      obtain ⟨d, hd⟩ : ∃ d : Array Lp, d = ((vsL l 3).map mkLp).toArray := ⟨_, rfl⟩
      have hdl : d.toList = (vsL l 3).map mkLp := by rw [hd]
      rw [← hdl] at hO3
      have hds : d.size = (3 + 1) * n := by rw [hd, List.size_toArray, List.length_map, vsL_len l 3 (by omega), HN.out]
      have HH := Lib.hid (HoldsLp.own hO3 hds)
      have hg := (hO3.lt g rfl)
      obtain ⟨hgw, hgl⟩ := hg
      have HV := Lib.hid (var_of h0 d hdl ((3 + 1) * n) hds)
      have HSF := Lib.hid (fun W hH hg => sortFunc_any d ((3 + 1) * n) hds (by omega) g cap W hH hg)
      have HCO := Lib.hid (fun W hH hg => compact_any (srtL d) ((3 + 1) * n) (by rw [srtL_size]; exact hds) (by omega) g cap hcap W hH hg)
      clear hO3 hd hdl hds
      generalize (3 + 1) * n = N at *
      go_wp2_with fail
      refine (HSF.out _ HH.out hgl).mono ?_
      rintro e w2 ⟨rfl, hH2, hb2⟩
      have H2 := Lib.hid hH2
      have hz2 := hb2.size
      have B3 := Lib.hid (show Below w.heap.size w w2 from HB.out.trans (hb2.mono (by omega)))
      clear hH2 hb2
      go_wp2_with fail
      refine (HCO.out _ H2.out (by omega)).mono ?_
      rintro e w3 ⟨rfl, hR, hb3⟩
      have hz3 := hb3.size
      have B4 := Lib.hid (show Below w.heap.size w w3 from B3.out.trans (hb3.mono (by omega)))
      have HR := Lib.hid hR
      clear hR hb3
      go_wp2_with fail
      go_ret
      exact ⟨g, cap, _, rfl, HV.out, HR.out, by omega, by omega, B4.out⟩

set_option maxRecDepth 100000 in
set_option maxHeartbeats 800000 in
theorem first_any (l : List UInt8) (ht : tkB (ofL l) = true) (h0 : 0 < l.length) (w : World) :
    Calls Tryd.prog 53 #[.agg (arr (mkLp l))] w fun e w' => e = .returned (.agg (arr (mkLp (classL l)))) ∧ Below w.heap.size w w' := by
  have HVA := Lib.hid (fun W => variants_any l ht h0 W)
  have HF := Lib.hid (fun V (h : IsVar l V) => h.first h0 (tk_le ht))
  have HNE := Lib.hid (fun V (h : IsVar l V) => var_ne h h0)
  have hz := (zero_of_info (P := Tryd.prog) lpInfo).1
  have a0 := (LpAt.new w (mkLp l)).alloc (.cells (arr zLp) 45)
  have a1 := LpAt.new (w.alloc (.cells (arr (mkLp l)) 45)) zLp
  rw [show (w.alloc (.cells (arr (mkLp l)) 45)).heap.size = w.heap.size + 1 by simp] at a1
  obtain ⟨K, hK⟩ : ∃ K, K = 40 := ⟨_, rfl⟩
  have hld := a0.loadK hK
  have zE := zK hK
  have hA := aK hK (mkLp l)
  have HK := Lib.hid hK
  have HA1 := Lib.hid a1
  obtain ⟨y, hy⟩ : ∃ y, mkLp (classL l) = y := ⟨_, rfl⟩
  rw [hy] at HF ⊢
  have hAy := aK hK y
  clear hK a0 a1 hy
  go_enter Tryd.func53, Tryd.ntmps53
  go_wp2_with fail
  refine (HVA.out _).mono ?_
  rintro e w1 ⟨g, cap, V, rfl, hV, hR, hgw, hgl, hb1⟩
  have hl0 := HR0 hR (HF.out V hV) HK.out
  have hne := HNE.out V hV
  have i0 : (0 : Int) < ((V.length : Nat) : Int) := by omega
  have hst := (HA1.out.below hb1 (by simp)).store y
  have l1 := ((HA1.out.below hb1 (by simp)).set y).loadK HK.out
  have HB := Lib.hid (below_setRow (ba (by go_grown) hb1 : Below w.heap.size w w1) (Nat.le_succ _) (arr y))
  clear hb1 hld hV hR
  generalize V.length = N at *
  go_wp2_with fail
  refine bodyPost_ret (by simp [results, Tryd.results53, go_sem, *]; try rfl) rfl ?_
  exact ⟨rfl, HB.out⟩

end Go.Proofs.YtoenkgenoloihaaDoor
