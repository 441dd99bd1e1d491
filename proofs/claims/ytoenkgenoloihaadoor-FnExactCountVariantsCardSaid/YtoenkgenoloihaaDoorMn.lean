/- Contract: the library's slices.MinFunc at arrays of forty bytes. -/
import Derived.Test.YtoenkgenoloihaaDoorLs
import Derived.Test.YtoenkgenoloihaaDoorCs
import Derived.Test.YtoenkgenoloihaaDoorShelfG
import Derived.Shelf.SlSortCmp.QuietGrown
namespace Go.Proofs.YtoenkgenoloihaaDoor
open Go.ChangeShapes Go.WideShapes Go.ChangeAt Go.RowKit

set_option linter.unusedVariables false

theorem compare_gr (x y : Lp) (w : World) :
    Calls Tryd.prog 50 #[.agg (arr x), .agg (arr y)] w fun e w' => e = .returned (.int .i64 (Lib.compareBytes x.1 y.1)) ∧ ∃ q os, w' = Sort.grow (w.drewN q) os :=
  (compare_any x y w).mono fun _ _ ⟨h1, q, h2⟩ => ⟨h1, q, #[.cells (arr x) 45, .cells (arr y) 45], by
    rw [h2, Sort.alloc_eq_grow, Sort.alloc_eq_grow, Sort.grow_grow]
    rfl⟩

def RowLp (w : World) (g : Nat) (L : List Lp) : Prop := ∀ j x, L[j]? = some x → ∀ i v, (encLp x)[i]? = some v → w.cell? ⟨g, j * 40 + i, none⟩ = some v

theorem RowLp.of {W : World} {B n g cap : Nat} {e : TypeId} {L : List Lp} (h : W.ownsRow B e 40 (.slice (some ⟨g, 0, none⟩) n cap) n (lpCells L)) (hn : L.length = n) : RowLp W g L := fun j x hx i v hv => by
  have h1 := lpCells_at L j x hx i v hv
  have h2 : j * 40 + i < n * 40 := by
    have a := (List.getElem?_eq_some_iff.1 hx).1
    have b := (List.getElem?_eq_some_iff.1 hv).1
    rw [encLp_len] at b
    omega
  rw [h.cellAt (j * 40 + i) h2]
  exact h1

theorem RowLp.below {W W' : World} {g m : Nat} {L : List Lp} (h : RowLp W g L) (hg : g < m) (hb : Below m W W') : RowLp W' g L := fun j x hx i v hv => by
  rw [hb.cell (p := ⟨g, j * 40 + i, none⟩) hg]
  exact h j x hx i v hv

theorem RowLp.load {W : World} {g : Nat} {L : List Lp} (h : RowLp W g L) {j : Nat} {x : Lp} (hx : L[j]? = some x) {K : Nat} (hK : K = 40) : Sem.run Tryd.prog (loadCellsFrom ⟨g, j * K, none⟩ 0 K #[]) W = .ok (arr x) W := by
  subst hK
  exact lp_load W g (j * 40) x fun i v hv => h j x hx i v hv

theorem RowLp.set {W : World} {g b : Nat} {L : List Lp} (h : RowLp W g L) (A : Array Value) (hne : b ≠ g) : RowLp (W.setRow b A) g L := fun j x hx i v hv => by
  rw [show (W.setRow b A).cell? ⟨g, j * 40 + i, none⟩ = W.cell? ⟨g, j * 40 + i, none⟩ by simp [World.cell?, World.setRow, Array.getElem?_modify, hne]]
  exact h j x hx i v hv

theorem below_gr {W : World} {m : Nat} (hm : m ≤ W.heap.size) (q : Nat) (os : Array Obj) : Below m W (Sort.grow (W.drewN q) os) :=
  ⟨rfl, rfl, rfl, by rw [Sort.size_grow]; exact Nat.le_add_right _ _, fun k hk => Sort.heap_grow_old (W.drewN q) os (show k < (W.drewN q).heap.size from Nat.lt_of_lt_of_le hk hm)⟩

/-- The first one of those that none comes before. -/
def mnL (m : Lp) (xs : List Lp) : Lp := xs.foldl (fun m y => if y.1 < m.1 then y else m) m

theorem mnL_snoc (m y : Lp) (xs : List Lp) : mnL m (xs ++ [y]) = if y.1 < (mnL m xs).1 then y else mnL m xs := by
  unfold mnL
  rw [List.foldl_append]
  rfl

theorem cmp_neg (x y : Lp) : (decide (Lib.compareBytes x.1 y.1 < 0)) = decide (x.1 < y.1) := by
  by_cases h : x.1 < y.1
  · rw [decide_eq_true h, decide_eq_true ((cmpB_lt _ _).2 h)]
  · rw [decide_eq_false h, decide_eq_false (fun h2 => h ((cmpB_lt _ _).1 h2))]

set_option maxRecDepth 100000 in
set_option maxHeartbeats 1600000 in
theorem minFunc_any (x0 : Lp) (L : List Lp) (n : Nat) (hn : (x0 :: L).length = n) (hb5 : n ≤ 5000) (g cap : Nat) (hcap : n ≤ cap) (w : World) (hr : RowLp w g (x0 :: L)) (hg : g < w.heap.size) :
    Calls Tryd.prog 48 #[.slice (some ⟨g, 0, none⟩) n cap, .func (.func 50) #[] #[]] w fun e w' => e = .returned (.agg (arr (mnL x0 L))) ∧ Below w.heap.size w w' := by
  have mixed := Tryd.indexLoop.mixed
  obtain ⟨K, hK⟩ : ∃ K, K = 40 := ⟨_, rfl⟩
  have HK := Lib.hid hK
  have zE := zK hK
  have hz := (zero_of_info (P := Tryd.prog) lpInfo).1
  have hA0 := aK hK x0
  have hsz : (w.alloc (.cells (arr zLp) 45)).heap.size = w.heap.size + 1 := by simp
  have r1 : RowLp (w.alloc (.cells (arr zLp) 45)) g (x0 :: L) := hr.below hg ((Below.refl _ w).alloc (Nat.le_refl _) _)
  have ld0 := r1.load (j := 0) (x := x0) rfl hK
  rw [Nat.zero_mul] at ld0
  have r2 : RowLp ((w.alloc (.cells (arr zLp) 45)).alloc (.cells (arr zLp) 45)) g (x0 :: L) := r1.below hg ((Below.refl _ (w.alloc (.cells (arr zLp) 45))).alloc (by simp) _)
  have m2 := LpAt.new (w.alloc (.cells (arr zLp) 45)) zLp
  have z2 := (LpAt.new w zLp).alloc (.cells (arr zLp) 45)
  rw [hsz] at m2
  have st0 := m2.store x0
  have m3 := m2.set x0
  have z3 := z2.set_other (arr x0) (show w.heap.size + 1 ≠ w.heap.size by omega)
  have r3 := r2.set (arr x0) (show w.heap.size + 1 ≠ g by omega)
  have b3 : Below w.heap.size w (((w.alloc (.cells (arr zLp) 45)).alloc (.cells (arr zLp) 45)).setRow (w.heap.size + 1) (arr x0)) := below_setRow (((Below.refl _ w).alloc (Nat.le_refl _) _).alloc (by simp) _) (Nat.le_succ _) _
  have n0 : ¬ (n : Int) < 1 := by simp only [List.length_cons] at hn; omega
  have n1 : (0 : Int) < (n : Int) := by simp only [List.length_cons] at hn; omega
  have HN := Lib.hid hn
  have CMP := Lib.hid compare_gr
  have HR3 := Lib.hid r3
  have HM3 := Lib.hid m3
  have HZ3 := Lib.hid z3
  have HB3 := Lib.hid b3
  clear hsz r1 r2 m2 z2 m3 z3 r3 b3 hr hK hn
  go_enter Tryd.func48, Tryd.ntmps48
  go_wp2_with fail
  go_loopw [6] (fun i wr => ∃ k : Nat, 1 ≤ k ∧ k ≤ n ∧ i = .int .i64 k ∧ RowLp wr g (x0 :: L) ∧ LpAt wr (w.heap.size + 1) (mnL x0 (((x0 :: L).take k).drop 1)) ∧ LpAt wr w.heap.size zLp ∧ Below w.heap.size w wr) (fun i _ => n - (intOf i).toNat)
  case atStart => exact ⟨1, Nat.le_refl _, by omega, rfl, HR3.out, HM3.out, HZ3.out, HB3.out⟩
  case round =>
    obtain ⟨k, hk1, hk, rfl, hr, hm, hzz, hb⟩ := hrel
    clear st0 ld0
    by_cases hlt : k < n
    · obtain ⟨y, hy⟩ : ∃ y, (x0 :: L)[k]? = some y := ⟨_, List.getElem?_eq_getElem (by rw [HN.out]; exact hlt)⟩
      have hsn : mnL x0 (((x0 :: L).take (k + 1)).drop 1) = if y.1 < (mnL x0 (((x0 :: L).take k).drop 1)).1 then y else mnL x0 (((x0 :: L).take k).drop 1) := by
        rw [List.take_add_one, hy, List.drop_append_of_le_length (by rw [List.length_take, HN.out]; omega)]
        exact mnL_snoc _ _ _
      generalize mnL x0 (((x0 :: L).take k).drop 1) = m at *
      have hbg : ∀ q os, Below wr.heap.size wr (Sort.grow (wr.drewN q) os) := fun q os => below_gr (Nat.le_refl _) q os
      have hgr : g < wr.heap.size := Nat.lt_of_lt_of_le hg hb.size
      have lj : ∀ q os, Sem.run Tryd.prog (loadCellsFrom ⟨g, k * K, none⟩ 0 K #[]) (Sort.grow (wr.drewN q) os) = .ok (arr y) (Sort.grow (wr.drewN q) os) := fun q os => (hr.below hgr (hbg q os)).load hy HK.out
      have lm : ∀ q os, Sem.run Tryd.prog (loadCellsFrom ⟨w.heap.size + 1, 0, none⟩ 0 K #[]) (Sort.grow (wr.drewN q) os) = .ok (arr m) (Sort.grow (wr.drewN q) os) := fun q os => (hm.below (hbg q os) hm.lt).loadK HK.out
      have hcg : ∀ q os, Calls Tryd.prog 50 #[.agg (arr y), .agg (arr m)] (Sort.grow (wr.drewN q) os) fun e w' => e = .returned (.int .i64 (Lib.compareBytes y.1 m.1)) ∧ ∃ q' os', w' = Sort.grow ((Sort.grow (wr.drewN q) os).drewN q') os' := fun q os => CMP.out y m _
      have hcn := cmp_neg y m
      have i1 : (0 : Int) ≤ (k : Int) := by omega
      have i2 : (k : Int) < (n : Int) := by omega
      have HRR := Lib.hid hr
      have HMM := Lib.hid hm
      have HZZ := Lib.hid hzz
      have HBB := Lib.hid hb
      have HBG := Lib.hid hbg
      have HY := Lib.hid hy
      have hAy := aK HK.out y
      clear hr hm hzz hb hbg hy
      by_cases hv : y.1 < m.1
      · rw [if_pos hv] at hsn
        rw [decide_eq_true hv] at hcn
        have hneg : Lib.compareBytes y.1 m.1 < 0 := of_decide_eq_true hcn
        have HSN := Lib.hid hsn
        clear hsn hcn hv
        generalize Lib.compareBytes y.1 m.1 = c at *
        go_wp2_with fail
        go_quiet_grown (first | (go_at_call 50; refine Calls.grown_of (hcg _ _)))
        have b2 := HBG.out nq osq
        have lj2 := lj nq osq
        have r2 := HRR.out.below hgr b2
        have m2 := HMM.out.below b2 HMM.out.lt
        have z2 := HZZ.out.below b2 HZZ.out.lt
        clear lj lm hcg
        generalize Sort.grow (wr.drewN nq) osq = W2 at *
        have st2 := m2.store y
        have M3 := Lib.hid (m2.set y)
        have Z3 := Lib.hid (z2.set_other (arr y) (show w.heap.size + 1 ≠ w.heap.size by omega))
        have R3 := Lib.hid (r2.set (arr y) (show w.heap.size + 1 ≠ g by omega))
        have B3 := Lib.hid (below_setRow (HBB.out.trans (b2.mono HBB.out.size)) (Nat.le_succ _) (arr y))
        clear b2 r2 m2 z2
        go_wp2_with fail
        go_roundw
        case rel => exact ⟨k + 1, by omega, by omega, by go_num, R3.out, by rw [HSN.out]; exact M3.out, Z3.out, B3.out⟩
        case measure => simp [intOf]; omega
      · rw [if_neg hv] at hsn
        rw [decide_eq_false hv] at hcn
        have hneg : ¬ Lib.compareBytes y.1 m.1 < 0 := of_decide_eq_false hcn
        have HSN := Lib.hid hsn
        clear hsn hcn hv
        generalize Lib.compareBytes y.1 m.1 = c at *
        go_wp2_with fail
        go_quiet_grown (first | (go_at_call 50; refine Calls.grown_of (hcg _ _)))
        have b2 := HBG.out nq osq
        have R2 := Lib.hid (HRR.out.below hgr b2)
        have M2 := Lib.hid (HMM.out.below b2 HMM.out.lt)
        have Z2 := Lib.hid (HZZ.out.below b2 HZZ.out.lt)
        have B2 := Lib.hid (HBB.out.trans (b2.mono HBB.out.size))
        clear lj lm hcg b2
        generalize Sort.grow (wr.drewN nq) osq = W2 at *
        go_wp2_with fail
        go_roundw
        case rel => exact ⟨k + 1, by omega, by omega, by go_num, R2.out, by rw [HSN.out]; exact M2.out, Z2.out, B2.out⟩
        case measure => simp [intOf]; omega
    · obtain rfl : k = n := by omega
      have ht : ((x0 :: L).take k).drop 1 = L := by rw [List.take_of_length_le (by rw [HN.out]; exact Nat.le_refl _)]; rfl
      rw [ht] at hm
      have lm := hm.loadK HK.out
      have st2 := hzz.store (mnL x0 L)
      have l3 := (hzz.set (mnL x0 L)).loadK HK.out
      have hAm := aK HK.out (mnL x0 L)
      have B3 := Lib.hid (below_setRow hb (Nat.le_refl _) (arr (mnL x0 L)))
      clear hm hzz hr hb ht
      go_wp2_with fail
      refine bodyPost_ret (by simp [results, Tryd.results48, go_sem, *]; try rfl) rfl ?_
      exact ⟨rfl, B3.out⟩

end Go.Proofs.YtoenkgenoloihaaDoor
