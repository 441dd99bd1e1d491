/- Contracts and facts, put together (part 6). Conditions: each says its own. -/
import Derived.Test.YtoenkgenoloihabQ5
import Derived.Deep.RegionWith

/- Contract of the program: how many texts there are for each half. -/
namespace Go.Proofs.Ytoenkgenoloihab
open Go Go.ChangeMaps Go.MapKept Go.ChangeShapes Go.WideShapes Go.ChangeAt Go.RowKit
open Go.Maps (Keyed)

set_option linter.unusedVariables false

set_option maxRecDepth 100000 in
theorem HvAt.put {w : World} {b m : Nat} {f : Hf → Nat} (h : HvAt w b m f) {x : Hf} (hx : wfH x) (hm : m < maxLen) {c : Nat} (hc : c ≠ 0) (h1 : c ≤ 100000000) :
    ∃ w', (Instr.mapUpdate 55 (.map (some b)) (hfV x) (.int .i64 (c : Nat))).run Try.prog w = .ok () w' ∧ HvAt w' b (m + 1) (hvSet f x c) ∧ w.grownBy w' (some b) := by
  obtain ⟨D, hM, hD⟩ := h
  obtain ⟨w', hrun, h2, h3⟩ := hM.update (Keyed.of_law hfLaw) Try.underlying55 hm (klH_key hx) (plainElem_int Try.underlying3 (hvNat h1))
  exact ⟨w', hrun, ⟨_, h2, hD.put hM.isMap hx hc⟩, h3⟩

theorem HvAt.ne {w : World} {b m c : Nat} {f : Hf → Nat} {cs : Array Value} {t : TypeId} {fz : Nat × Nat} (h : HvAt w b m f) (hc : w.heap[c]? = some (.cells cs t fz)) : b ≠ c := by
  obtain ⟨D, ⟨es, clock, hb, _⟩, _⟩ := h
  rintro rfl
  rw [hb] at hc
  cases hc

theorem HvAt.made (w : World) : HvAt (w.alloc (.map #[] 0)) w.heap.size 0 fun _ => 0 := ⟨.map [], World.ownsMap_made _ _ _ _, HvD_nil⟩

theorem hcn_one : hvSet (fun _ => 0) hf0 1 = hcn (hvs 0) := by
  funext y
  rw [hvs_zero]
  unfold hvSet hcn
  by_cases e : y = hf0
  · subst e; simp [hfE_self]
  · rw [hfE_no.2 e]
    have : hfE hf0 y = false := hfE_no.2 fun h => e h.symm
    simp [this]

/-- The numbers that are still to come. -/
def lfH (L : List Hf) (left : Hf → Bool) : Hf → Nat := fun y => if left y = true then hcn L y else 0

theorem lfH_start (L : List Hf) : lfH L (fun x => decide (hcn L x ≠ 0)) = hcn L := by
  funext y
  unfold lfH
  by_cases h : hcn L y = 0
  · simp [h]
  · simp [h]

theorem lfH_step (L : List Hf) (left : Hf → Bool) (x : Hf) : hvSet (lfH L left) x 0 = lfH L (fun y => left y && !hfE y x) := by
  funext y
  unfold hvSet lfH
  cases h1 : hfE y x <;> cases h2 : left y <;> simp [h1, h2]

theorem lfH_end {L : List Hf} {left : Hf → Bool} {y : Hf} (h : left y = false) : lfH L left y = 0 := by simp [lfH, h]

def gnH (y : Hf) : Hf → Nat := fun h => hcn (ltr.map (hfN h)) y

def dnH (L : List Hf) (left : Hf → Bool) : Hf → Nat := fun y => dsum L left (gnH y)

theorem dnH_start (L : List Hf) : dnH L (fun x => decide (hcn L x ≠ 0)) = fun _ => 0 := by
  funext y
  exact dsum_none L _ _ fun x hx => decide_eq_true (hcn_mem hx)

theorem dnH_step (L : List Hf) (left : Hf → Bool) (x : Hf) (hx : left x = true) : lyF (dnH L left) x (hcn L x) 3 = dnH L (fun y => left y && !hfE y x) := by
  funext y
  exact (dsum_step (gnH y) left x hx L).symm

theorem dnH_end {L : List Hf} {left : Hf → Bool} (h : ∀ x ∈ L, left x = false) (y : Hf) : dnH L left y = hcn (nxH L) y := by
  rw [hcn_next]
  exact dsum_all L _ _ h

theorem dnH_le (L : List Hf) (left : Hf → Bool) (y : Hf) : dnH L left y ≤ L.length * 3 := by
  refine Nat.le_trans (dsum_mono L left (gnH y)) (sum_le (gnH y) 3 L fun x _ => ?_)
  exact Nat.le_trans (hcn_le _ _) (by rw [List.length_map]; decide)

theorem setCell_grown (w : World) (g j : Nat) (v : Value) : w.grownBy (w.setCell ⟨g, j, none⟩ v) (some g) := by
  refine ⟨rfl, rfl, rfl, by simp [World.setCell], fun i _ hi => ?_⟩
  have : ¬ g = i := fun e => hi (by rw [e])
  simp [World.setCell, Array.getElem?_modify, this]

theorem setCell_one {w : World} {g : Nat} {t : TypeId} {u v : Value} (h : w.heap[g]? = some (.cells #[u] t (0, 0))) : (w.setCell ⟨g, 0, none⟩ v).heap[g]? = some (.cells #[v] t (0, 0)) := by
  simp [World.setCell, Array.getElem?_modify, h]

def HvPost (n : Nat) (w : World) (e : Ending) (w' : World) : Prop :=
  ∃ b m, e = .returned (.map (some b)) ∧ HvAt w' b m (hcn (hvs n)) ∧ w.heap.size ≤ b ∧ m ≤ 1000000 ∧ Below w.heap.size w w'

set_option maxRecDepth 100000 in
set_option maxHeartbeats 6400000 in
theorem halvesOf_any (n : Nat) (hn : n ≤ 7) (w : World) : Calls Try.prog 42 #[.int .i64 (n : Nat)] w (HvPost n w) := by
  have hmm := @run_makeMap Try.prog
  have hw0 : wfH hf0 := wfH_of (by show sp0.okB 1000000; exact sp0_ok.mono (by decide)) (by decide) (by decide) (by decide)
  obtain ⟨W1, rP, hM1, g1⟩ := (HvAt.made w).put hw0 (by decide) (c := 1) (by decide) (by decide)
  rw [hcn_one] at hM1
  have hKE : hfV hf0 = .agg #[.int .i64 0, .int .i64 0, .int .i64 0, .int .i64 0, .int .i64 0, .int .i64 0, .int .i64 0, .int .i64 0] := rfl
  rw [hKE, show ((1 : Nat) : Int) = 1 from rfl] at rP
  have hzW := g1.size
  simp at hzW
  have hA1 := HvAt.made W1
  have HM1 := Lib.hid hM1
  have HB1 := Lib.hid (show Below w.heap.size w W1 from (Below.alloc (Below.refl _ _) (Nat.le_refl _) (.map #[] 0)).grown g1 (by simp) (fun k hk => by injection hk with hk; omega))
  clear hM1 g1 hKE
  go_enter Try.func42, Try.ntmps42
  go_wp2_with fail
  have HA1 := Lib.hid (hA1.kept (World.grownBy_alloc _ (.cells #[.map (some W1.heap.size)] 55) none) (by simp))
  have HM2 := Lib.hid ((HM1.out.kept (World.grownBy_alloc W1 (.map #[] 0) none) (by simp)).kept (World.grownBy_alloc _ (.cells #[.map (some W1.heap.size)] 55) none) (by simp))
  have HC1 := Lib.hid (heap_alloc_new (W1.alloc (.map #[] 0)) (.cells #[.map (some W1.heap.size)] 55))
  have hsz : (W1.alloc (.map #[] 0)).heap.size = W1.heap.size + 1 := by simp
  rw [hsz] at HC1
  have HB2 := Lib.hid ((HB1.out.alloc (by omega) (.map #[] 0)).alloc (by simp; omega) (.cells #[.map (some W1.heap.size)] 55))
  clear hA1 rP hsz
  go_loopw [3, 14] (fun t3 i wr => ∃ (j bh bl m1 m2 : Nat), j ≤ n ∧ i = .int .i64 j ∧ t3 = .map (some bh) ∧ bh ≠ bl ∧ w.heap.size ≤ bh ∧ w.heap.size ≤ bl ∧ HvAt wr bh m1 (hcn (hvs j)) ∧ HvAt wr bl m2 (fun _ => 0) ∧ wr.heap[W1.heap.size + 1]? = some (.cells #[.map (some bl)] 55 (0, 0)) ∧ m1 ≤ 10 * 4 ^ j ∧ m2 ≤ 10 * 4 ^ j ∧ Below w.heap.size w wr) (fun _ i _ => n - (intOf i).toNat)
  case atStart => exact ⟨0, w.heap.size, W1.heap.size, 1, 0, Nat.zero_le _, rfl, rfl, by omega, Nat.le_refl _, by omega, HM2.out, HA1.out, HC1.out, by decide, by decide, HB2.out⟩
  case round =>
    obtain ⟨j, bh, bl, m1, m2, hj, rfl, rfl, hne, hbh, hbl, hMh, hMl, hC, hm1, hm2, hB⟩ := hrel
    by_cases hlt : j < n
    · have hhC := hMh.ne hC
      have hlC := hMl.ne hC
      have hhl := hMh.lt
      have hll := hMl.lt
      have hcl := blkLt hC
      have h4 : 10 * 4 ^ j ≤ 10 * 4 ^ 7 := Nat.mul_le_mul_left _ (Nat.pow_le_pow_right (by decide) (by omega))
      obtain ⟨MM, hMM⟩ : ∃ MM, 10 * 4 ^ j = MM := ⟨_, rfl⟩
      have HMM := Lib.hid (show 10 * 4 ^ (j + 1) = 4 * MM by rw [Nat.pow_succ, ← hMM]; omega)
      rw [hMM] at hm1 hm2 h4
      have h4' : MM ≤ 163840 := h4
      have HOK := Lib.hid (fun x (hx : x ∈ hvs j) => hvs_ok (n := j) (by omega) hx)
      have HNX := Lib.hid (hvs_succ j)
      have hL := hvs_len j
      have hL7 : 3 ^ j ≤ 2187 := Nat.pow_le_pow_right (by decide) (show j ≤ 7 by omega)
      generalize hvs j = L at *
      have HDL := Lib.hid (fun left y => show dnH L left y ≤ 10000000 by have := dnH_le L left y; omega)
      have HCL := Lib.hid (fun y => show hcn L y ≤ 1000000 by have := hcn_le L y; omega)
      have HL0 := Lib.hid (lfH_start L)
      have HD0 := Lib.hid (dnH_start L)
      have HMh := Lib.hid hMh
      have HMl := Lib.hid hMl
      have HC := Lib.hid hC
      have HB := Lib.hid hB
      obtain ⟨wi, rfl⟩ : ∃ wi : World, wi = wr := ⟨_, rfl⟩
      clear hMh hMl hC hB hMM h4 hL
      go_wp2_with (at_range; refine wpList_range_half rfl _ rfl rfl HMh.out ?_; intro w2 cnt hrg hcm hgr hsz)
      go_frame
      have HRG := Lib.hid hrg
      have HGR := Lib.hid hgr
      have hz2 := hgr.size
      clear hrg hgr
      go_loopw [18] (fun _ wr => ∃ (left : Hf → Bool) (cnt m3 : Nat), HvRg wr bh wi.heap.size m1 (lfH L left) left cnt ∧ (∀ y, left y = true → hcn L y ≠ 0) ∧ HvAt wr bl m3 (dnH L left) ∧ wr.heap[W1.heap.size + 1]? = some (.cells #[.map (some bl)] 55 (0, 0)) ∧ m3 + 3 * cnt ≤ 4 * MM ∧ Below w.heap.size w wr ∧ w2.heap.size ≤ wr.heap.size) (fun _ wr => wr.rangeLeft bh wi.heap.size)
      case atStart =>
        refine ⟨_, cnt, m2, by rw [HL0.out]; exact HRG.out, fun y hy => of_decide_eq_true hy, ?_, ?_, by omega, HB.out.grown HGR.out HB.out.size (by simp), Nat.le_refl _⟩
        · rw [HD0.out]; exact HMl.out.kept HGR.out (by simp)
        · exact (HGR.out.block _ hcl (by simp)).trans HC.out
      case round =>
        obtain ⟨left, cnt, m3, hrg, hlf, hMl, hC, hm3, hB, hz3⟩ := hrel
        have hold := hrg.left
        have HRG3 := Lib.hid hrg
        have HLF := Lib.hid hlf
        have HML3 := Lib.hid hMl
        have HC3 := Lib.hid hC
        have HB3 := Lib.hid hB
        have HOLD := Lib.hid hold
        have hlC3 := hMl.ne hC
        have hcl3 := blkLt hC
        have hll3 := hMl.lt
        obtain ⟨k0, k1⟩ := blk1 hC
        obtain ⟨wr0, rfl⟩ : ∃ wr0 : World, wr0 = wr := ⟨_, rfl⟩
        clear hrg hlf hMl hC hB hold
        go_wp2_with (at_next; (refine wpList_next_half rfl _ rfl rfl HRG3.out ?_ ?_); (intro hdone; have HDN := Lib.hid hdone; clear hdone); (rotate_left 1); (intro x q wn cnt' hwx hlx hqx hrgn hlt' hgn hsn hen; have HX1 := Lib.hid hwx; have HX2 := Lib.hid hlx; have HX3 := Lib.hid hqx; have HX4 := Lib.hid hrgn; have HX5 := Lib.hid hgn; simp only [hfV] at hen ⊢; clear hwx hlx hqx hrgn hgn); rotate_left 1)
        · have hBw := HB.out.size
          refine ⟨⟨j + 1, bl, bh, m3, m1, by omega, by go_num, rfl, hne.symm, hbl, hbh, ?_, ?_, setCell_one HC3.out, by rw [HMM.out]; omega, by rw [HMM.out]; omega, ?_⟩, by simp [intOf]; omega⟩
          · exact (HML3.out.kept (setCell_grown _ _ _ _) (by simpa using hlC3)).congr fun y hy => by rw [HNX.out]; exact dnH_end (fun x hx => HDN.out x (HOK.out x hx).wf) y
          · exact (HRG3.out.at.kept (setCell_grown _ _ _ _) (by simpa using hhC)).congr fun y hy => lfH_end (HDN.out y hy)
          · exact HB3.out.grown (setCell_grown _ _ _ _) HB3.out.size (fun k hk => by injection hk with hk; omega)
        · have hX := HLF.out x HX2.out
          have hq : q = ((hcn L x : Nat) : Int) := by rw [HX3.out]; simp [lfH, HX2.out]
          subst hq
          have hok := HOK.out x (hcn_pos hX)
          have hql := HCL.out x
          have HST := Lib.hid (dnH_step L left x HX2.out)
          have hBw := HB.out.size
          have hMc := (HML3.out.kept HX5.out (by simp; omega)).kept (World.grownBy_alloc wn (.cells #[.int .i64 x.s.x0, .int .i64 x.s.x1, .int .i64 x.s.x2, .int .i64 x.s.x3, .int .i64 x.s.h, .int .i64 x.a, .int .i64 x.b, .int .i64 x.c] 93) none) (by simp)
          have hCn := (HX5.out.block _ hcl3 (by simp; omega)).trans HC3.out
          have hCc := (Below.heap_alloc wn (.cells #[.int .i64 x.s.x0, .int .i64 x.s.x1, .int .i64 x.s.x2, .int .i64 x.s.x3, .int .i64 x.s.h, .int .i64 x.a, .int .i64 x.b, .int .i64 x.c] 93) _ (by omega)).trans hCn
          have hRc := (HX4.out.kept (World.grownBy_alloc wn (.cells #[.int .i64 x.s.x0, .int .i64 x.s.x1, .int .i64 x.s.x2, .int .i64 x.s.x3, .int .i64 x.s.h, .int .i64 x.a, .int .i64 x.b, .int .i64 x.c] 93) none) (by simp) (by simp))
          have hbx := heap_alloc_new wn (.cells #[.int .i64 x.s.x0, .int .i64 x.s.x1, .int .i64 x.s.x2, .int .i64 x.s.x3, .int .i64 x.s.h, .int .i64 x.a, .int .i64 x.b, .int .i64 x.c] 93)
          rw [hsn] at hbx
          have HBc := Lib.hid ((HB3.out.grown HX5.out HB3.out.size (fun k hk => by injection hk with hk; omega)).alloc (by omega) (.cells #[.int .i64 x.s.x0, .int .i64 x.s.x1, .int .i64 x.s.x2, .int .i64 x.s.x3, .int .i64 x.s.h, .int .i64 x.a, .int .i64 x.b, .int .i64 x.c] 93))
          have LY := lay_any x (hok.1.mono (by decide)) (by have := hok.2; omega) (by have := hok.2; omega) (by have := hok.2; omega) (hcn L x) hX hql (W1.heap.size + 1) bl m3 (by omega) (dnH L left) (HDL.out left) _ hMc hCc (Ne.symm hlC)
          unfold hfV at LY
          rw [HST.out] at LY
          refine LY.mono ?_
          rintro e w5 ⟨rfl, hM5, hg5⟩
          have hz5 := hg5.size
          simp at hz5
          have hb5 := (hg5.block wr0.heap.size (by simp; omega) (by simp; omega)).trans hbx
          obtain ⟨d0, d1, d2, d3, d4, d5, d6, d7⟩ := blk8 hb5
          have HR5 := Lib.hid (hRc.kept hg5 (by simpa using hne) (by simp; omega))
          have HM5 := Lib.hid hM5
          have HC5 := Lib.hid ((hg5.block (W1.heap.size + 1) (by simp; omega) (by simpa using Ne.symm hlC)).trans hCc)
          have HB5 := Lib.hid (HBc.out.grown hg5 (by simp; omega) (fun k hk => by injection hk with hk; omega))
          have hlx2 : (left x && !hfE x x) = false := by rw [hfE_self]; simp
          have HLX2 := Lib.hid hlx2
          clear LY hMc hCn hCc hRc hbx hM5 hg5 hb5 hen hlx2
          go_wp2_with (at_delete; (refine wpList_delete_half (x := x) rfl _ _ rfl rfl rfl HX1.out HR5.out HLX2.out ?_); intro w6 cnt6 hrg6 hle6 hg6)
          rw [lfH_step] at hrg6
          have HR6 := Lib.hid hrg6
          have HM6 := Lib.hid (HM5.out.kept hg6 (by simpa using Ne.symm hne))
          have HC6 := Lib.hid ((hg6.block (W1.heap.size + 1) (by omega) (by simpa using Ne.symm hhC)).trans HC5.out)
          have HB6 := Lib.hid (HB5.out.grown hg6 (by omega) (fun k hk => by injection hk with hk; omega))
          have hz6 := hg6.size
          clear hrg6 hg6
          go_roundw
          case rel => exact ⟨_, _, _, _, _, _, _, _, _, _, _, _, _, ⟨_, cnt6, m3 + 3, HR6.out, fun y hy => HLF.out y (by simp only [Bool.and_eq_true] at hy; exact hy.1), HM6.out, HC6.out, by omega, HB6.out, by omega⟩, rfl⟩
          case measure => rw [HR6.out.left, HOLD.out]; omega
    · obtain rfl : j = n := by omega
      have h4 : 10 * 4 ^ j ≤ 10 * 4 ^ 7 := Nat.mul_le_mul_left _ (Nat.pow_le_pow_right (by decide) (by omega))
      have HM := Lib.hid hMh
      have HB := Lib.hid hB
      clear hMh hMl hC hB
      go_wp2_with fail
      go_ret
      exact ⟨bh, m1, rfl, HM.out, hbh, Nat.le_trans hm1 (Nat.le_trans h4 (by decide)), HB.out⟩

end Go.Proofs.Ytoenkgenoloihab

/- Contract of the program: how many closed tracks of told pieces two halves make. -/
namespace Go.Proofs.Ytoenkgenoloihab
open Go Go.ChangeMaps Go.MapKept Go.ChangeShapes Go.WideShapes Go.ChangeAt Go.RowKit
open Go.Maps (Keyed)

set_option linter.unusedVariables false

theorem blk3 {W : World} {g : Nat} {t : TypeId} {a0 a1 a2 : Value} (h : W.heap[g]? = some (.cells #[a0, a1, a2] t (0, 0))) : W.cell? ⟨g, 0, none⟩ = some a0 ∧ W.cell? ⟨g, 1, none⟩ = some a1 ∧ W.cell? ⟨g, 2, none⟩ = some a2 := by
  simp [World.cell?, h]

theorem s11_blk {B0 B1 : Nat} {v0 v1 v2 u0 u1 u2 u3 u4 u5 u6 u7 : Value} {W W' : World} (h : W.cell? ⟨B0, 0, none⟩ = some v0 ∧ W.cell? ⟨B0, 1, none⟩ = some v1 ∧ W.cell? ⟨B0, 2, none⟩ = some v2 ∧ W.cell? ⟨B1, 0, none⟩ = some u0 ∧ W.cell? ⟨B1, 1, none⟩ = some u1 ∧ W.cell? ⟨B1, 2, none⟩ = some u2 ∧ W.cell? ⟨B1, 3, none⟩ = some u3 ∧ W.cell? ⟨B1, 4, none⟩ = some u4 ∧ W.cell? ⟨B1, 5, none⟩ = some u5 ∧ W.cell? ⟨B1, 6, none⟩ = some u6 ∧ W.cell? ⟨B1, 7, none⟩ = some u7) (e0 : W'.heap[B0]? = W.heap[B0]?) (e1 : W'.heap[B1]? = W.heap[B1]?) :
    W'.cell? ⟨B0, 0, none⟩ = some v0 ∧ W'.cell? ⟨B0, 1, none⟩ = some v1 ∧ W'.cell? ⟨B0, 2, none⟩ = some v2 ∧ W'.cell? ⟨B1, 0, none⟩ = some u0 ∧ W'.cell? ⟨B1, 1, none⟩ = some u1 ∧ W'.cell? ⟨B1, 2, none⟩ = some u2 ∧ W'.cell? ⟨B1, 3, none⟩ = some u3 ∧ W'.cell? ⟨B1, 4, none⟩ = some u4 ∧ W'.cell? ⟨B1, 5, none⟩ = some u5 ∧ W'.cell? ⟨B1, 6, none⟩ = some u6 ∧ W'.cell? ⟨B1, 7, none⟩ = some u7 := by
  simp only [World.cell?] at h ⊢
  rw [e0, e1]
  exact h

set_option maxRecDepth 100000 in
set_option maxHeartbeats 6400000 in
theorem countMeeting_any (m k : Nat) (hm : m ≤ 7) (hk : k ≤ 7) (ta tb tc : Int) (ha : 0 ≤ ta ∧ ta ≤ 1000) (hb : 0 ≤ tb ∧ tb ≤ 1000) (hc : 0 ≤ tc ∧ tc ≤ 1000) (bb bd m1 m2 : Nat) (w : World) (hM1 : HvAt w bb m1 (hcn (hvs m))) (hM2 : HvAt w bd m2 (hcn (hvs k))) :
    Calls Try.prog 44 #[.map (some bb), .map (some bd), .agg #[.int .i64 ta, .int .i64 tb, .int .i64 tc]] w fun e w' => e = .returned (.int .i64 (cwt (m + k) ta tb tc : Nat)) ∧ Below w.heap.size w w' := by
  have HCW := Lib.hid (meets m k ta tb tc)
  have hcl := cwt_le (m + k) ta tb tc
  have h14 : 3 ^ (m + k) ≤ 4782969 := Nat.pow_le_pow_right (by decide) (show m + k ≤ 14 by omega)
  have HOK := Lib.hid (fun x (hx : x ∈ hvs m) => hvs_ok (n := m) (by omega) hx)
  have hl1 := hvs_len m
  have hl2 := hvs_len k
  have h71 : 3 ^ m ≤ 2187 := Nat.pow_le_pow_right (by decide) hm
  have h72 : 3 ^ k ≤ 2187 := Nat.pow_le_pow_right (by decide) hk
  generalize cwt (m + k) ta tb tc = C at *
  generalize hvs m = L at *
  generalize hvs k = L2 at *
  have HC1 := Lib.hid (fun y => show hcn L y ≤ 2187 by have := hcn_le L y; omega)
  have HC2 := Lib.hid (fun y => show hcn L2 y ≤ 2187 by have := hcn_le L2 y; omega)
  obtain ⟨g, hg⟩ : ∃ g : Hf → Nat, (fun h => hcn L2 (mate ta tb tc h)) = g := ⟨_, rfl⟩
  have HGE := Lib.hid (fun h => show g h = hcn L2 (mate ta tb tc h) by rw [← hg])
  rw [hg] at HCW
  have HSM := Lib.hid (fun left => show dsum L left g ≤ 4782969 by have := dsum_mono L left g; rw [HCW.out] at this; omega)
  have HS0 := Lib.hid (show dsum L (fun x => decide (hcn L x ≠ 0)) g = 0 from dsum_none L _ _ fun x hx => decide_eq_true (hcn_mem hx))
  have hb1 := hM1.lt
  have hb2 := hM2.lt
  have HM1 := Lib.hid (hM1.kept (World.grownBy_alloc w (.cells #[.int .i64 ta, .int .i64 tb, .int .i64 tc] 60) none) (by simp))
  have HM2 := Lib.hid (hM2.kept (World.grownBy_alloc w (.cells #[.int .i64 ta, .int .i64 tb, .int .i64 tc] 60) none) (by simp))
  have HT := Lib.hid (heap_alloc_new w (.cells #[.int .i64 ta, .int .i64 tb, .int .i64 tc] 60))
  have HB := Lib.hid (Below.alloc (Below.refl w.heap.size w) (Nat.le_refl _) (.cells #[.int .i64 ta, .int .i64 tb, .int .i64 tc] 60))
  clear hM1 hM2 hg hl1 hl2
  go_enter Try.func44, Try.ntmps44
  go_wp2_with (at_range; refine wpList_range_half rfl _ rfl rfl HM1.out ?_; intro w2 cnt hrg hcm hgr hsz)
  go_frame
  have hsw : (w.alloc (.cells #[.int .i64 ta, .int .i64 tb, .int .i64 tc] 60)).heap.size = w.heap.size + 1 := by simp
  rw [hsw] at hrg hsz ⊢
  have HRG := Lib.hid hrg
  have HGR := Lib.hid hgr
  have hz2 := hgr.size
  rw [hsw] at hz2
  clear hrg hgr
  go_loopw [7] (fun t7 wr => ∃ (left : Hf → Bool) (cnt : Nat), t7 = .int .i64 (dsum L left g : Nat) ∧ HvRg wr bb (w.heap.size + 1) m1 (hcn L) left cnt ∧ (∀ y, left y = true → hcn L y ≠ 0) ∧ HvAt wr bd m2 (hcn L2) ∧ wr.heap[w.heap.size]? = some (.cells #[.int .i64 ta, .int .i64 tb, .int .i64 tc] 60 (0, 0)) ∧ Below w.heap.size w wr ∧ w.heap.size + 2 ≤ wr.heap.size) (fun _ wr => wr.rangeLeft bb (w.heap.size + 1))
  case atStart => exact ⟨_, cnt, by rw [HS0.out]; rfl, HRG.out, fun y hy => of_decide_eq_true hy, HM2.out.kept HGR.out (by simp), (HGR.out.block _ (by simp) (by simp)).trans HT.out, HB.out.grown HGR.out (by simp) (by simp), by omega⟩
  case round =>
    obtain ⟨left, cnt, rfl, hrg, hlf, hM2, hT, hB, hz3⟩ := hrel
    have HOLD := Lib.hid hrg.left
    have HRG3 := Lib.hid hrg
    have HLF := Lib.hid hlf
    have HM23 := Lib.hid hM2
    have HT3 := Lib.hid hT
    have HB3 := Lib.hid hB
    obtain ⟨wr0, rfl⟩ : ∃ wr0 : World, wr0 = wr := ⟨_, rfl⟩
    clear hrg hlf hM2 hT hB
    go_wp2_with (at_next; (refine wpList_next_half rfl _ rfl rfl HRG3.out ?_ ?_); (intro hdone; have HDN := Lib.hid hdone; clear hdone); (rotate_left 1); (intro x q wn cnt' hwx hlx hqx hrgn hlt' hgn hsn hen; have HX1 := Lib.hid hwx; have HX2 := Lib.hid hlx; have HX3 := Lib.hid hqx; have HX4 := Lib.hid hrgn; have HX5 := Lib.hid hgn; simp only [hfV] at hen ⊢; clear hwx hlx hqx hrgn hgn); rotate_left 1)
    · have HE := Lib.hid (show dsum L left g = C by rw [← HCW.out]; exact dsum_all L g left fun x hx => HDN.out x (HOK.out x hx).wf)
      go_ret
      exact ⟨by rw [HE.out]; rfl, HB3.out⟩
    · have hX := HLF.out x HX2.out
      have hq : q = ((hcn L x : Nat) : Int) := HX3.out
      subst hq
      have hok := HOK.out x (hcn_pos hX)
      have hst := dsum_step g left x HX2.out L
      have hqb := HC1.out x
      have hzb := HC2.out (mate ta tb tc x)
      have hsb := HSM.out (fun y => left y && !hfE y x)
      rw [hst, HGE.out x] at hsb
      rw [HGE.out x] at hst
      have HMW := Lib.hid (show wfH (mate ta tb tc x) from wfH_of ((wayB_ok hok.1).mono (by decide)) (by have := hok.2; simp only [mate]; omega) (by have := hok.2; simp only [mate]; omega) (by have := hok.2; simp only [mate]; omega))
      have WB := Lib.hid (wayBack_any x.s (hok.1.mono (by decide)))
      have LS := Lib.hid (fun W => less_any ta tb tc x.a x.b x.c (by omega) (by omega) (by omega) (by have := hok.2; omega) (by have := hok.2; omega) (by have := hok.2; omega) W)
      have HKE := Lib.hid (show hfV (mate ta tb tc x) = .agg #[.int .i64 (wayB x.s).x0, .int .i64 (wayB x.s).x1, .int .i64 (wayB x.s).x2, .int .i64 (wayB x.s).x3, .int .i64 (wayB x.s).h, .int .i64 (ta - x.a), .int .i64 (tb - x.b), .int .i64 (tc - x.c)] from rfl)
      generalize wayB x.s = wv at WB HKE
      obtain ⟨z, hz⟩ : ∃ z, hcn L2 (mate ta tb tc x) = z := ⟨_, rfl⟩
      rw [hz] at hzb hsb hst
      have HZE := Lib.hid hz
      generalize hcn L x = q at *
      obtain ⟨s0, hs0⟩ : ∃ s0, dsum L left g = s0 := ⟨_, rfl⟩
      rw [hs0] at hsb hst ⊢
      have hmul := Nat.mul_le_mul hqb hzb
      obtain ⟨p, hp⟩ : ∃ p, q * z = p := ⟨_, rfl⟩
      rw [hp] at hmul hsb hst
      have hpi : (q : Int) * (z : Int) = (p : Int) := by rw [← hp, Int.natCast_mul]
      have hW1 : IntKind.i64.wrap ((q : Int) * (z : Int)) = (p : Int) := by rw [hpi, IntKind.wrap_i64]; omega
      have hW2 : IntKind.i64.wrap ((s0 : Int) + (p : Int)) = ((s0 + p : Nat) : Int) := by rw [IntKind.wrap_i64]; omega
      have HST := Lib.hid hst
      have hBw := HB3.out.size
      have HDc := Lib.hid ((HM23.out.kept HX5.out (by simp; omega)).kept (World.grownBy_alloc wn (.cells #[.int .i64 x.s.x0, .int .i64 x.s.x1, .int .i64 x.s.x2, .int .i64 x.s.x3, .int .i64 x.s.h, .int .i64 x.a, .int .i64 x.b, .int .i64 x.c] 93) none) (by simp))
      have hRc := Lib.hid (HX4.out.kept (World.grownBy_alloc wn (.cells #[.int .i64 x.s.x0, .int .i64 x.s.x1, .int .i64 x.s.x2, .int .i64 x.s.x3, .int .i64 x.s.h, .int .i64 x.a, .int .i64 x.b, .int .i64 x.c] 93) none) (by simp) (by simp))
      have hTx := (Below.heap_alloc wn (.cells #[.int .i64 x.s.x0, .int .i64 x.s.x1, .int .i64 x.s.x2, .int .i64 x.s.x3, .int .i64 x.s.h, .int .i64 x.a, .int .i64 x.b, .int .i64 x.c] 93) _ (by omega)).trans ((HX5.out.block w.heap.size (by omega) (by simp)).trans HT3.out)
      have hbx := heap_alloc_new wn (.cells #[.int .i64 x.s.x0, .int .i64 x.s.x1, .int .i64 x.s.x2, .int .i64 x.s.x3, .int .i64 x.s.h, .int .i64 x.a, .int .i64 x.b, .int .i64 x.c] 93)
      rw [hsn] at hbx
      have HTX := Lib.hid hTx
      have HBc := Lib.hid ((HB3.out.grown HX5.out HB3.out.size (fun k hk => by injection hk with hk; omega)).alloc (by omega) (.cells #[.int .i64 x.s.x0, .int .i64 x.s.x1, .int .i64 x.s.x2, .int .i64 x.s.x3, .int .i64 x.s.h, .int .i64 x.a, .int .i64 x.b, .int .i64 x.c] 93))
      obtain ⟨c0, c1, c2⟩ := blk3 hTx
      obtain ⟨d0, d1, d2, d3, d4, d5, d6, d7⟩ := blk8 hbx
      have hS0 := And.intro c0 (And.intro c1 (And.intro c2 (And.intro d0 (And.intro d1 (And.intro d2 (And.intro d3 (And.intro d4 (And.intro d5 (And.intro d6 d7)))))))))
      have hwl : w.heap.size < (wn.alloc (.cells #[.int .i64 x.s.x0, .int .i64 x.s.x1, .int .i64 x.s.x2, .int .i64 x.s.x3, .int .i64 x.s.h, .int .i64 x.a, .int .i64 x.b, .int .i64 x.c] 93)).heap.size := by simp; omega
      have hxl : wr0.heap.size < (wn.alloc (.cells #[.int .i64 x.s.x0, .int .i64 x.s.x1, .int .i64 x.s.x2, .int .i64 x.s.x3, .int .i64 x.s.h, .int .i64 x.a, .int .i64 x.b, .int .i64 x.c] 93)).heap.size := by simp; omega
      clear hst hs0 hp hz hpi c0 c1 c2 d0 d1 d2 d3 d4 d5 d6 d7 hTx hbx
      go_wp2_with fail
      go_region_held3 (fun w' => w'.cell? ⟨w.heap.size, 0, none⟩ = some (.int .i64 ta) ∧ w'.cell? ⟨w.heap.size, 1, none⟩ = some (.int .i64 tb) ∧ w'.cell? ⟨w.heap.size, 2, none⟩ = some (.int .i64 tc) ∧ w'.cell? ⟨wr0.heap.size, 0, none⟩ = some (.int .i64 x.s.x0) ∧ w'.cell? ⟨wr0.heap.size, 1, none⟩ = some (.int .i64 x.s.x1) ∧ w'.cell? ⟨wr0.heap.size, 2, none⟩ = some (.int .i64 x.s.x2) ∧ w'.cell? ⟨wr0.heap.size, 3, none⟩ = some (.int .i64 x.s.x3) ∧ w'.cell? ⟨wr0.heap.size, 4, none⟩ = some (.int .i64 x.s.h) ∧ w'.cell? ⟨wr0.heap.size, 5, none⟩ = some (.int .i64 x.a) ∧ w'.cell? ⟨wr0.heap.size, 6, none⟩ = some (.int .i64 x.b) ∧ w'.cell? ⟨wr0.heap.size, 7, none⟩ = some (.int .i64 x.c))
        (first | (with_reducible exact hSB) | (with_reducible exact hSA) | (with_reducible exact hS0) | (exact hS0))
        (first | ((with_reducible refine (WB.out _).mono ?_); rintro e wA ⟨rfl, hA⟩; (try with_reducible replace hA := undrew hA); have hSA := s11_blk hS0 (hA.block w.heap.size hwl) (hA.block wr0.heap.size hxl)) | ((with_reducible refine (LS.out _).mono ?_); rintro e wB ⟨rfl, hB'⟩; have hB := ba hA hB'; have hSB := s11_blk hS0 (hB.block w.heap.size hwl) (hB.block wr0.heap.size hxl); have rL := (HDc.out.below hB).look HMW.out; rw [HZE.out, HKE.out] at rL))
      have hzB := hB.size
      have hGB := below_grown hB
      have HB6 := Lib.hid (HBc.out.trans (hB.mono (by simp; omega)))
      have HR6 := Lib.hid (hRc.out.kept hGB (by simp) (by simp))
      have HD6 := Lib.hid (HDc.out.below hB)
      have HT6 := Lib.hid ((hB.block w.heap.size hwl).trans HTX.out)
      simp at hzB
      clear hS0 hSA hSB hA hB hB' hGB rL
      go_wp2_with fail
      go_roundw
      case rel => exact ⟨_, cnt', by rw [HST.out, Int.natCast_add], HR6.out, fun y hy => HLF.out y (by simp only [Bool.and_eq_true] at hy; exact hy.1), HD6.out, HT6.out, HB6.out, by omega⟩
      case measure => rw [HR6.out.left, HOLD.out]; omega

end Go.Proofs.Ytoenkgenoloihab

/- What a list of numbers, perhaps none, and whether there is one are, behind a call. -/
namespace Go.Proofs.Ytoenkgenoloihab
open Go.ChangeShapes Go.WideShapes Go.ChangeAt Go.RowKit

def NSPost (xs : List Int) (b : Bool) (w : World) (e : Ending) (w' : World) : Prop :=
  ∃ v, e = .returned (.tuple #[v, .bool b]) ∧ w'.ownsRow w.heap.size 3 1 v xs.length (xs.map (Value.int .i64)) ∧ Below w.heap.size w w'

end Go.Proofs.Ytoenkgenoloihab

/- Contracts of the program: of which pieces tracks with a turn can be; closed tracks counted by windings. -/
namespace Go.Proofs.Ytoenkgenoloihab
open Go Go.ChangeMaps Go.MapKept Go.ChangeShapes Go.WideShapes Go.ChangeAt Go.RowKit

set_option linter.unusedVariables false

def tlC (l : List (Int × Int × Int)) : List Value := l.flatMap fun t => [.int .i64 t.1, .int .i64 t.2.1, .int .i64 t.2.2]

theorem tlC_append (l m : List (Int × Int × Int)) : tlC (l ++ m) = tlC l ++ tlC m := by simp [tlC]

theorem tlC_at : ∀ (l : List (Int × Int × Int)) {i : Nat} {t : Int × Int × Int}, l[i]? = some t → (tlC l)[i * 3]? = some (.int .i64 t.1) ∧ (tlC l)[i * 3 + 1]? = some (.int .i64 t.2.1) ∧ (tlC l)[i * 3 + 2]? = some (.int .i64 t.2.2)
  | [], i, t, h => by simp at h
  | u :: l, 0, t, h => by simp at h; subst h; simp [tlC]
  | u :: l, i + 1, t, h => by
    have ih := tlC_at l (i := i) (t := t) (by simpa using h)
    have e : ∀ j, (tlC (u :: l))[(i + 1) * 3 + j]? = (tlC l)[i * 3 + j]? := fun j => by
      rw [show (i + 1) * 3 + j = i * 3 + j + 1 + 1 + 1 by omega]
      rfl
    exact ⟨(e 0).trans ih.1, (e 1).trans ih.2.1, (e 2).trans ih.2.2⟩

theorem tl_at {W : World} {B n g cap i : Nat} {e : TypeId} {l : List (Int × Int × Int)} {t : Int × Int × Int} (h : W.ownsRow B e 3 (.slice (some ⟨g, 0, none⟩) n cap) n (tlC l)) (hn : l.length = n) (ht : l[i]? = some t) :
    W.cell? ⟨g, i * 3, none⟩ = some (.int .i64 t.1) ∧ W.cell? ⟨g, i * 3 + 1, none⟩ = some (.int .i64 t.2.1) ∧ W.cell? ⟨g, i * 3 + 2, none⟩ = some (.int .i64 t.2.2) := by
  have hi : i < n := by rw [← hn]; exact (List.getElem?_eq_some_iff.1 ht).1
  obtain ⟨a, b, c⟩ := tlC_at l ht
  exact ⟨(h.cellAt (i * 3) (by omega)).trans a, (h.cellAt (i * 3 + 1) (by omega)).trans b, (h.cellAt (i * 3 + 2) (by omega)).trans c⟩

theorem tlInfo : (Try.prog.info? 60).map (fun i => (i.zero, i.size, i.bytes)) = some (some (.agg #[.int .i64 0, .int .i64 0, .int .i64 0]), 3, 24) := by kernel_rfl

theorem tls_ok {n : Nat} {turn : Int} (hT : -8 ≤ turn ∧ turn ≤ 8) {t : Int × Int × Int} (h : t ∈ tls n turn) : (0 ≤ t.1 ∧ t.1 ≤ n + 20) ∧ (0 ≤ t.2.1 ∧ t.2.1 ≤ n + 20) ∧ (0 ≤ t.2.2 ∧ t.2.2 ≤ n + 20) := by
  simp only [tls, tlsUp, List.mem_filter, List.mem_map, List.mem_range, decide_eq_true_eq] at h
  obtain ⟨⟨r, hr, rfl⟩, h1, h2⟩ := h
  simp only at h1 h2 ⊢
  omega

theorem tlsUp_len (n : Nat) (turn : Int) (k : Nat) : (tlsUp n turn k).length ≤ k := by
  refine Nat.le_trans (List.length_filter_le _ _) ?_
  rw [List.length_map, List.length_range]
  exact Nat.le_refl _

set_option maxRecDepth 100000 in
set_option maxHeartbeats 3200000 in
theorem talliesOf_any (n : Nat) (hn : n ≤ 14) (turn : Int) (hT : -8 ≤ turn ∧ turn ≤ 8) (w : World) :
    Calls Try.prog 43 #[.int .i64 (n : Nat), .int .i64 turn] w fun e w' => ∃ v, e = .returned v ∧ w'.ownsRow w.heap.size 60 3 v (tls n turn).length (tlC (tls n turn)) ∧ Below w.heap.size w w' := by
  obtain ⟨i0, hi, iz0, iz1, iz2⟩ := info_parts tlInfo
  have HE := Lib.hid (show tls n turn = tlsUp n turn (n + 1) from rfl)
  have HS := Lib.hid (fun k => tlsUp_succ n turn k)
  have HLN := Lib.hid (fun k => tlsUp_len n turn k)
  obtain ⟨t1, t2⟩ := hT
  go_enter Try.func43, Try.ntmps43
  go_wp2_with fail
  go_loopw [5, 11] (fun t i wr => ∃ (k : Nat) (v : Value), k ≤ n + 1 ∧ i = .int .i64 k ∧ v = t ∧ wr.ownsRow w.heap.size 60 3 v (tlsUp n turn k).length (tlC (tlsUp n turn k)) ∧ Below w.heap.size w wr) (fun _ i _ => n + 1 - (intOf i).toNat)
  case atStart => exact ⟨0, _, Nat.zero_le _, rfl, rfl, World.ownsRow_nil _ _ _ _, by go_grown⟩
  case round =>
    obtain ⟨k, v, hk, rfl, rfl, hO, hb⟩ := hrel
    have hz := hb.size
    have hlen := HLN.out k
    have hs := HS.out k
    have HO := Lib.hid hO
    have HB := Lib.hid hb
    clear hO hb
    by_cases hlt : k < n + 1
    · by_cases h1 : 0 ≤ (k : Int) + turn
      · by_cases h2 : 0 ≤ (n : Int) - ((k : Int) + turn) - (k : Int)
        · rw [if_pos ⟨h1, h2⟩] at hs
          have HSK := Lib.hid hs
          have hnews := World.news_of_block (heap_alloc_new wr (.cells #[.int .i64 ((n : Int) - ((k : Int) + turn) - (k : Int)), .int .i64 ((k : Int) + turn), .int .i64 (k : Int)] 60))
          have HOA := Lib.hid (HO.out.alloc (.cells #[.int .i64 ((n : Int) - ((k : Int) + turn) - (k : Int)), .int .i64 ((k : Int) + turn), .int .i64 (k : Int)] 60))
          clear hs
          go_wp2_with (at_builtin; refine wpList_append_own_at _ rfl _ _ 57 rfl w.heap.size 60 i0 (.agg #[.int .i64 0, .int .i64 0, .int .i64 0]) 3 24 Try.underlying57 hi iz0 iz1 iz2 rfl (by decide) v _ _ rfl HOA.out ⟨wr.heap.size, 0, none⟩ 1 1 [.int .i64 ((n : Int) - ((k : Int) + turn) - (k : Int)), .int .i64 ((k : Int) + turn), .int .i64 (k : Int)] rfl rfl hnews (by intro u hu; simp at hu; rcases hu with rfl | rfl | rfl <;> rfl) (by unfold maxLen; omega) (by omega) (by simp; omega) ?_; intro v' w4 hown' hgrow hnil hloc)
          have hlt' := HOA.out.lt
          have HB8 := Lib.hid ((HB.out.alloc hz (.cells #[.int .i64 ((n : Int) - ((k : Int) + turn) - (k : Int)), .int .i64 ((k : Int) + turn), .int .i64 (k : Int)] 60)).grown hgrow (by simp; omega) (fun k hk => (hlt' k hk).1))
          have HO8 := Lib.hid hown'
          clear hlt' hgrow hown' hnil hloc hnews
          go_roundw
          case rel => exact ⟨k + 1, v', by omega, by go_num, rfl, by rw [HSK.out, List.length_append, tlC_append]; exact HO8.out, HB8.out⟩
          case measure => simp [intOf]; omega
        · rw [if_neg (fun h => h2 h.2), List.append_nil] at hs
          have HSK := Lib.hid hs
          clear hs
          go_wp2_with fail
          go_roundw
          case rel => exact ⟨k + 1, v, by omega, by go_num, rfl, by rw [HSK.out]; exact HO.out, HB.out⟩
          case measure => simp [intOf]; omega
      · rw [if_neg (fun h => h1 h.1), List.append_nil] at hs
        have HSK := Lib.hid hs
        clear hs
        go_wp2_with fail
        go_roundw
        case rel => exact ⟨k + 1, v, by omega, by go_num, rfl, by rw [HSK.out]; exact HO.out, HB.out⟩
        case measure => simp [intOf]; omega
    · obtain rfl : k = n + 1 := by omega
      clear hs
      go_wp2_with fail
      go_ret
      exact ⟨v, rfl, by rw [HE.out]; exact HO.out, HB.out⟩

end Go.Proofs.Ytoenkgenoloihab

/- Contracts of the program: closed tracks counted by windings, and all together. -/
namespace Go.Proofs.Ytoenkgenoloihab
open Go Go.ChangeMaps Go.MapKept Go.ChangeShapes Go.WideShapes Go.ChangeAt Go.RowKit

set_option linter.unusedVariables false

def cbL (n : Nat) : List Int := [((cwn n (-8) : Nat) : Int), ((cwn n 0 : Nat) : Int), ((cwn n 8 : Nat) : Int)]

def cbB (n : Int) : Bool := inB n 1 14

def cbR (n : Int) : List Int := cond (cbB n) (cbL n.toNat) []

def csI (n : Int) : Int := (cbR n).sum

theorem cb_no {n : Int} (h : cbB n = false) : cbR n = [] := by simp [cbR, h]

theorem cb_yes {n : Int} (h : cbB n = true) : cbR n = cbL n.toNat := by simp [cbR, h]

theorem cb_num {n : Int} (h : cbB n = true) : ∃ m : Nat, n = m ∧ 0 < m ∧ m ≤ 14 := by
  have g1 : 1 ≤ n ∧ n ≤ 14 := by simpa [cbB, inB] using h
  exact ⟨n.toNat, by omega, by omega, by omega⟩

theorem CountByWinding_bd (n : Int) : (cbR n).length ≤ 1000000 := by
  cases h : cbB n
  · rw [cb_no h]; exact Nat.zero_le _
  · rw [cb_yes h]; exact (by decide : 3 ≤ 1000000)

theorem cw14 {n : Nat} (hn : n ≤ 14) (t : Int) : cwn n t ≤ 4782969 := Nat.le_trans (cwn_le n t) (Nat.pow_le_pow_right (by decide) hn)

def cwP (n : Nat) (turn : Int) (i : Nat) : Nat := (((tls n turn).take i).map fun t => cwt n t.1 t.2.1 t.2.2).sum

theorem cwP_next {n : Nat} {turn : Int} {i : Nat} {t : Int × Int × Int} (h : (tls n turn)[i]? = some t) : cwP n turn (i + 1) = cwP n turn i + cwt n t.1 t.2.1 t.2.2 := by
  rw [cwP, List.take_add_one, h]
  simp [cwP, List.map_append]

theorem cwP_end (n : Nat) (turn : Int) : cwP n turn (tls n turn).length = cwn n turn := by rw [cwP, List.take_length, tls_sum]

theorem cwP_le (n : Nat) (turn : Int) (i : Nat) : cwP n turn i ≤ cwn n turn := by
  rw [← tls_sum, cwP]
  conv => rhs; rw [← List.take_append_drop i (tls n turn), List.map_append, List.sum_append_nat]
  exact Nat.le_add_right _ _

theorem nmInfoW : (Try.prog.info? 3).map (fun i => (i.zero, i.size, i.bytes)) = some (some (.int .i64 0), 1, 8) := by kernel_rfl

set_option maxRecDepth 100000 in
set_option maxHeartbeats 6400000 in
theorem imCbw_any (n : Nat) (h0 : 0 < n) (hn : n ≤ 14) (w : World) : Calls Try.prog 16 #[.int .i64 (n : Nat)] w (NSPost (cbL n) true w) := by
  obtain ⟨i0, hi, iz0, iz1, iz2⟩ := info_parts nmInfoW
  have h1 : inB (n : Int) 1 14 = true := by simp [inB]; omega
  obtain ⟨m, hm⟩ : ∃ m, n / 2 = m := ⟨_, rfl⟩
  obtain ⟨k, hk⟩ : ∃ k, n - m = k := ⟨_, rfl⟩
  have hq : (n : Int).tdiv 2 = (m : Int) := by rw [Int.tdiv_eq_ediv_of_nonneg (by omega)]; omega
  have hs : (n : Int) - (m : Int) = (k : Int) := by omega
  have H1 := Lib.hid (fun w => halvesOf_any m (by omega) w)
  have H2 := Lib.hid (fun w => halvesOf_any k (by omega) w)
  have HT := Lib.hid (fun (turn : Int) (hT : -8 ≤ turn ∧ turn ≤ 8) w => talliesOf_any n hn turn hT w)
  have HCM := Lib.hid (fun ta tb tc ha hb hc bb bd m1 m2 w => by
    have := countMeeting_any m k (by omega) (by omega) ta tb tc ha hb hc bb bd m1 m2 w
    rwa [show m + k = n by omega] at this)
  have HW := Lib.hid (fun t => cw14 hn t)
  go_enter Try.func16, Try.ntmps16
  go_wp2_with (go_at_call 41; refine (isInRange_any _ _ _ _).mono ?_; rintro e w' ⟨rfl, rfl⟩)
  refine (H1.out _).mono ?_
  rintro e w1 ⟨b1, m1, rfl, hM1, hl1, _, hb1⟩
  have HB1 := Lib.hid hb1
  have HM1 := Lib.hid hM1
  clear hb1 hM1
  go_wp2_with fail
  refine (H2.out _).mono ?_
  rintro e w2 ⟨b2, m2, rfl, hM2, hl2, _, hb2⟩
  have HM12 := Lib.hid (HM1.out.below hb2)
  have HM2 := Lib.hid hM2
  have HB2 := Lib.hid (HB1.out.trans (hb2.mono HB1.out.size))
  clear hb2 hM2
  go_wp2_with fail
  go_loopw [6, 7] (fun t i wr => ∃ (c : Nat) (v : Value), c ≤ 3 ∧ i = .int .i64 ((c : Int) - 1) ∧ v = t ∧ wr.ownsRow w2.heap.size 3 1 v c (((cbL n).take c).map (Value.int .i64)) ∧ HvAt wr b1 m1 (hcn (hvs m)) ∧ HvAt wr b2 m2 (hcn (hvs k)) ∧ Below w2.heap.size w2 wr) (fun _ i _ => (2 - intOf i).toNat)
  case atStart => exact ⟨0, _, by omega, rfl, rfl, World.ownsRow_nil _ _ _ _, HM12.out, HM2.out, Below.refl _ _⟩
  case round =>
    obtain ⟨c, v, hc3, rfl, rfl, hO, hA, hD, hb⟩ := hrel
    have hzr := hb.size
    by_cases hlt : c < 3
    · have hc : c = 0 ∨ c = 1 ∨ c = 2 := by omega
      rcases hc with rfl | rfl | rfl
      · rw [show ((((0 : Nat) : Int)) - 1) = -1 from rfl]
        have TL := Lib.hid (HT.out (-8) (by decide))
        have PN := Lib.hid (fun i t (h : (tls n (-8))[i]? = some t) => And.intro (cwP_next h) (tls_ok (by decide) (List.mem_of_getElem? h)))
        have PE := Lib.hid (cwP_end n (-8))
        have PL := Lib.hid (fun i => show cwP n (-8) i ≤ 4782969 from Nat.le_trans (cwP_le n (-8) i) (HW.out (-8)))
        have P0 := Lib.hid (show cwP n (-8) 0 = 0 by simp [cwP])
        have hNb : (tls n (-8)).length ≤ n + 1 := tlsUp_len n (-8) (n + 1)
        have HCB := Lib.hid (show ((cbL n).take (0 + 1)).map (Value.int .i64) = ((cbL n).take 0).map (Value.int .i64) ++ [.int .i64 (cwn n (-8) : Nat)] from rfl)
        generalize tls n (-8) = tl at *
        obtain ⟨N, hN⟩ : ∃ N, tl.length = N := ⟨_, rfl⟩
        have HN := Lib.hid hN
        rw [hN] at PE hNb
        have HO := Lib.hid hO
        have HA := Lib.hid hA
        have HD := Lib.hid hD
        have HB := Lib.hid hb
        clear hN hO hA hD hb
        go_wp2_with fail
        refine (TL.out _).mono ?_
        rintro e w3 ⟨vt, rfl, hOt, hb3⟩
        rw [HN.out] at hOt
        obtain ⟨av, cv, rfl⟩ := own_formC hOt
        have HOT := Lib.hid hOt
        have HO3 := Lib.hid (HO.out.kept (below_grown hb3) (by cases v.ownBlock <;> simp))
        have HA3 := Lib.hid (HA.out.below hb3)
        have HD3 := Lib.hid (HD.out.below hb3)
        have HB3 := Lib.hid (HB.out.trans (hb3.mono hzr))
        have hz3 := hb3.size
        clear hOt hb3
        go_wp2_with fail
        go_loopw [8, 31] (fun t i wr => ∃ j : Nat, j ≤ N ∧ i = .int .i64 j ∧ t = .int .i64 (cwP n (-8) j : Nat) ∧ HvAt wr b1 m1 (hcn (hvs m)) ∧ HvAt wr b2 m2 (hcn (hvs k)) ∧ Below w3.heap.size w3 wr) (fun _ i _ => N - (intOf i).toNat)
        case atStart => exact ⟨0, Nat.zero_le _, rfl, by rw [P0.out]; rfl, HA3.out, HD3.out, Below.refl _ _⟩
        case round =>
          obtain ⟨j, hj, rfl, rfl, hA, hD, hb⟩ := hrel
          have hzj := hb.size
          by_cases hlj : j < N
          · obtain ⟨t, ht⟩ : ∃ t, tl[j]? = some t := ⟨_, List.getElem?_eq_getElem (by rw [HN.out]; exact hlj)⟩
            obtain ⟨hnx, ⟨a0, a1⟩, ⟨b0, b0'⟩, ⟨c0, c0'⟩⟩ := PN.out j t ht
            obtain ⟨g, rfl⟩ : ∃ g, av = some ⟨g, 0, none⟩ := by
              rcases HOT.out.2 with ⟨h, h0⟩ | ⟨g, cap, _, h, _⟩
              · omega
              · injection h with h; exact ⟨g, h⟩
            obtain ⟨d0, d1, d2⟩ := tl_at HOT.out HN.out ht
            have hgl := (HOT.out.lt g rfl).2
            rw [← hb.cell (p := ⟨g, j * 3, none⟩) hgl] at d0
            rw [← hb.cell (p := ⟨g, j * 3 + 1, none⟩) hgl] at d1
            rw [← hb.cell (p := ⟨g, j * 3 + 2, none⟩) hgl] at d2
            obtain ⟨ta, tb, tc⟩ := t
            simp only at hnx a0 a1 b0 b0' c0 c0' d0 d1 d2
            have hpl := PL.out (j + 1)
            rw [hnx] at hpl
            have CM := Lib.hid (fun w => HCM.out ta tb tc ⟨a0, by omega⟩ ⟨b0, by omega⟩ ⟨c0, by omega⟩ b1 b2 m1 m2 w)
            generalize cwt n ta tb tc = q at *
            have HNX := Lib.hid hnx
            obtain ⟨s0, hs0⟩ : ∃ s0, cwP n (-8) j = s0 := ⟨_, rfl⟩
            rw [hs0] at HNX hpl ⊢
            have hA1 := Lib.hid (hA.kept (World.grownBy_alloc wr (.cells #[.int .i64 ta, .int .i64 tb, .int .i64 tc] 60) none) (by simp))
            have hD1 := Lib.hid (hD.kept (World.grownBy_alloc wr (.cells #[.int .i64 ta, .int .i64 tb, .int .i64 tc] 60) none) (by simp))
            have HBj := Lib.hid (hb.alloc hzj (.cells #[.int .i64 ta, .int .i64 tb, .int .i64 tc] 60))
            clear hA hD hb ht hs0 hnx
            go_wp2_with fail
            refine (CM.out _ hA1.out hD1.out).mono ?_
            rintro e w4 ⟨rfl, hb4⟩
            have HA4 := Lib.hid (hA1.out.below hb4)
            have HD4 := Lib.hid (hD1.out.below hb4)
            have HB4 := Lib.hid (HBj.out.trans (hb4.mono HBj.out.size))
            clear hb4
            go_wp2_with fail
            go_roundw
            case rel => exact ⟨j + 1, by omega, by go_num, by rw [HNX.out]; go_num, HA4.out, HD4.out, HB4.out⟩
            case measure => simp [intOf]; omega
          · obtain rfl : j = N := by omega
            rw [PE.out]
            have hcb := HW.out (-8)
            obtain ⟨q, hq⟩ : ∃ q, cwn n (-8) = q := ⟨_, rfl⟩
            rw [hq]
            have HQ := Lib.hid hq
            have HA4 := Lib.hid (hA.kept (World.grownBy_alloc wr (.cells #[.int .i64 (q : Nat)] 3) none) (by simp))
            have HD4 := Lib.hid (hD.kept (World.grownBy_alloc wr (.cells #[.int .i64 (q : Nat)] 3) none) (by simp))
            have HO4 := Lib.hid ((HO3.out.kept (below_grown hb) (by cases v.ownBlock <;> simp)).alloc (.cells #[.int .i64 (q : Nat)] 3))
            have HB4 := Lib.hid ((HB3.out.trans (hb.mono (by omega))).alloc (by omega) (.cells #[.int .i64 (q : Nat)] 3))
            have hnA : v.ownBlock ≠ some b1 := fun e => by have h1 := (HO.out.lt b1 e).1; have h2 := HM12.out.lt; omega
            have hnD : v.ownBlock ≠ some b2 := fun e => by have h1 := (HO.out.lt b2 e).1; have h2 := HM2.out.lt; omega
            clear hA hD hb hq
            go_wp2_with (at_builtin; refine wpList_append_own_at _ rfl _ _ 28 rfl w2.heap.size 3 i0 (.int .i64 0) 1 8 Try.underlying28 hi iz0 iz1 iz2 rfl (by decide) v _ _ rfl HO4.out ⟨wr.heap.size, 0, none⟩ 1 1 [.int .i64 (q : Nat)] rfl rfl (cell_one_new _ _ _) (by intro u hu; simp at hu; subst hu; rfl) (by unfold maxLen; omega) (by omega) (by simp; omega) ?_; intro v' w5 hown' hgrow hnil hloc)
            have hlt' := HO4.out.lt
            have HA5 := Lib.hid (HA4.out.kept hgrow (fun e => hnA e.symm))
            have HD5 := Lib.hid (HD4.out.kept hgrow (fun e => hnD e.symm))
            have HB5 := Lib.hid (HB4.out.grown hgrow (by simp; omega) (fun k hk => (hlt' k hk).1))
            have HO5 := Lib.hid hown'
            clear hlt' hgrow hown' hnil hloc
            go_roundw
            case rel => exact ⟨0 + 1, v', by omega, by go_num, rfl, by rw [HCB.out, HQ.out]; exact HO5.out, HA5.out, HD5.out, HB5.out⟩
            case measure => simp [intOf]
      · rw [show ((((1 : Nat) : Int)) - 1) = 0 from rfl]
        have TL := Lib.hid (HT.out (0) (by decide))
        have PN := Lib.hid (fun i t (h : (tls n (0))[i]? = some t) => And.intro (cwP_next h) (tls_ok (by decide) (List.mem_of_getElem? h)))
        have PE := Lib.hid (cwP_end n (0))
        have PL := Lib.hid (fun i => show cwP n (0) i ≤ 4782969 from Nat.le_trans (cwP_le n (0) i) (HW.out (0)))
        have P0 := Lib.hid (show cwP n (0) 0 = 0 by simp [cwP])
        have hNb : (tls n (0)).length ≤ n + 1 := tlsUp_len n (0) (n + 1)
        have HCB := Lib.hid (show ((cbL n).take (1 + 1)).map (Value.int .i64) = ((cbL n).take 1).map (Value.int .i64) ++ [.int .i64 (cwn n (0) : Nat)] from rfl)
        generalize tls n (0) = tl at *
        obtain ⟨N, hN⟩ : ∃ N, tl.length = N := ⟨_, rfl⟩
        have HN := Lib.hid hN
        rw [hN] at PE hNb
        have HO := Lib.hid hO
        have HA := Lib.hid hA
        have HD := Lib.hid hD
        have HB := Lib.hid hb
        clear hN hO hA hD hb
        go_wp2_with fail
        refine (TL.out _).mono ?_
        rintro e w3 ⟨vt, rfl, hOt, hb3⟩
        rw [HN.out] at hOt
        obtain ⟨av, cv, rfl⟩ := own_formC hOt
        have HOT := Lib.hid hOt
        have HO3 := Lib.hid (HO.out.kept (below_grown hb3) (by cases v.ownBlock <;> simp))
        have HA3 := Lib.hid (HA.out.below hb3)
        have HD3 := Lib.hid (HD.out.below hb3)
        have HB3 := Lib.hid (HB.out.trans (hb3.mono hzr))
        have hz3 := hb3.size
        clear hOt hb3
        go_wp2_with fail
        go_loopw [8, 31] (fun t i wr => ∃ j : Nat, j ≤ N ∧ i = .int .i64 j ∧ t = .int .i64 (cwP n (0) j : Nat) ∧ HvAt wr b1 m1 (hcn (hvs m)) ∧ HvAt wr b2 m2 (hcn (hvs k)) ∧ Below w3.heap.size w3 wr) (fun _ i _ => N - (intOf i).toNat)
        case atStart => exact ⟨0, Nat.zero_le _, rfl, by rw [P0.out]; rfl, HA3.out, HD3.out, Below.refl _ _⟩
        case round =>
          obtain ⟨j, hj, rfl, rfl, hA, hD, hb⟩ := hrel
          have hzj := hb.size
          by_cases hlj : j < N
          · obtain ⟨t, ht⟩ : ∃ t, tl[j]? = some t := ⟨_, List.getElem?_eq_getElem (by rw [HN.out]; exact hlj)⟩
            obtain ⟨hnx, ⟨a0, a1⟩, ⟨b0, b0'⟩, ⟨c0, c0'⟩⟩ := PN.out j t ht
            obtain ⟨g, rfl⟩ : ∃ g, av = some ⟨g, 0, none⟩ := by
              rcases HOT.out.2 with ⟨h, h0⟩ | ⟨g, cap, _, h, _⟩
              · omega
              · injection h with h; exact ⟨g, h⟩
            obtain ⟨d0, d1, d2⟩ := tl_at HOT.out HN.out ht
            have hgl := (HOT.out.lt g rfl).2
            rw [← hb.cell (p := ⟨g, j * 3, none⟩) hgl] at d0
            rw [← hb.cell (p := ⟨g, j * 3 + 1, none⟩) hgl] at d1
            rw [← hb.cell (p := ⟨g, j * 3 + 2, none⟩) hgl] at d2
            obtain ⟨ta, tb, tc⟩ := t
            simp only at hnx a0 a1 b0 b0' c0 c0' d0 d1 d2
            have hpl := PL.out (j + 1)
            rw [hnx] at hpl
            have CM := Lib.hid (fun w => HCM.out ta tb tc ⟨a0, by omega⟩ ⟨b0, by omega⟩ ⟨c0, by omega⟩ b1 b2 m1 m2 w)
            generalize cwt n ta tb tc = q at *
            have HNX := Lib.hid hnx
            obtain ⟨s0, hs0⟩ : ∃ s0, cwP n (0) j = s0 := ⟨_, rfl⟩
            rw [hs0] at HNX hpl ⊢
            have hA1 := Lib.hid (hA.kept (World.grownBy_alloc wr (.cells #[.int .i64 ta, .int .i64 tb, .int .i64 tc] 60) none) (by simp))
            have hD1 := Lib.hid (hD.kept (World.grownBy_alloc wr (.cells #[.int .i64 ta, .int .i64 tb, .int .i64 tc] 60) none) (by simp))
            have HBj := Lib.hid (hb.alloc hzj (.cells #[.int .i64 ta, .int .i64 tb, .int .i64 tc] 60))
            clear hA hD hb ht hs0 hnx
            go_wp2_with fail
            refine (CM.out _ hA1.out hD1.out).mono ?_
            rintro e w4 ⟨rfl, hb4⟩
            have HA4 := Lib.hid (hA1.out.below hb4)
            have HD4 := Lib.hid (hD1.out.below hb4)
            have HB4 := Lib.hid (HBj.out.trans (hb4.mono HBj.out.size))
            clear hb4
            go_wp2_with fail
            go_roundw
            case rel => exact ⟨j + 1, by omega, by go_num, by rw [HNX.out]; go_num, HA4.out, HD4.out, HB4.out⟩
            case measure => simp [intOf]; omega
          · obtain rfl : j = N := by omega
            rw [PE.out]
            have hcb := HW.out (0)
            obtain ⟨q, hq⟩ : ∃ q, cwn n (0) = q := ⟨_, rfl⟩
            rw [hq]
            have HQ := Lib.hid hq
            have HA4 := Lib.hid (hA.kept (World.grownBy_alloc wr (.cells #[.int .i64 (q : Nat)] 3) none) (by simp))
            have HD4 := Lib.hid (hD.kept (World.grownBy_alloc wr (.cells #[.int .i64 (q : Nat)] 3) none) (by simp))
            have HO4 := Lib.hid ((HO3.out.kept (below_grown hb) (by cases v.ownBlock <;> simp)).alloc (.cells #[.int .i64 (q : Nat)] 3))
            have HB4 := Lib.hid ((HB3.out.trans (hb.mono (by omega))).alloc (by omega) (.cells #[.int .i64 (q : Nat)] 3))
            have hnA : v.ownBlock ≠ some b1 := fun e => by have h1 := (HO.out.lt b1 e).1; have h2 := HM12.out.lt; omega
            have hnD : v.ownBlock ≠ some b2 := fun e => by have h1 := (HO.out.lt b2 e).1; have h2 := HM2.out.lt; omega
            clear hA hD hb hq
            go_wp2_with (at_builtin; refine wpList_append_own_at _ rfl _ _ 28 rfl w2.heap.size 3 i0 (.int .i64 0) 1 8 Try.underlying28 hi iz0 iz1 iz2 rfl (by decide) v _ _ rfl HO4.out ⟨wr.heap.size, 0, none⟩ 1 1 [.int .i64 (q : Nat)] rfl rfl (cell_one_new _ _ _) (by intro u hu; simp at hu; subst hu; rfl) (by unfold maxLen; omega) (by omega) (by simp; omega) ?_; intro v' w5 hown' hgrow hnil hloc)
            have hlt' := HO4.out.lt
            have HA5 := Lib.hid (HA4.out.kept hgrow (fun e => hnA e.symm))
            have HD5 := Lib.hid (HD4.out.kept hgrow (fun e => hnD e.symm))
            have HB5 := Lib.hid (HB4.out.grown hgrow (by simp; omega) (fun k hk => (hlt' k hk).1))
            have HO5 := Lib.hid hown'
            clear hlt' hgrow hown' hnil hloc
            go_roundw
            case rel => exact ⟨1 + 1, v', by omega, by go_num, rfl, by rw [HCB.out, HQ.out]; exact HO5.out, HA5.out, HD5.out, HB5.out⟩
            case measure => simp [intOf]
      · rw [show ((((2 : Nat) : Int)) - 1) = 1 from rfl]
        have TL := Lib.hid (HT.out (8) (by decide))
        have PN := Lib.hid (fun i t (h : (tls n (8))[i]? = some t) => And.intro (cwP_next h) (tls_ok (by decide) (List.mem_of_getElem? h)))
        have PE := Lib.hid (cwP_end n (8))
        have PL := Lib.hid (fun i => show cwP n (8) i ≤ 4782969 from Nat.le_trans (cwP_le n (8) i) (HW.out (8)))
        have P0 := Lib.hid (show cwP n (8) 0 = 0 by simp [cwP])
        have hNb : (tls n (8)).length ≤ n + 1 := tlsUp_len n (8) (n + 1)
        have HCB := Lib.hid (show ((cbL n).take (2 + 1)).map (Value.int .i64) = ((cbL n).take 2).map (Value.int .i64) ++ [.int .i64 (cwn n (8) : Nat)] from rfl)
        generalize tls n (8) = tl at *
        obtain ⟨N, hN⟩ : ∃ N, tl.length = N := ⟨_, rfl⟩
        have HN := Lib.hid hN
        rw [hN] at PE hNb
        have HO := Lib.hid hO
        have HA := Lib.hid hA
        have HD := Lib.hid hD
        have HB := Lib.hid hb
        clear hN hO hA hD hb
        go_wp2_with fail
        refine (TL.out _).mono ?_
        rintro e w3 ⟨vt, rfl, hOt, hb3⟩
        rw [HN.out] at hOt
        obtain ⟨av, cv, rfl⟩ := own_formC hOt
        have HOT := Lib.hid hOt
        have HO3 := Lib.hid (HO.out.kept (below_grown hb3) (by cases v.ownBlock <;> simp))
        have HA3 := Lib.hid (HA.out.below hb3)
        have HD3 := Lib.hid (HD.out.below hb3)
        have HB3 := Lib.hid (HB.out.trans (hb3.mono hzr))
        have hz3 := hb3.size
        clear hOt hb3
        go_wp2_with fail
        go_loopw [8, 31] (fun t i wr => ∃ j : Nat, j ≤ N ∧ i = .int .i64 j ∧ t = .int .i64 (cwP n (8) j : Nat) ∧ HvAt wr b1 m1 (hcn (hvs m)) ∧ HvAt wr b2 m2 (hcn (hvs k)) ∧ Below w3.heap.size w3 wr) (fun _ i _ => N - (intOf i).toNat)
        case atStart => exact ⟨0, Nat.zero_le _, rfl, by rw [P0.out]; rfl, HA3.out, HD3.out, Below.refl _ _⟩
        case round =>
          obtain ⟨j, hj, rfl, rfl, hA, hD, hb⟩ := hrel
          have hzj := hb.size
          by_cases hlj : j < N
          · obtain ⟨t, ht⟩ : ∃ t, tl[j]? = some t := ⟨_, List.getElem?_eq_getElem (by rw [HN.out]; exact hlj)⟩
            obtain ⟨hnx, ⟨a0, a1⟩, ⟨b0, b0'⟩, ⟨c0, c0'⟩⟩ := PN.out j t ht
            obtain ⟨g, rfl⟩ : ∃ g, av = some ⟨g, 0, none⟩ := by
              rcases HOT.out.2 with ⟨h, h0⟩ | ⟨g, cap, _, h, _⟩
              · omega
              · injection h with h; exact ⟨g, h⟩
            obtain ⟨d0, d1, d2⟩ := tl_at HOT.out HN.out ht
            have hgl := (HOT.out.lt g rfl).2
            rw [← hb.cell (p := ⟨g, j * 3, none⟩) hgl] at d0
            rw [← hb.cell (p := ⟨g, j * 3 + 1, none⟩) hgl] at d1
            rw [← hb.cell (p := ⟨g, j * 3 + 2, none⟩) hgl] at d2
            obtain ⟨ta, tb, tc⟩ := t
            simp only at hnx a0 a1 b0 b0' c0 c0' d0 d1 d2
            have hpl := PL.out (j + 1)
            rw [hnx] at hpl
            have CM := Lib.hid (fun w => HCM.out ta tb tc ⟨a0, by omega⟩ ⟨b0, by omega⟩ ⟨c0, by omega⟩ b1 b2 m1 m2 w)
            generalize cwt n ta tb tc = q at *
            have HNX := Lib.hid hnx
            obtain ⟨s0, hs0⟩ : ∃ s0, cwP n (8) j = s0 := ⟨_, rfl⟩
            rw [hs0] at HNX hpl ⊢
            have hA1 := Lib.hid (hA.kept (World.grownBy_alloc wr (.cells #[.int .i64 ta, .int .i64 tb, .int .i64 tc] 60) none) (by simp))
            have hD1 := Lib.hid (hD.kept (World.grownBy_alloc wr (.cells #[.int .i64 ta, .int .i64 tb, .int .i64 tc] 60) none) (by simp))
            have HBj := Lib.hid (hb.alloc hzj (.cells #[.int .i64 ta, .int .i64 tb, .int .i64 tc] 60))
            clear hA hD hb ht hs0 hnx
            go_wp2_with fail
            refine (CM.out _ hA1.out hD1.out).mono ?_
            rintro e w4 ⟨rfl, hb4⟩
            have HA4 := Lib.hid (hA1.out.below hb4)
            have HD4 := Lib.hid (hD1.out.below hb4)
            have HB4 := Lib.hid (HBj.out.trans (hb4.mono HBj.out.size))
            clear hb4
            go_wp2_with fail
            go_roundw
            case rel => exact ⟨j + 1, by omega, by go_num, by rw [HNX.out]; go_num, HA4.out, HD4.out, HB4.out⟩
            case measure => simp [intOf]; omega
          · obtain rfl : j = N := by omega
            rw [PE.out]
            have hcb := HW.out (8)
            obtain ⟨q, hq⟩ : ∃ q, cwn n (8) = q := ⟨_, rfl⟩
            rw [hq]
            have HQ := Lib.hid hq
            have HA4 := Lib.hid (hA.kept (World.grownBy_alloc wr (.cells #[.int .i64 (q : Nat)] 3) none) (by simp))
            have HD4 := Lib.hid (hD.kept (World.grownBy_alloc wr (.cells #[.int .i64 (q : Nat)] 3) none) (by simp))
            have HO4 := Lib.hid ((HO3.out.kept (below_grown hb) (by cases v.ownBlock <;> simp)).alloc (.cells #[.int .i64 (q : Nat)] 3))
            have HB4 := Lib.hid ((HB3.out.trans (hb.mono (by omega))).alloc (by omega) (.cells #[.int .i64 (q : Nat)] 3))
            have hnA : v.ownBlock ≠ some b1 := fun e => by have h1 := (HO.out.lt b1 e).1; have h2 := HM12.out.lt; omega
            have hnD : v.ownBlock ≠ some b2 := fun e => by have h1 := (HO.out.lt b2 e).1; have h2 := HM2.out.lt; omega
            clear hA hD hb hq
            go_wp2_with (at_builtin; refine wpList_append_own_at _ rfl _ _ 28 rfl w2.heap.size 3 i0 (.int .i64 0) 1 8 Try.underlying28 hi iz0 iz1 iz2 rfl (by decide) v _ _ rfl HO4.out ⟨wr.heap.size, 0, none⟩ 1 1 [.int .i64 (q : Nat)] rfl rfl (cell_one_new _ _ _) (by intro u hu; simp at hu; subst hu; rfl) (by unfold maxLen; omega) (by omega) (by simp; omega) ?_; intro v' w5 hown' hgrow hnil hloc)
            have hlt' := HO4.out.lt
            have HA5 := Lib.hid (HA4.out.kept hgrow (fun e => hnA e.symm))
            have HD5 := Lib.hid (HD4.out.kept hgrow (fun e => hnD e.symm))
            have HB5 := Lib.hid (HB4.out.grown hgrow (by simp; omega) (fun k hk => (hlt' k hk).1))
            have HO5 := Lib.hid hown'
            clear hlt' hgrow hown' hnil hloc
            go_roundw
            case rel => exact ⟨2 + 1, v', by omega, by go_num, rfl, by rw [HCB.out, HQ.out]; exact HO5.out, HA5.out, HD5.out, HB5.out⟩
            case measure => simp [intOf]
    · obtain rfl : c = 3 := by omega
      have HO := Lib.hid (own_lessP hO HB2.out.size)
      have HB := Lib.hid (HB2.out.trans (hb.mono HB2.out.size))
      obtain ⟨av', cv', rfl⟩ := own_formC hO
      clear hO hA hD hb
      go_wp2_with fail
      go_ret2
      exact ⟨_, rfl, HO.out, HB.out⟩

end Go.Proofs.Ytoenkgenoloihab

/- Contract of the model: closed tracks counted by windings. -/
namespace Go.Proofs.Ytoenkgenoloihab
open Go Go.ChangeMaps Go.MapKept Go.ChangeShapes Go.WideShapes Go.ChangeAt Go.RowKit

set_option linter.unusedVariables false

theorem mk3 (w : World) : (Instr.makeSlice 28 (.int .i64 3) (.int .i64 3)).run Try.prog w = .ok (.slice (some ⟨w.heap.size, 0, none⟩) 3 3) (w.alloc (.cells #[.int .i64 0, .int .i64 0, .int .i64 0] 3)) := by kernel_rfl

theorem keC_perm {xs ys : List Int} (h : ys.Perm xs) (k : Int) : keC ys k = keC xs k := h.countP_eq _

theorem bwn_le (l : List (List UInt8)) (b : Nat) (hb : b ≤ 7) (W : Int) : bwn l b W ≤ l.length * 2187 := by
  refine sum_le _ 2187 l fun w _ => ?_
  refine Nat.le_trans (keC_le _ _) ?_
  rw [bkL, List.length_map, words_count]
  exact Nat.pow_le_pow_right (by decide) hb

/-- The block after c of the three counts. -/
def rw3 (c : Nat) (x0 x1 x2 y0 y1 y2 : Nat) : Array Value := #[.int .i64 ((if 0 < c then y0 else x0 : Nat) : Int), .int .i64 ((if 1 < c then y1 else x1 : Nat) : Int), .int .i64 ((if 2 < c then y2 else x2 : Nat) : Int)]

set_option maxRecDepth 100000 in
set_option maxHeartbeats 12800000 in
theorem spCbw_any (n : Nat) (h0 : 0 < n) (hn : n ≤ 14) (w : World) : Calls Try.prog 15 #[.int .i64 (n : Nat)] w (NSPost (cbL n) true w) := by
  have CN := Lib.hid (clNumber_any (n : Int))
  rw [show inB (n : Int) 1 14 = true by simp [inB]; omega] at CN
  obtain ⟨b, hb⟩ : ∃ b, n / 2 = b := ⟨_, rfl⟩
  obtain ⟨a, ha⟩ : ∃ a, n - b = a := ⟨_, rfl⟩
  have hq : (n : Int).tdiv 2 = (b : Int) := by rw [Int.tdiv_eq_ediv_of_nonneg (by omega)]; omega
  have hs : (n : Int) - (b : Int) = (a : Int) := by omega
  have BK := Lib.hid (clBacks_any b (by omega))
  have WD := Lib.hid (clWords_any a (by omega))
  have hmk := mk3
  have HW0 := Lib.hid (show bwn (words a) b (-8) = cwn n (-8) by rw [bwn_eq (by omega) (by omega) (.inl rfl), show a + b = n by omega])
  have HW1 := Lib.hid (show bwn (words a) b 0 = cwn n 0 by rw [bwn_eq (by omega) (by omega) (.inr (.inl rfl)), show a + b = n by omega])
  have HW2 := Lib.hid (show bwn (words a) b 8 = cwn n 8 by rw [bwn_eq (by omega) (by omega) (.inr (.inr rfl)), show a + b = n by omega])
  have hwl := words_count a
  have ha7 : 3 ^ a ≤ 2187 := Nat.pow_le_pow_right (by decide) (show a ≤ 7 by omega)
  have HWD := Lib.hid (fun u (hu : u ∈ words a) => show u.all pcb = true ∧ u.length ≤ 7 from ⟨words_pcb a u hu, by rw [words_len a u hu]; omega⟩)
  have HBL := Lib.hid (fun l W (hl : l.length ≤ 2187) => show bwn l b W ≤ 5000000 by have := bwn_le l b (by omega) W; omega)
  have hbk : (bkL b).length ≤ 5000 := by
    rw [bkL, List.length_map, words_count]
    exact Nat.le_trans (Nat.pow_le_pow_right (by decide) (show b ≤ 7 by omega)) (by decide)
  generalize words a = l at *
  obtain ⟨N, hN⟩ : ∃ N, l.length = N := ⟨_, rfl⟩
  have HN := Lib.hid hN
  rw [← hwl, hN] at ha7
  clear hwl hN
  go_enter Try.func15, Try.ntmps15
  go_wp2_with (go_at_call 36; refine (CN.out _).mono ?_; rintro e w' ⟨rfl, rfl⟩)
  refine (BK.out _).mono ?_
  rintro e w1 ⟨vb, ys, rfl, hiv, hperm, hsort, hb1⟩
  have hyl : ys.length ≤ 5000 := by rw [hperm.length_eq]; exact hbk
  have hpos : 0 < ys.length := by rw [hperm.length_eq, bkL, List.length_map, words_count]; exact Nat.pow_pos (by decide)
  have HPM := Lib.hid (fun k => keC_perm hperm k)
  have HCK := Lib.hid (fun p turn whole t0 t1 u0 u1 hsm w hv => clCount_any ys hyl hsort vb p turn whole t0 t1 u0 u1 hsm w hv)
  have HIV1 := Lib.hid hiv
  have HB1 := Lib.hid hb1
  clear hiv hperm hsort hb1
  go_wp2_with fail
  refine (WD.out _).mono ?_
  rintro e w3 ⟨vw, rfl, oW, hb3⟩
  rw [HN.out] at oW
  obtain ⟨av, cv, rfl⟩ := own_formC oW
  have hnew := heap_alloc_new w1 (.cells #[.int .i64 0, .int .i64 0, .int .i64 0] 3)
  have HO3 := Lib.hid ((hb3.block w1.heap.size (by simp)).trans hnew)
  have hBA : Below w1.heap.size w1 w3 := ((Below.refl w1.heap.size w1).alloc (Nat.le_refl _) (.cells #[.int .i64 0, .int .i64 0, .int .i64 0] 3)).trans (hb3.mono (by simp))
  have HIV3 := Lib.hid (HIV1.out.below hBA)
  have HB3 := Lib.hid (HB1.out.trans (hBA.mono HB1.out.size))
  have HOW := Lib.hid oW
  have hol3 : w1.heap.size < w3.heap.size := (Array.getElem?_eq_some_iff.1 HO3.out).1
  have hvo : ∀ k, vb.ownBlock = some k → k ≠ w1.heap.size := fun k hk e => by
    obtain ⟨av, cap, rfl, _, _, h⟩ := HIV1.out
    rcases h with h | ⟨g, o, rfl, hg, _⟩
    · subst h; simp at hpos
    · simp [Value.ownBlock] at hk; omega
  have hwo : ∀ g, av = some ⟨g, 0, none⟩ → w1.heap.size < g := fun g hg => by subst hg; have := (HOW.out.lt g rfl).1; simp at this; omega
  obtain ⟨o, ho⟩ : ∃ o, w1.heap.size = o := ⟨_, rfl⟩
  have HO := Lib.hid ho
  rw [ho] at HO3 hol3 hvo hwo ⊢
  clear oW hb3 hnew hBA ho
  go_wp2_with fail
  go_loopw [24] (fun i wr => ∃ j : Nat, j ≤ N ∧ i = .int .i64 j ∧ wr.heap[o]? = some (.cells #[.int .i64 (bwn (l.take j) b (-8) : Nat), .int .i64 (bwn (l.take j) b 0 : Nat), .int .i64 (bwn (l.take j) b 8 : Nat)] 3 (0, 0)) ∧ w3.grownBy wr (some o)) (fun i _ => N - (intOf i).toNat)
  case atStart => exact ⟨0, Nat.zero_le _, rfl, HO3.out, World.grownBy.refl _ _⟩
  case round =>
    obtain ⟨j, hj, rfl, hO, hgr⟩ := hrel
    have hzr := hgr.size
    by_cases hlj : j < N
    · obtain ⟨u, hu⟩ : ∃ u, l[j]? = some u := ⟨_, List.getElem?_eq_getElem (by rw [HN.out]; exact hlj)⟩
      obtain ⟨hup, hul⟩ := HWD.out u (List.mem_of_getElem? hu)
      obtain ⟨g, rfl⟩ : ∃ g, av = some ⟨g, 0, none⟩ := by
        rcases HOW.out.2 with ⟨h, h0⟩ | ⟨g, cap, _, h, _⟩
        · omega
        · injection h with h; exact ⟨g, h⟩
      have c0 := hgr.cell (str_of HOW.out HN.out j u hu) (by have := hwo g rfl; simp; omega)
      have CE := Lib.hid (clEnd_any u hup (by omega) 0 (by decide) (by decide))
      have t1 := trW_bd u 7 (by omega)
      have HSM := Lib.hid (fun W (h1 : -8 ≤ W) (h2 : W ≤ 8) => show smK (fin sp0 u) (trW u - W) from fin_sm 0 (by decide) (by decide) u (by omega) _ (by omega) (by omega))
      have HY0 := Lib.hid (bwn_next (b := b) (W := -8) hu).symm
      have HY1 := Lib.hid (bwn_next (b := b) (W := 0) hu).symm
      have HY2 := Lib.hid (bwn_next (b := b) (W := 8) hu).symm
      have hl1 : (l.take j).length ≤ 2187 := Nat.le_trans (List.length_take_le _ _) (by omega)
      have hl2 : (l.take (j + 1)).length ≤ 2187 := Nat.le_trans (List.length_take_le _ _) (by omega)
      have q0 := HBL.out _ (-8) hl2
      have q1 := HBL.out _ 0 hl2
      have q2 := HBL.out _ 8 hl2
      rw [← HY0.out] at q0
      rw [← HY1.out] at q1
      rw [← HY2.out] at q2
      have HCC := Lib.hid (fun W (h1 : -8 ≤ W) (h2 : W ≤ 8) w hv => HCK.out (fin sp0 u) (trW u) W (by omega) (by omega) (by omega) (by omega) (HSM.out W h1 h2) w hv)
      have HE0 := Lib.hid (HPM.out (keyI (fin sp0 u) (trW u - -8)))
      have HE1 := Lib.hid (HPM.out (keyI (fin sp0 u) (trW u - 0)))
      have HE2 := Lib.hid (HPM.out (keyI (fin sp0 u) (trW u - 8)))
      generalize hy0 : bwn (l.take (j + 1)) b (-8) = y0 at *
      have HYE0 := Lib.hid hy0
      clear hy0
      generalize hy1 : bwn (l.take (j + 1)) b 0 = y1 at *
      have HYE1 := Lib.hid hy1
      clear hy1
      generalize hy2 : bwn (l.take (j + 1)) b 8 = y2 at *
      have HYE2 := Lib.hid hy2
      clear hy2
      generalize bwn (l.take j) b (-8) = x0 at *
      generalize bwn (l.take j) b 0 = x1 at *
      generalize bwn (l.take j) b 8 = x2 at *
      generalize keC (bkL b) (keyI (fin sp0 u) (trW u - -8)) = z0 at *
      generalize keC (bkL b) (keyI (fin sp0 u) (trW u - 0)) = z1 at *
      generalize keC (bkL b) (keyI (fin sp0 u) (trW u - 8)) = z2 at *
      obtain ⟨p, hp⟩ : ∃ p, fin sp0 u = p := ⟨_, rfl⟩
      obtain ⟨tr, htr⟩ : ∃ tr, trW u = tr := ⟨_, rfl⟩
      have CE2 := Lib.hid (show ∀ w, Calls Try.prog 39 #[.string (ofL u), .int .i64 0] w fun e w' => e = .returned (.tuple #[.agg #[.int .i64 (fin sp0 u).x0, .int .i64 (fin sp0 u).x1, .int .i64 (fin sp0 u).x2, .int .i64 (fin sp0 u).x3], .int .i64 (trW u)]) ∧ Below w.heap.size w w' from CE.out)
      rw [hp, htr] at CE2
      rw [hp, htr] at HCC
      rw [hp, htr] at HE0 HE1 HE2
      rw [htr] at t1
      have HOJ := Lib.hid hO
      have HGJ := Lib.hid hgr
      clear CE HSM hu hup hul hO hgr hp htr hl1 hl2
      obtain ⟨wj, rfl⟩ : ∃ wj : World, wj = wr := ⟨_, rfl⟩
      go_wp2_with fail
      refine (CE2.out _).mono ?_
      rintro e wp ⟨rfl, hp1⟩
      have hpz := hp1.size
      have HP0 := Lib.hid (heap_alloc_new wp (.cells #[.int .i64 p.x0, .int .i64 p.x1, .int .i64 p.x2, .int .i64 p.x3] 44))
      have HG0 := Lib.hid (grown_row (grown_row HGJ.out (below_grown hp1) (by simp)) (World.grownBy_alloc wp (.cells #[.int .i64 p.x0, .int .i64 p.x1, .int .i64 p.x2, .int .i64 p.x3] 44) none) (by simp))
      have HO0 := Lib.hid ((Below.heap_alloc wp (.cells #[.int .i64 p.x0, .int .i64 p.x1, .int .i64 p.x2, .int .i64 p.x3] 44) o (by omega)).trans ((hp1.block o (blkLt HOJ.out)).trans HOJ.out))
      have hpo : wp.heap.size ≠ o := by have := blkLt HOJ.out; omega
      have HIV := Lib.hid (fun W (h : w3.grownBy W (some o)) => show IntV W vb ys from HIV3.out.grown h (fun k hk e => by injection e with e; exact hvo k hk e))
      obtain ⟨pb, hpb⟩ : ∃ pb, wp.heap.size = pb := ⟨_, rfl⟩
      rw [hpb] at HP0 hpo
      have HPO := Lib.hid hpo
      clear hp1
      go_wp2_with fail
      clear hpb
      go_loopw [10] (fun i wi => ∃ c : Nat, c ≤ 3 ∧ i = .int .i64 ((c : Int) - 1) ∧ wi.heap[o]? = some (.cells (rw3 c x0 x1 x2 y0 y1 y2) 3 (0, 0)) ∧ wi.heap[pb]? = some (.cells #[.int .i64 p.x0, .int .i64 p.x1, .int .i64 p.x2, .int .i64 p.x3] 44 (0, 0)) ∧ w3.grownBy wi (some o)) (fun i _ => (2 - intOf i).toNat)
      case atStart => exact ⟨0, by omega, rfl, HO0.out, HP0.out, HG0.out⟩
      case round =>
        obtain ⟨c, hc3, rfl, hO, hP, hgc⟩ := hrel
        by_cases hlc : c < 3
        · obtain ⟨wi, rfl⟩ : ∃ wi : World, wi = wr := ⟨_, rfl⟩
          have hc : c = 0 ∨ c = 1 ∨ c = 2 := by omega
          rcases hc with rfl | rfl | rfl
          · rw [show (((0 : Nat) : Int) - 1) = -1 from rfl]
            have CC := Lib.hid (fun W hW => HCC.out (-8) (by decide) (by decide) W hW)
            rw [HE0.out] at CC
            have hbl : wi.heap[o]? = some (.cells #[.int .i64 (x0 : Nat), .int .i64 (x1 : Nat), .int .i64 (x2 : Nat)] 3 (0, 0)) := hO
            obtain ⟨d0, d1, d2⟩ := blk3 hbl
            have hfz : ∀ i, wi.frozen? ⟨o, i, none⟩ = false := fun i => by simp [World.frozen?, hbl]
            have hf0 := hfz 0
            obtain ⟨e0, e1, e2, e3⟩ := blk4 hP
            have hIV := HIV.out wi hgc
            have HBL := Lib.hid hbl
            have HPB := Lib.hid hP
            have HGC := Lib.hid hgc
            clear hO hbl hfz hP hgc
            go_wp2_with fail
            go_region_with ((go_at_call 40; (refine (CC.out _ (by first | (with_reducible exact hIV) | exact hIV)).mono ?_); rintro e wB ⟨rfl, hB⟩; (try with_reducible replace hB := undrew hB); have hol := blkLt HBL.out; have dB := hB.cell (p := ⟨o, 0, none⟩) hol; rw [d0] at dB; have fB := hB.frozen (p := ⟨o, 0, none⟩) hol; rw [hf0] at fB))
            all_goals
              have hob := (hB.block o hol).trans HBL.out
              have hyi : (x0 : Int) + (z0 : Int) = (y0 : Int) := by rw [← HY0.out]; rfl
              have hob2 : (wB.setCell ⟨o, 0, none⟩ (.int .i64 ((x0 : Int) + (z0 : Int)))).heap[o]? = some (.cells #[.int .i64 (y0 : Nat), .int .i64 (x1 : Nat), .int .i64 (x2 : Nat)] 3 (0, 0)) := by
                simp [World.setCell, Array.getElem?_modify, hob, hyi]
              have hpB := (hB.block pb (blkLt HPB.out)).trans HPB.out
              have hg3 := grown_row (grown_row HGC.out (below_grown hB) (by simp)) (setCell_grown wB o 0 (.int .i64 ((x0 : Int) + (z0 : Int)))) (fun k hk => .inr hk)
              have hpB2 := ((setCell_grown wB o 0 (.int .i64 ((x0 : Int) + (z0 : Int)))).block pb (Nat.lt_of_lt_of_le (blkLt HPB.out) hB.size) (by simpa using HPO.out)).trans hpB
              have HO3 := Lib.hid hob2
              have HG3 := Lib.hid hg3
              have HP3 := Lib.hid hpB2
              clear hob hob2 hyi hpB hpB2 hg3 hB dB fB d0 d1 d2 e0 e1 e2 e3 hIV hf0
              go_wp2_with fail
              go_roundw
              case rel => exact ⟨0 + 1, by omega, by go_num, HO3.out, HP3.out, HG3.out⟩
              case measure => simp [intOf]
          · rw [show (((1 : Nat) : Int) - 1) = 0 from rfl]
            have CC := Lib.hid (fun W hW => HCC.out (0) (by decide) (by decide) W hW)
            rw [HE1.out] at CC
            have hbl : wi.heap[o]? = some (.cells #[.int .i64 (y0 : Nat), .int .i64 (x1 : Nat), .int .i64 (x2 : Nat)] 3 (0, 0)) := hO
            obtain ⟨d0, d1, d2⟩ := blk3 hbl
            have hfz : ∀ i, wi.frozen? ⟨o, i, none⟩ = false := fun i => by simp [World.frozen?, hbl]
            have hf1 := hfz 1
            obtain ⟨e0, e1, e2, e3⟩ := blk4 hP
            have hIV := HIV.out wi hgc
            have HBL := Lib.hid hbl
            have HPB := Lib.hid hP
            have HGC := Lib.hid hgc
            clear hO hbl hfz hP hgc
            go_wp2_with fail
            go_region_with ((go_at_call 40; (refine (CC.out _ (by first | (with_reducible exact hIV) | exact hIV)).mono ?_); rintro e wB ⟨rfl, hB⟩; (try with_reducible replace hB := undrew hB); have hol := blkLt HBL.out; have dB := hB.cell (p := ⟨o, 1, none⟩) hol; rw [d1] at dB; have fB := hB.frozen (p := ⟨o, 1, none⟩) hol; rw [hf1] at fB))
            all_goals
              have hob := (hB.block o hol).trans HBL.out
              have hyi : (x1 : Int) + (z1 : Int) = (y1 : Int) := by rw [← HY1.out]; rfl
              have hob2 : (wB.setCell ⟨o, 1, none⟩ (.int .i64 ((x1 : Int) + (z1 : Int)))).heap[o]? = some (.cells #[.int .i64 (y0 : Nat), .int .i64 (y1 : Nat), .int .i64 (x2 : Nat)] 3 (0, 0)) := by
                simp [World.setCell, Array.getElem?_modify, hob, hyi]
              have hpB := (hB.block pb (blkLt HPB.out)).trans HPB.out
              have hg3 := grown_row (grown_row HGC.out (below_grown hB) (by simp)) (setCell_grown wB o 1 (.int .i64 ((x1 : Int) + (z1 : Int)))) (fun k hk => .inr hk)
              have hpB2 := ((setCell_grown wB o 1 (.int .i64 ((x1 : Int) + (z1 : Int)))).block pb (Nat.lt_of_lt_of_le (blkLt HPB.out) hB.size) (by simpa using HPO.out)).trans hpB
              have HO3 := Lib.hid hob2
              have HG3 := Lib.hid hg3
              have HP3 := Lib.hid hpB2
              clear hob hob2 hyi hpB hpB2 hg3 hB dB fB d0 d1 d2 e0 e1 e2 e3 hIV hf1
              go_wp2_with fail
              go_roundw
              case rel => exact ⟨1 + 1, by omega, by go_num, HO3.out, HP3.out, HG3.out⟩
              case measure => simp [intOf]
          · rw [show (((2 : Nat) : Int) - 1) = 1 from rfl]
            have CC := Lib.hid (fun W hW => HCC.out (8) (by decide) (by decide) W hW)
            rw [HE2.out] at CC
            have hbl : wi.heap[o]? = some (.cells #[.int .i64 (y0 : Nat), .int .i64 (y1 : Nat), .int .i64 (x2 : Nat)] 3 (0, 0)) := hO
            obtain ⟨d0, d1, d2⟩ := blk3 hbl
            have hfz : ∀ i, wi.frozen? ⟨o, i, none⟩ = false := fun i => by simp [World.frozen?, hbl]
            have hf2 := hfz 2
            obtain ⟨e0, e1, e2, e3⟩ := blk4 hP
            have hIV := HIV.out wi hgc
            have HBL := Lib.hid hbl
            have HPB := Lib.hid hP
            have HGC := Lib.hid hgc
            clear hO hbl hfz hP hgc
            go_wp2_with fail
            go_region_with ((go_at_call 40; (refine (CC.out _ (by first | (with_reducible exact hIV) | exact hIV)).mono ?_); rintro e wB ⟨rfl, hB⟩; (try with_reducible replace hB := undrew hB); have hol := blkLt HBL.out; have dB := hB.cell (p := ⟨o, 2, none⟩) hol; rw [d2] at dB; have fB := hB.frozen (p := ⟨o, 2, none⟩) hol; rw [hf2] at fB))
            all_goals
              have hob := (hB.block o hol).trans HBL.out
              have hyi : (x2 : Int) + (z2 : Int) = (y2 : Int) := by rw [← HY2.out]; rfl
              have hob2 : (wB.setCell ⟨o, 2, none⟩ (.int .i64 ((x2 : Int) + (z2 : Int)))).heap[o]? = some (.cells #[.int .i64 (y0 : Nat), .int .i64 (y1 : Nat), .int .i64 (y2 : Nat)] 3 (0, 0)) := by
                simp [World.setCell, Array.getElem?_modify, hob, hyi]
              have hpB := (hB.block pb (blkLt HPB.out)).trans HPB.out
              have hg3 := grown_row (grown_row HGC.out (below_grown hB) (by simp)) (setCell_grown wB o 2 (.int .i64 ((x2 : Int) + (z2 : Int)))) (fun k hk => .inr hk)
              have hpB2 := ((setCell_grown wB o 2 (.int .i64 ((x2 : Int) + (z2 : Int)))).block pb (Nat.lt_of_lt_of_le (blkLt HPB.out) hB.size) (by simpa using HPO.out)).trans hpB
              have HO3 := Lib.hid hob2
              have HG3 := Lib.hid hg3
              have HP3 := Lib.hid hpB2
              clear hob hob2 hyi hpB hpB2 hg3 hB dB fB d0 d1 d2 e0 e1 e2 e3 hIV hf2
              go_wp2_with fail
              go_roundw
              case rel => exact ⟨2 + 1, by omega, by go_num, HO3.out, HP3.out, HG3.out⟩
              case measure => simp [intOf]
        · obtain rfl : c = 3 := by omega
          have HO3 := Lib.hid hO
          have HG3 := Lib.hid hgc
          clear hO hP hgc
          go_wp2_with fail
          go_roundw
          case rel => exact ⟨j + 1, by omega, by go_num, by rw [HYE0.out, HYE1.out, HYE2.out]; exact HO3.out, HG3.out⟩
          case measure => simp [intOf]; omega
    · obtain rfl : j = N := by omega
      have hta : l.take j = l := List.take_of_length_le (by rw [HN.out]; exact Nat.le_refl _)
      rw [hta, HW0.out, HW1.out, HW2.out] at hO
      have hB := HB3.out.grown hgr HB3.out.size (fun k hk => by injection hk with hk; have := HO.out; have := HB1.out.size; omega)
      have HR := Lib.hid (show wr.ownsRow w.heap.size 3 1 (.slice (some ⟨o, 0, none⟩) 3 3) 3 ((cbL n).map (Value.int .i64)) from ⟨rfl, .inr ⟨o, 3, _, rfl, by have := HO.out; have := HB1.out.size; omega, hO, Nat.le_refl _, by decide, by simp, rfl⟩⟩)
      have HB := Lib.hid hB
      clear hO hgr hB hta
      go_wp2_with fail
      go_ret2
      exact ⟨_, rfl, HR.out, HB.out⟩

end Go.Proofs.Ytoenkgenoloihab

/- Contracts: closed tracks counted by windings, and all together, on both sides. -/
namespace Go.Proofs.Ytoenkgenoloihab
open Go Go.ChangeMaps Go.MapKept Go.ChangeShapes Go.WideShapes Go.ChangeAt Go.RowKit

set_option linter.unusedVariables false

theorem nsNo {w w' : World} (h : Below w.heap.size w w') : NSPost [] false w (.returned (.tuple #[.slice none 0 0, .bool false])) w' := ⟨_, rfl, World.ownsRow_nil _ _ _ _, h⟩

set_option maxRecDepth 100000 in
theorem spCountByWinding (n : Int) (w : World) : Calls Try.prog 15 #[.int .i64 n] w (NSPost (cbR n) (cbB n) w) := by
  cases h : cbB n
  · rw [cb_no h]
    have CN := Lib.hid (clNumber_any n)
    rw [show inB n 1 14 = false from h] at CN
    go_enter Try.func15, Try.ntmps15
    go_wp2_with (go_at_call 36; refine (CN.out _).mono ?_; rintro e w' ⟨rfl, rfl⟩)
    go_ret2
    exact nsNo (by go_grown)
  · rw [cb_yes h]
    obtain ⟨m, rfl, h0, hm⟩ := cb_num h
    rw [Int.toNat_natCast]
    exact spCbw_any m h0 hm w

set_option maxRecDepth 100000 in
theorem imCountByWinding (n : Int) (w : World) : Calls Try.prog 16 #[.int .i64 n] w (NSPost (cbR n) (cbB n) w) := by
  cases h : cbB n
  · rw [cb_no h]
    have h1 : inB n 1 14 = false := h
    go_enter Try.func16, Try.ntmps16
    go_wp2_with (go_at_call 41; refine (isInRange_any _ _ _ _).mono ?_; rintro e w' ⟨rfl, rfl⟩)
    go_ret2
    exact nsNo (by go_grown)
  · rw [cb_yes h]
    obtain ⟨m, rfl, h0, hm⟩ := cb_num h
    rw [Int.toNat_natCast]
    exact imCbw_any m h0 hm w

theorem cb_bd {n : Int} : ∀ x ∈ cbR n, 0 ≤ x ∧ x ≤ 4782969 := by
  intro x hx
  cases h : cbB n
  · rw [cb_no h] at hx; simp at hx
  · obtain ⟨m, rfl, h0, hm⟩ := cb_num h
    rw [cb_yes h, Int.toNat_natCast] at hx
    have h1 := cw14 hm (-8)
    have h2 := cw14 hm 0
    have h3 := cw14 hm 8
    simp only [cbL, List.mem_cons, List.not_mem_nil, or_false] at hx
    rcases hx with rfl | rfl | rfl <;> omega

theorem cb_len (n : Int) : (cbR n).length ≤ 3 := by
  cases h : cbB n
  · rw [cb_no h]; exact Nat.zero_le _
  · rw [cb_yes h]; exact Nat.le_refl _

theorem sum_bdI {B : Int} (hB : 0 ≤ B) : ∀ l : List Int, (∀ x ∈ l, 0 ≤ x ∧ x ≤ B) → 0 ≤ l.sum ∧ l.sum ≤ l.length * B
  | [], _ => by simp
  | x :: l, h => by
    have ih := sum_bdI hB l (fun y hy => h y (by simp [hy]))
    have hx := h x (by simp)
    simp only [List.sum_cons, List.length_cons]
    have : ((l.length + 1 : Nat) : Int) * B = l.length * B + B := by rw [Int.natCast_add, Int.add_mul]; simp
    omega

set_option maxRecDepth 100000 in
set_option maxHeartbeats 1600000 in
theorem imCountClosed (n : Int) (w : World) : Calls Try.prog 21 #[.int .i64 n] w fun e w' => e = .returned (.tuple #[.int .i64 (csI n), .bool (cbB n)]) ∧ Below w.heap.size w w' := by
  have P := Lib.hid (imCountByWinding n)
  have hbd := cb_bd (n := n)
  have hln := cb_len n
  unfold csI
  generalize cbR n = xs at *
  generalize cbB n = b at *
  obtain ⟨N, hN⟩ : ∃ N, xs.length = N := ⟨_, rfl⟩
  have HN := Lib.hid hN
  rw [hN] at hln
  have HSB := Lib.hid (fun j => show 0 ≤ (xs.take j).sum ∧ (xs.take j).sum ≤ 15000000 by
    have := sum_bdI (B := 4782969) (by decide) (xs.take j) (fun x hx => hbd x (List.mem_of_mem_take hx))
    have hl : (xs.take j).length ≤ 3 := by rw [List.length_take, hN]; omega
    have := Int.mul_le_mul_of_nonneg_right (show ((xs.take j).length : Int) ≤ 3 by omega) (show (0 : Int) ≤ 4782969 by decide)
    omega)
  clear hbd hN
  go_enter Try.func21, Try.ntmps21
  go_wp2_with fail
  refine (P.out _).mono ?_
  rintro e w1 ⟨v, rfl, hO, hb⟩
  rw [HN.out] at hO
  obtain ⟨av, cv, rfl⟩ := own_formC hO
  have HOR := Lib.hid hO
  have HB := Lib.hid hb
  clear hb hO
  go_wp2_with fail
  go_loop [6, 16] (fun t i => ∃ j : Nat, j ≤ N ∧ i = .int .i64 j ∧ t = .int .i64 ((xs.take j).sum)) (fun _ i => N - (intOf i).toNat)
  case atStart => exact ⟨0, Nat.zero_le _, rfl, rfl⟩
  case round =>
    obtain ⟨j, hj, rfl, rfl⟩ := hrel
    by_cases hlj : j < N
    · obtain ⟨x, hx⟩ : ∃ x, xs[j]? = some x := ⟨_, List.getElem?_eq_getElem (by rw [HN.out]; exact hlj)⟩
      obtain ⟨g, rfl⟩ : ∃ g, av = some ⟨g, 0, none⟩ := by
        rcases HOR.out.2 with ⟨h, h0⟩ | ⟨g, cap, _, h, _⟩
        · omega
        · injection h with h; exact ⟨g, h⟩
      have c0 : w1.cell? ⟨g, j, none⟩ = some (.int .i64 x) := by
        rw [HOR.out.cellAt j (by omega)]
        simp [hx]
      have hs1 := HSB.out j
      have hs2 := HSB.out (j + 1)
      have htk : (xs.take (j + 1)).sum = (xs.take j).sum + x := by rw [List.take_add_one, hx, List.sum_append]; simp
      rw [htk] at hs2
      have HTK := Lib.hid htk
      generalize (xs.take j).sum = s0 at *
      clear htk hx
      go_wp2_with fail
      go_round
      case rel => exact ⟨j + 1, by omega, by go_num, by rw [HTK.out]⟩
      case measure => simp [intOf]; omega
    · obtain rfl : j = N := by omega
      have hta : xs.take j = xs := List.take_of_length_le (by rw [HN.out]; exact Nat.le_refl _)
      rw [hta]
      go_wp2_with fail
      go_ret2
      exact ⟨rfl, HB.out⟩

set_option maxRecDepth 100000 in
set_option maxHeartbeats 1600000 in
theorem spCountClosed (n : Int) (w : World) : Calls Try.prog 20 #[.int .i64 n] w fun e w' => e = .returned (.tuple #[.int .i64 (csI n), .bool (cbB n)]) ∧ Below w.heap.size w w' := by
  have P := Lib.hid (spCountByWinding n)
  cases h : cbB n
  · have h0 : cbR n = [] := cb_no h
    have hI : csI n = 0 := by simp [csI, h0]
    rw [hI]
    rw [h0, h] at P
    go_enter Try.func20, Try.ntmps20
    go_wp2_with fail
    refine (P.out _).mono ?_
    rintro e w1 ⟨v, rfl, hO, hb⟩
    go_wp2_with fail
    go_ret2
    exact ⟨rfl, hb⟩
  · obtain ⟨m, rfl, h0, hm⟩ := cb_num h
    have h1 : cbR (m : Int) = cbL m := by rw [cb_yes h, Int.toNat_natCast]
    have HI := Lib.hid (show csI (m : Int) = ((cwn m (-8) : Nat) : Int) + ((cwn m 0 : Nat) : Int) + ((cwn m 8 : Nat) : Int) by simp [csI, h1, cbL]; omega)
    rw [h1, h] at P
    have b1 := cw14 hm (-8)
    have b2 := cw14 hm 0
    have b3 := cw14 hm 8
    have P2 := Lib.hid (show ∀ w, Calls Try.prog 15 #[.int .i64 (m : Nat)] w (NSPost [((cwn m (-8) : Nat) : Int), ((cwn m 0 : Nat) : Int), ((cwn m 8 : Nat) : Int)] true w) from P.out)
    generalize cwn m (-8) = x0 at *
    generalize cwn m 0 = x1 at *
    generalize cwn m 8 = x2 at *
    clear P
    go_enter Try.func20, Try.ntmps20
    go_wp2_with fail
    refine (P2.out _).mono ?_
    rintro e w1 ⟨v, rfl, hO, hb⟩
    obtain ⟨g, cap, rfl, hg0, hcp⟩ := hO.form (by simp)
    have c0 : w1.cell? ⟨g, 0, none⟩ = some (.int .i64 ((x0 : Nat) : Int)) := by rw [hO.cellAt 0 (by simp)]; rfl
    have c1 : w1.cell? ⟨g, 1, none⟩ = some (.int .i64 ((x1 : Nat) : Int)) := by rw [hO.cellAt 1 (by simp)]; rfl
    have c2 : w1.cell? ⟨g, 2, none⟩ = some (.int .i64 ((x2 : Nat) : Int)) := by rw [hO.cellAt 2 (by simp)]; rfl
    have HB := Lib.hid hb
    clear hO hb
    simp only [List.length_cons, List.length_nil]
    go_wp2_with fail
    go_quiet (fail)
    go_wp2_with fail
    go_ret2
    exact ⟨by rw [HI.out]; rfl, HB.out.trans (below_drawn _ _)⟩

end Go.Proofs.Ytoenkgenoloihab
