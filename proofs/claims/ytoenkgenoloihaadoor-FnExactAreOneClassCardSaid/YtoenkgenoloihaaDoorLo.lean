/- Contracts: the array of a ring, mirrored, laid backward, and both. -/
import Derived.Test.YtoenkgenoloihaaDoorLq
namespace Go.Proofs.YtoenkgenoloihaaDoor
open Go.ChangeShapes Go.WideShapes Go.ChangeAt Go.RowKit

set_option linter.unusedVariables false

theorem pcb_nz {c : UInt8} (h : pcb c = true) : c ≠ 0 := by rintro rfl; exact absurd h (by decide)

theorem tk_nz {l : List UInt8} (h : tkB (ofL l) = true) : ∀ c ∈ l, c ≠ 0 := fun c hc => pcb_nz (tkB_list h c hc)

theorem tk_le {l : List UInt8} (h : tkB (ofL l) = true) : l.length ≤ 40 := by have := tkB_size h; rwa [ofL_size] at this

theorem pcb_mir {c : UInt8} (h : pcb c = true) : pcb (mir c) = true := by
  rcases pcb_cases h with rfl | rfl | rfl <;> decide

theorem tk_of {l : List UInt8} (h1 : l.length ≤ 40) (h2 : ∀ c ∈ l, pcb c = true) : tkB (ofL l) = true := by
  simp only [tkB, ofL_size, Bool.and_eq_true, decide_eq_true_eq]
  exact ⟨h1, List.all_eq_true.2 h2⟩

theorem tk_all {l : List UInt8} (h : tkB (ofL l) = true) : ∀ c ∈ l, pcb c = true := fun c hc => tkB_list h c hc

theorem tk_mir {l : List UInt8} (h : tkB (ofL l) = true) : tkB (ofL (l.map mir)) = true :=
  tk_of (by rw [List.length_map]; exact tk_le h) (fun c hc => by
    obtain ⟨d, hd, rfl⟩ := List.mem_map.1 hc
    exact pcb_mir (tk_all h d hd))

def bak (l : List UInt8) : List UInt8 := (l.map mir).reverse

theorem bak_len (l : List UInt8) : (bak l).length = l.length := by simp [bak]

theorem tk_bak {l : List UInt8} (h : tkB (ofL l) = true) : tkB (ofL (bak l)) = true :=
  tk_of (by rw [bak_len]; exact tk_le h) (fun c hc => by
    simp only [bak, List.mem_reverse, List.mem_map] at hc
    obtain ⟨d, hd, rfl⟩ := hc
    exact pcb_mir (tk_all h d hd))

set_option maxRecDepth 100000 in
set_option maxHeartbeats 800000 in
theorem mirror_any (l : List UInt8) (ht : tkB (ofL l) = true) (w : World) :
    Calls Tryd.prog 60 #[.agg (arr (mkLp l))] w fun e w' => e = .returned (.agg (arr (mkLp (l.map mir)))) ∧ Below w.heap.size w w' := by
  have hT := fun W => text_any (mkLp l) W
  rw [txt_mk (tk_le ht) (tk_nz ht)] at hT
  have hM := fun W => imMirrorTrack (ofL l) (by have := tkB_size ht; omega) W
  rw [show miR (ofL l) = ofL (l.map mir) by rw [miR, ht]; rfl, ht] at hM
  have HT := Lib.hid hT
  have HM := Lib.hid hM
  have HF := Lib.hid (fun W => loopFrom_any (l.map mir) (by rw [List.length_map]; exact tk_le ht) W)
  have hz := (zero_of_info (P := Tryd.prog) lpInfo).1
  have a0 := (LpAt.new w (mkLp l)).alloc (.cells (arr zLp) 45)
  have a1 := LpAt.new (w.alloc (.cells (arr (mkLp l)) 45)) zLp
  rw [show (w.alloc (.cells (arr (mkLp l)) 45)).heap.size = w.heap.size + 1 by simp] at a1
  obtain ⟨K, hK⟩ : ∃ K, K = 40 := ⟨_, rfl⟩
  have hld := a0.loadK hK
  have zE := zK hK
  have hA := aK hK (mkLp l)
  have HK := Lib.hid hK
  have HA1 := Lib.hid a1
  obtain ⟨y, hy⟩ : ∃ y, mkLp (l.map mir) = y := ⟨_, rfl⟩
  rw [hy] at HF ⊢
  have hAy := aK hK y
  clear hT hM hK a0 a1 hy
  generalize ofL l = s at *
  generalize ofL (l.map mir) = t at *
  go_enter Tryd.func60, Tryd.ntmps60
  go_wp2_with fail
  refine (HT.out _).mono ?_
  rintro e w1 ⟨rfl, hb1⟩
  have HA2 := Lib.hid (HA1.out.below hb1 (by simp))
  have HB1 := Lib.hid (ba (by go_grown) hb1 : Below w.heap.size w w1)
  clear hb1 hld
  go_wp2_with fail
  refine (HM.out _).mono ?_
  rintro e w2 ⟨rfl, hb2⟩
  have HA3 := Lib.hid (HA2.out.below hb2 HA2.out.lt)
  have HB2 := Lib.hid (HB1.out.trans (hb2.mono HB1.out.size))
  clear hb2
  go_wp2_with fail
  refine (HF.out _).mono ?_
  rintro e w3 ⟨rfl, hb3⟩
  have a3 := HA3.out.below hb3 HA3.out.lt
  have hst := a3.store y
  have hl3 := (a3.set y).loadK HK.out
  have HB3 := Lib.hid (below_setRow (HB2.out.trans (hb3.mono HB2.out.size)) (Nat.le_succ _) (arr y))
  clear hb3 a3
  go_wp2_with fail
  refine bodyPost_ret (by simp [results, Tryd.results60, go_sem, *]; try rfl) rfl ?_
  exact ⟨rfl, HB3.out⟩

set_option maxRecDepth 100000 in
set_option maxHeartbeats 800000 in
theorem back_anyL (l : List UInt8) (ht : tkB (ofL l) = true) (w : World) :
    Calls Tryd.prog 62 #[.agg (arr (mkLp l))] w fun e w' => e = .returned (.agg (arr (mkLp (bak l)))) ∧ Below w.heap.size w w' := by
  have hT := fun W => text_any (mkLp l) W
  rw [txt_mk (tk_le ht) (tk_nz ht)] at hT
  have hM := fun W => imBackTrack (ofL l) (by have := tkB_size ht; omega) W
  rw [show baR (ofL l) = ofL (bak l) by rw [baR, ht]; show baS (ofL l) = ofL (bak l); rw [baS, bak, ← List.map_reverse]; rfl, ht] at hM
  have HT := Lib.hid hT
  have HM := Lib.hid hM
  have HF := Lib.hid (fun W => loopFrom_any (bak l) (by rw [bak_len]; exact tk_le ht) W)
  have hz := (zero_of_info (P := Tryd.prog) lpInfo).1
  have a0 := (LpAt.new w (mkLp l)).alloc (.cells (arr zLp) 45)
  have a1 := LpAt.new (w.alloc (.cells (arr (mkLp l)) 45)) zLp
  rw [show (w.alloc (.cells (arr (mkLp l)) 45)).heap.size = w.heap.size + 1 by simp] at a1
  obtain ⟨K, hK⟩ : ∃ K, K = 40 := ⟨_, rfl⟩
  have hld := a0.loadK hK
  have zE := zK hK
  have hA := aK hK (mkLp l)
  have HK := Lib.hid hK
  have HA1 := Lib.hid a1
  obtain ⟨y, hy⟩ : ∃ y, mkLp (bak l) = y := ⟨_, rfl⟩
  rw [hy] at HF ⊢
  have hAy := aK hK y
  clear hT hM hK a0 a1 hy
  generalize ofL l = s at *
  generalize ofL (bak l) = t at *
  go_enter Tryd.func62, Tryd.ntmps62
  go_wp2_with fail
  refine (HT.out _).mono ?_
  rintro e w1 ⟨rfl, hb1⟩
  have HA2 := Lib.hid (HA1.out.below hb1 (by simp))
  have HB1 := Lib.hid (ba (by go_grown) hb1 : Below w.heap.size w w1)
  clear hb1 hld
  go_wp2_with fail
  refine (HM.out _).mono ?_
  rintro e w2 ⟨rfl, hb2⟩
  have HA3 := Lib.hid (HA2.out.below hb2 HA2.out.lt)
  have HB2 := Lib.hid (HB1.out.trans (hb2.mono HB1.out.size))
  clear hb2
  go_wp2_with fail
  refine (HF.out _).mono ?_
  rintro e w3 ⟨rfl, hb3⟩
  have a3 := HA3.out.below hb3 HA3.out.lt
  have hst := a3.store y
  have hl3 := (a3.set y).loadK HK.out
  have HB3 := Lib.hid (below_setRow (HB2.out.trans (hb3.mono HB2.out.size)) (Nat.le_succ _) (arr y))
  clear hb3 a3
  go_wp2_with fail
  refine bodyPost_ret (by simp [results, Tryd.results62, go_sem, *]; try rfl) rfl ?_
  exact ⟨rfl, HB3.out⟩

set_option maxRecDepth 100000 in
set_option maxHeartbeats 800000 in
theorem mirrorBack_any (l : List UInt8) (ht : tkB (ofL l) = true) (w : World) :
    Calls Tryd.prog 78 #[.agg (arr (mkLp l))] w fun e w' => e = .returned (.agg (arr (mkLp ((bak l).map mir)))) ∧ Below w.heap.size w w' := by
  have HT := Lib.hid (back_anyL l ht)
  have HF := Lib.hid (mirror_any (bak l) (tk_bak ht))
  have hz := (zero_of_info (P := Tryd.prog) lpInfo).1
  have a0 := (LpAt.new w (mkLp l)).alloc (.cells (arr zLp) 45)
  have a1 := LpAt.new (w.alloc (.cells (arr (mkLp l)) 45)) zLp
  rw [show (w.alloc (.cells (arr (mkLp l)) 45)).heap.size = w.heap.size + 1 by simp] at a1
  obtain ⟨K, hK⟩ : ∃ K, K = 40 := ⟨_, rfl⟩
  have hld := a0.loadK hK
  have zE := zK hK
  have hA := aK hK (mkLp l)
  have HK := Lib.hid hK
  have HA1 := Lib.hid a1
  have hAb := aK hK (mkLp (bak l))
  obtain ⟨y, hy⟩ : ∃ y, mkLp ((bak l).map mir) = y := ⟨_, rfl⟩
  rw [hy] at HF ⊢
  have hAy := aK hK y
  clear hK a0 a1 hy
  go_enter Tryd.func78, Tryd.ntmps78
  go_wp2_with fail
  refine (HT.out _).mono ?_
  rintro e w1 ⟨rfl, hb1⟩
  have HA2 := Lib.hid (HA1.out.below hb1 (by simp))
  have HB1 := Lib.hid (ba (by go_grown) hb1 : Below w.heap.size w w1)
  clear hb1 hld
  go_wp2_with fail
  refine (HF.out _).mono ?_
  rintro e w3 ⟨rfl, hb3⟩
  have a3 := HA2.out.below hb3 HA2.out.lt
  have hst := a3.store y
  have hl3 := (a3.set y).loadK HK.out
  have HB3 := Lib.hid (below_setRow (HB1.out.trans (hb3.mono HB1.out.size)) (Nat.le_succ _) (arr y))
  clear hb3 a3
  go_wp2_with fail
  refine bodyPost_ret (by simp [results, Tryd.results78, go_sem, *]; try rfl) rfl ?_
  exact ⟨rfl, HB3.out⟩

end Go.Proofs.YtoenkgenoloihaaDoor
