/- Contracts: FarthestEnd, in the program. -/
import Derived.Test.YtkmgcmgnaeamaaaFx
import Derived.Test.YtkmgcmgnaeamaaaEy
import Derived.Test.YtkmgcmgnaeamaaaQ5
namespace Go.Proofs.Ytkmgcmgnaeamaaa
open Go.ChangeShapes Go.WideShapes Go.ChangeAt Go.RowKit Go.Joins Go.Sort

set_option linter.unusedVariables false
set_option linter.unusedSimpArgs false

set_option maxRecDepth 100000 in
theorem partCmp_any (p q : Sp) (X Y : ByteArray) (hp : p.okB 1000) (hq : q.okB 1000) (w : World) :
    Calls Try.prog 80 #[.agg #[.int .i64 p.x0, .int .i64 p.x1, .int .i64 p.x2, .int .i64 p.x3, .int .i64 p.h, .string X], .agg #[.int .i64 q.x0, .int .i64 q.x1, .int .i64 q.x2, .int .i64 q.x3, .int .i64 q.h, .string Y]] w fun e w' => e = .returned (.int .i64 (sgn2 (p.n0 - q.n0) (p.n1 - q.n1))) ∧ Below w.heap.size w w' := by
  have PA := Lib.hid (imNorm_any p.x0 p.x1 p.x2 p.x3)
  have PB := Lib.hid (imNorm_any q.x0 q.x1 q.x2 q.x3)
  obtain ⟨a0, a1, a2, a3⟩ := fe_nm hp
  obtain ⟨b0, b1, b2, b3⟩ := fe_nm hq
  have PC := Lib.hid (imCompare_any p.n0 p.n1 q.n0 q.n1 (by omega) (by omega) (by omega) (by omega) (by omega) (by omega) (by omega) (by omega))
  simp only [Sp.n0, Sp.n1] at PC ⊢
  clear hp hq a0 a1 a2 a3 b0 b1 b2 b3
  obtain ⟨x0, x1, x2, x3, x4⟩ := p
  obtain ⟨y0, y1, y2, y3, y4⟩ := q
  simp only at PA PB PC ⊢
  generalize nm0 x0 x1 x2 x3 = m0 at *
  generalize nm1 x0 x1 x2 x3 = m1 at *
  generalize nm0 y0 y1 y2 y3 = l0 at *
  generalize nm1 y0 y1 y2 y3 = l1 at *
  generalize sgn2 (m0 - l0) (m1 - l1) = z at *
  go_enter Try.func80, Try.ntmps80
  go_wp2_with fail
  refine absWB (F := fun W => (W.cell? ⟨w.heap.size, 0, none⟩ = some (.int .i64 x0)) ∧ (W.cell? ⟨w.heap.size, 1, none⟩ = some (.int .i64 x1)) ∧ (W.cell? ⟨w.heap.size, 2, none⟩ = some (.int .i64 x2)) ∧ (W.cell? ⟨w.heap.size, 3, none⟩ = some (.int .i64 x3)) ∧ (W.cell? ⟨w.heap.size + 1, 0, none⟩ = some (.int .i64 y0)) ∧ (W.cell? ⟨w.heap.size + 1, 1, none⟩ = some (.int .i64 y1)) ∧ (W.cell? ⟨w.heap.size + 1, 2, none⟩ = some (.int .i64 y2)) ∧ (W.cell? ⟨w.heap.size + 1, 3, none⟩ = some (.int .i64 y3)) ∧ Below w.heap.size w W ∧ W.heap.size = w.heap.size + 1 + 1) ⟨by go_simp, by go_simp, by go_simp, by go_simp, by go_simp, by go_simp, by go_simp, by go_simp, by go_grown, by first | (simp; done) | (simp; omega)⟩ ?_
  rintro W ⟨cp0_0, cp1_1, cp2_2, cp3_3, cq0_0, cq1_1, cq2_2, cq3_3, HB, hz⟩
  have kp0_0 := fun d os => cell_regrown cp0_0 d os
  have kp1_1 := fun d os => cell_regrown cp1_1 d os
  have kp2_2 := fun d os => cell_regrown cp2_2 d os
  have kp3_3 := fun d os => cell_regrown cp3_3 d os
  have kq0_0 := fun d os => cell_regrown cq0_0 d os
  have kq1_1 := fun d os => cell_regrown cq1_1 d os
  have kq2_2 := fun d os => cell_regrown cq2_2 d os
  have kq3_3 := fun d os => cell_regrown cq3_3 d os
  refine wp_region_quiet_below (by kernel_rfl) (by kernel_rfl) ?_
  repeat (quiet_step (first | (go_at_call 81; with_reducible exact Calls.regrown_of (PA.out _)) | (go_at_call 81; with_reducible exact Calls.regrown_of (PB.out _)) | (go_at_call 82; with_reducible exact Calls.regrown_of (PC.out _))))
  refine wpQuiet_nil ?_
  rintro _ ⟨⟨dq, osq⟩, rfl⟩
  have hbw1 := below_regrown W dq osq
  generalize grow (redrawn W dq) osq = w1 at hbw1 ⊢
  obtain ⟨hcw1, hfw1⟩ := bcell hbw1
  have hlw1 := hbw1.size
  replace HB := ba HB hbw1
  go_wp2_with fail
  go_returns
  exact ⟨rfl, by go_grown⟩

def FpPost (N : Nat) (o : Option (List UInt8)) (w : World) (e : Ending) (w' : World) : Prop :=
  e = .returned (.tuple #[.agg #[.int .i64 (feS o).x0, .int .i64 (feS o).x1, .int .i64 (feS o).x2, .int .i64 (feS o).x3, .int .i64 (feS o).h, .string (oT o)], .bool (decide (0 < N))]) ∧ Below w.heap.size w w'

set_option maxRecDepth 100000 in
set_option maxHeartbeats 3200000 in
theorem fgPart_any (g cap : Nat) (R : List (List UInt8)) (P : List (Sp × List UInt8)) (hP : ∀ (j : Nat) (r : List UInt8), R[j]? = some r → P[j]? = some (fin sp0 r, r)) (hl : R.length ≤ 6561) (hok : ∀ r ∈ R, (fin sp0 r).okB 1000) (w : World) (hg : g < w.heap.size) (hA : PrtAt w g P) :
    Calls Try.prog 79 #[.slice (some ⟨g, 0, none⟩) R.length cap, .func (.func 80) #[] #[]] w (FpPost R.length (feO R R.length) w) := by
  unfold FpPost
  obtain ⟨N, hN⟩ : ∃ N, R.length = N := ⟨_, rfl⟩
  have HN := Lib.hid hN
  have HPJ := Lib.hid hP
  have HPA := Lib.hid hA
  have HOK := Lib.hid hok
  rw [hN] at hl ⊢
  have T0 := Lib.hid (PtB.new w sp0 ByteArray.empty)
  have T1 := Lib.hid (PtB.new (w.alloc (.cells #[.int .i64 0, .int .i64 0, .int .i64 0, .int .i64 0, .int .i64 0, .string ByteArray.empty] 93)) sp0 ByteArray.empty)
  clear hN hP hA hok
  go_enter Try.func79, Try.ntmps79
  go_wp2_with fail
  go_loopw [11] (fun i wr => ∃ j : Nat, j ≤ N ∧ i = .int .i64 j ∧ PtB wr w.heap.size sp0 ByteArray.empty ∧ PtB wr (w.heap.size + 1) (feS (feO R j)) (oT (feO R j)) ∧ Below w.heap.size w wr) (fun i _ => N - (intOf i).toNat)
  case atStart =>
    refine ⟨0, Nat.zero_le _, rfl, ?_, ?_, by go_grown⟩
    · exact T0.out.below (by simp) (Below.alloc (Below.refl _ _) (Nat.le_refl _) _)
    · have := T1.out
      rw [show (w.alloc (.cells #[.int .i64 0, .int .i64 0, .int .i64 0, .int .i64 0, .int .i64 0, .string ByteArray.empty] 93)).heap.size = w.heap.size + 1 by simp] at this
      exact this
  case round =>
    obtain ⟨j, hj, rfl, t0, t1, hb⟩ := hrel
    have hz := t1.lt
    have A0 := Lib.hid t0
    have A1 := Lib.hid t1
    have HB := Lib.hid hb
    obtain ⟨wi, rfl⟩ : ∃ wi : World, wi = wr := ⟨_, rfl⟩
    have hzw : w.heap.size ≤ wi.heap.size := hb.size
    by_cases hlt : j < N
    · obtain ⟨r, hr⟩ : ∃ r, R[j]? = some r := ⟨_, List.getElem?_eq_getElem (by rw [HN.out]; exact hlt)⟩
      have hrok := HOK.out r (List.mem_of_getElem? hr)
      have HNX := Lib.hid (feO_next hr)
      obtain ⟨d0, d1, d2, d3, d4, d5⟩ := (HPA.out.below hg hb) j _ (HPJ.out j r hr)
      simp only at d0 d1 d2 d3 d4 d5
      by_cases hj0 : j = 0
      · subst hj0
        have hN2 : feS (feO R (0 + 1)) = fin sp0 r ∧ oT (feO R (0 + 1)) = ofL r := by rw [HNX.out]; exact ⟨rfl, rfl⟩
        generalize fin sp0 r = x at *
        generalize ofL r = X at *
        have HN2 := Lib.hid hN2
        have HP := Lib.hid ((A1.out.set x X).below (by simp [World.setCell]; omega) (Below.alloc (Below.refl _ _) (Nat.le_refl _) (.cells #[.int .i64 x.x0, .int .i64 x.x1, .int .i64 x.x2, .int .i64 x.x3, .int .i64 x.h, .string X] 93)))
        have H0 := Lib.hid (((((((A0.out.other (a := ⟨w.heap.size + 1, 0, none⟩) (by simp) (.int .i64 x.x0)).other (a := ⟨w.heap.size + 1, 1, none⟩) (by simp) (.int .i64 x.x1)).other (a := ⟨w.heap.size + 1, 2, none⟩) (by simp) (.int .i64 x.x2)).other (a := ⟨w.heap.size + 1, 3, none⟩) (by simp) (.int .i64 x.x3)).other (a := ⟨w.heap.size + 1, 4, none⟩) (by simp) (.int .i64 x.h)).other (a := ⟨w.heap.size + 1, 5, none⟩) (by simp) (.string X)).below (by simp [World.setCell]; omega) (Below.alloc (Below.refl _ _) (Nat.le_refl _) (.cells #[.int .i64 x.x0, .int .i64 x.x1, .int .i64 x.x2, .int .i64 x.x3, .int .i64 x.h, .string X] 93)))
        obtain ⟨x0, x1, x2, x3, x4, x5⟩ := A1.out.cells
        have f0 := A1.out.free 0
        have f1 := A1.out.free 1
        have f2 := A1.out.free 2
        have f3 := A1.out.free 3
        have f4 := A1.out.free 4
        have f5 := A1.out.free 5
        clear t0 t1 hr hN2
        go_wp2_with fail
        go_roundw
        case rel => exact ⟨1, by omega, by go_num, H0.out, by rw [HN2.out.1, HN2.out.2]; exact HP.out, by go_grown⟩
        case measure => simp [intOf]; omega
      · obtain ⟨y, hy, hym⟩ := feO_some (Nat.pos_of_ne_zero hj0) (show j ≤ R.length by rw [HN.out]; exact hj)
        have hyok := HOK.out y hym
        have hnx : feO R (j + 1) = some (if fgW r y then r else y) := by have := HNX.out; rw [hy] at this; exact this
        have hcg : fgW r y = decide (0 < sgn2 ((fin sp0 r).n0 - (fin sp0 y).n0) ((fin sp0 r).n1 - (fin sp0 y).n1)) := rfl
        have CP := Lib.hid (partCmp_any (fin sp0 r) (fin sp0 y) (ofL r) (ofL y) hrok hyok)
        have A1' : PtB wi (w.heap.size + 1) (fin sp0 y) (ofL y) := by have := A1.out; rw [hy] at this; exact this
        have hji : ((j : Int) == 0) = false := by simp; omega
        have hjn : ¬ (j : Int) = 0 := by omega
        have hE1 : fgW r y = true → feS (feO R (j + 1)) = fin sp0 r ∧ oT (feO R (j + 1)) = ofL r := fun h => by rw [hnx, h]; exact ⟨rfl, rfl⟩
        have hE0 : fgW r y = false → feS (feO R (j + 1)) = fin sp0 y ∧ oT (feO R (j + 1)) = ofL y := fun h => by rw [hnx, h]; exact ⟨rfl, rfl⟩
        generalize sgn2 ((fin sp0 r).n0 - (fin sp0 y).n0) ((fin sp0 r).n1 - (fin sp0 y).n1) = z at *
        generalize fgW r y = B at *
        generalize fin sp0 r = x at *
        generalize ofL r = X at *
        generalize fin sp0 y = q at *
        generalize ofL y = Y at *
        have HA1 := Lib.hid A1'
        obtain ⟨x0, x1, x2, x3, x4, x5⟩ := A1'.cells
        clear t0 t1 hr hy hym hrok hyok A1 A1' hnx HNX
        cases B
        · have hz0 : ¬ 0 < z := by simpa using hcg
          have HN2 := Lib.hid (hE0 rfl)
          clear hcg hE0 hE1
          go_wp2_with fail
          have hBA : Below w.heap.size w (wi.alloc (.cells #[.int .i64 x.x0, .int .i64 x.x1, .int .i64 x.x2, .int .i64 x.x3, .int .i64 x.h, .string X] 93)) := by go_grown
          (with_reducible refine Calls.mono (CP.out _) ?_)
          rintro e w1 ⟨rfl, h1⟩
          have hz2 := h1.size
          simp only [World.size_alloc] at hz2
          have hbw := Below.alloc (Below.refl wi.heap.size wi) (Nat.le_refl _) (.cells #[.int .i64 x.x0, .int .i64 x.x1, .int .i64 x.x2, .int .i64 x.x3, .int .i64 x.h, .string X] 93)
          have F1 := Lib.hid ((HA1.out.below hz hbw).below (by simp; omega) h1)
          have F0 := Lib.hid ((A0.out.below (by omega) hbw).below (by simp; omega) h1)
          have FB := Lib.hid (ba hBA h1)
          clear h1 hbw hBA
          go_wp2_with fail
          go_roundw
          case rel => exact ⟨j + 1, by omega, by go_num, F0.out, by rw [HN2.out.1, HN2.out.2]; exact F1.out, FB.out⟩
          case measure => simp [intOf]; omega
        · have hz0 : 0 < z := by simpa using hcg
          have HN2 := Lib.hid (hE1 rfl)
          clear hcg hE0 hE1
          go_wp2_with fail
          have hBA : Below w.heap.size w (wi.alloc (.cells #[.int .i64 x.x0, .int .i64 x.x1, .int .i64 x.x2, .int .i64 x.x3, .int .i64 x.h, .string X] 93)) := by go_grown
          (with_reducible refine Calls.mono (CP.out _) ?_)
          rintro e w1 ⟨rfl, h1⟩
          have hz2 := h1.size
          simp only [World.size_alloc] at hz2
          have hbw := Below.alloc (Below.refl wi.heap.size wi) (Nat.le_refl _) (.cells #[.int .i64 x.x0, .int .i64 x.x1, .int .i64 x.x2, .int .i64 x.x3, .int .i64 x.h, .string X] 93)
          have fa1 := (HA1.out.below hz hbw).below (by simp; omega) h1
          have fa0 := (A0.out.below (by omega) hbw).below (by simp; omega) h1
          have hNW := (PtB.new wi x X).below (by simp) h1
          have F1 := Lib.hid (fa1.set x X)
          have F0 := Lib.hid ((((((fa0.other (a := ⟨w.heap.size + 1, 0, none⟩) (by simp) (.int .i64 x.x0)).other (a := ⟨w.heap.size + 1, 1, none⟩) (by simp) (.int .i64 x.x1)).other (a := ⟨w.heap.size + 1, 2, none⟩) (by simp) (.int .i64 x.x2)).other (a := ⟨w.heap.size + 1, 3, none⟩) (by simp) (.int .i64 x.x3)).other (a := ⟨w.heap.size + 1, 4, none⟩) (by simp) (.int .i64 x.h)).other (a := ⟨w.heap.size + 1, 5, none⟩) (by simp) (.string X))
          have FB := Lib.hid (ba hBA h1)
          obtain ⟨z0, z1, z2, z3, z4, z5⟩ := fa1.cells
          obtain ⟨s0, s1, s2, s3, s4, s5⟩ := hNW.cells
          have f0 := fa1.free 0
          have f1 := fa1.free 1
          have f2 := fa1.free 2
          have f3 := fa1.free 3
          have f4 := fa1.free 4
          have f5 := fa1.free 5
          clear h1 hbw hBA x0 x1 x2 x3 x4 x5 fa0 fa1 hNW
          go_wp2_with fail
          go_roundw
          case rel => exact ⟨j + 1, by omega, by go_num, F0.out, by rw [HN2.out.1, HN2.out.2]; exact F1.out, by
            have hq : w.heap.size ≤ w.heap.size + 1 := by omega
            exact (((((FB.out.setCell hq _).setCell hq _).setCell hq _).setCell hq _).setCell hq _).setCell hq _⟩
          case measure => simp [intOf]; omega
    · obtain rfl : j = N := by omega
      obtain ⟨x0, x1, x2, x3, x4, x5⟩ := A1.out.cells
      obtain ⟨y0, y1, y2, y3, y4, y5⟩ := A0.out.cells
      have f0 := A0.out.free 0
      have f1 := A0.out.free 1
      have f2 := A0.out.free 2
      have f3 := A0.out.free 3
      have f4 := A0.out.free 4
      have f5 := A0.out.free 5
      generalize hQ : feS (feO R j) = q at *
      generalize hY : oT (feO R j) = Y at *
      have HQ := Lib.hid hQ
      have HY := Lib.hid hY
      clear t0 t1 hQ hY
      go_wp2_with fail
      refine bodyPost_ret (by simp [results, Try.results79, go_sem, *]; try rfl) rfl ?_
      have e1 := HQ.out
      have e2 := HY.out
      subst e1 e2
      exact ⟨by first | rfl | (congr 3; simp), by go_grown⟩

section
variable {B0 : Nat} {v00 v01 v02 v03 v04 v05 : Value} {W w1 : World}
theorem fe_below (h : W.cell? ⟨B0, 0, none⟩ = some v00 ∧ W.cell? ⟨B0, 1, none⟩ = some v01 ∧ W.cell? ⟨B0, 2, none⟩ = some v02 ∧ W.cell? ⟨B0, 3, none⟩ = some v03 ∧ W.cell? ⟨B0, 4, none⟩ = some v04 ∧ W.cell? ⟨B0, 5, none⟩ = some v05) (h0 : B0 < W.heap.size) (hb : Below W.heap.size W w1) : w1.cell? ⟨B0, 0, none⟩ = some v00 ∧ w1.cell? ⟨B0, 1, none⟩ = some v01 ∧ w1.cell? ⟨B0, 2, none⟩ = some v02 ∧ w1.cell? ⟨B0, 3, none⟩ = some v03 ∧ w1.cell? ⟨B0, 4, none⟩ = some v04 ∧ w1.cell? ⟨B0, 5, none⟩ = some v05 :=
  let ⟨k0, k1, k2, k3, k4, k5⟩ := h
  ⟨cl_below k0 h0 hb, cl_below k1 h0 hb, cl_below k2 h0 hb, cl_below k3 h0 hb, cl_below k4 h0 hb, cl_below k5 h0 hb⟩

theorem fe_alloc (h : W.cell? ⟨B0, 0, none⟩ = some v00 ∧ W.cell? ⟨B0, 1, none⟩ = some v01 ∧ W.cell? ⟨B0, 2, none⟩ = some v02 ∧ W.cell? ⟨B0, 3, none⟩ = some v03 ∧ W.cell? ⟨B0, 4, none⟩ = some v04 ∧ W.cell? ⟨B0, 5, none⟩ = some v05) (o : Obj) : (W.alloc o).cell? ⟨B0, 0, none⟩ = some v00 ∧ (W.alloc o).cell? ⟨B0, 1, none⟩ = some v01 ∧ (W.alloc o).cell? ⟨B0, 2, none⟩ = some v02 ∧ (W.alloc o).cell? ⟨B0, 3, none⟩ = some v03 ∧ (W.alloc o).cell? ⟨B0, 4, none⟩ = some v04 ∧ (W.alloc o).cell? ⟨B0, 5, none⟩ = some v05 :=
  let ⟨k0, k1, k2, k3, k4, k5⟩ := h
  ⟨cl_alloc k0 o, cl_alloc k1 o, cl_alloc k2 o, cl_alloc k3 o, cl_alloc k4 o, cl_alloc k5 o⟩

theorem fe_re {o : Obj} (h : (W.alloc o).cell? ⟨B0, 0, none⟩ = some v00 ∧ (W.alloc o).cell? ⟨B0, 1, none⟩ = some v01 ∧ (W.alloc o).cell? ⟨B0, 2, none⟩ = some v02 ∧ (W.alloc o).cell? ⟨B0, 3, none⟩ = some v03 ∧ (W.alloc o).cell? ⟨B0, 4, none⟩ = some v04 ∧ (W.alloc o).cell? ⟨B0, 5, none⟩ = some v05) (h0 : B0 < W.heap.size) (o2 : Obj) : (W.alloc o2).cell? ⟨B0, 0, none⟩ = some v00 ∧ (W.alloc o2).cell? ⟨B0, 1, none⟩ = some v01 ∧ (W.alloc o2).cell? ⟨B0, 2, none⟩ = some v02 ∧ (W.alloc o2).cell? ⟨B0, 3, none⟩ = some v03 ∧ (W.alloc o2).cell? ⟨B0, 4, none⟩ = some v04 ∧ (W.alloc o2).cell? ⟨B0, 5, none⟩ = some v05 :=
  let ⟨k0, k1, k2, k3, k4, k5⟩ := h
  ⟨cl_re k0 h0 o2, cl_re k1 h0 o2, cl_re k2 h0 o2, cl_re k3 h0 o2, cl_re k4 h0 o2, cl_re k5 h0 o2⟩

theorem fe_drew (h : W.cell? ⟨B0, 0, none⟩ = some v00 ∧ W.cell? ⟨B0, 1, none⟩ = some v01 ∧ W.cell? ⟨B0, 2, none⟩ = some v02 ∧ W.cell? ⟨B0, 3, none⟩ = some v03 ∧ W.cell? ⟨B0, 4, none⟩ = some v04 ∧ W.cell? ⟨B0, 5, none⟩ = some v05) : W.drew.cell? ⟨B0, 0, none⟩ = some v00 ∧ W.drew.cell? ⟨B0, 1, none⟩ = some v01 ∧ W.drew.cell? ⟨B0, 2, none⟩ = some v02 ∧ W.drew.cell? ⟨B0, 3, none⟩ = some v03 ∧ W.drew.cell? ⟨B0, 4, none⟩ = some v04 ∧ W.drew.cell? ⟨B0, 5, none⟩ = some v05 := h

theorem fe_undrew (h : W.drew.cell? ⟨B0, 0, none⟩ = some v00 ∧ W.drew.cell? ⟨B0, 1, none⟩ = some v01 ∧ W.drew.cell? ⟨B0, 2, none⟩ = some v02 ∧ W.drew.cell? ⟨B0, 3, none⟩ = some v03 ∧ W.drew.cell? ⟨B0, 4, none⟩ = some v04 ∧ W.drew.cell? ⟨B0, 5, none⟩ = some v05) : W.cell? ⟨B0, 0, none⟩ = some v00 ∧ W.cell? ⟨B0, 1, none⟩ = some v01 ∧ W.cell? ⟨B0, 2, none⟩ = some v02 ∧ W.cell? ⟨B0, 3, none⟩ = some v03 ∧ W.cell? ⟨B0, 4, none⟩ = some v04 ∧ W.cell? ⟨B0, 5, none⟩ = some v05 := h

theorem fe_set (h : W.cell? ⟨B0, 0, none⟩ = some v00 ∧ W.cell? ⟨B0, 1, none⟩ = some v01 ∧ W.cell? ⟨B0, 2, none⟩ = some v02 ∧ W.cell? ⟨B0, 3, none⟩ = some v03 ∧ W.cell? ⟨B0, 4, none⟩ = some v04 ∧ W.cell? ⟨B0, 5, none⟩ = some v05) (p : Addr) (u : Value) (h0 : p.block ≠ B0) : (W.setCell p u).cell? ⟨B0, 0, none⟩ = some v00 ∧ (W.setCell p u).cell? ⟨B0, 1, none⟩ = some v01 ∧ (W.setCell p u).cell? ⟨B0, 2, none⟩ = some v02 ∧ (W.setCell p u).cell? ⟨B0, 3, none⟩ = some v03 ∧ (W.setCell p u).cell? ⟨B0, 4, none⟩ = some v04 ∧ (W.setCell p u).cell? ⟨B0, 5, none⟩ = some v05 :=
  let ⟨k0, k1, k2, k3, k4, k5⟩ := h
  ⟨cl_set k0 p u h0, cl_set k1 p u h0, cl_set k2 p u h0, cl_set k3 p u h0, cl_set k4 p u h0, cl_set k5 p u h0⟩

theorem fe_far {row : Option Nat} (h : W.cell? ⟨B0, 0, none⟩ = some v00 ∧ W.cell? ⟨B0, 1, none⟩ = some v01 ∧ W.cell? ⟨B0, 2, none⟩ = some v02 ∧ W.cell? ⟨B0, 3, none⟩ = some v03 ∧ W.cell? ⟨B0, 4, none⟩ = some v04 ∧ W.cell? ⟨B0, 5, none⟩ = some v05) (h0 : some B0 ≠ row) (hg : W.grownBy w1 row) : w1.cell? ⟨B0, 0, none⟩ = some v00 ∧ w1.cell? ⟨B0, 1, none⟩ = some v01 ∧ w1.cell? ⟨B0, 2, none⟩ = some v02 ∧ w1.cell? ⟨B0, 3, none⟩ = some v03 ∧ w1.cell? ⟨B0, 4, none⟩ = some v04 ∧ w1.cell? ⟨B0, 5, none⟩ = some v05 :=
  let ⟨k0, k1, k2, k3, k4, k5⟩ := h
  ⟨hg.cell k0 h0, hg.cell k1 h0, hg.cell k2 h0, hg.cell k3 h0, hg.cell k4 h0, hg.cell k5 h0⟩
end

set_option maxRecDepth 100000 in
set_option maxHeartbeats 3200000 in
theorem imFarthestEnd (b : Bq) (w : World) : Calls Try.prog 43 #[bv b] w fun e w' => e = .returned (.tuple #[.string (oT (feG b)), bv (feN (feG b)), .bool (bxB 8 b)]) ∧ Below w.heap.size w w' := by
  have PS := Lib.hid (isWithinB_any b 8 (by decide) (by decide))
  unfold feG
  cases hb : bxB 8 b
  · rw [hb] at PS
    have h0 : feN (cond false (feO (bxW b.x.toNat b.r.toNat) (bxW b.x.toNat b.r.toNat).length) none) = ⟨0, 0⟩ := feN_none
    have h1 : oT (cond false (feO (bxW b.x.toNat b.r.toNat) (bxW b.x.toNat b.r.toNat).length) none) = ByteArray.empty := rfl
    rw [h0, h1]
    clear hb h0 h1
    go_enter Try.func43, Try.ntmps43
    go_wp2_with fail
    (go_at_call 52; (with_reducible refine (PS.out _).mono ?_); rintro e wA ⟨rfl, h1⟩; (try with_reducible replace h1 := undrew h1); have hB : Below w.heap.size w wA := ba (by go_grown) h1; obtain ⟨hcwA, hfwA⟩ := bcell h1; have hqwA := h1.size; (try simp at hqwA); (try have hz0wA : w.heap.size < wA.heap.size := (by omega)); (try have he0wA : w.heap.size ≤ wA.heap.size := (by omega)); (try have hz1wA : w.heap.size + 1 < wA.heap.size := (by omega)); (try have he1wA : w.heap.size + 1 ≤ wA.heap.size := (by omega)))
    go_wp2_with fail
    refine bodyPost_ret (by simp [results, Try.results43, go_sem, *]; try rfl) rfl ?_
    exact ⟨rfl, by go_grown⟩
  · rw [hb] at PS
    obtain ⟨s, c, rfl, hsc⟩ := bxB_nat (m := 8) hb
    simp only [Int.toNat_natCast, cond_true]
    have WT := Lib.hid (wholeTracks_any s c hsc)
    unfold WtPost at WT
    rw [wtP_len] at WT
    have hlen := bxW8 hsc
    have hpos := bxW_pos s c
    have hwl := wtP_len s c
    have FG0 := fun g cap w hg hA => fgPart_any g cap (bxW s c) (wtP s c) (fun j r h => wtP_at h) hlen (fun r h => fin_okE hsc h) w hg hA
    unfold FpPost at FG0
    rw [decide_eq_true hpos] at FG0
    generalize feO (bxW s c) (bxW s c).length = o at *
    have NM := Lib.hid (imNorm_any (feS o).x0 (feS o).x1 (feS o).x2 (feS o).x3)
    have hfe : bv (feN o) = .agg #[.int .i64 (nm0 (feS o).x0 (feS o).x1 (feS o).x2 (feS o).x3), .int .i64 (nm1 (feS o).x0 (feS o).x1 (feS o).x2 (feS o).x3)] := rfl
    rw [hfe]
    generalize wtP s c = P at *
    generalize bxW s c = R at *
    generalize oT o = Y at *
    generalize feS o = q at *
    generalize nm0 q.x0 q.x1 q.x2 q.x3 = n0 at *
    generalize nm1 q.x0 q.x1 q.x2 q.x3 = n1 at *
    obtain ⟨N, hN⟩ : ∃ N, R.length = N := ⟨_, rfl⟩
    rw [hN] at WT hlen hwl hpos FG0
    have HWL := Lib.hid hwl
    have FG := Lib.hid FG0
    clear hN hb hwl hsc hfe FG0
    go_enter Try.func43, Try.ntmps43
    go_wp2_with fail
    (go_at_call 52; (with_reducible refine (PS.out _).mono ?_); rintro e wA ⟨rfl, h1⟩; (try with_reducible replace h1 := undrew h1); have hB : Below w.heap.size w wA := ba (by go_grown) h1; obtain ⟨hcwA, hfwA⟩ := bcell h1; have hqwA := h1.size; (try simp at hqwA); (try have hz0wA : w.heap.size < wA.heap.size := (by omega)); (try have he0wA : w.heap.size ≤ wA.heap.size := (by omega)); (try have hz1wA : w.heap.size + 1 < wA.heap.size := (by omega)); (try have he1wA : w.heap.size + 1 ≤ wA.heap.size := (by omega)))
    go_wp2_with fail
    (with_reducible refine Calls.mono (WT.out _) ?_)
    rintro e w1 ⟨v, rfl, hO, hb1⟩
    obtain ⟨g, cap, rfl, _⟩ := hO.form (by omega)
    have hgl := (hO.lt g rfl).2
    have FG1 := Lib.hid (FG.out g cap w1 hgl (prt_of hO HWL.out))
    have hB1 := hB.trans (hb1.mono hB.size)
    obtain ⟨hc1, hf1⟩ := bcell hb1
    have hz1 := hb1.size
    have yA0 : w.heap.size < wA.heap.size := by omega
    have yA1 : w.heap.size + 1 < wA.heap.size := by omega
    have y0 : w.heap.size < w1.heap.size := by omega
    have y1 : w.heap.size + 1 < w1.heap.size := by omega
    clear hO hb1 hB
    go_wp2_with fail
    (with_reducible refine Calls.mono FG1.out ?_)
    rintro e w2 ⟨rfl, h2⟩
    have hB := hB1.trans (h2.mono hB1.size)
    obtain ⟨hc2, hf2⟩ := bcell h2
    have hz2 := h2.size
    have y2 : w.heap.size < w2.heap.size := by omega
    have y3 : w.heap.size + 1 < w2.heap.size := by omega
    clear h2 hB1
    go_wp2_with fail
    have hS0 : (w2.alloc (.cells #[.int .i64 q.x0, .int .i64 q.x1, .int .i64 q.x2, .int .i64 q.x3, .int .i64 q.h, .string Y] 93)).cell? ⟨w2.heap.size, 0, none⟩ = some (.int .i64 q.x0) ∧ (w2.alloc (.cells #[.int .i64 q.x0, .int .i64 q.x1, .int .i64 q.x2, .int .i64 q.x3, .int .i64 q.h, .string Y] 93)).cell? ⟨w2.heap.size, 1, none⟩ = some (.int .i64 q.x1) ∧ (w2.alloc (.cells #[.int .i64 q.x0, .int .i64 q.x1, .int .i64 q.x2, .int .i64 q.x3, .int .i64 q.h, .string Y] 93)).cell? ⟨w2.heap.size, 2, none⟩ = some (.int .i64 q.x2) ∧ (w2.alloc (.cells #[.int .i64 q.x0, .int .i64 q.x1, .int .i64 q.x2, .int .i64 q.x3, .int .i64 q.h, .string Y] 93)).cell? ⟨w2.heap.size, 3, none⟩ = some (.int .i64 q.x3) ∧ (w2.alloc (.cells #[.int .i64 q.x0, .int .i64 q.x1, .int .i64 q.x2, .int .i64 q.x3, .int .i64 q.h, .string Y] 93)).cell? ⟨w2.heap.size, 4, none⟩ = some (.int .i64 q.h) ∧ (w2.alloc (.cells #[.int .i64 q.x0, .int .i64 q.x1, .int .i64 q.x2, .int .i64 q.x3, .int .i64 q.h, .string Y] 93)).cell? ⟨w2.heap.size, 5, none⟩ = some (.string Y) := ⟨by go_simp, by go_simp, by go_simp, by go_simp, by go_simp, by go_simp⟩
    have hE0 : (w2.alloc (.cells #[.int .i64 q.x0, .int .i64 q.x1, .int .i64 q.x2, .int .i64 q.x3, .int .i64 q.h, .string Y] 93)).frozen? ⟨w.heap.size + 1, 0, none⟩ = false := by go_simp
    go_region_held3 (fun w' => w'.cell? ⟨w2.heap.size, 0, none⟩ = some (.int .i64 q.x0) ∧ w'.cell? ⟨w2.heap.size, 1, none⟩ = some (.int .i64 q.x1) ∧ w'.cell? ⟨w2.heap.size, 2, none⟩ = some (.int .i64 q.x2) ∧ w'.cell? ⟨w2.heap.size, 3, none⟩ = some (.int .i64 q.x3) ∧ w'.cell? ⟨w2.heap.size, 4, none⟩ = some (.int .i64 q.h) ∧ w'.cell? ⟨w2.heap.size, 5, none⟩ = some (.string Y))
      (first | (with_reducible assumption) | (with_reducible exact fe_drew hS0) | (with_reducible exact fe_drew (fe_alloc hS0 _)) | (with_reducible exact fe_alloc (fe_drew hS0) _) | (with_reducible refine fe_drew ?_; with_reducible assumption) | (with_reducible refine fe_alloc ?_ _; with_reducible assumption) | (with_reducible refine fe_re (by with_reducible assumption) ?_ _; (focus first | (with_reducible assumption) | omega | (simp; done) | (simp; omega))) | (with_reducible refine fe_below ?_ ?_ h1; (focus first | (with_reducible assumption) | (with_reducible refine fe_undrew ?_; with_reducible assumption)); (focus first | (with_reducible assumption) | omega | (simp; done) | (simp; omega))) | ((repeat (with_reducible refine fe_set ?_ _ _ ?_; rotate_left 1; (focus first | (with_reducible assumption) | omega | (simp; done) | (simp; omega)))); with_reducible assumption))
      ((go_at_call 81; (with_reducible refine (NM.out _).mono ?_); rintro e w3 ⟨rfl, h1⟩; (try with_reducible replace h1 := undrew h1); have hB : Below w.heap.size w w3 := ba (by go_grown) h1; obtain ⟨hcw3, hfw3⟩ := bcell h1; have hqw3 := h1.size; (try simp at hqw3); (try have hz0w3 : w.heap.size < w3.heap.size := (by omega)); (try have he0w3 : w.heap.size ≤ w3.heap.size := (by omega)); (try have hz1w3 : w.heap.size + 1 < w3.heap.size := (by omega)); (try have he1w3 : w.heap.size + 1 ≤ w3.heap.size := (by omega)); (try have hz2w3 : w2.heap.size < w3.heap.size := (by omega)); (try have he2w3 : w2.heap.size ≤ w3.heap.size := (by omega))))
    all_goals
      go_wp2_with fail
      refine bodyPost_ret (by simp [results, Try.results43, go_sem, *]; try rfl) rfl ?_
      exact ⟨rfl, by go_grown⟩

end Go.Proofs.Ytkmgcmgnaeamaaa
