/- Contracts: points on pieces and pieces that meet, in the model. -/
import Derived.Test.YtppbbcckijcckaaAp
import Derived.Test.YtppbbcckijcckaaWq
import Derived.Deep.DeepCutAuto
namespace Go.Proofs.Ytppbbcckijcckaa
open Go.ChangeShapes Go.WideShapes Go.ChangeAt Go.RowKit Go.Sort

set_option linter.unusedVariables false
set_option linter.unusedSimpArgs false

/-- The ends of the second piece are on both sides of the first one. -/
def spl (a b c d : Pn) : Bool := decide (Pn.sd a b c * Pn.sd a b d < 0)

/-- Two pieces have a point in common. -/
def shr (a b c d : Pn) : Bool := (spl a b c d && spl c d a b) || (Pn.btw a b c || (Pn.btw a b d || (Pn.btw c d a || Pn.btw c d b)))

theorem sd_three (p q r : Pn) : Pn.sd p q r = 1 ∨ Pn.sd p q r = 0 ∨ Pn.sd p q r = -1 := Su.sn_three _

theorem sd_mul (p q r a b c : Pn) : wrap64 (Pn.sd p q r * Pn.sd a b c) = Pn.sd p q r * Pn.sd a b c := by
  rcases sd_three p q r with h | h | h <;> rcases sd_three a b c with k | k | k <;> rw [h, k] <;> exact w64p _ (by decide) (by decide)

theorem sd_mul3 (p q r a b c : Pn) : Pn.sd p q r * Pn.sd a b c = 1 ∨ Pn.sd p q r * Pn.sd a b c = 0 ∨ Pn.sd p q r * Pn.sd a b c = -1 := by
  rcases sd_three p q r with h | h | h <;> rcases sd_three a b c with k | k | k <;> rw [h, k] <;> decide

theorem sd_mulK (p q r a b c : Pn) : IntKind.i64.wrap (Pn.sd p q r * Pn.sd a b c) = Pn.sd p q r * Pn.sd a b c := by
  rcases sd_three p q r with h | h | h <;> rcases sd_three a b c with k | k | k <;> rw [h, k] <;> rfl

set_option maxRecDepth 100000 in
set_option maxHeartbeats 800000 in
theorem arBetweenP (p q r : Pn) (hp : Bd 100000 p) (hq : Bd 100000 q) (hr : Bd 100000 r) (w : World) :
    Calls Try.prog 57 #[pv p, pv q, pv r] w fun e w' => e = .returned (.bool (Pn.btw p q r)) ∧ Below w.heap.size w w' := by
  have b1 : Bd 200000 (p.sub r) := hp.sub2 hr
  have b2 : Bd 200000 (q.sub r) := hq.sub2 hr
  have S := arSideP p q r hp hq hr
  have G := spSignP ((p.sub r).mir.mul (q.sub r)).tx ((dx_bd b1 b2).mono (by omega))
  rw [show ((p.sub r).mir.mul (q.sub r)).tx.sn = Pn.dn r p q from dx_dn p q r] at G
  by_cases h0 : Pn.sd p q r = 0
  · have e : Pn.btw p q r = decide (Pn.dn r p q ≤ 0) := by simp [Pn.btw, h0]
    rw [e]
    go_enter Try.func57, Try.ntmps57
    go_wp2_with fail
    refine absW (F := fun W => (W.cell? ⟨w.heap.size, 0, none⟩ = some (.int .i64 (p).a) ∧ W.cell? ⟨w.heap.size, 1, none⟩ = some (.int .i64 (p).b) ∧ W.cell? ⟨w.heap.size, 2, none⟩ = some (.int .i64 (p).c) ∧ W.cell? ⟨w.heap.size, 3, none⟩ = some (.int .i64 (p).d)) ∧ (W.cell? ⟨w.heap.size + 1, 0, none⟩ = some (.int .i64 (q).a) ∧ W.cell? ⟨w.heap.size + 1, 1, none⟩ = some (.int .i64 (q).b) ∧ W.cell? ⟨w.heap.size + 1, 2, none⟩ = some (.int .i64 (q).c) ∧ W.cell? ⟨w.heap.size + 1, 3, none⟩ = some (.int .i64 (q).d)) ∧ (W.cell? ⟨w.heap.size + 1 + 1, 0, none⟩ = some (.int .i64 (r).a) ∧ W.cell? ⟨w.heap.size + 1 + 1, 1, none⟩ = some (.int .i64 (r).b) ∧ W.cell? ⟨w.heap.size + 1 + 1, 2, none⟩ = some (.int .i64 (r).c) ∧ W.cell? ⟨w.heap.size + 1 + 1, 3, none⟩ = some (.int .i64 (r).d)) ∧ Below w.heap.size w W ∧ W.heap.size = w.heap.size + 1 + 1 + 1) ⟨⟨by go_simp, by go_simp, by go_simp, by go_simp⟩, ⟨by go_simp, by go_simp, by go_simp, by go_simp⟩, ⟨by go_simp, by go_simp, by go_simp, by go_simp⟩, by go_grown, by first | (simp; done) | (simp; omega)⟩ ?_
    rintro W ⟨⟨c0_0, c0_1, c0_2, c0_3⟩, ⟨c1_0, c1_1, c1_2, c1_3⟩, ⟨c2_0, c2_1, c2_2, c2_3⟩, HB, hz⟩
    have k0_0 := fun d os => cell_regrown c0_0 d os
    have k0_1 := fun d os => cell_regrown c0_1 d os
    have k0_2 := fun d os => cell_regrown c0_2 d os
    have k0_3 := fun d os => cell_regrown c0_3 d os
    have k1_0 := fun d os => cell_regrown c1_0 d os
    have k1_1 := fun d os => cell_regrown c1_1 d os
    have k1_2 := fun d os => cell_regrown c1_2 d os
    have k1_3 := fun d os => cell_regrown c1_3 d os
    have k2_0 := fun d os => cell_regrown c2_0 d os
    have k2_1 := fun d os => cell_regrown c2_1 d os
    have k2_2 := fun d os => cell_regrown c2_2 d os
    have k2_3 := fun d os => cell_regrown c2_3 d os
    refine wp_region_quiet_below (by kernel_rfl) (by kernel_rfl) ?_
    repeat (quiet_step (first | (go_at_call 54; with_reducible exact Calls.regrown_of (S _)) | (go_at_call 96; with_reducible exact Calls.regrown_of (spLessP p r (hp.mono (by omega)) (hr.mono (by omega)) _)) | (go_at_call 96; with_reducible exact Calls.regrown_of (spLessP q r (hq.mono (by omega)) (hr.mono (by omega)) _)) | (go_at_call 112; with_reducible exact Calls.regrown_of (arProductP (p.sub r) (q.sub r) (b1.mono (by omega)) (b2.mono (by omega)) _)) | (go_at_call 73; with_reducible exact Calls.regrown_of (spXP ((p.sub r).mir.mul (q.sub r)) ((b1.mir_bd.mul_bd b2).mono (by omega)) _)) | (go_at_call 106; with_reducible exact Calls.regrown_of (G _))))
    refine wpQuiet_nil ?_
    rintro _ ⟨⟨dq, osq⟩, rfl⟩
    have hbw1 := below_regrown W dq osq
    generalize grow (redrawn W dq) osq = w1 at hbw1 ⊢
    obtain ⟨hcw1, hfw1⟩ := bcell hbw1
    have hlw1 := hbw1.size
    replace HB := ba HB hbw1
    go_wp2_with fail
    go_returns
    exact ⟨rfl, by go_grown⟩
  · have e : Pn.btw p q r = false := by simp [Pn.btw, h0]
    rw [e]
    go_enter Try.func57, Try.ntmps57
    go_wp2_with fail
    refine absW (F := fun W => (W.cell? ⟨w.heap.size, 0, none⟩ = some (.int .i64 (p).a) ∧ W.cell? ⟨w.heap.size, 1, none⟩ = some (.int .i64 (p).b) ∧ W.cell? ⟨w.heap.size, 2, none⟩ = some (.int .i64 (p).c) ∧ W.cell? ⟨w.heap.size, 3, none⟩ = some (.int .i64 (p).d)) ∧ (W.cell? ⟨w.heap.size + 1, 0, none⟩ = some (.int .i64 (q).a) ∧ W.cell? ⟨w.heap.size + 1, 1, none⟩ = some (.int .i64 (q).b) ∧ W.cell? ⟨w.heap.size + 1, 2, none⟩ = some (.int .i64 (q).c) ∧ W.cell? ⟨w.heap.size + 1, 3, none⟩ = some (.int .i64 (q).d)) ∧ (W.cell? ⟨w.heap.size + 1 + 1, 0, none⟩ = some (.int .i64 (r).a) ∧ W.cell? ⟨w.heap.size + 1 + 1, 1, none⟩ = some (.int .i64 (r).b) ∧ W.cell? ⟨w.heap.size + 1 + 1, 2, none⟩ = some (.int .i64 (r).c) ∧ W.cell? ⟨w.heap.size + 1 + 1, 3, none⟩ = some (.int .i64 (r).d)) ∧ Below w.heap.size w W ∧ W.heap.size = w.heap.size + 1 + 1 + 1) ⟨⟨by go_simp, by go_simp, by go_simp, by go_simp⟩, ⟨by go_simp, by go_simp, by go_simp, by go_simp⟩, ⟨by go_simp, by go_simp, by go_simp, by go_simp⟩, by go_grown, by first | (simp; done) | (simp; omega)⟩ ?_
    rintro W ⟨⟨c0_0, c0_1, c0_2, c0_3⟩, ⟨c1_0, c1_1, c1_2, c1_3⟩, ⟨c2_0, c2_1, c2_2, c2_3⟩, HB, hz⟩
    have k0_0 := fun d os => cell_regrown c0_0 d os
    have k0_1 := fun d os => cell_regrown c0_1 d os
    have k0_2 := fun d os => cell_regrown c0_2 d os
    have k0_3 := fun d os => cell_regrown c0_3 d os
    have k1_0 := fun d os => cell_regrown c1_0 d os
    have k1_1 := fun d os => cell_regrown c1_1 d os
    have k1_2 := fun d os => cell_regrown c1_2 d os
    have k1_3 := fun d os => cell_regrown c1_3 d os
    have k2_0 := fun d os => cell_regrown c2_0 d os
    have k2_1 := fun d os => cell_regrown c2_1 d os
    have k2_2 := fun d os => cell_regrown c2_2 d os
    have k2_3 := fun d os => cell_regrown c2_3 d os
    refine wp_region_quiet_below (by kernel_rfl) (by kernel_rfl) ?_
    repeat (quiet_step (first | (go_at_call 54; with_reducible exact Calls.regrown_of (S _))))
    refine wpQuiet_nil ?_
    rintro _ ⟨⟨dq, osq⟩, rfl⟩
    have hbw1 := below_regrown W dq osq
    generalize grow (redrawn W dq) osq = w1 at hbw1 ⊢
    obtain ⟨hcw1, hfw1⟩ := bcell hbw1
    have hlw1 := hbw1.size
    replace HB := ba HB hbw1
    go_wp2_with fail
    go_returns
    exact ⟨rfl, by go_grown⟩

set_option maxRecDepth 100000 in
set_option maxHeartbeats 6400000 in
theorem arShareP (p q r s : Pn) (hp : Bd 100000 p) (hq : Bd 100000 q) (hr : Bd 100000 r) (hs : Bd 100000 s) (w : World) :
    Calls Try.prog 59 #[pv p, pv q, pv r, pv s] w fun e w' => e = .returned (.bool (shr p q r s)) ∧ Below w.heap.size w w' := by
  have B1 := arBetweenP p q r hp hq hr
  have B2 := arBetweenP p q s hp hq hs
  have B3 := arBetweenP r s p hr hs hp
  have B4 := arBetweenP r s q hr hs hq
  have S1 := arSideP p q r hp hq hr
  have S2 := arSideP p q s hp hq hs
  have S3 := arSideP r s p hr hs hp
  have S4 := arSideP r s q hr hs hq
  have m1 : IntKind.i64.wrap (Pn.sd p q r * Pn.sd p q s) = _ := sd_mulK p q r p q s
  have m2 : IntKind.i64.wrap (Pn.sd r s p * Pn.sd r s q) = _ := sd_mulK r s p r s q
  have hB := shr.eq_1 p q r s
  generalize Pn.btw p q r = b1 at *
  generalize Pn.btw p q s = b2 at *
  generalize Pn.btw r s p = b3 at *
  generalize Pn.btw r s q = b4 at *
  rw [hB]
  unfold spl
  clear hB hp hq hr hs
  obtain ⟨t0, ht0⟩ : ∃ t, Pn.sd p q r * Pn.sd p q s = t := ⟨_, rfl⟩
  obtain ⟨t1, ht1⟩ : ∃ t, Pn.sd r s p * Pn.sd r s q = t := ⟨_, rfl⟩
  rw [ht0, ht1]
  replace m1 := m1.trans ht0
  replace m2 := m2.trans ht1
  clear ht0 ht1
  go_enter Try.func59, Try.ntmps59
  go_upto_region 1 with fail
  go_cut [30] (fun s30 wx => s30 = .bool (b1 || (b2 || (b3 || b4))) ∧ (wx.cell? ⟨w.heap.size, 0, none⟩ = some (.int .i64 (p).a) ∧ wx.cell? ⟨w.heap.size, 1, none⟩ = some (.int .i64 (p).b) ∧ wx.cell? ⟨w.heap.size, 2, none⟩ = some (.int .i64 (p).c) ∧ wx.cell? ⟨w.heap.size, 3, none⟩ = some (.int .i64 (p).d)) ∧ (wx.cell? ⟨w.heap.size + 1, 0, none⟩ = some (.int .i64 (q).a) ∧ wx.cell? ⟨w.heap.size + 1, 1, none⟩ = some (.int .i64 (q).b) ∧ wx.cell? ⟨w.heap.size + 1, 2, none⟩ = some (.int .i64 (q).c) ∧ wx.cell? ⟨w.heap.size + 1, 3, none⟩ = some (.int .i64 (q).d)) ∧ (wx.cell? ⟨w.heap.size + 1 + 1, 0, none⟩ = some (.int .i64 (r).a) ∧ wx.cell? ⟨w.heap.size + 1 + 1, 1, none⟩ = some (.int .i64 (r).b) ∧ wx.cell? ⟨w.heap.size + 1 + 1, 2, none⟩ = some (.int .i64 (r).c) ∧ wx.cell? ⟨w.heap.size + 1 + 1, 3, none⟩ = some (.int .i64 (r).d)) ∧ (wx.cell? ⟨w.heap.size + 1 + 1 + 1, 0, none⟩ = some (.int .i64 (s).a) ∧ wx.cell? ⟨w.heap.size + 1 + 1 + 1, 1, none⟩ = some (.int .i64 (s).b) ∧ wx.cell? ⟨w.heap.size + 1 + 1 + 1, 2, none⟩ = some (.int .i64 (s).c) ∧ wx.cell? ⟨w.heap.size + 1 + 1 + 1, 3, none⟩ = some (.int .i64 (s).d)) ∧ Below w.heap.size w wx ∧ w.heap.size + 4 ≤ wx.heap.size)
  case first =>
    cases b1
    case true =>
      go_wp2_with (first | (go_at_call 57; (with_reducible refine (B1 _).mono ?_); rintro e wA ⟨rfl, h1⟩; (try with_reducible replace h1 := undrew h1); have hB : Below w.heap.size w wA := ba (by go_grown) h1; obtain ⟨hcwA, hfwA⟩ := bcell h1; have hqwA := h1.size; (try simp at hqwA); (try have hz0wA : w.heap.size < wA.heap.size := (by omega)); (try have he0wA : w.heap.size ≤ wA.heap.size := (by omega)); (try have hz1wA : w.heap.size + 1 < wA.heap.size := (by omega)); (try have he1wA : w.heap.size + 1 ≤ wA.heap.size := (by omega)); (try have hz2wA : w.heap.size + 1 + 1 < wA.heap.size := (by omega)); (try have he2wA : w.heap.size + 1 + 1 ≤ wA.heap.size := (by omega)); (try have hz3wA : w.heap.size + 1 + 1 + 1 < wA.heap.size := (by omega)); (try have he3wA : w.heap.size + 1 + 1 + 1 ≤ wA.heap.size := (by omega))) | (go_at_call 57; (with_reducible refine (B2 _).mono ?_); rintro e wB ⟨rfl, h1⟩; (try with_reducible replace h1 := undrew h1); have hB : Below w.heap.size w wB := ba (by go_grown) h1; obtain ⟨hcwB, hfwB⟩ := bcell h1; have hqwB := h1.size; (try simp at hqwB); (try have hz0wB : w.heap.size < wB.heap.size := (by omega)); (try have he0wB : w.heap.size ≤ wB.heap.size := (by omega)); (try have hz1wB : w.heap.size + 1 < wB.heap.size := (by omega)); (try have he1wB : w.heap.size + 1 ≤ wB.heap.size := (by omega)); (try have hz2wB : w.heap.size + 1 + 1 < wB.heap.size := (by omega)); (try have he2wB : w.heap.size + 1 + 1 ≤ wB.heap.size := (by omega)); (try have hz3wB : w.heap.size + 1 + 1 + 1 < wB.heap.size := (by omega)); (try have he3wB : w.heap.size + 1 + 1 + 1 ≤ wB.heap.size := (by omega))) | (go_at_call 57; (with_reducible refine (B3 _).mono ?_); rintro e wC ⟨rfl, h1⟩; (try with_reducible replace h1 := undrew h1); have hB : Below w.heap.size w wC := ba (by go_grown) h1; obtain ⟨hcwC, hfwC⟩ := bcell h1; have hqwC := h1.size; (try simp at hqwC); (try have hz0wC : w.heap.size < wC.heap.size := (by omega)); (try have he0wC : w.heap.size ≤ wC.heap.size := (by omega)); (try have hz1wC : w.heap.size + 1 < wC.heap.size := (by omega)); (try have he1wC : w.heap.size + 1 ≤ wC.heap.size := (by omega)); (try have hz2wC : w.heap.size + 1 + 1 < wC.heap.size := (by omega)); (try have he2wC : w.heap.size + 1 + 1 ≤ wC.heap.size := (by omega)); (try have hz3wC : w.heap.size + 1 + 1 + 1 < wC.heap.size := (by omega)); (try have he3wC : w.heap.size + 1 + 1 + 1 ≤ wC.heap.size := (by omega))) | (go_at_call 57; (with_reducible refine (B4 _).mono ?_); rintro e wD ⟨rfl, h1⟩; (try with_reducible replace h1 := undrew h1); have hB : Below w.heap.size w wD := ba (by go_grown) h1; obtain ⟨hcwD, hfwD⟩ := bcell h1; have hqwD := h1.size; (try simp at hqwD); (try have hz0wD : w.heap.size < wD.heap.size := (by omega)); (try have he0wD : w.heap.size ≤ wD.heap.size := (by omega)); (try have hz1wD : w.heap.size + 1 < wD.heap.size := (by omega)); (try have he1wD : w.heap.size + 1 ≤ wD.heap.size := (by omega)); (try have hz2wD : w.heap.size + 1 + 1 < wD.heap.size := (by omega)); (try have he2wD : w.heap.size + 1 + 1 ≤ wD.heap.size := (by omega)); (try have hz3wD : w.heap.size + 1 + 1 + 1 < wD.heap.size := (by omega)); (try have he3wD : w.heap.size + 1 + 1 + 1 ≤ wD.heap.size := (by omega))))
      go_meet
      exact ⟨by simp, ⟨by go_simp, by go_simp, by go_simp, by go_simp⟩, ⟨by go_simp, by go_simp, by go_simp, by go_simp⟩, ⟨by go_simp, by go_simp, by go_simp, by go_simp⟩, ⟨by go_simp, by go_simp, by go_simp, by go_simp⟩, by go_grown, by omega⟩
    cases b2
    case true =>
      go_wp2_with (first | (go_at_call 57; (with_reducible refine (B1 _).mono ?_); rintro e wA ⟨rfl, h1⟩; (try with_reducible replace h1 := undrew h1); have hB : Below w.heap.size w wA := ba (by go_grown) h1; obtain ⟨hcwA, hfwA⟩ := bcell h1; have hqwA := h1.size; (try simp at hqwA); (try have hz0wA : w.heap.size < wA.heap.size := (by omega)); (try have he0wA : w.heap.size ≤ wA.heap.size := (by omega)); (try have hz1wA : w.heap.size + 1 < wA.heap.size := (by omega)); (try have he1wA : w.heap.size + 1 ≤ wA.heap.size := (by omega)); (try have hz2wA : w.heap.size + 1 + 1 < wA.heap.size := (by omega)); (try have he2wA : w.heap.size + 1 + 1 ≤ wA.heap.size := (by omega)); (try have hz3wA : w.heap.size + 1 + 1 + 1 < wA.heap.size := (by omega)); (try have he3wA : w.heap.size + 1 + 1 + 1 ≤ wA.heap.size := (by omega))) | (go_at_call 57; (with_reducible refine (B2 _).mono ?_); rintro e wB ⟨rfl, h1⟩; (try with_reducible replace h1 := undrew h1); have hB : Below w.heap.size w wB := ba (by go_grown) h1; obtain ⟨hcwB, hfwB⟩ := bcell h1; have hqwB := h1.size; (try simp at hqwB); (try have hz0wB : w.heap.size < wB.heap.size := (by omega)); (try have he0wB : w.heap.size ≤ wB.heap.size := (by omega)); (try have hz1wB : w.heap.size + 1 < wB.heap.size := (by omega)); (try have he1wB : w.heap.size + 1 ≤ wB.heap.size := (by omega)); (try have hz2wB : w.heap.size + 1 + 1 < wB.heap.size := (by omega)); (try have he2wB : w.heap.size + 1 + 1 ≤ wB.heap.size := (by omega)); (try have hz3wB : w.heap.size + 1 + 1 + 1 < wB.heap.size := (by omega)); (try have he3wB : w.heap.size + 1 + 1 + 1 ≤ wB.heap.size := (by omega))) | (go_at_call 57; (with_reducible refine (B3 _).mono ?_); rintro e wC ⟨rfl, h1⟩; (try with_reducible replace h1 := undrew h1); have hB : Below w.heap.size w wC := ba (by go_grown) h1; obtain ⟨hcwC, hfwC⟩ := bcell h1; have hqwC := h1.size; (try simp at hqwC); (try have hz0wC : w.heap.size < wC.heap.size := (by omega)); (try have he0wC : w.heap.size ≤ wC.heap.size := (by omega)); (try have hz1wC : w.heap.size + 1 < wC.heap.size := (by omega)); (try have he1wC : w.heap.size + 1 ≤ wC.heap.size := (by omega)); (try have hz2wC : w.heap.size + 1 + 1 < wC.heap.size := (by omega)); (try have he2wC : w.heap.size + 1 + 1 ≤ wC.heap.size := (by omega)); (try have hz3wC : w.heap.size + 1 + 1 + 1 < wC.heap.size := (by omega)); (try have he3wC : w.heap.size + 1 + 1 + 1 ≤ wC.heap.size := (by omega))) | (go_at_call 57; (with_reducible refine (B4 _).mono ?_); rintro e wD ⟨rfl, h1⟩; (try with_reducible replace h1 := undrew h1); have hB : Below w.heap.size w wD := ba (by go_grown) h1; obtain ⟨hcwD, hfwD⟩ := bcell h1; have hqwD := h1.size; (try simp at hqwD); (try have hz0wD : w.heap.size < wD.heap.size := (by omega)); (try have he0wD : w.heap.size ≤ wD.heap.size := (by omega)); (try have hz1wD : w.heap.size + 1 < wD.heap.size := (by omega)); (try have he1wD : w.heap.size + 1 ≤ wD.heap.size := (by omega)); (try have hz2wD : w.heap.size + 1 + 1 < wD.heap.size := (by omega)); (try have he2wD : w.heap.size + 1 + 1 ≤ wD.heap.size := (by omega)); (try have hz3wD : w.heap.size + 1 + 1 + 1 < wD.heap.size := (by omega)); (try have he3wD : w.heap.size + 1 + 1 + 1 ≤ wD.heap.size := (by omega))))
      go_meet
      exact ⟨by simp, ⟨by go_simp, by go_simp, by go_simp, by go_simp⟩, ⟨by go_simp, by go_simp, by go_simp, by go_simp⟩, ⟨by go_simp, by go_simp, by go_simp, by go_simp⟩, ⟨by go_simp, by go_simp, by go_simp, by go_simp⟩, by go_grown, by omega⟩
    cases b3
    case true =>
      go_wp2_with (first | (go_at_call 57; (with_reducible refine (B1 _).mono ?_); rintro e wA ⟨rfl, h1⟩; (try with_reducible replace h1 := undrew h1); have hB : Below w.heap.size w wA := ba (by go_grown) h1; obtain ⟨hcwA, hfwA⟩ := bcell h1; have hqwA := h1.size; (try simp at hqwA); (try have hz0wA : w.heap.size < wA.heap.size := (by omega)); (try have he0wA : w.heap.size ≤ wA.heap.size := (by omega)); (try have hz1wA : w.heap.size + 1 < wA.heap.size := (by omega)); (try have he1wA : w.heap.size + 1 ≤ wA.heap.size := (by omega)); (try have hz2wA : w.heap.size + 1 + 1 < wA.heap.size := (by omega)); (try have he2wA : w.heap.size + 1 + 1 ≤ wA.heap.size := (by omega)); (try have hz3wA : w.heap.size + 1 + 1 + 1 < wA.heap.size := (by omega)); (try have he3wA : w.heap.size + 1 + 1 + 1 ≤ wA.heap.size := (by omega))) | (go_at_call 57; (with_reducible refine (B2 _).mono ?_); rintro e wB ⟨rfl, h1⟩; (try with_reducible replace h1 := undrew h1); have hB : Below w.heap.size w wB := ba (by go_grown) h1; obtain ⟨hcwB, hfwB⟩ := bcell h1; have hqwB := h1.size; (try simp at hqwB); (try have hz0wB : w.heap.size < wB.heap.size := (by omega)); (try have he0wB : w.heap.size ≤ wB.heap.size := (by omega)); (try have hz1wB : w.heap.size + 1 < wB.heap.size := (by omega)); (try have he1wB : w.heap.size + 1 ≤ wB.heap.size := (by omega)); (try have hz2wB : w.heap.size + 1 + 1 < wB.heap.size := (by omega)); (try have he2wB : w.heap.size + 1 + 1 ≤ wB.heap.size := (by omega)); (try have hz3wB : w.heap.size + 1 + 1 + 1 < wB.heap.size := (by omega)); (try have he3wB : w.heap.size + 1 + 1 + 1 ≤ wB.heap.size := (by omega))) | (go_at_call 57; (with_reducible refine (B3 _).mono ?_); rintro e wC ⟨rfl, h1⟩; (try with_reducible replace h1 := undrew h1); have hB : Below w.heap.size w wC := ba (by go_grown) h1; obtain ⟨hcwC, hfwC⟩ := bcell h1; have hqwC := h1.size; (try simp at hqwC); (try have hz0wC : w.heap.size < wC.heap.size := (by omega)); (try have he0wC : w.heap.size ≤ wC.heap.size := (by omega)); (try have hz1wC : w.heap.size + 1 < wC.heap.size := (by omega)); (try have he1wC : w.heap.size + 1 ≤ wC.heap.size := (by omega)); (try have hz2wC : w.heap.size + 1 + 1 < wC.heap.size := (by omega)); (try have he2wC : w.heap.size + 1 + 1 ≤ wC.heap.size := (by omega)); (try have hz3wC : w.heap.size + 1 + 1 + 1 < wC.heap.size := (by omega)); (try have he3wC : w.heap.size + 1 + 1 + 1 ≤ wC.heap.size := (by omega))) | (go_at_call 57; (with_reducible refine (B4 _).mono ?_); rintro e wD ⟨rfl, h1⟩; (try with_reducible replace h1 := undrew h1); have hB : Below w.heap.size w wD := ba (by go_grown) h1; obtain ⟨hcwD, hfwD⟩ := bcell h1; have hqwD := h1.size; (try simp at hqwD); (try have hz0wD : w.heap.size < wD.heap.size := (by omega)); (try have he0wD : w.heap.size ≤ wD.heap.size := (by omega)); (try have hz1wD : w.heap.size + 1 < wD.heap.size := (by omega)); (try have he1wD : w.heap.size + 1 ≤ wD.heap.size := (by omega)); (try have hz2wD : w.heap.size + 1 + 1 < wD.heap.size := (by omega)); (try have he2wD : w.heap.size + 1 + 1 ≤ wD.heap.size := (by omega)); (try have hz3wD : w.heap.size + 1 + 1 + 1 < wD.heap.size := (by omega)); (try have he3wD : w.heap.size + 1 + 1 + 1 ≤ wD.heap.size := (by omega))))
      go_meet
      exact ⟨by simp, ⟨by go_simp, by go_simp, by go_simp, by go_simp⟩, ⟨by go_simp, by go_simp, by go_simp, by go_simp⟩, ⟨by go_simp, by go_simp, by go_simp, by go_simp⟩, ⟨by go_simp, by go_simp, by go_simp, by go_simp⟩, by go_grown, by omega⟩
    cases b4
    case true =>
      go_wp2_with (first | (go_at_call 57; (with_reducible refine (B1 _).mono ?_); rintro e wA ⟨rfl, h1⟩; (try with_reducible replace h1 := undrew h1); have hB : Below w.heap.size w wA := ba (by go_grown) h1; obtain ⟨hcwA, hfwA⟩ := bcell h1; have hqwA := h1.size; (try simp at hqwA); (try have hz0wA : w.heap.size < wA.heap.size := (by omega)); (try have he0wA : w.heap.size ≤ wA.heap.size := (by omega)); (try have hz1wA : w.heap.size + 1 < wA.heap.size := (by omega)); (try have he1wA : w.heap.size + 1 ≤ wA.heap.size := (by omega)); (try have hz2wA : w.heap.size + 1 + 1 < wA.heap.size := (by omega)); (try have he2wA : w.heap.size + 1 + 1 ≤ wA.heap.size := (by omega)); (try have hz3wA : w.heap.size + 1 + 1 + 1 < wA.heap.size := (by omega)); (try have he3wA : w.heap.size + 1 + 1 + 1 ≤ wA.heap.size := (by omega))) | (go_at_call 57; (with_reducible refine (B2 _).mono ?_); rintro e wB ⟨rfl, h1⟩; (try with_reducible replace h1 := undrew h1); have hB : Below w.heap.size w wB := ba (by go_grown) h1; obtain ⟨hcwB, hfwB⟩ := bcell h1; have hqwB := h1.size; (try simp at hqwB); (try have hz0wB : w.heap.size < wB.heap.size := (by omega)); (try have he0wB : w.heap.size ≤ wB.heap.size := (by omega)); (try have hz1wB : w.heap.size + 1 < wB.heap.size := (by omega)); (try have he1wB : w.heap.size + 1 ≤ wB.heap.size := (by omega)); (try have hz2wB : w.heap.size + 1 + 1 < wB.heap.size := (by omega)); (try have he2wB : w.heap.size + 1 + 1 ≤ wB.heap.size := (by omega)); (try have hz3wB : w.heap.size + 1 + 1 + 1 < wB.heap.size := (by omega)); (try have he3wB : w.heap.size + 1 + 1 + 1 ≤ wB.heap.size := (by omega))) | (go_at_call 57; (with_reducible refine (B3 _).mono ?_); rintro e wC ⟨rfl, h1⟩; (try with_reducible replace h1 := undrew h1); have hB : Below w.heap.size w wC := ba (by go_grown) h1; obtain ⟨hcwC, hfwC⟩ := bcell h1; have hqwC := h1.size; (try simp at hqwC); (try have hz0wC : w.heap.size < wC.heap.size := (by omega)); (try have he0wC : w.heap.size ≤ wC.heap.size := (by omega)); (try have hz1wC : w.heap.size + 1 < wC.heap.size := (by omega)); (try have he1wC : w.heap.size + 1 ≤ wC.heap.size := (by omega)); (try have hz2wC : w.heap.size + 1 + 1 < wC.heap.size := (by omega)); (try have he2wC : w.heap.size + 1 + 1 ≤ wC.heap.size := (by omega)); (try have hz3wC : w.heap.size + 1 + 1 + 1 < wC.heap.size := (by omega)); (try have he3wC : w.heap.size + 1 + 1 + 1 ≤ wC.heap.size := (by omega))) | (go_at_call 57; (with_reducible refine (B4 _).mono ?_); rintro e wD ⟨rfl, h1⟩; (try with_reducible replace h1 := undrew h1); have hB : Below w.heap.size w wD := ba (by go_grown) h1; obtain ⟨hcwD, hfwD⟩ := bcell h1; have hqwD := h1.size; (try simp at hqwD); (try have hz0wD : w.heap.size < wD.heap.size := (by omega)); (try have he0wD : w.heap.size ≤ wD.heap.size := (by omega)); (try have hz1wD : w.heap.size + 1 < wD.heap.size := (by omega)); (try have he1wD : w.heap.size + 1 ≤ wD.heap.size := (by omega)); (try have hz2wD : w.heap.size + 1 + 1 < wD.heap.size := (by omega)); (try have he2wD : w.heap.size + 1 + 1 ≤ wD.heap.size := (by omega)); (try have hz3wD : w.heap.size + 1 + 1 + 1 < wD.heap.size := (by omega)); (try have he3wD : w.heap.size + 1 + 1 + 1 ≤ wD.heap.size := (by omega))))
      go_meet
      exact ⟨by simp, ⟨by go_simp, by go_simp, by go_simp, by go_simp⟩, ⟨by go_simp, by go_simp, by go_simp, by go_simp⟩, ⟨by go_simp, by go_simp, by go_simp, by go_simp⟩, ⟨by go_simp, by go_simp, by go_simp, by go_simp⟩, by go_grown, by omega⟩
    · go_wp2_with (first | (go_at_call 57; (with_reducible refine (B1 _).mono ?_); rintro e wA ⟨rfl, h1⟩; (try with_reducible replace h1 := undrew h1); have hB : Below w.heap.size w wA := ba (by go_grown) h1; obtain ⟨hcwA, hfwA⟩ := bcell h1; have hqwA := h1.size; (try simp at hqwA); (try have hz0wA : w.heap.size < wA.heap.size := (by omega)); (try have he0wA : w.heap.size ≤ wA.heap.size := (by omega)); (try have hz1wA : w.heap.size + 1 < wA.heap.size := (by omega)); (try have he1wA : w.heap.size + 1 ≤ wA.heap.size := (by omega)); (try have hz2wA : w.heap.size + 1 + 1 < wA.heap.size := (by omega)); (try have he2wA : w.heap.size + 1 + 1 ≤ wA.heap.size := (by omega)); (try have hz3wA : w.heap.size + 1 + 1 + 1 < wA.heap.size := (by omega)); (try have he3wA : w.heap.size + 1 + 1 + 1 ≤ wA.heap.size := (by omega))) | (go_at_call 57; (with_reducible refine (B2 _).mono ?_); rintro e wB ⟨rfl, h1⟩; (try with_reducible replace h1 := undrew h1); have hB : Below w.heap.size w wB := ba (by go_grown) h1; obtain ⟨hcwB, hfwB⟩ := bcell h1; have hqwB := h1.size; (try simp at hqwB); (try have hz0wB : w.heap.size < wB.heap.size := (by omega)); (try have he0wB : w.heap.size ≤ wB.heap.size := (by omega)); (try have hz1wB : w.heap.size + 1 < wB.heap.size := (by omega)); (try have he1wB : w.heap.size + 1 ≤ wB.heap.size := (by omega)); (try have hz2wB : w.heap.size + 1 + 1 < wB.heap.size := (by omega)); (try have he2wB : w.heap.size + 1 + 1 ≤ wB.heap.size := (by omega)); (try have hz3wB : w.heap.size + 1 + 1 + 1 < wB.heap.size := (by omega)); (try have he3wB : w.heap.size + 1 + 1 + 1 ≤ wB.heap.size := (by omega))) | (go_at_call 57; (with_reducible refine (B3 _).mono ?_); rintro e wC ⟨rfl, h1⟩; (try with_reducible replace h1 := undrew h1); have hB : Below w.heap.size w wC := ba (by go_grown) h1; obtain ⟨hcwC, hfwC⟩ := bcell h1; have hqwC := h1.size; (try simp at hqwC); (try have hz0wC : w.heap.size < wC.heap.size := (by omega)); (try have he0wC : w.heap.size ≤ wC.heap.size := (by omega)); (try have hz1wC : w.heap.size + 1 < wC.heap.size := (by omega)); (try have he1wC : w.heap.size + 1 ≤ wC.heap.size := (by omega)); (try have hz2wC : w.heap.size + 1 + 1 < wC.heap.size := (by omega)); (try have he2wC : w.heap.size + 1 + 1 ≤ wC.heap.size := (by omega)); (try have hz3wC : w.heap.size + 1 + 1 + 1 < wC.heap.size := (by omega)); (try have he3wC : w.heap.size + 1 + 1 + 1 ≤ wC.heap.size := (by omega))) | (go_at_call 57; (with_reducible refine (B4 _).mono ?_); rintro e wD ⟨rfl, h1⟩; (try with_reducible replace h1 := undrew h1); have hB : Below w.heap.size w wD := ba (by go_grown) h1; obtain ⟨hcwD, hfwD⟩ := bcell h1; have hqwD := h1.size; (try simp at hqwD); (try have hz0wD : w.heap.size < wD.heap.size := (by omega)); (try have he0wD : w.heap.size ≤ wD.heap.size := (by omega)); (try have hz1wD : w.heap.size + 1 < wD.heap.size := (by omega)); (try have he1wD : w.heap.size + 1 ≤ wD.heap.size := (by omega)); (try have hz2wD : w.heap.size + 1 + 1 < wD.heap.size := (by omega)); (try have he2wD : w.heap.size + 1 + 1 ≤ wD.heap.size := (by omega)); (try have hz3wD : w.heap.size + 1 + 1 + 1 < wD.heap.size := (by omega)); (try have he3wD : w.heap.size + 1 + 1 + 1 ≤ wD.heap.size := (by omega))))
      go_meet
      exact ⟨by simp, ⟨by go_simp, by go_simp, by go_simp, by go_simp⟩, ⟨by go_simp, by go_simp, by go_simp, by go_simp⟩, ⟨by go_simp, by go_simp, by go_simp, by go_simp⟩, ⟨by go_simp, by go_simp, by go_simp, by go_simp⟩, by go_grown, by omega⟩
  case rest =>
    obtain ⟨rfl, ⟨c0_0, c0_1, c0_2, c0_3⟩, ⟨c1_0, c1_1, c1_2, c1_3⟩, ⟨c2_0, c2_1, c2_2, c2_3⟩, ⟨c3_0, c3_1, c3_2, c3_3⟩, HBc, hzc⟩ := hcut
    have l0 : w.heap.size < wc.heap.size := by omega
    have l1 : w.heap.size + 1 < wc.heap.size := by omega
    have l2 : w.heap.size + 1 + 1 < wc.heap.size := by omega
    have l3 : w.heap.size + 1 + 1 + 1 < wc.heap.size := by omega
    cases hb : (b1 || (b2 || (b3 || b4)))
    case true =>
      have hb' : (decide (t0 < 0) && decide (t1 < 0) || (b1 || (b2 || (b3 || b4)))) = true := by rw [hb, Bool.or_true]
      go_wp2_with fail
      go_returns
      exact ⟨by rw [hb']; rfl, by go_grown⟩
    case false =>
      have hb' : (decide (t0 < 0) && decide (t1 < 0) || (b1 || (b2 || (b3 || b4)))) = (decide (t0 < 0) && decide (t1 < 0)) := by rw [hb, Bool.or_false]
      have HB' := Lib.hid hb'
      clear hb hb' B1 B2 B3 B4
      go_wp2_with fail
      refine absW (F := fun W => (W.cell? ⟨w.heap.size, 0, none⟩ = some (.int .i64 (p).a) ∧ W.cell? ⟨w.heap.size, 1, none⟩ = some (.int .i64 (p).b) ∧ W.cell? ⟨w.heap.size, 2, none⟩ = some (.int .i64 (p).c) ∧ W.cell? ⟨w.heap.size, 3, none⟩ = some (.int .i64 (p).d)) ∧ (W.cell? ⟨w.heap.size + 1, 0, none⟩ = some (.int .i64 (q).a) ∧ W.cell? ⟨w.heap.size + 1, 1, none⟩ = some (.int .i64 (q).b) ∧ W.cell? ⟨w.heap.size + 1, 2, none⟩ = some (.int .i64 (q).c) ∧ W.cell? ⟨w.heap.size + 1, 3, none⟩ = some (.int .i64 (q).d)) ∧ (W.cell? ⟨w.heap.size + 1 + 1, 0, none⟩ = some (.int .i64 (r).a) ∧ W.cell? ⟨w.heap.size + 1 + 1, 1, none⟩ = some (.int .i64 (r).b) ∧ W.cell? ⟨w.heap.size + 1 + 1, 2, none⟩ = some (.int .i64 (r).c) ∧ W.cell? ⟨w.heap.size + 1 + 1, 3, none⟩ = some (.int .i64 (r).d)) ∧ (W.cell? ⟨w.heap.size + 1 + 1 + 1, 0, none⟩ = some (.int .i64 (s).a) ∧ W.cell? ⟨w.heap.size + 1 + 1 + 1, 1, none⟩ = some (.int .i64 (s).b) ∧ W.cell? ⟨w.heap.size + 1 + 1 + 1, 2, none⟩ = some (.int .i64 (s).c) ∧ W.cell? ⟨w.heap.size + 1 + 1 + 1, 3, none⟩ = some (.int .i64 (s).d)) ∧ (w.heap.size + 4 ≤ W.heap.size) ∧ Below w.heap.size w W) ⟨⟨by go_simp, by go_simp, by go_simp, by go_simp⟩, ⟨by go_simp, by go_simp, by go_simp, by go_simp⟩, ⟨by go_simp, by go_simp, by go_simp, by go_simp⟩, ⟨by go_simp, by go_simp, by go_simp, by go_simp⟩, by omega, by go_grown⟩ ?_
      rintro W ⟨⟨c0_0, c0_1, c0_2, c0_3⟩, ⟨c1_0, c1_1, c1_2, c1_3⟩, ⟨c2_0, c2_1, c2_2, c2_3⟩, ⟨c3_0, c3_1, c3_2, c3_3⟩, hzW, HB⟩
      have k0_0 := fun d os => cell_regrown c0_0 d os
      have k0_1 := fun d os => cell_regrown c0_1 d os
      have k0_2 := fun d os => cell_regrown c0_2 d os
      have k0_3 := fun d os => cell_regrown c0_3 d os
      have k1_0 := fun d os => cell_regrown c1_0 d os
      have k1_1 := fun d os => cell_regrown c1_1 d os
      have k1_2 := fun d os => cell_regrown c1_2 d os
      have k1_3 := fun d os => cell_regrown c1_3 d os
      have k2_0 := fun d os => cell_regrown c2_0 d os
      have k2_1 := fun d os => cell_regrown c2_1 d os
      have k2_2 := fun d os => cell_regrown c2_2 d os
      have k2_3 := fun d os => cell_regrown c2_3 d os
      have k3_0 := fun d os => cell_regrown c3_0 d os
      have k3_1 := fun d os => cell_regrown c3_1 d os
      have k3_2 := fun d os => cell_regrown c3_2 d os
      have k3_3 := fun d os => cell_regrown c3_3 d os
      clear l0 l1 l2 l3
      by_cases e0 : t0 < 0
      · skip
        refine wq_region (by kernel_rfl) (by kernel_rfl) ?_
        repeat ((refine WQ.step (fun K hK => ?_)); go_simp; (first | (refine hK _ ?_; clear hK K) | (apply Exists.intro; refine ⟨fun _ => ?_, hK _ ?_⟩; (first | (go_at_call 54; with_reducible exact Calls.regrown_of (S1 _)) | (go_at_call 54; with_reducible exact Calls.regrown_of (S2 _)) | (go_at_call 54; with_reducible exact Calls.regrown_of (S3 _)) | (go_at_call 54; with_reducible exact Calls.regrown_of (S4 _))); clear hK K)))
        refine WQ.nil ?_
        rintro _ ⟨⟨dq, osq⟩, rfl⟩
        have hbw1 := below_regrown W dq osq
        generalize grow (redrawn W dq) osq = w1 at hbw1 ⊢
        obtain ⟨hcw1, hfw1⟩ := bcell hbw1
        have hlw1 := hbw1.size
        replace HB := ba HB hbw1
        go_wp2_with fail
        go_returns
        exact ⟨by rw [HB'.out]; simp [e0], by go_grown⟩
      · skip
        refine wq_region (by kernel_rfl) (by kernel_rfl) ?_
        repeat ((refine WQ.step (fun K hK => ?_)); go_simp; (first | (refine hK _ ?_; clear hK K) | (apply Exists.intro; refine ⟨fun _ => ?_, hK _ ?_⟩; (first | (go_at_call 54; with_reducible exact Calls.regrown_of (S1 _)) | (go_at_call 54; with_reducible exact Calls.regrown_of (S2 _)) | (go_at_call 54; with_reducible exact Calls.regrown_of (S3 _)) | (go_at_call 54; with_reducible exact Calls.regrown_of (S4 _))); clear hK K)))
        refine WQ.nil ?_
        rintro _ ⟨⟨dq, osq⟩, rfl⟩
        have hbw1 := below_regrown W dq osq
        generalize grow (redrawn W dq) osq = w1 at hbw1 ⊢
        obtain ⟨hcw1, hfw1⟩ := bcell hbw1
        have hlw1 := hbw1.size
        replace HB := ba HB hbw1
        go_wp2_with fail
        go_returns
        exact ⟨by rw [HB'.out, decide_eq_false (Int.not_lt.2 e0)]; rfl, by go_grown⟩

end Go.Proofs.Ytppbbcckijcckaa
