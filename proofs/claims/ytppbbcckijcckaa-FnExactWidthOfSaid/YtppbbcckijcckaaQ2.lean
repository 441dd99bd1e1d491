/- Contracts and facts, put together (part 2). Conditions: each says its own. -/
import Derived.Test.YtppbbcckijcckaaQ1
import Derived.Deep.DeepCutAuto
import Derived.Laws.AppendOwn
import Derived.Laws.OwnMore
import Derived.Deep.AppendLies
import Derived.Deep.RegionLaw
import Derived.Shelf.SlSortCmp.QuietGrown

/- The walk of a region that draws, behind a structure: so that nothing unfolds it (operations that a guard leaves out would be reckoned through at once). -/
namespace Go.Proofs.Ytppbbcckijcckaa
open Go.ChangeShapes Go.WideShapes Go.ChangeAt Go.RowKit Go.Sort

structure WQ (P : Program) (ops : Array Oper) (C : World → Prop) (Q : Act → Prop) (l : List Oper) (a : Act) : Prop where
  out : wpQuiet P ops C Q l a

theorem WQ.nil {P : Program} {ops : Array Oper} {C : World → Prop} {Q : Act → Prop} {a : Act} (h : Q a) : WQ P ops C Q [] a := ⟨wpQuiet_nil h⟩

theorem WQ.step {P : Program} {ops : Array Oper} {C : World → Prop} {Q : Act → Prop} {a : Act} {o : Oper} {rest : List Oper}
    (h : ∀ K : Act → Prop, (∀ a, WQ P ops C Q rest a → K a) → if Region.wanted o (yielded ops a.tmps) then o.quiet P a C K else K (a.put o.dst undef)) : WQ P ops C Q (o :: rest) a :=
  ⟨wpQuiet_step fun K hK => h K fun a ha => hK a ha.out⟩

theorem wq_region {P : Program} {id : Nat} {Q : Exit → Act → World → Prop} {a : Act} {w : World} {l : List Oper} (hm : P.follows .mixedOrders = true) (hB : Region.lexB .any l.toArray = true)
    (h : WQ P l.toArray (fun w' => ∃ p : Regrown, w' = grow (redrawn w p.d) p.os) (fun a' => ∀ w', (∃ p : Regrown, w' = grow (redrawn w p.d) p.os) → Q .normal a' w') l a) : (Code.region id l.toArray true).wp P Q a w :=
  wp_region_quiet_below hm hB h.out

theorem wq_region_tail {P : Program} {id : Nat} {Q : Exit → Act → World → Prop} {a : Act} {w : World} {l : List Oper} (n : Nat) (hm : P.follows .mixedOrders = true) (hB : Region.lexTailB .any l.toArray n = true)
    (h : WQ P l.toArray (fun w' => ∃ p : Regrown, w' = grow (redrawn w p.d) p.os) (fun a' => ∀ w', (∃ p : Regrown, w' = grow (redrawn w p.d) p.os) → wpList P l.toArray Q (l.drop n) a' w') (l.take n) a) : (Code.region id l.toArray true).wp P Q a w :=
  region_below_tail n hm hB h.out

end Go.Proofs.Ytppbbcckijcckaa

/- Contracts: points on pieces and pieces that meet, in the model. -/
namespace Go.Proofs.Ytppbbcckijcckaa
open Go.ChangeShapes Go.WideShapes Go.ChangeAt Go.RowKit Go.Sort

set_option linter.unusedVariables false
set_option linter.unusedSimpArgs false

/-- The ends of the second piece are on both sides of the first one. -/
def spl (a b c d : Pn) : Bool := decide (Pn.sd a b c * Pn.sd a b d < 0)

/-- Two pieces have a point in common. -/
def shr (a b c d : Pn) : Bool := (spl a b c d && spl c d a b) || (Pn.btw a b c || (Pn.btw a b d || (Pn.btw c d a || Pn.btw c d b)))

theorem sd_three (p q r : Pn) : Pn.sd p q r = 1 ∨ Pn.sd p q r = 0 ∨ Pn.sd p q r = -1 := Su.sn_three _

theorem sd_mul (p q r a b c : Pn) : wrap64 (Pn.sd p q r * Pn.sd a b c) = Pn.sd p q r * Pn.sd a b c := by
  rcases sd_three p q r with h | h | h <;> rcases sd_three a b c with k | k | k <;> rw [h, k] <;> exact w64p _ (by decide) (by decide)

theorem sd_mul3 (p q r a b c : Pn) : Pn.sd p q r * Pn.sd a b c = 1 ∨ Pn.sd p q r * Pn.sd a b c = 0 ∨ Pn.sd p q r * Pn.sd a b c = -1 := by
  rcases sd_three p q r with h | h | h <;> rcases sd_three a b c with k | k | k <;> rw [h, k] <;> decide

theorem sd_mulK (p q r a b c : Pn) : IntKind.i64.wrap (Pn.sd p q r * Pn.sd a b c) = Pn.sd p q r * Pn.sd a b c := by
  rcases sd_three p q r with h | h | h <;> rcases sd_three a b c with k | k | k <;> rw [h, k] <;> rfl

set_option maxRecDepth 100000 in
set_option maxHeartbeats 800000 in
theorem arBetweenP (p q r : Pn) (hp : Bd 100000 p) (hq : Bd 100000 q) (hr : Bd 100000 r) (w : World) :
    Calls Try.prog 57 #[pv p, pv q, pv r] w fun e w' => e = .returned (.bool (Pn.btw p q r)) ∧ Below w.heap.size w w' := by
  have b1 : Bd 200000 (p.sub r) := hp.sub2 hr
  have b2 : Bd 200000 (q.sub r) := hq.sub2 hr
  have S := arSideP p q r hp hq hr
  have G := spSignP ((p.sub r).mir.mul (q.sub r)).tx ((dx_bd b1 b2).mono (by omega))
  rw [show ((p.sub r).mir.mul (q.sub r)).tx.sn = Pn.dn r p q from dx_dn p q r] at G
  by_cases h0 : Pn.sd p q r = 0
  · have e : Pn.btw p q r = decide (Pn.dn r p q ≤ 0) := by simp [Pn.btw, h0]
    rw [e]
    go_enter Try.func57, Try.ntmps57
    go_wp2_with fail
    refine absW (F := fun W => (W.cell? ⟨w.heap.size, 0, none⟩ = some (.int .i64 (p).a) ∧ W.cell? ⟨w.heap.size, 1, none⟩ = some (.int .i64 (p).b) ∧ W.cell? ⟨w.heap.size, 2, none⟩ = some (.int .i64 (p).c) ∧ W.cell? ⟨w.heap.size, 3, none⟩ = some (.int .i64 (p).d)) ∧ (W.cell? ⟨w.heap.size + 1, 0, none⟩ = some (.int .i64 (q).a) ∧ W.cell? ⟨w.heap.size + 1, 1, none⟩ = some (.int .i64 (q).b) ∧ W.cell? ⟨w.heap.size + 1, 2, none⟩ = some (.int .i64 (q).c) ∧ W.cell? ⟨w.heap.size + 1, 3, none⟩ = some (.int .i64 (q).d)) ∧ (W.cell? ⟨w.heap.size + 1 + 1, 0, none⟩ = some (.int .i64 (r).a) ∧ W.cell? ⟨w.heap.size + 1 + 1, 1, none⟩ = some (.int .i64 (r).b) ∧ W.cell? ⟨w.heap.size + 1 + 1, 2, none⟩ = some (.int .i64 (r).c) ∧ W.cell? ⟨w.heap.size + 1 + 1, 3, none⟩ = some (.int .i64 (r).d)) ∧ Below w.heap.size w W ∧ W.heap.size = w.heap.size + 1 + 1 + 1) ⟨⟨by go_simp, by go_simp, by go_simp, by go_simp⟩, ⟨by go_simp, by go_simp, by go_simp, by go_simp⟩, ⟨by go_simp, by go_simp, by go_simp, by go_simp⟩, by go_grown, by first | (simp; done) | (simp; omega)⟩ ?_
    rintro W ⟨⟨c0_0, c0_1, c0_2, c0_3⟩, ⟨c1_0, c1_1, c1_2, c1_3⟩, ⟨c2_0, c2_1, c2_2, c2_3⟩, HB, hz⟩
    have k0_0 := fun d os => cell_regrown c0_0 d os
    have k0_1 := fun d os => cell_regrown c0_1 d os
    have k0_2 := fun d os => cell_regrown c0_2 d os
    have k0_3 := fun d os => cell_regrown c0_3 d os
    have k1_0 := fun d os => cell_regrown c1_0 d os
    have k1_1 := fun d os => cell_regrown c1_1 d os
    have k1_2 := fun d os => cell_regrown c1_2 d os
    have k1_3 := fun d os => cell_regrown c1_3 d os
    have k2_0 := fun d os => cell_regrown c2_0 d os
    have k2_1 := fun d os => cell_regrown c2_1 d os
    have k2_2 := fun d os => cell_regrown c2_2 d os
    have k2_3 := fun d os => cell_regrown c2_3 d os
    refine wp_region_quiet_below (by kernel_rfl) (by kernel_rfl) ?_
    repeat (quiet_step (first | (go_at_call 54; with_reducible exact Calls.regrown_of (S _)) | (go_at_call 96; with_reducible exact Calls.regrown_of (spLessP p r (hp.mono (by omega)) (hr.mono (by omega)) _)) | (go_at_call 96; with_reducible exact Calls.regrown_of (spLessP q r (hq.mono (by omega)) (hr.mono (by omega)) _)) | (go_at_call 112; with_reducible exact Calls.regrown_of (arProductP (p.sub r) (q.sub r) (b1.mono (by omega)) (b2.mono (by omega)) _)) | (go_at_call 73; with_reducible exact Calls.regrown_of (spXP ((p.sub r).mir.mul (q.sub r)) ((b1.mir_bd.mul_bd b2).mono (by omega)) _)) | (go_at_call 106; with_reducible exact Calls.regrown_of (G _))))
    refine wpQuiet_nil ?_
    rintro _ ⟨⟨dq, osq⟩, rfl⟩
    have hbw1 := below_regrown W dq osq
    generalize grow (redrawn W dq) osq = w1 at hbw1 ⊢
    obtain ⟨hcw1, hfw1⟩ := bcell hbw1
    have hlw1 := hbw1.size
    replace HB := ba HB hbw1
    go_wp2_with fail
    go_returns
    exact ⟨rfl, by go_grown⟩
  · have e : Pn.btw p q r = false := by simp [Pn.btw, h0]
    rw [e]
    go_enter Try.func57, Try.ntmps57
    go_wp2_with fail
    refine absW (F := fun W => (W.cell? ⟨w.heap.size, 0, none⟩ = some (.int .i64 (p).a) ∧ W.cell? ⟨w.heap.size, 1, none⟩ = some (.int .i64 (p).b) ∧ W.cell? ⟨w.heap.size, 2, none⟩ = some (.int .i64 (p).c) ∧ W.cell? ⟨w.heap.size, 3, none⟩ = some (.int .i64 (p).d)) ∧ (W.cell? ⟨w.heap.size + 1, 0, none⟩ = some (.int .i64 (q).a) ∧ W.cell? ⟨w.heap.size + 1, 1, none⟩ = some (.int .i64 (q).b) ∧ W.cell? ⟨w.heap.size + 1, 2, none⟩ = some (.int .i64 (q).c) ∧ W.cell? ⟨w.heap.size + 1, 3, none⟩ = some (.int .i64 (q).d)) ∧ (W.cell? ⟨w.heap.size + 1 + 1, 0, none⟩ = some (.int .i64 (r).a) ∧ W.cell? ⟨w.heap.size + 1 + 1, 1, none⟩ = some (.int .i64 (r).b) ∧ W.cell? ⟨w.heap.size + 1 + 1, 2, none⟩ = some (.int .i64 (r).c) ∧ W.cell? ⟨w.heap.size + 1 + 1, 3, none⟩ = some (.int .i64 (r).d)) ∧ Below w.heap.size w W ∧ W.heap.size = w.heap.size + 1 + 1 + 1) ⟨⟨by go_simp, by go_simp, by go_simp, by go_simp⟩, ⟨by go_simp, by go_simp, by go_simp, by go_simp⟩, ⟨by go_simp, by go_simp, by go_simp, by go_simp⟩, by go_grown, by first | (simp; done) | (simp; omega)⟩ ?_
    rintro W ⟨⟨c0_0, c0_1, c0_2, c0_3⟩, ⟨c1_0, c1_1, c1_2, c1_3⟩, ⟨c2_0, c2_1, c2_2, c2_3⟩, HB, hz⟩
    have k0_0 := fun d os => cell_regrown c0_0 d os
    have k0_1 := fun d os => cell_regrown c0_1 d os
    have k0_2 := fun d os => cell_regrown c0_2 d os
    have k0_3 := fun d os => cell_regrown c0_3 d os
    have k1_0 := fun d os => cell_regrown c1_0 d os
    have k1_1 := fun d os => cell_regrown c1_1 d os
    have k1_2 := fun d os => cell_regrown c1_2 d os
    have k1_3 := fun d os => cell_regrown c1_3 d os
    have k2_0 := fun d os => cell_regrown c2_0 d os
    have k2_1 := fun d os => cell_regrown c2_1 d os
    have k2_2 := fun d os => cell_regrown c2_2 d os
    have k2_3 := fun d os => cell_regrown c2_3 d os
    refine wp_region_quiet_below (by kernel_rfl) (by kernel_rfl) ?_
    repeat (quiet_step (first | (go_at_call 54; with_reducible exact Calls.regrown_of (S _))))
    refine wpQuiet_nil ?_
    rintro _ ⟨⟨dq, osq⟩, rfl⟩
    have hbw1 := below_regrown W dq osq
    generalize grow (redrawn W dq) osq = w1 at hbw1 ⊢
    obtain ⟨hcw1, hfw1⟩ := bcell hbw1
    have hlw1 := hbw1.size
    replace HB := ba HB hbw1
    go_wp2_with fail
    go_returns
    exact ⟨rfl, by go_grown⟩

set_option maxRecDepth 100000 in
set_option maxHeartbeats 6400000 in
theorem arShareP (p q r s : Pn) (hp : Bd 100000 p) (hq : Bd 100000 q) (hr : Bd 100000 r) (hs : Bd 100000 s) (w : World) :
    Calls Try.prog 59 #[pv p, pv q, pv r, pv s] w fun e w' => e = .returned (.bool (shr p q r s)) ∧ Below w.heap.size w w' := by
  have B1 := arBetweenP p q r hp hq hr
  have B2 := arBetweenP p q s hp hq hs
  have B3 := arBetweenP r s p hr hs hp
  have B4 := arBetweenP r s q hr hs hq
  have S1 := arSideP p q r hp hq hr
  have S2 := arSideP p q s hp hq hs
  have S3 := arSideP r s p hr hs hp
  have S4 := arSideP r s q hr hs hq
  have m1 : IntKind.i64.wrap (Pn.sd p q r * Pn.sd p q s) = _ := sd_mulK p q r p q s
  have m2 : IntKind.i64.wrap (Pn.sd r s p * Pn.sd r s q) = _ := sd_mulK r s p r s q
  have hB := shr.eq_1 p q r s
  generalize Pn.btw p q r = b1 at *
  generalize Pn.btw p q s = b2 at *
  generalize Pn.btw r s p = b3 at *
  generalize Pn.btw r s q = b4 at *
  rw [hB]
  unfold spl
  clear hB hp hq hr hs
  obtain ⟨t0, ht0⟩ : ∃ t, Pn.sd p q r * Pn.sd p q s = t := ⟨_, rfl⟩
  obtain ⟨t1, ht1⟩ : ∃ t, Pn.sd r s p * Pn.sd r s q = t := ⟨_, rfl⟩
  rw [ht0, ht1]
  replace m1 := m1.trans ht0
  replace m2 := m2.trans ht1
  clear ht0 ht1
  go_enter Try.func59, Try.ntmps59
  go_upto_region 1 with fail
  go_cut [30] (fun s30 wx => s30 = .bool (b1 || (b2 || (b3 || b4))) ∧ (wx.cell? ⟨w.heap.size, 0, none⟩ = some (.int .i64 (p).a) ∧ wx.cell? ⟨w.heap.size, 1, none⟩ = some (.int .i64 (p).b) ∧ wx.cell? ⟨w.heap.size, 2, none⟩ = some (.int .i64 (p).c) ∧ wx.cell? ⟨w.heap.size, 3, none⟩ = some (.int .i64 (p).d)) ∧ (wx.cell? ⟨w.heap.size + 1, 0, none⟩ = some (.int .i64 (q).a) ∧ wx.cell? ⟨w.heap.size + 1, 1, none⟩ = some (.int .i64 (q).b) ∧ wx.cell? ⟨w.heap.size + 1, 2, none⟩ = some (.int .i64 (q).c) ∧ wx.cell? ⟨w.heap.size + 1, 3, none⟩ = some (.int .i64 (q).d)) ∧ (wx.cell? ⟨w.heap.size + 1 + 1, 0, none⟩ = some (.int .i64 (r).a) ∧ wx.cell? ⟨w.heap.size + 1 + 1, 1, none⟩ = some (.int .i64 (r).b) ∧ wx.cell? ⟨w.heap.size + 1 + 1, 2, none⟩ = some (.int .i64 (r).c) ∧ wx.cell? ⟨w.heap.size + 1 + 1, 3, none⟩ = some (.int .i64 (r).d)) ∧ (wx.cell? ⟨w.heap.size + 1 + 1 + 1, 0, none⟩ = some (.int .i64 (s).a) ∧ wx.cell? ⟨w.heap.size + 1 + 1 + 1, 1, none⟩ = some (.int .i64 (s).b) ∧ wx.cell? ⟨w.heap.size + 1 + 1 + 1, 2, none⟩ = some (.int .i64 (s).c) ∧ wx.cell? ⟨w.heap.size + 1 + 1 + 1, 3, none⟩ = some (.int .i64 (s).d)) ∧ Below w.heap.size w wx ∧ w.heap.size + 4 ≤ wx.heap.size)
  case first =>
    cases b1
    case true =>
      go_wp2_with (first | (go_at_call 57; (with_reducible refine (B1 _).mono ?_); rintro e wA ⟨rfl, h1⟩; (try with_reducible replace h1 := undrew h1); have hB : Below w.heap.size w wA := ba (by go_grown) h1; obtain ⟨hcwA, hfwA⟩ := bcell h1; have hqwA := h1.size; (try simp at hqwA); (try have hz0wA : w.heap.size < wA.heap.size := (by omega)); (try have he0wA : w.heap.size ≤ wA.heap.size := (by omega)); (try have hz1wA : w.heap.size + 1 < wA.heap.size := (by omega)); (try have he1wA : w.heap.size + 1 ≤ wA.heap.size := (by omega)); (try have hz2wA : w.heap.size + 1 + 1 < wA.heap.size := (by omega)); (try have he2wA : w.heap.size + 1 + 1 ≤ wA.heap.size := (by omega)); (try have hz3wA : w.heap.size + 1 + 1 + 1 < wA.heap.size := (by omega)); (try have he3wA : w.heap.size + 1 + 1 + 1 ≤ wA.heap.size := (by omega))) | (go_at_call 57; (with_reducible refine (B2 _).mono ?_); rintro e wB ⟨rfl, h1⟩; (try with_reducible replace h1 := undrew h1); have hB : Below w.heap.size w wB := ba (by go_grown) h1; obtain ⟨hcwB, hfwB⟩ := bcell h1; have hqwB := h1.size; (try simp at hqwB); (try have hz0wB : w.heap.size < wB.heap.size := (by omega)); (try have he0wB : w.heap.size ≤ wB.heap.size := (by omega)); (try have hz1wB : w.heap.size + 1 < wB.heap.size := (by omega)); (try have he1wB : w.heap.size + 1 ≤ wB.heap.size := (by omega)); (try have hz2wB : w.heap.size + 1 + 1 < wB.heap.size := (by omega)); (try have he2wB : w.heap.size + 1 + 1 ≤ wB.heap.size := (by omega)); (try have hz3wB : w.heap.size + 1 + 1 + 1 < wB.heap.size := (by omega)); (try have he3wB : w.heap.size + 1 + 1 + 1 ≤ wB.heap.size := (by omega))) | (go_at_call 57; (with_reducible refine (B3 _).mono ?_); rintro e wC ⟨rfl, h1⟩; (try with_reducible replace h1 := undrew h1); have hB : Below w.heap.size w wC := ba (by go_grown) h1; obtain ⟨hcwC, hfwC⟩ := bcell h1; have hqwC := h1.size; (try simp at hqwC); (try have hz0wC : w.heap.size < wC.heap.size := (by omega)); (try have he0wC : w.heap.size ≤ wC.heap.size := (by omega)); (try have hz1wC : w.heap.size + 1 < wC.heap.size := (by omega)); (try have he1wC : w.heap.size + 1 ≤ wC.heap.size := (by omega)); (try have hz2wC : w.heap.size + 1 + 1 < wC.heap.size := (by omega)); (try have he2wC : w.heap.size + 1 + 1 ≤ wC.heap.size := (by omega)); (try have hz3wC : w.heap.size + 1 + 1 + 1 < wC.heap.size := (by omega)); (try have he3wC : w.heap.size + 1 + 1 + 1 ≤ wC.heap.size := (by omega))) | (go_at_call 57; (with_reducible refine (B4 _).mono ?_); rintro e wD ⟨rfl, h1⟩; (try with_reducible replace h1 := undrew h1); have hB : Below w.heap.size w wD := ba (by go_grown) h1; obtain ⟨hcwD, hfwD⟩ := bcell h1; have hqwD := h1.size; (try simp at hqwD); (try have hz0wD : w.heap.size < wD.heap.size := (by omega)); (try have he0wD : w.heap.size ≤ wD.heap.size := (by omega)); (try have hz1wD : w.heap.size + 1 < wD.heap.size := (by omega)); (try have he1wD : w.heap.size + 1 ≤ wD.heap.size := (by omega)); (try have hz2wD : w.heap.size + 1 + 1 < wD.heap.size := (by omega)); (try have he2wD : w.heap.size + 1 + 1 ≤ wD.heap.size := (by omega)); (try have hz3wD : w.heap.size + 1 + 1 + 1 < wD.heap.size := (by omega)); (try have he3wD : w.heap.size + 1 + 1 + 1 ≤ wD.heap.size := (by omega))))
      go_meet
      exact ⟨by simp, ⟨by go_simp, by go_simp, by go_simp, by go_simp⟩, ⟨by go_simp, by go_simp, by go_simp, by go_simp⟩, ⟨by go_simp, by go_simp, by go_simp, by go_simp⟩, ⟨by go_simp, by go_simp, by go_simp, by go_simp⟩, by go_grown, by omega⟩
    cases b2
    case true =>
      go_wp2_with (first | (go_at_call 57; (with_reducible refine (B1 _).mono ?_); rintro e wA ⟨rfl, h1⟩; (try with_reducible replace h1 := undrew h1); have hB : Below w.heap.size w wA := ba (by go_grown) h1; obtain ⟨hcwA, hfwA⟩ := bcell h1; have hqwA := h1.size; (try simp at hqwA); (try have hz0wA : w.heap.size < wA.heap.size := (by omega)); (try have he0wA : w.heap.size ≤ wA.heap.size := (by omega)); (try have hz1wA : w.heap.size + 1 < wA.heap.size := (by omega)); (try have he1wA : w.heap.size + 1 ≤ wA.heap.size := (by omega)); (try have hz2wA : w.heap.size + 1 + 1 < wA.heap.size := (by omega)); (try have he2wA : w.heap.size + 1 + 1 ≤ wA.heap.size := (by omega)); (try have hz3wA : w.heap.size + 1 + 1 + 1 < wA.heap.size := (by omega)); (try have he3wA : w.heap.size + 1 + 1 + 1 ≤ wA.heap.size := (by omega))) | (go_at_call 57; (with_reducible refine (B2 _).mono ?_); rintro e wB ⟨rfl, h1⟩; (try with_reducible replace h1 := undrew h1); have hB : Below w.heap.size w wB := ba (by go_grown) h1; obtain ⟨hcwB, hfwB⟩ := bcell h1; have hqwB := h1.size; (try simp at hqwB); (try have hz0wB : w.heap.size < wB.heap.size := (by omega)); (try have he0wB : w.heap.size ≤ wB.heap.size := (by omega)); (try have hz1wB : w.heap.size + 1 < wB.heap.size := (by omega)); (try have he1wB : w.heap.size + 1 ≤ wB.heap.size := (by omega)); (try have hz2wB : w.heap.size + 1 + 1 < wB.heap.size := (by omega)); (try have he2wB : w.heap.size + 1 + 1 ≤ wB.heap.size := (by omega)); (try have hz3wB : w.heap.size + 1 + 1 + 1 < wB.heap.size := (by omega)); (try have he3wB : w.heap.size + 1 + 1 + 1 ≤ wB.heap.size := (by omega))) | (go_at_call 57; (with_reducible refine (B3 _).mono ?_); rintro e wC ⟨rfl, h1⟩; (try with_reducible replace h1 := undrew h1); have hB : Below w.heap.size w wC := ba (by go_grown) h1; obtain ⟨hcwC, hfwC⟩ := bcell h1; have hqwC := h1.size; (try simp at hqwC); (try have hz0wC : w.heap.size < wC.heap.size := (by omega)); (try have he0wC : w.heap.size ≤ wC.heap.size := (by omega)); (try have hz1wC : w.heap.size + 1 < wC.heap.size := (by omega)); (try have he1wC : w.heap.size + 1 ≤ wC.heap.size := (by omega)); (try have hz2wC : w.heap.size + 1 + 1 < wC.heap.size := (by omega)); (try have he2wC : w.heap.size + 1 + 1 ≤ wC.heap.size := (by omega)); (try have hz3wC : w.heap.size + 1 + 1 + 1 < wC.heap.size := (by omega)); (try have he3wC : w.heap.size + 1 + 1 + 1 ≤ wC.heap.size := (by omega))) | (go_at_call 57; (with_reducible refine (B4 _).mono ?_); rintro e wD ⟨rfl, h1⟩; (try with_reducible replace h1 := undrew h1); have hB : Below w.heap.size w wD := ba (by go_grown) h1; obtain ⟨hcwD, hfwD⟩ := bcell h1; have hqwD := h1.size; (try simp at hqwD); (try have hz0wD : w.heap.size < wD.heap.size := (by omega)); (try have he0wD : w.heap.size ≤ wD.heap.size := (by omega)); (try have hz1wD : w.heap.size + 1 < wD.heap.size := (by omega)); (try have he1wD : w.heap.size + 1 ≤ wD.heap.size := (by omega)); (try have hz2wD : w.heap.size + 1 + 1 < wD.heap.size := (by omega)); (try have he2wD : w.heap.size + 1 + 1 ≤ wD.heap.size := (by omega)); (try have hz3wD : w.heap.size + 1 + 1 + 1 < wD.heap.size := (by omega)); (try have he3wD : w.heap.size + 1 + 1 + 1 ≤ wD.heap.size := (by omega))))
      go_meet
      exact ⟨by simp, ⟨by go_simp, by go_simp, by go_simp, by go_simp⟩, ⟨by go_simp, by go_simp, by go_simp, by go_simp⟩, ⟨by go_simp, by go_simp, by go_simp, by go_simp⟩, ⟨by go_simp, by go_simp, by go_simp, by go_simp⟩, by go_grown, by omega⟩
    cases b3
    case true =>
      go_wp2_with (first | (go_at_call 57; (with_reducible refine (B1 _).mono ?_); rintro e wA ⟨rfl, h1⟩; (try with_reducible replace h1 := undrew h1); have hB : Below w.heap.size w wA := ba (by go_grown) h1; obtain ⟨hcwA, hfwA⟩ := bcell h1; have hqwA := h1.size; (try simp at hqwA); (try have hz0wA : w.heap.size < wA.heap.size := (by omega)); (try have he0wA : w.heap.size ≤ wA.heap.size := (by omega)); (try have hz1wA : w.heap.size + 1 < wA.heap.size := (by omega)); (try have he1wA : w.heap.size + 1 ≤ wA.heap.size := (by omega)); (try have hz2wA : w.heap.size + 1 + 1 < wA.heap.size := (by omega)); (try have he2wA : w.heap.size + 1 + 1 ≤ wA.heap.size := (by omega)); (try have hz3wA : w.heap.size + 1 + 1 + 1 < wA.heap.size := (by omega)); (try have he3wA : w.heap.size + 1 + 1 + 1 ≤ wA.heap.size := (by omega))) | (go_at_call 57; (with_reducible refine (B2 _).mono ?_); rintro e wB ⟨rfl, h1⟩; (try with_reducible replace h1 := undrew h1); have hB : Below w.heap.size w wB := ba (by go_grown) h1; obtain ⟨hcwB, hfwB⟩ := bcell h1; have hqwB := h1.size; (try simp at hqwB); (try have hz0wB : w.heap.size < wB.heap.size := (by omega)); (try have he0wB : w.heap.size ≤ wB.heap.size := (by omega)); (try have hz1wB : w.heap.size + 1 < wB.heap.size := (by omega)); (try have he1wB : w.heap.size + 1 ≤ wB.heap.size := (by omega)); (try have hz2wB : w.heap.size + 1 + 1 < wB.heap.size := (by omega)); (try have he2wB : w.heap.size + 1 + 1 ≤ wB.heap.size := (by omega)); (try have hz3wB : w.heap.size + 1 + 1 + 1 < wB.heap.size := (by omega)); (try have he3wB : w.heap.size + 1 + 1 + 1 ≤ wB.heap.size := (by omega))) | (go_at_call 57; (with_reducible refine (B3 _).mono ?_); rintro e wC ⟨rfl, h1⟩; (try with_reducible replace h1 := undrew h1); have hB : Below w.heap.size w wC := ba (by go_grown) h1; obtain ⟨hcwC, hfwC⟩ := bcell h1; have hqwC := h1.size; (try simp at hqwC); (try have hz0wC : w.heap.size < wC.heap.size := (by omega)); (try have he0wC : w.heap.size ≤ wC.heap.size := (by omega)); (try have hz1wC : w.heap.size + 1 < wC.heap.size := (by omega)); (try have he1wC : w.heap.size + 1 ≤ wC.heap.size := (by omega)); (try have hz2wC : w.heap.size + 1 + 1 < wC.heap.size := (by omega)); (try have he2wC : w.heap.size + 1 + 1 ≤ wC.heap.size := (by omega)); (try have hz3wC : w.heap.size + 1 + 1 + 1 < wC.heap.size := (by omega)); (try have he3wC : w.heap.size + 1 + 1 + 1 ≤ wC.heap.size := (by omega))) | (go_at_call 57; (with_reducible refine (B4 _).mono ?_); rintro e wD ⟨rfl, h1⟩; (try with_reducible replace h1 := undrew h1); have hB : Below w.heap.size w wD := ba (by go_grown) h1; obtain ⟨hcwD, hfwD⟩ := bcell h1; have hqwD := h1.size; (try simp at hqwD); (try have hz0wD : w.heap.size < wD.heap.size := (by omega)); (try have he0wD : w.heap.size ≤ wD.heap.size := (by omega)); (try have hz1wD : w.heap.size + 1 < wD.heap.size := (by omega)); (try have he1wD : w.heap.size + 1 ≤ wD.heap.size := (by omega)); (try have hz2wD : w.heap.size + 1 + 1 < wD.heap.size := (by omega)); (try have he2wD : w.heap.size + 1 + 1 ≤ wD.heap.size := (by omega)); (try have hz3wD : w.heap.size + 1 + 1 + 1 < wD.heap.size := (by omega)); (try have he3wD : w.heap.size + 1 + 1 + 1 ≤ wD.heap.size := (by omega))))
      go_meet
      exact ⟨by simp, ⟨by go_simp, by go_simp, by go_simp, by go_simp⟩, ⟨by go_simp, by go_simp, by go_simp, by go_simp⟩, ⟨by go_simp, by go_simp, by go_simp, by go_simp⟩, ⟨by go_simp, by go_simp, by go_simp, by go_simp⟩, by go_grown, by omega⟩
    cases b4
    case true =>
      go_wp2_with (first | (go_at_call 57; (with_reducible refine (B1 _).mono ?_); rintro e wA ⟨rfl, h1⟩; (try with_reducible replace h1 := undrew h1); have hB : Below w.heap.size w wA := ba (by go_grown) h1; obtain ⟨hcwA, hfwA⟩ := bcell h1; have hqwA := h1.size; (try simp at hqwA); (try have hz0wA : w.heap.size < wA.heap.size := (by omega)); (try have he0wA : w.heap.size ≤ wA.heap.size := (by omega)); (try have hz1wA : w.heap.size + 1 < wA.heap.size := (by omega)); (try have he1wA : w.heap.size + 1 ≤ wA.heap.size := (by omega)); (try have hz2wA : w.heap.size + 1 + 1 < wA.heap.size := (by omega)); (try have he2wA : w.heap.size + 1 + 1 ≤ wA.heap.size := (by omega)); (try have hz3wA : w.heap.size + 1 + 1 + 1 < wA.heap.size := (by omega)); (try have he3wA : w.heap.size + 1 + 1 + 1 ≤ wA.heap.size := (by omega))) | (go_at_call 57; (with_reducible refine (B2 _).mono ?_); rintro e wB ⟨rfl, h1⟩; (try with_reducible replace h1 := undrew h1); have hB : Below w.heap.size w wB := ba (by go_grown) h1; obtain ⟨hcwB, hfwB⟩ := bcell h1; have hqwB := h1.size; (try simp at hqwB); (try have hz0wB : w.heap.size < wB.heap.size := (by omega)); (try have he0wB : w.heap.size ≤ wB.heap.size := (by omega)); (try have hz1wB : w.heap.size + 1 < wB.heap.size := (by omega)); (try have he1wB : w.heap.size + 1 ≤ wB.heap.size := (by omega)); (try have hz2wB : w.heap.size + 1 + 1 < wB.heap.size := (by omega)); (try have he2wB : w.heap.size + 1 + 1 ≤ wB.heap.size := (by omega)); (try have hz3wB : w.heap.size + 1 + 1 + 1 < wB.heap.size := (by omega)); (try have he3wB : w.heap.size + 1 + 1 + 1 ≤ wB.heap.size := (by omega))) | (go_at_call 57; (with_reducible refine (B3 _).mono ?_); rintro e wC ⟨rfl, h1⟩; (try with_reducible replace h1 := undrew h1); have hB : Below w.heap.size w wC := ba (by go_grown) h1; obtain ⟨hcwC, hfwC⟩ := bcell h1; have hqwC := h1.size; (try simp at hqwC); (try have hz0wC : w.heap.size < wC.heap.size := (by omega)); (try have he0wC : w.heap.size ≤ wC.heap.size := (by omega)); (try have hz1wC : w.heap.size + 1 < wC.heap.size := (by omega)); (try have he1wC : w.heap.size + 1 ≤ wC.heap.size := (by omega)); (try have hz2wC : w.heap.size + 1 + 1 < wC.heap.size := (by omega)); (try have he2wC : w.heap.size + 1 + 1 ≤ wC.heap.size := (by omega)); (try have hz3wC : w.heap.size + 1 + 1 + 1 < wC.heap.size := (by omega)); (try have he3wC : w.heap.size + 1 + 1 + 1 ≤ wC.heap.size := (by omega))) | (go_at_call 57; (with_reducible refine (B4 _).mono ?_); rintro e wD ⟨rfl, h1⟩; (try with_reducible replace h1 := undrew h1); have hB : Below w.heap.size w wD := ba (by go_grown) h1; obtain ⟨hcwD, hfwD⟩ := bcell h1; have hqwD := h1.size; (try simp at hqwD); (try have hz0wD : w.heap.size < wD.heap.size := (by omega)); (try have he0wD : w.heap.size ≤ wD.heap.size := (by omega)); (try have hz1wD : w.heap.size + 1 < wD.heap.size := (by omega)); (try have he1wD : w.heap.size + 1 ≤ wD.heap.size := (by omega)); (try have hz2wD : w.heap.size + 1 + 1 < wD.heap.size := (by omega)); (try have he2wD : w.heap.size + 1 + 1 ≤ wD.heap.size := (by omega)); (try have hz3wD : w.heap.size + 1 + 1 + 1 < wD.heap.size := (by omega)); (try have he3wD : w.heap.size + 1 + 1 + 1 ≤ wD.heap.size := (by omega))))
      go_meet
      exact ⟨by simp, ⟨by go_simp, by go_simp, by go_simp, by go_simp⟩, ⟨by go_simp, by go_simp, by go_simp, by go_simp⟩, ⟨by go_simp, by go_simp, by go_simp, by go_simp⟩, ⟨by go_simp, by go_simp, by go_simp, by go_simp⟩, by go_grown, by omega⟩
    · go_wp2_with (first | (go_at_call 57; (with_reducible refine (B1 _).mono ?_); rintro e wA ⟨rfl, h1⟩; (try with_reducible replace h1 := undrew h1); have hB : Below w.heap.size w wA := ba (by go_grown) h1; obtain ⟨hcwA, hfwA⟩ := bcell h1; have hqwA := h1.size; (try simp at hqwA); (try have hz0wA : w.heap.size < wA.heap.size := (by omega)); (try have he0wA : w.heap.size ≤ wA.heap.size := (by omega)); (try have hz1wA : w.heap.size + 1 < wA.heap.size := (by omega)); (try have he1wA : w.heap.size + 1 ≤ wA.heap.size := (by omega)); (try have hz2wA : w.heap.size + 1 + 1 < wA.heap.size := (by omega)); (try have he2wA : w.heap.size + 1 + 1 ≤ wA.heap.size := (by omega)); (try have hz3wA : w.heap.size + 1 + 1 + 1 < wA.heap.size := (by omega)); (try have he3wA : w.heap.size + 1 + 1 + 1 ≤ wA.heap.size := (by omega))) | (go_at_call 57; (with_reducible refine (B2 _).mono ?_); rintro e wB ⟨rfl, h1⟩; (try with_reducible replace h1 := undrew h1); have hB : Below w.heap.size w wB := ba (by go_grown) h1; obtain ⟨hcwB, hfwB⟩ := bcell h1; have hqwB := h1.size; (try simp at hqwB); (try have hz0wB : w.heap.size < wB.heap.size := (by omega)); (try have he0wB : w.heap.size ≤ wB.heap.size := (by omega)); (try have hz1wB : w.heap.size + 1 < wB.heap.size := (by omega)); (try have he1wB : w.heap.size + 1 ≤ wB.heap.size := (by omega)); (try have hz2wB : w.heap.size + 1 + 1 < wB.heap.size := (by omega)); (try have he2wB : w.heap.size + 1 + 1 ≤ wB.heap.size := (by omega)); (try have hz3wB : w.heap.size + 1 + 1 + 1 < wB.heap.size := (by omega)); (try have he3wB : w.heap.size + 1 + 1 + 1 ≤ wB.heap.size := (by omega))) | (go_at_call 57; (with_reducible refine (B3 _).mono ?_); rintro e wC ⟨rfl, h1⟩; (try with_reducible replace h1 := undrew h1); have hB : Below w.heap.size w wC := ba (by go_grown) h1; obtain ⟨hcwC, hfwC⟩ := bcell h1; have hqwC := h1.size; (try simp at hqwC); (try have hz0wC : w.heap.size < wC.heap.size := (by omega)); (try have he0wC : w.heap.size ≤ wC.heap.size := (by omega)); (try have hz1wC : w.heap.size + 1 < wC.heap.size := (by omega)); (try have he1wC : w.heap.size + 1 ≤ wC.heap.size := (by omega)); (try have hz2wC : w.heap.size + 1 + 1 < wC.heap.size := (by omega)); (try have he2wC : w.heap.size + 1 + 1 ≤ wC.heap.size := (by omega)); (try have hz3wC : w.heap.size + 1 + 1 + 1 < wC.heap.size := (by omega)); (try have he3wC : w.heap.size + 1 + 1 + 1 ≤ wC.heap.size := (by omega))) | (go_at_call 57; (with_reducible refine (B4 _).mono ?_); rintro e wD ⟨rfl, h1⟩; (try with_reducible replace h1 := undrew h1); have hB : Below w.heap.size w wD := ba (by go_grown) h1; obtain ⟨hcwD, hfwD⟩ := bcell h1; have hqwD := h1.size; (try simp at hqwD); (try have hz0wD : w.heap.size < wD.heap.size := (by omega)); (try have he0wD : w.heap.size ≤ wD.heap.size := (by omega)); (try have hz1wD : w.heap.size + 1 < wD.heap.size := (by omega)); (try have he1wD : w.heap.size + 1 ≤ wD.heap.size := (by omega)); (try have hz2wD : w.heap.size + 1 + 1 < wD.heap.size := (by omega)); (try have he2wD : w.heap.size + 1 + 1 ≤ wD.heap.size := (by omega)); (try have hz3wD : w.heap.size + 1 + 1 + 1 < wD.heap.size := (by omega)); (try have he3wD : w.heap.size + 1 + 1 + 1 ≤ wD.heap.size := (by omega))))
      go_meet
      exact ⟨by simp, ⟨by go_simp, by go_simp, by go_simp, by go_simp⟩, ⟨by go_simp, by go_simp, by go_simp, by go_simp⟩, ⟨by go_simp, by go_simp, by go_simp, by go_simp⟩, ⟨by go_simp, by go_simp, by go_simp, by go_simp⟩, by go_grown, by omega⟩
  case rest =>
    obtain ⟨rfl, ⟨c0_0, c0_1, c0_2, c0_3⟩, ⟨c1_0, c1_1, c1_2, c1_3⟩, ⟨c2_0, c2_1, c2_2, c2_3⟩, ⟨c3_0, c3_1, c3_2, c3_3⟩, HBc, hzc⟩ := hcut
    have l0 : w.heap.size < wc.heap.size := by omega
    have l1 : w.heap.size + 1 < wc.heap.size := by omega
    have l2 : w.heap.size + 1 + 1 < wc.heap.size := by omega
    have l3 : w.heap.size + 1 + 1 + 1 < wc.heap.size := by omega
    cases hb : (b1 || (b2 || (b3 || b4)))
    case true =>
      have hb' : (decide (t0 < 0) && decide (t1 < 0) || (b1 || (b2 || (b3 || b4)))) = true := by rw [hb, Bool.or_true]
      go_wp2_with fail
      go_returns
      exact ⟨by rw [hb']; rfl, by go_grown⟩
    case false =>
      have hb' : (decide (t0 < 0) && decide (t1 < 0) || (b1 || (b2 || (b3 || b4)))) = (decide (t0 < 0) && decide (t1 < 0)) := by rw [hb, Bool.or_false]
      have HB' := Lib.hid hb'
      clear hb hb' B1 B2 B3 B4
      go_wp2_with fail
      refine absW (F := fun W => (W.cell? ⟨w.heap.size, 0, none⟩ = some (.int .i64 (p).a) ∧ W.cell? ⟨w.heap.size, 1, none⟩ = some (.int .i64 (p).b) ∧ W.cell? ⟨w.heap.size, 2, none⟩ = some (.int .i64 (p).c) ∧ W.cell? ⟨w.heap.size, 3, none⟩ = some (.int .i64 (p).d)) ∧ (W.cell? ⟨w.heap.size + 1, 0, none⟩ = some (.int .i64 (q).a) ∧ W.cell? ⟨w.heap.size + 1, 1, none⟩ = some (.int .i64 (q).b) ∧ W.cell? ⟨w.heap.size + 1, 2, none⟩ = some (.int .i64 (q).c) ∧ W.cell? ⟨w.heap.size + 1, 3, none⟩ = some (.int .i64 (q).d)) ∧ (W.cell? ⟨w.heap.size + 1 + 1, 0, none⟩ = some (.int .i64 (r).a) ∧ W.cell? ⟨w.heap.size + 1 + 1, 1, none⟩ = some (.int .i64 (r).b) ∧ W.cell? ⟨w.heap.size + 1 + 1, 2, none⟩ = some (.int .i64 (r).c) ∧ W.cell? ⟨w.heap.size + 1 + 1, 3, none⟩ = some (.int .i64 (r).d)) ∧ (W.cell? ⟨w.heap.size + 1 + 1 + 1, 0, none⟩ = some (.int .i64 (s).a) ∧ W.cell? ⟨w.heap.size + 1 + 1 + 1, 1, none⟩ = some (.int .i64 (s).b) ∧ W.cell? ⟨w.heap.size + 1 + 1 + 1, 2, none⟩ = some (.int .i64 (s).c) ∧ W.cell? ⟨w.heap.size + 1 + 1 + 1, 3, none⟩ = some (.int .i64 (s).d)) ∧ (w.heap.size + 4 ≤ W.heap.size) ∧ Below w.heap.size w W) ⟨⟨by go_simp, by go_simp, by go_simp, by go_simp⟩, ⟨by go_simp, by go_simp, by go_simp, by go_simp⟩, ⟨by go_simp, by go_simp, by go_simp, by go_simp⟩, ⟨by go_simp, by go_simp, by go_simp, by go_simp⟩, by omega, by go_grown⟩ ?_
      rintro W ⟨⟨c0_0, c0_1, c0_2, c0_3⟩, ⟨c1_0, c1_1, c1_2, c1_3⟩, ⟨c2_0, c2_1, c2_2, c2_3⟩, ⟨c3_0, c3_1, c3_2, c3_3⟩, hzW, HB⟩
      have k0_0 := fun d os => cell_regrown c0_0 d os
      have k0_1 := fun d os => cell_regrown c0_1 d os
      have k0_2 := fun d os => cell_regrown c0_2 d os
      have k0_3 := fun d os => cell_regrown c0_3 d os
      have k1_0 := fun d os => cell_regrown c1_0 d os
      have k1_1 := fun d os => cell_regrown c1_1 d os
      have k1_2 := fun d os => cell_regrown c1_2 d os
      have k1_3 := fun d os => cell_regrown c1_3 d os
      have k2_0 := fun d os => cell_regrown c2_0 d os
      have k2_1 := fun d os => cell_regrown c2_1 d os
      have k2_2 := fun d os => cell_regrown c2_2 d os
      have k2_3 := fun d os => cell_regrown c2_3 d os
      have k3_0 := fun d os => cell_regrown c3_0 d os
      have k3_1 := fun d os => cell_regrown c3_1 d os
      have k3_2 := fun d os => cell_regrown c3_2 d os
      have k3_3 := fun d os => cell_regrown c3_3 d os
      clear l0 l1 l2 l3
      by_cases e0 : t0 < 0
      · skip
        refine wq_region (by kernel_rfl) (by kernel_rfl) ?_
        repeat ((refine WQ.step (fun K hK => ?_)); go_simp; (first | (refine hK _ ?_; clear hK K) | (apply Exists.intro; refine ⟨fun _ => ?_, hK _ ?_⟩; (first | (go_at_call 54; with_reducible exact Calls.regrown_of (S1 _)) | (go_at_call 54; with_reducible exact Calls.regrown_of (S2 _)) | (go_at_call 54; with_reducible exact Calls.regrown_of (S3 _)) | (go_at_call 54; with_reducible exact Calls.regrown_of (S4 _))); clear hK K)))
        refine WQ.nil ?_
        rintro _ ⟨⟨dq, osq⟩, rfl⟩
        have hbw1 := below_regrown W dq osq
        generalize grow (redrawn W dq) osq = w1 at hbw1 ⊢
        obtain ⟨hcw1, hfw1⟩ := bcell hbw1
        have hlw1 := hbw1.size
        replace HB := ba HB hbw1
        go_wp2_with fail
        go_returns
        exact ⟨by rw [HB'.out]; simp [e0], by go_grown⟩
      · skip
        refine wq_region (by kernel_rfl) (by kernel_rfl) ?_
        repeat ((refine WQ.step (fun K hK => ?_)); go_simp; (first | (refine hK _ ?_; clear hK K) | (apply Exists.intro; refine ⟨fun _ => ?_, hK _ ?_⟩; (first | (go_at_call 54; with_reducible exact Calls.regrown_of (S1 _)) | (go_at_call 54; with_reducible exact Calls.regrown_of (S2 _)) | (go_at_call 54; with_reducible exact Calls.regrown_of (S3 _)) | (go_at_call 54; with_reducible exact Calls.regrown_of (S4 _))); clear hK K)))
        refine WQ.nil ?_
        rintro _ ⟨⟨dq, osq⟩, rfl⟩
        have hbw1 := below_regrown W dq osq
        generalize grow (redrawn W dq) osq = w1 at hbw1 ⊢
        obtain ⟨hcw1, hfw1⟩ := bcell hbw1
        have hlw1 := hbw1.size
        replace HB := ba HB hbw1
        go_wp2_with fail
        go_returns
        exact ⟨by rw [HB'.out, decide_eq_false (Int.not_lt.2 e0)]; rfl, by go_grown⟩

end Go.Proofs.Ytppbbcckijcckaa

/- Contracts: areas of polygons: chords in a row of memory, and the sum over them; the model's sum over points. -/
namespace Go.Proofs.Ytppbbcckijcckaa
open Go.ChangeShapes Go.WideShapes Go.ChangeAt Go.RowKit Go.Sort

set_option linter.unusedVariables false
set_option linter.unusedSimpArgs false

theorem own_below7 {W w1 : World} {B : Nat} {e : TypeId} {size n : Nat} {v : Value} {xs : List Value} (h : W.ownsRow B e size v n xs) (hb : Below W.heap.size W w1) : w1.ownsRow B e size v n xs :=
  h.kept (row := none) ⟨hb.os, hb.tape, hb.output, hb.size, fun k hk _ => hb.block k hk⟩ (by cases v.ownBlock <;> simp)

theorem below_dw7 (w : World) (m : Nat) : Below m w w.drew := ⟨rfl, rfl, rfl, Nat.le_refl _, fun _ _ => rfl⟩

theorem newc7 {W : World} {cs : Array Value} {e : TypeId} {n : Nat} (hn : W.heap.size = n) : ∀ (j : Nat) u, cs.toList[j]? = some u → (W.alloc (.cells cs e)).cell? ((⟨n, 0, none⟩ : Addr).add j) = some u := by
  subst hn
  intro j u hu
  have h := Lib.cell_of_heap (heap_alloc_new W (.cells cs e)) j
  have ha : ((⟨W.heap.size, 0, none⟩ : Addr).add j) = ⟨W.heap.size, j, none⟩ := by by_cases e : j = 0 <;> simp [Addr.add, e]
  rw [ha, h, ← hu]
  simp

theorem chInfo : (Try.prog.info? 66).map (fun i => (i.zero, i.size, i.bytes)) = some (some (.agg #[.int .i64 0, .int .i64 0, .int .i64 0, .int .i64 0, .int .i64 0, .int .i64 0, .int .i64 0, .int .i64 0]), 8, 64) := by kernel_rfl

def pnC (p : Pn) : List Value := [.int .i64 p.a, .int .i64 p.b, .int .i64 p.c, .int .i64 p.d]

/-- The chords that lead from each point to the next one. -/
def chds : List Pn → List (Pn × Pn)
  | a :: b :: l => (a, b) :: chds (b :: l)
  | _ => []

def chC (l : List (Pn × Pn)) : List Value := l.flatMap fun x => pnC x.1 ++ pnC x.2

theorem chds_length : ∀ l : List Pn, (chds l).length = l.length - 1
  | [] => rfl
  | [_] => rfl
  | _ :: b :: l => by simp [chds, chds_length (b :: l)]

theorem chds_get : ∀ (l : List Pn) (k : Nat) (a b : Pn), l[k]? = some a → l[k + 1]? = some b → (chds l)[k]? = some (a, b)
  | [], _, _, _, h, _ => by simp at h
  | [_], k, _, _, _, h => by simp at h
  | x :: y :: l, 0, a, b, h, h2 => by simp at h h2; subst h; subst h2; rfl
  | x :: y :: l, k + 1, a, b, h, h2 => by
    have := chds_get (y :: l) k a b (by simpa using h) (by simpa using h2)
    simpa [chds] using this

theorem chC_append (l m : List (Pn × Pn)) : chC (l ++ m) = chC l ++ chC m := by simp [chC]

theorem chC_length (l : List (Pn × Pn)) : (chC l).length = l.length * 8 := by
  induction l with
  | nil => rfl
  | cons x l ih => simp [chC, pnC] at ih ⊢; omega

set_option maxRecDepth 100000 in
set_option maxHeartbeats 1600000 in
theorem chordsAlongP (g n cap : Nat) (l : List Pn) (hn : l.length = n) (hb : n ≤ 1000000) (w : World) (hg : g < w.heap.size) (h1 : RowP w g l) :
    Calls Try.prog 101 #[.slice (some ⟨g, 0, none⟩) n cap] w fun e w' => ∃ v, e = .returned v ∧ w'.ownsRow w.heap.size 66 8 v (n - 1) (chC (chds l)) ∧ Below w.heap.size w w' := by
  have HN := Lib.hid hn
  have H1 := Lib.hid h1
  obtain ⟨i0, hi, iz0, iz1, iz2⟩ := info_parts chInfo
  clear hn h1
  go_enter Try.func101, Try.ntmps101
  go_wp2_with fail
  go_loopw [3, 4] (fun t i wr => ∃ (j : Nat) (v : Value), (j < n ∨ j = 0) ∧ i = .int .i64 ((j : Int) + 1) ∧ t = v ∧ wr.ownsRow w.heap.size 66 8 v j (chC ((chds l).take j)) ∧ Below w.heap.size w wr) (fun _ i _ => n - (intOf i).toNat)
  case atStart => exact ⟨0, _, .inr rfl, rfl, rfl, World.ownsRow_nil _ _ _ _, Below.refl _ _⟩
  case round =>
    obtain ⟨j, v, hk1, rfl, rfl, hJ, hB⟩ := hrel
    have hz : w.heap.size ≤ wr.heap.size := hB.size
    by_cases hlt : j + 1 < n
    · obtain ⟨p, hp⟩ : ∃ p, l[j]? = some p := ⟨_, List.getElem?_eq_getElem (by rw [HN.out]; omega)⟩
      obtain ⟨q, hq⟩ : ∃ q, l[j + 1]? = some q := ⟨_, List.getElem?_eq_getElem (by rw [HN.out]; exact hlt)⟩
      have R := H1.out.below hg hB
      obtain ⟨c0, c1, c2, c3⟩ := R j p hp
      obtain ⟨d0, d1, d2, d3⟩ := R (j + 1) q hq
      have hx := chds_get l j p q hp hq
      have HT := Lib.hid (show (chds l).take (j + 1) = (chds l).take j ++ [(p, q)] by
        have := List.take_add_one (l := chds l) (i := j)
        rw [hx] at this
        simpa using this)
      have HJ := Lib.hid hJ
      have k0 := fun d os => cell_regrown c0 d os
      have k1 := fun d os => cell_regrown c1 d os
      have k2 := fun d os => cell_regrown c2 d os
      have k3 := fun d os => cell_regrown c3 d os
      have l0 := fun d os => cell_regrown d0 d os
      have l1 := fun d os => cell_regrown d1 d os
      have l2 := fun d os => cell_regrown d2 d os
      have l3 := fun d os => cell_regrown d3 d os
      clear hp hq hx R hJ
      have j1 : (0 : Int) ≤ (j : Int) := by omega
      have j2 : (j : Int) + 1 < (n : Int) := by omega
      have j3 : (j : Int) < (n : Int) := by omega
      have j5 : (0 : Int) ≤ (j : Int) + 1 := by omega
      have j6 : ((j : Int) + 1).toNat = j + 1 := by omega
      have j4 : IntKind.i64.wrap (j : Int) = (j : Int) := IntWalk.i64_in _ ⟨by omega, by omega⟩
      have HB := Lib.hid hB
      clear hB k0 k1 k2 k3 l0 l1 l2 l3
      go_wp2_with fail
      go_region_law ((refine step_append_lies _ (by rfl) _ _ _ (by rfl) w.heap.size 66 i0 _ 8 64 Try.underlying73 hi iz0 iz1 iz2 (by rfl) (by decide) u3 j (chC ((chds l).take j)) ?hs ?hown ⟨wr.heap.size, 0, none⟩ 1 1 [.int .i64 p.a, .int .i64 p.b, .int .i64 p.c, .int .i64 p.d, .int .i64 q.a, .int .i64 q.b, .int .i64 q.c, .int .i64 q.d] ?hx (by rfl) ?hnews (by intro u hu; simp at hu; rcases hu with rfl | rfl | rfl | rfl | rfl | rfl | rfl | rfl <;> rfl) (by decide) (by unfold maxLen; omega) (by omega) ?hbase (wr.heap.size + 1) ?hH ?_); (case hs => first | rfl | simp [Act.eval]); (case hx => first | rfl | simp [Act.eval]); (case hown => first | exact (HJ.out.alloc _) | exact ((HJ.out.alloc _).drew)); (case hnews => exact newc7 (by simp)); (case hbase => (simp; omega)); (case hH => simp); intro g2 cap2 w3 hJ3 hg3 hat hlt3)
      all_goals
        have HJA := Lib.hid (HJ.out.alloc (.cells #[.int .i64 p.a, .int .i64 p.b, .int .i64 p.c, .int .i64 p.d, .int .i64 q.a, .int .i64 q.b, .int .i64 q.c, .int .i64 q.d] 66))
        have hBD := (show Below w.heap.size w (wr.alloc (.cells #[.int .i64 p.a, .int .i64 p.b, .int .i64 p.c, .int .i64 p.d, .int .i64 q.a, .int .i64 q.b, .int .i64 q.c, .int .i64 q.d] 66)).drew from (HB.out.alloc hz _).trans (below_dw7 _ _))
        have HB3 := Lib.hid (hBD.grown hg3 (by simp; omega) (fun k hk => (HJA.out.lt k hk).1))
        have HJ3 := Lib.hid hJ3
        clear hJ3 hg3 hBD hat hlt3 c0 c1 c2 c3 d0 d1 d2 d3
        have j7 : IntKind.i64.wrap ((j : Int) + 1 + 1) = (j : Int) + 1 + 1 := IntWalk.i64_in _ ⟨by omega, by omega⟩
        go_wp2_with fail
        go_roundw
        case rel => exact ⟨j + 1, _, by omega, by go_num, rfl, by rw [HT.out, chC_append]; exact HJ3.out, HB3.out⟩
        case measure => simp [intOf]; omega
    · have hjn : j = n - 1 := by omega
      have hE : (chds l).take j = chds l := List.take_of_length_le (by rw [chds_length, HN.out]; omega)
      rw [hE] at hJ
      have j1 : ¬ (j : Int) + 1 < (n : Int) := by omega
      have HJ := Lib.hid hJ
      have HB1 := Lib.hid hB
      clear hJ hB hE
      go_wp2_with fail
      go_ret
      exact ⟨_, rfl, by rw [← hjn]; exact HJ.out, HB1.out⟩

end Go.Proofs.Ytppbbcckijcckaa

/- Contracts: four times an area, summed over chords, in the program; over points, in the model. -/
namespace Go.Proofs.Ytppbbcckijcckaa
open Go.ChangeShapes Go.WideShapes Go.ChangeAt Go.RowKit Go.Sort

set_option linter.unusedVariables false
set_option linter.unusedSimpArgs false

def RowC (w : World) (g : Nat) (l : List (Pn × Pn)) : Prop :=
  ∀ (k : Nat) (a b : Pn), l[k]? = some (a, b) → (w.cell? ⟨g, k * 8, none⟩ = some (.int .i64 a.a) ∧ w.cell? ⟨g, k * 8 + 1, none⟩ = some (.int .i64 a.b) ∧ w.cell? ⟨g, k * 8 + 2, none⟩ = some (.int .i64 a.c) ∧ w.cell? ⟨g, k * 8 + 3, none⟩ = some (.int .i64 a.d)) ∧ w.cell? ⟨g, k * 8 + 4, none⟩ = some (.int .i64 b.a) ∧ w.cell? ⟨g, k * 8 + 5, none⟩ = some (.int .i64 b.b) ∧ w.cell? ⟨g, k * 8 + 6, none⟩ = some (.int .i64 b.c) ∧ w.cell? ⟨g, k * 8 + 7, none⟩ = some (.int .i64 b.d)

theorem RowC.below {w w' : World} {g n : Nat} {l : List (Pn × Pn)} (h : RowC w g l) (hg : g < n) (hb : Below n w w') : RowC w' g l := fun k a b hp => by
  obtain ⟨⟨c0, c1, c2, c3⟩, c4, c5, c6, c7⟩ := h k a b hp
  exact ⟨⟨by rw [hb.cell (p := ⟨g, k * 8, none⟩) hg]; exact c0, by rw [hb.cell (p := ⟨g, k * 8 + 1, none⟩) hg]; exact c1, by rw [hb.cell (p := ⟨g, k * 8 + 2, none⟩) hg]; exact c2, by rw [hb.cell (p := ⟨g, k * 8 + 3, none⟩) hg]; exact c3⟩,
    by rw [hb.cell (p := ⟨g, k * 8 + 4, none⟩) hg]; exact c4, by rw [hb.cell (p := ⟨g, k * 8 + 5, none⟩) hg]; exact c5, by rw [hb.cell (p := ⟨g, k * 8 + 6, none⟩) hg]; exact c6, by rw [hb.cell (p := ⟨g, k * 8 + 7, none⟩) hg]; exact c7⟩

theorem chC_get : ∀ (l : List (Pn × Pn)) (k : Nat) (x : Pn × Pn) (i : Nat) (v : Value), l[k]? = some x → (pnC x.1 ++ pnC x.2)[i]? = some v → (chC l)[k * 8 + i]? = some v
  | [], _, _, _, _, h, _ => by simp at h
  | y :: l, 0, x, i, v, h, hv => by
    simp at h; subst h
    have hi : i < 8 := by have := (List.getElem?_eq_some_iff.1 hv).1; simpa [pnC] using this
    simp only [chC, List.flatMap_cons, Nat.zero_mul, Nat.zero_add]
    rw [List.getElem?_append_left (by simp [pnC]; omega)]; exact hv
  | y :: l, k + 1, x, i, v, h, hv => by
    have ih := chC_get l k x i v (by simpa using h) hv
    simp only [chC, List.flatMap_cons] at ih ⊢
    rw [List.getElem?_append_right (by simp [pnC]; omega)]
    rw [← ih]; congr 1; simp [pnC]; omega

theorem RowC.own {W : World} {B n g cap : Nat} {e : TypeId} {l : List (Pn × Pn)} (h : W.ownsRow B e 8 (.slice (some ⟨g, 0, none⟩) n cap) n (chC l)) (hn : l.length = n) : RowC W g l := fun k a b hp => by
  have hk : k < n := by rw [← hn]; exact (List.getElem?_eq_some_iff.1 hp).1
  have c : ∀ (i : Nat) (v : Value), (pnC a ++ pnC b)[i]? = some v → W.cell? ⟨g, k * 8 + i, none⟩ = some v := fun i v hv => by
    have hi : i < 8 := by have := (List.getElem?_eq_some_iff.1 hv).1; simpa [pnC] using this
    rw [h.cellAt (k * 8 + i) (by omega)]
    exact chC_get l k (a, b) i v hp hv
  exact ⟨⟨c 0 _ rfl, c 1 _ rfl, c 2 _ rfl, c 3 _ rfl⟩, c 4 _ rfl, c 5 _ rfl, c 6 _ rfl, c 7 _ rfl⟩

theorem imSPlusQ (s t : Su) (h : Bs 4000000000000000000 s) (k : Bs 4000000000000000000 t) (w : World) : Calls Try.prog 119 #[sv s, sv t] w fun e w' => e = .returned (sv (s + t)) ∧ Below w.heap.size w w' := by
  have e1 : wrap64 (s.x + t.x) = (s + t).x := by unfold Bs at h k; exact w64p _ (by omega) (by omega)
  have e2 : wrap64 (s.r + t.r) = (s + t).r := by unfold Bs at h k; exact w64p _ (by omega) (by omega)
  go_enter Try.func119, Try.ntmps119
  go_wp2
  go_returns
  exact ⟨by simp [*], by go_grown⟩

theorem spSumQ (s t : Su) (h : Bs 4000000000000000000 s) (k : Bs 4000000000000000000 t) (w : World) : Calls Try.prog 69 #[sv s, sv t] w fun e w' => e = .returned (sv (s + t)) ∧ Below w.heap.size w w' := by
  have e1 : wrap64 (s.x + t.x) = (s + t).x := by unfold Bs at h k; exact w64p _ (by omega) (by omega)
  have e2 : wrap64 (s.r + t.r) = (s + t).r := by unfold Bs at h k; exact w64p _ (by omega) (by omega)
  go_enter Try.func69, Try.ntmps69
  go_wp2
  go_returns
  exact ⟨by simp [*], by go_grown⟩

/-- The sum over chords. -/
def sumC (l : List (Pn × Pn)) : Su := l.foldl (fun s x => s + x.1.cx x.2) 0

theorem sumC_snoc (l : List (Pn × Pn)) (x : Pn × Pn) : sumC (l ++ [x]) = sumC l + x.1.cx x.2 := by simp [sumC]

theorem Bs.add_bd {n m : Int} {s t : Su} (h : Bs n s) (k : Bs m t) : Bs (n + m) (s + t) := by
  unfold Bs at *
  rw [Su.add_x, Su.add_r]; omega

theorem sumC_bd (l : List (Pn × Pn)) (h : ∀ x ∈ l, Bd 100000 x.1 ∧ Bd 100000 x.2) : ∀ k, k ≤ l.length → Bs (k * 320000000000) (sumC (l.take k))
  | 0, _ => by simp [sumC, Bs, Su.zero_x, Su.zero_r]
  | k + 1, hk => by
    have hx : l[k]? = some l[k] := List.getElem?_eq_getElem (by omega)
    have e : l.take (k + 1) = l.take k ++ [l[k]] := by
      rw [List.take_add_one, hx]; rfl
    have hm := h l[k] (List.getElem_mem _)
    rw [e, sumC_snoc]
    have := (sumC_bd l h k (by omega)).add_bd (cx_bd (hm.1.mono (by omega)) (hm.2.mono (by omega)))
    exact this.mono (by push_cast; omega)

set_option maxRecDepth 100000 in
set_option maxHeartbeats 1600000 in
theorem fourAreaP (g n cap : Nat) (l : List (Pn × Pn)) (hn : l.length = n) (hb : n ≤ 1000) (hbd : ∀ x ∈ l, Bd 100000 x.1 ∧ Bd 100000 x.2) (w : World) (hg : g < w.heap.size) (h1 : RowC w g l) :
    Calls Try.prog 66 #[.slice (some ⟨g, 0, none⟩) n cap] w fun e w' => e = .returned (sv (sumC l)) ∧ Below w.heap.size w w' := by
  have HN := Lib.hid hn
  have H1 := Lib.hid h1
  have HBD := Lib.hid hbd
  clear hn h1 hbd
  go_enter Try.func66, Try.ntmps66
  go_wp2_with fail
  go_loopw [8] (fun i wr => ∃ k : Nat, k ≤ n ∧ i = .int .i64 k ∧ (wr.cell? ⟨w.heap.size + 1, 0, none⟩ = some (.int .i64 (sumC (l.take k)).x) ∧ wr.cell? ⟨w.heap.size + 1, 1, none⟩ = some (.int .i64 (sumC (l.take k)).r)) ∧ (∀ i, wr.frozen? ⟨w.heap.size + 1, i, none⟩ = false) ∧ (∀ i, wr.frozen? ⟨w.heap.size, i, none⟩ = false) ∧ (wr.cell? ⟨w.heap.size, 0, none⟩ = some (.int .i64 ((⟨0, 0⟩ : Su)).x) ∧ wr.cell? ⟨w.heap.size, 1, none⟩ = some (.int .i64 ((⟨0, 0⟩ : Su)).r)) ∧ w.heap.size + 2 ≤ wr.heap.size ∧ Below w.heap.size w wr) (fun i _ => n - (intOf i).toNat)
  case atStart => exact ⟨0, Nat.zero_le _, rfl, ⟨by rw [show (sumC (List.take 0 l)).x = 0 by simp [sumC, Su.zero_x]]; go_simp, by rw [show (sumC (List.take 0 l)).r = 0 by simp [sumC, Su.zero_r]]; go_simp⟩, fun i => by go_simp, fun i => by go_simp, ⟨by go_simp, by go_simp⟩, by simp, by go_grown⟩
  case round =>
    obtain ⟨k, hk, rfl, ⟨s0, s1⟩, fs, fr, ⟨r0, r1⟩, hz, hB⟩ := hrel
    have z0 : w.heap.size < wr.heap.size := by omega
    have z1 : w.heap.size + 1 < wr.heap.size := by omega
    have zg : g < wr.heap.size := by omega
    by_cases hlt : k < n
    · obtain ⟨⟨p, q⟩, hp⟩ : ∃ x, l[k]? = some x := ⟨_, List.getElem?_eq_getElem (by rw [HN.out]; exact hlt)⟩
      obtain ⟨⟨c0, c1, c2, c3⟩, c4, c5, c6, c7⟩ := (H1.out.below hg hB) k p q hp
      have hm := HBD.out (p, q) (List.mem_of_getElem? hp)
      have hS := Lib.hid (show sumC (l.take (k + 1)) = sumC (l.take k) + p.cx q by
        rw [List.take_add_one, hp]; exact sumC_snoc _ _)
      have hb1 := (sumC_bd l HBD.out k (by rw [HN.out]; omega)).mono (m := 1000000000000000) (by omega)
      generalize sumC (l.take k) = S at *
      have TC := twiceCrossP p q (hm.1.mono (by omega)) (hm.2.mono (by omega))
      have PL := imSPlusQ S (p.cx q) (hb1.mono (by omega)) ((cx_bd (hm.1.mono (by omega)) (hm.2.mono (by omega))).mono (by omega))
      have j1 : (0 : Int) ≤ (k : Int) := by omega
      have j2 : (k : Int) < (n : Int) := by omega
      clear hp hm hb1
      go_wp2_with fail
      refine absW (F := fun W => (W.cell? ⟨w.heap.size + 1, 0, none⟩ = some (.int .i64 (S).x) ∧ W.cell? ⟨w.heap.size + 1, 1, none⟩ = some (.int .i64 (S).r)) ∧ (W.cell? ⟨wr.heap.size, 0, none⟩ = some (.int .i64 (p).a) ∧ W.cell? ⟨wr.heap.size, 1, none⟩ = some (.int .i64 (p).b) ∧ W.cell? ⟨wr.heap.size, 2, none⟩ = some (.int .i64 (p).c) ∧ W.cell? ⟨wr.heap.size, 3, none⟩ = some (.int .i64 (p).d)) ∧ (W.cell? ⟨wr.heap.size, 4, none⟩ = some (.int .i64 (q).a) ∧ W.cell? ⟨wr.heap.size, 5, none⟩ = some (.int .i64 (q).b) ∧ W.cell? ⟨wr.heap.size, 6, none⟩ = some (.int .i64 (q).c) ∧ W.cell? ⟨wr.heap.size, 7, none⟩ = some (.int .i64 (q).d)) ∧ (∀ i, W.frozen? ⟨w.heap.size + 1, i, none⟩ = false) ∧ (∀ i, W.frozen? ⟨w.heap.size, i, none⟩ = false) ∧ (W.cell? ⟨w.heap.size, 0, none⟩ = some (.int .i64 ((⟨0, 0⟩ : Su)).x) ∧ W.cell? ⟨w.heap.size, 1, none⟩ = some (.int .i64 ((⟨0, 0⟩ : Su)).r)) ∧ (wr.heap.size < W.heap.size) ∧ Below w.heap.size w W) ⟨⟨by go_simp, by go_simp⟩, ⟨by go_simp, by go_simp, by go_simp, by go_simp⟩, ⟨by go_simp, by go_simp, by go_simp, by go_simp⟩, fun i => by go_simp, fun i => by go_simp, ⟨by go_simp, by go_simp⟩, by simp, by go_grown⟩ ?_
      rintro W ⟨⟨cS_0, cS_1⟩, ⟨cC_0, cC_1, cC_2, cC_3⟩, ⟨cC_4, cC_5, cC_6, cC_7⟩, frS, frR, ⟨cR_0, cR_1⟩, hzW, HB⟩
      have kS_0 := fun d os => cell_regrown cS_0 d os
      have kS_1 := fun d os => cell_regrown cS_1 d os
      have kC_0 := fun d os => cell_regrown cC_0 d os
      have kC_1 := fun d os => cell_regrown cC_1 d os
      have kC_2 := fun d os => cell_regrown cC_2 d os
      have kC_3 := fun d os => cell_regrown cC_3 d os
      have kC_4 := fun d os => cell_regrown cC_4 d os
      have kC_5 := fun d os => cell_regrown cC_5 d os
      have kC_6 := fun d os => cell_regrown cC_6 d os
      have kC_7 := fun d os => cell_regrown cC_7 d os
      have kR_0 := fun d os => cell_regrown cR_0 d os
      have kR_1 := fun d os => cell_regrown cR_1 d os
      have y0 : w.heap.size < W.heap.size := by omega
      have y1 : w.heap.size + 1 < W.heap.size := by omega
      refine region_below_tail 7 (by kernel_rfl) (by kernel_rfl) ?_
      simp only [List.take_succ_cons, List.take_zero, List.drop_succ_cons, List.drop_zero]
      repeat (quiet_step (first | (go_at_call 109; with_reducible exact Calls.regrown_of (TC _)) | (go_at_call 119; with_reducible exact Calls.regrown_of (PL _))))
      refine wpQuiet_nil ?_
      rintro _ ⟨⟨dq, osq⟩, rfl⟩
      have hbw1 := below_regrown W dq osq
      generalize grow (redrawn W dq) osq = w1 at hbw1 ⊢
      obtain ⟨hcw1, hfw1⟩ := bcell hbw1
      have hlw1 := hbw1.size
      replace HB := ba HB hbw1
      have y0' : w.heap.size < w1.heap.size := by omega
      have y1' : w.heap.size + 1 < w1.heap.size := by omega
      go_wp2_with fail
      go_roundw
      case rel => exact ⟨k + 1, by omega, by go_num, by rw [hS.out]; exact ⟨by go_simp, by go_simp⟩, fun i => by go_simp, fun i => by go_simp, ⟨by go_simp, by go_simp⟩, by simp; omega, by go_grown⟩
      case measure => simp [intOf]; omega
    · have hkn : k = n := by omega
      have hr : l.take k = l := List.take_of_length_le (by rw [HN.out]; omega)
      rw [hr] at s0 s1
      go_wp2_with fail
      refine bodyPost_ret (by simp [results, Try.results66, go_sem, *]; try rfl) rfl ?_
      exact ⟨rfl, by go_grown⟩

/-- The sum over points, each with the one behind it, the last one with the first. -/
def ring (l : List Pn) : List (Pn × Pn) := (List.range l.length).map fun i => (l[i]!, l[(i + 1) % l.length]!)

set_option maxRecDepth 100000 in
set_option maxHeartbeats 1600000 in
theorem arPolygonP (g n cap : Nat) (l : List Pn) (hn : l.length = n) (hb : n ≤ 1000) (hbd : ∀ x ∈ l, Bd 100000 x) (w : World) (hg : g < w.heap.size) (h1 : RowP w g l) :
    Calls Try.prog 62 #[.slice (some ⟨g, 0, none⟩) n cap] w fun e w' => e = .returned (sv (sumC (ring l))) ∧ Below w.heap.size w w' := by
  have HN := Lib.hid hn
  have H1 := Lib.hid h1
  have HBD := Lib.hid hbd
  have HRL : (ring l).length = l.length := by simp [ring]
  have HRB : ∀ x ∈ ring l, Bd 100000 x.1 ∧ Bd 100000 x.2 := by
    intro x hx
    simp only [ring, List.mem_map, List.mem_range] at hx
    obtain ⟨i, hi, rfl⟩ := hx
    have hm : (i + 1) % l.length < l.length := Nat.mod_lt _ (by omega)
    exact ⟨hbd _ (by rw [getElem!_pos l i hi]; exact List.getElem_mem _), hbd _ (by rw [getElem!_pos l ((i + 1) % l.length) hm]; exact List.getElem_mem _)⟩
  clear hn h1 hbd
  go_enter Try.func62, Try.ntmps62
  go_wp2_with fail
  go_loopw [9] (fun i wr => ∃ k : Nat, k ≤ n ∧ i = .int .i64 k ∧ (wr.cell? ⟨w.heap.size + 1, 0, none⟩ = some (.int .i64 (sumC ((ring l).take k)).x) ∧ wr.cell? ⟨w.heap.size + 1, 1, none⟩ = some (.int .i64 (sumC ((ring l).take k)).r)) ∧ (∀ i, wr.frozen? ⟨w.heap.size + 1, i, none⟩ = false) ∧ (∀ i, wr.frozen? ⟨w.heap.size, i, none⟩ = false) ∧ (wr.cell? ⟨w.heap.size, 0, none⟩ = some (.int .i64 ((⟨0, 0⟩ : Su)).x) ∧ wr.cell? ⟨w.heap.size, 1, none⟩ = some (.int .i64 ((⟨0, 0⟩ : Su)).r)) ∧ w.heap.size + 2 ≤ wr.heap.size ∧ Below w.heap.size w wr) (fun i _ => n - (intOf i).toNat)
  case atStart => exact ⟨0, Nat.zero_le _, rfl, ⟨by rw [show (sumC (List.take 0 (ring l))).x = 0 by simp [sumC, Su.zero_x]]; go_simp, by rw [show (sumC (List.take 0 (ring l))).r = 0 by simp [sumC, Su.zero_r]]; go_simp⟩, fun i => by go_simp, fun i => by go_simp, ⟨by go_simp, by go_simp⟩, by simp, by go_grown⟩
  case round =>
    obtain ⟨k, hk, rfl, ⟨s0, s1⟩, fs, fr, ⟨r0, r1⟩, hz, hB⟩ := hrel
    have z0 : w.heap.size < wr.heap.size := by omega
    have z1 : w.heap.size + 1 < wr.heap.size := by omega
    have zg : g < wr.heap.size := by omega
    by_cases hlt : k < n
    · have hmod : (k + 1) % n < n := Nat.mod_lt _ (by omega)
      obtain ⟨p, hp⟩ : ∃ x, l[k]? = some x := ⟨_, List.getElem?_eq_getElem (by rw [HN.out]; exact hlt)⟩
      obtain ⟨q, hq⟩ : ∃ x, l[(k + 1) % n]? = some x := ⟨_, List.getElem?_eq_getElem (by rw [HN.out]; exact hmod)⟩
      have R := H1.out.below hg hB
      obtain ⟨c0, c1, c2, c3⟩ := R k p hp
      obtain ⟨d0, d1, d2, d3⟩ := R ((k + 1) % n) q hq
      have hrk : (ring l)[k]? = some (p, q) := by
        have e1 : l[k]! = p := by rw [getElem!_pos l k (by rw [HN.out]; exact hlt)]; exact (List.getElem?_eq_some_iff.1 hp).2
        have e2 : l[(k + 1) % l.length]! = q := by
          rw [HN.out, getElem!_pos l ((k + 1) % n) (by rw [HN.out]; exact hmod)]; exact (List.getElem?_eq_some_iff.1 hq).2
        simp only [ring, List.getElem?_map, List.getElem?_range (show k < l.length by rw [HN.out]; exact hlt), Option.map_some, e1, e2]
      have hm := HRB (p, q) (List.mem_of_getElem? hrk)
      have hS := Lib.hid (show sumC ((ring l).take (k + 1)) = sumC ((ring l).take k) + p.cx q by
        rw [List.take_add_one, hrk]; exact sumC_snoc _ _)
      have hb1 := (sumC_bd (ring l) HRB k (by rw [HRL, HN.out]; omega)).mono (m := 1000000000000000) (by omega)
      generalize sumC ((ring l).take k) = S at *
      have TC := arCrossP p q (hm.1.mono (by omega)) (hm.2.mono (by omega))
      have PL := spSumQ S (p.cx q) (hb1.mono (by omega)) ((cx_bd (hm.1.mono (by omega)) (hm.2.mono (by omega))).mono (by omega))
      have j1 : (0 : Int) ≤ (k : Int) := by omega
      have j2 : (k : Int) < (n : Int) := by omega
      have j3 : IntKind.i64.wrap ((k : Int) + 1) = (k : Int) + 1 := IntWalk.i64_in _ ⟨by omega, by omega⟩
      obtain ⟨m, hM⟩ : ∃ m, (k + 1) % n = m := ⟨_, rfl⟩
      have j4 : ((k : Int) + 1).tmod (n : Int) = (m : Int) := by rw [← hM, Int.tmod_eq_emod_of_nonneg (by omega)]; push_cast; rfl
      have j4' : ((k : Int) + 1) % (n : Int) = (m : Int) := by rw [← hM]; push_cast; rfl
      have j5 : IntKind.i64.wrap (m : Int) = (m : Int) := IntWalk.i64_in _ ⟨by omega, by omega⟩
      have j6 : (0 : Int) ≤ (m : Int) := by omega
      have j7 : (m : Int) < (n : Int) := by omega
      have j8 : ¬ (n : Int) = 0 := by omega
      have j9 : ¬ n = 0 := by omega
      rw [hM] at d0 d1 d2 d3
      clear hp hq hm hb1 R hrk hM
      have k0 := c0
      go_wp2_with fail
      refine absW (F := fun W => (W.cell? ⟨w.heap.size + 1, 0, none⟩ = some (.int .i64 (S).x) ∧ W.cell? ⟨w.heap.size + 1, 1, none⟩ = some (.int .i64 (S).r)) ∧ (W.cell? ⟨wr.heap.size, 0, none⟩ = some (.int .i64 (p).a) ∧ W.cell? ⟨wr.heap.size, 1, none⟩ = some (.int .i64 (p).b) ∧ W.cell? ⟨wr.heap.size, 2, none⟩ = some (.int .i64 (p).c) ∧ W.cell? ⟨wr.heap.size, 3, none⟩ = some (.int .i64 (p).d)) ∧ (∀ i, W.frozen? ⟨w.heap.size + 1, i, none⟩ = false) ∧ (∀ i, W.frozen? ⟨w.heap.size, i, none⟩ = false) ∧ (W.cell? ⟨w.heap.size, 0, none⟩ = some (.int .i64 ((⟨0, 0⟩ : Su)).x) ∧ W.cell? ⟨w.heap.size, 1, none⟩ = some (.int .i64 ((⟨0, 0⟩ : Su)).r)) ∧ (wr.heap.size < W.heap.size) ∧ (W.cell? ⟨g, m * 4, none⟩ = some (.int .i64 q.a)) ∧ (W.cell? ⟨g, m * 4 + 1, none⟩ = some (.int .i64 q.b)) ∧ (W.cell? ⟨g, m * 4 + 2, none⟩ = some (.int .i64 q.c)) ∧ (W.cell? ⟨g, m * 4 + 3, none⟩ = some (.int .i64 q.d)) ∧ Below w.heap.size w W) ⟨⟨by go_simp, by go_simp⟩, ⟨by go_simp, by go_simp, by go_simp, by go_simp⟩, fun i => by go_simp, fun i => by go_simp, ⟨by go_simp, by go_simp⟩, by simp, by go_simp, by go_simp, by go_simp, by go_simp, by go_grown⟩ ?_
      rintro W ⟨⟨cS_0, cS_1⟩, ⟨cC_0, cC_1, cC_2, cC_3⟩, frS, frR, ⟨cR_0, cR_1⟩, hzW, e0, e1, e2, e3, HB⟩
      have kS_0 := fun d os => cell_regrown cS_0 d os
      have kS_1 := fun d os => cell_regrown cS_1 d os
      have kC_0 := fun d os => cell_regrown cC_0 d os
      have kC_1 := fun d os => cell_regrown cC_1 d os
      have kC_2 := fun d os => cell_regrown cC_2 d os
      have kC_3 := fun d os => cell_regrown cC_3 d os
      have kR_0 := fun d os => cell_regrown cR_0 d os
      have kR_1 := fun d os => cell_regrown cR_1 d os
      have E0 := fun d os => cell_regrown e0 d os
      have E1 := fun d os => cell_regrown e1 d os
      have E2 := fun d os => cell_regrown e2 d os
      have E3 := fun d os => cell_regrown e3 d os
      have y0 : w.heap.size < W.heap.size := by omega
      have y1 : w.heap.size + 1 < W.heap.size := by omega
      refine region_below_tail 12 (by kernel_rfl) (by kernel_rfl) ?_
      simp only [List.take_succ_cons, List.take_zero, List.drop_succ_cons, List.drop_zero]
      repeat (quiet_step (first | (go_at_call 107; with_reducible exact Calls.regrown_of (TC _)) | (go_at_call 69; with_reducible exact Calls.regrown_of (PL _))))
      refine wpQuiet_nil ?_
      rintro _ ⟨⟨dq, osq⟩, rfl⟩
      have hbw1 := below_regrown W dq osq
      generalize grow (redrawn W dq) osq = w1 at hbw1 ⊢
      obtain ⟨hcw1, hfw1⟩ := bcell hbw1
      have hlw1 := hbw1.size
      replace HB := ba HB hbw1
      have y0' : w.heap.size < w1.heap.size := by omega
      have y1' : w.heap.size + 1 < w1.heap.size := by omega
      go_wp2_with fail
      go_roundw
      case rel => exact ⟨k + 1, by omega, by go_num, by rw [hS.out]; exact ⟨by go_simp, by go_simp⟩, fun i => by go_simp, fun i => by go_simp, ⟨by go_simp, by go_simp⟩, by simp; omega, by go_grown⟩
      case measure => simp [intOf]; omega
    · have hkn : k = n := by omega
      have hr : (ring l).take k = ring l := List.take_of_length_le (by rw [HRL, HN.out]; omega)
      rw [hr] at s0 s1
      go_wp2_with fail
      refine bodyPost_ret (by simp [results, Try.results62, go_sem, *]; try rfl) rfl ?_
      exact ⟨rfl, by go_grown⟩

end Go.Proofs.Ytppbbcckijcckaa

/- Contracts: the sign of a surd in the program, and that its draws add up; the program's order of surds and of places. -/
namespace Go.Proofs.Ytppbbcckijcckaa
open Go.ChangeShapes Go.WideShapes Go.ChangeAt Go.RowKit

set_option maxRecDepth 100000 in
set_option maxHeartbeats 3200000 in
theorem imSign_gr (s0 s1 : Int) (b0 : -4000000000000000 ≤ s0) (c0 : s0 ≤ 4000000000000000) (b1 : -4000000000000000 ≤ s1) (c1 : s1 ≤ 4000000000000000) (w : World) :
    Calls Try.prog 111 #[.agg #[.int .i64 s0, .int .i64 s1]] w fun e w' => e = .returned (.int .i64 (sgn2 s0 s1)) ∧ Below w.heap.size w w' ∧ w.drawn ≤ w'.drawn := by
  have L := lex (s0.natAbs * s0.natAbs) (2 * s1.natAbs * s1.natAbs)
  have hG := G1_abs s0 s1
  by_cases k1 : mh (2 * s1.natAbs) s1.natAbs < mh s0.natAbs s0.natAbs
  · have hg : G1 s0 s1 = true := by rw [hG]; exact decide_eq_true (L.1 (.inl k1))
    clear L hG
    go_enter Try.func111, Try.ntmps111
    go_wp2_with fail
    go_quiet ((go_at_call 144; exact Calls.quiet_of_same (turned (sizeOf_any _ (by omega) (by omega) _))))
    go_wp2_with (first | (go_at_call 145; (with_reducible refine (mul64_any s0.natAbs s0.natAbs (by omega) (by omega) _).mono ?_); rintro e w' ⟨rfl, rfl⟩) | (go_at_call 145; (with_reducible refine (mul64_two s1.natAbs (by omega) _).mono ?_); rintro e w' ⟨rfl, rfl⟩) | (go_at_call 146; (refine (compare_any _ _).mono ?_); rintro e w' ⟨rfl, rfl⟩))
    all_goals go_returns
    all_goals first | (exfalso; simp_all; done) | exact ⟨by simp [sgn2, hg], by ((repeat refine below_drewN ?_ _); go_grown; done), by first | exact Nat.le_add_right _ _ | (simp [World.drewN, World.alloc]; done)⟩
  by_cases k2 : mh s0.natAbs s0.natAbs = mh (2 * s1.natAbs) s1.natAbs
  · by_cases k3 : ml (2 * s1.natAbs) s1.natAbs < ml s0.natAbs s0.natAbs
    · have hg : G1 s0 s1 = true := by rw [hG]; exact decide_eq_true (L.1 (.inr ⟨k2, k3⟩))
      clear L hG
      go_enter Try.func111, Try.ntmps111
      go_wp2_with fail
      go_quiet ((go_at_call 144; exact Calls.quiet_of_same (turned (sizeOf_any _ (by omega) (by omega) _))))
      go_wp2_with (first | (go_at_call 145; (with_reducible refine (mul64_any s0.natAbs s0.natAbs (by omega) (by omega) _).mono ?_); rintro e w' ⟨rfl, rfl⟩) | (go_at_call 145; (with_reducible refine (mul64_two s1.natAbs (by omega) _).mono ?_); rintro e w' ⟨rfl, rfl⟩) | (go_at_call 146; (refine (compare_any _ _).mono ?_); rintro e w' ⟨rfl, rfl⟩))
      all_goals go_returns
      all_goals first | (exfalso; simp_all; done) | exact ⟨by simp [sgn2, hg], by ((repeat refine below_drewN ?_ _); go_grown; done), by first | exact Nat.le_add_right _ _ | (simp [World.drewN, World.alloc]; done)⟩
    · have hg : G1 s0 s1 = false := by rw [hG]; exact decide_eq_false (fun h => (L.2 h).elim k1 (fun h => k3 h.2))
      clear L hG
      go_enter Try.func111, Try.ntmps111
      go_wp2_with fail
      go_quiet ((go_at_call 144; exact Calls.quiet_of_same (turned (sizeOf_any _ (by omega) (by omega) _))))
      go_wp2_with (first | (go_at_call 145; (with_reducible refine (mul64_any s0.natAbs s0.natAbs (by omega) (by omega) _).mono ?_); rintro e w' ⟨rfl, rfl⟩) | (go_at_call 145; (with_reducible refine (mul64_two s1.natAbs (by omega) _).mono ?_); rintro e w' ⟨rfl, rfl⟩) | (go_at_call 146; (refine (compare_any _ _).mono ?_); rintro e w' ⟨rfl, rfl⟩))
      all_goals go_returns
      all_goals first | (exfalso; simp_all; done) | exact ⟨by simp [sgn2, hg], by ((repeat refine below_drewN ?_ _); go_grown; done), by first | exact Nat.le_add_right _ _ | (simp [World.drewN, World.alloc]; done)⟩
  · have hg : G1 s0 s1 = false := by rw [hG]; exact decide_eq_false (fun h => (L.2 h).elim k1 (fun h => k2 h.1))
    clear L hG
    go_enter Try.func111, Try.ntmps111
    go_wp2_with fail
    go_quiet ((go_at_call 144; exact Calls.quiet_of_same (turned (sizeOf_any _ (by omega) (by omega) _))))
    go_wp2_with (first | (go_at_call 145; (with_reducible refine (mul64_any s0.natAbs s0.natAbs (by omega) (by omega) _).mono ?_); rintro e w' ⟨rfl, rfl⟩) | (go_at_call 145; (with_reducible refine (mul64_two s1.natAbs (by omega) _).mono ?_); rintro e w' ⟨rfl, rfl⟩) | (go_at_call 146; (refine (compare_any _ _).mono ?_); rintro e w' ⟨rfl, rfl⟩))
    all_goals go_returns
    all_goals first | (exfalso; simp_all; done) | exact ⟨by simp [sgn2, hg], by ((repeat refine below_drewN ?_ _); go_grown; done), by first | exact Nat.le_add_right _ _ | (simp [World.drewN, World.alloc]; done)⟩

end Go.Proofs.Ytppbbcckijcckaa

/- Contracts: the program's order of surds and of places, and that their draws add up. -/
namespace Go.Proofs.Ytppbbcckijcckaa
open Go.ChangeShapes Go.WideShapes Go.ChangeAt Go.RowKit Go.Sort

set_option linter.unusedVariables false
set_option linter.unusedSimpArgs false

/-- w' is w with some draws and some blocks laid behind. -/
theorem gr_of {w w' : World} (h : Below w.heap.size w w') (k : w.drawn ≤ w'.drawn) : ∃ q os, w' = grow (w.drewN q) os := by
  obtain ⟨⟨d, os⟩, hp⟩ := regrown_of_below h
  have hd : w'.drawn = d := by rw [hp]; rfl
  refine ⟨d - w.drawn, os, ?_⟩
  rw [hp]
  have : d = w.drawn + (d - w.drawn) := by omega
  show grow (redrawn w d) os = grow (redrawn w (w.drawn + (d - w.drawn))) os
  rw [← this]

theorem below_gr' {w : World} (n : Nat) (os : Array Obj) : Below w.heap.size w (grow (w.drewN n) os) := below_regrown w (w.drawn + n) os

/-- A callee's contract, met in a world of the class. -/
theorem grown_of' {P : Program} {f : FuncId} {args : Array Value} {w : World} {n : Nat} {os : Array Obj} {v : Value}
    (h : Calls P f args (grow (w.drewN n) os) fun e w' => e = .returned v ∧ Below (grow (w.drewN n) os).heap.size (grow (w.drewN n) os) w' ∧ (grow (w.drewN n) os).drawn ≤ w'.drawn) : Calls P f args (grow (w.drewN n) os) fun e w'' => e = .returned v ∧ ∃ p : GrownBy, w'' = grow (w.drewN p.n) p.os :=
  Calls.grown_of (h.mono fun _ _ ⟨he, hb, hd⟩ => ⟨he, gr_of hb hd⟩)

theorem cell_grownc {w : World} {a : Addr} {v : Value} (h : w.cell? a = some v) (n : Nat) (os : Array Obj) : (grow (w.drewN n) os).cell? a = some v := cell_grown (block_lt_of_cell h) h n os

theorem region_grown_tail {P : Program} {id : Nat} {Q : Exit → Act → World → Prop} {a : Act} {w : World} {l : List Oper} (n : Nat) (hm : P.follows .mixedOrders = true) (hB : Region.lexTailB .any l.toArray n = true)
    (h : wpQuiet P l.toArray (fun w' => ∃ p : GrownBy, w' = grow (w.drewN p.n) p.os) (fun a' => ∀ w', (∃ p : GrownBy, w' = grow (w.drewN p.n) p.os) → wpList P l.toArray Q (l.drop n) a' w') (l.take n) a) : (Code.region id l.toArray true).wp P Q a w :=
  region_quiet_tail n hm hB ⟨⟨1, #[]⟩, by rw [grow_empty]; rfl⟩ h

set_option maxRecDepth 100000 in
theorem imXG (p : Pn) (h : Bd 1000000000000000000 p) (w : World) : Calls Try.prog 76 #[pv p] w fun e w' => e = .returned (sv p.tx) ∧ Below w.heap.size w w' ∧ w.drawn ≤ w'.drawn := by
  have e1 := (w64X h).1; have e2 := (w64X h).2
  go_enter Try.func76, Try.ntmps76
  go_wp2
  go_returns
  exact ⟨by simp [Pn.tx, *], by go_grown, Nat.le_refl _⟩

set_option maxRecDepth 100000 in
theorem imYG (p : Pn) (h : Bd 1000000000000000000 p) (w : World) : Calls Try.prog 78 #[pv p] w fun e w' => e = .returned (sv p.ty) ∧ Below w.heap.size w w' ∧ w.drawn ≤ w'.drawn := by
  have e1 := (w64Y h).1; have e2 := (w64Y h).2
  go_enter Try.func78, Try.ntmps78
  go_wp2
  go_returns
  exact ⟨by simp [Pn.ty, *], by go_grown, Nat.le_refl _⟩

theorem sub_w64 {n : Int} {s t : Su} (h : Bs n s) (k : Bs n t) (hn : n ≤ 4000000000000000000) : wrap64 (s.x - t.x) = (s - t).x ∧ wrap64 (s.r - t.r) = (s - t).r := by
  unfold Bs at h k
  exact ⟨w64p _ (by omega) (by omega), w64p _ (by omega) (by omega)⟩

set_option maxRecDepth 100000 in
theorem imSuLess (s t : Su) (h : Bs 4000000000000000000 s) (k : Bs 4000000000000000000 t) (w : World) : Calls Try.prog 71 #[sv s, sv t] w fun e w' => e = .returned (sv (s - t)) ∧ Below w.heap.size w w' ∧ w.drawn ≤ w'.drawn := by
  obtain ⟨e1, e2⟩ := sub_w64 h k (by omega)
  go_enter Try.func71, Try.ntmps71
  go_wp2
  go_returns
  exact ⟨by simp [*], by go_grown, Nat.le_refl _⟩

theorem Bs.sub_bd {n : Int} {s t : Su} (h : Bs n s) (k : Bs n t) : Bs (2 * n) (s - t) := by
  unfold Bs at *
  rw [Su.sub_x, Su.sub_r]; omega

set_option maxRecDepth 100000 in
theorem imCmpG (s t : Su) (h : Bs 2000000000000000 s) (k : Bs 2000000000000000 t) (w : World) : Calls Try.prog 99 #[sv s, sv t] w fun e w' => e = .returned (.int .i64 (s - t).sn) ∧ Below w.heap.size w w' ∧ w.drawn ≤ w'.drawn := by
  have hb : (-4000000000000000 ≤ (s - t).x ∧ (s - t).x ≤ 4000000000000000) ∧ (-4000000000000000 ≤ (s - t).r ∧ (s - t).r ≤ 4000000000000000) := h.sub_bd k
  go_enter Try.func99, Try.ntmps99
  go_wp2_with fail
  (go_at_call 71; (with_reducible refine (imSuLess s t (h.mono (by omega)) (k.mono (by omega)) _).mono ?_); rintro e wA ⟨rfl, h1, d1⟩; have hB : Below w.heap.size w wA := ba (by go_grown) h1; have hdA : w.drawn ≤ wA.drawn := d1)
  go_wp2_with fail
  (go_at_call 111; (with_reducible refine (imSign_gr (s - t).x (s - t).r hb.1.1 hb.1.2 hb.2.1 hb.2.2 _).mono ?_); rintro e wB ⟨rfl, h2, d2⟩; have hB2 : Below w.heap.size w wB := ba hB h2; have hdB : w.drawn ≤ wB.drawn := Nat.le_trans hdA d2)
  go_wp2_with fail
  go_returns
  exact ⟨rfl, hB2, hdB⟩

def orI (x y : Int) : Int := if x = 0 then y else x

set_option maxRecDepth 100000 in
theorem orP (x y : Int) (g : Nat) (w : World) (h0 : w.cell? ⟨g, 0, none⟩ = some (.int .i64 x)) (h1 : w.cell? ⟨g, 1, none⟩ = some (.int .i64 y)) :
    Calls Try.prog 131 #[.slice (some ⟨g, 0, none⟩) 2 2] w fun e w' => e = .returned (.int .i64 (orI x y)) ∧ w = w' := by
  by_cases hx : x = 0
  · subst hx
    by_cases hy : y = 0
    · subst hy
      go_enter Try.func131, Try.ntmps131
      go_wp2_with fail
      refine wp_loop_rounds 3 ?_
      repeat any_goals (rw [rounds_succ]; go_wp2_with fail)
      all_goals go_ret
      all_goals exact ⟨rfl, rfl⟩
    · go_enter Try.func131, Try.ntmps131
      go_wp2_with fail
      refine wp_loop_rounds 3 ?_
      repeat any_goals (rw [rounds_succ]; go_wp2_with fail)
      all_goals go_ret
      all_goals exact ⟨by simp [orI, hy], rfl⟩
  · go_enter Try.func131, Try.ntmps131
    go_wp2_with fail
    refine wp_loop_rounds 3 ?_
    repeat any_goals (rw [rounds_succ]; go_wp2_with fail)
    all_goals go_ret
    all_goals exact ⟨by simp [orI, hx], rfl⟩

/-- The program's order of places. -/
def cmpP (p q : Pn) : Int := orI (p.tx - q.tx).sn (p.ty - q.ty).sn

set_option maxRecDepth 100000 in
set_option maxHeartbeats 800000 in
theorem placesG (p q : Pn) (hp : Bd 100000 p) (hq : Bd 100000 q) (w : World) : Calls Try.prog 90 #[pv p, pv q] w fun e w' => e = .returned (.int .i64 (cmpP p q)) ∧ Below w.heap.size w w' ∧ w.drawn ≤ w'.drawn := by
  have HX := imCmpG p.tx q.tx (hp.tx_bd.mono (by omega)) (hq.tx_bd.mono (by omega))
  have HY := imCmpG p.ty q.ty (hp.ty_bd.mono (by omega)) (hq.ty_bd.mono (by omega))
  unfold cmpP
  generalize (p.tx - q.tx).sn = x at *
  generalize (p.ty - q.ty).sn = y at *
  go_enter Try.func90, Try.ntmps90
  go_wp2_with fail
  refine absW (F := fun W => (W.cell? ⟨w.heap.size, 0, none⟩ = some (.int .i64 (p).a) ∧ W.cell? ⟨w.heap.size, 1, none⟩ = some (.int .i64 (p).b) ∧ W.cell? ⟨w.heap.size, 2, none⟩ = some (.int .i64 (p).c) ∧ W.cell? ⟨w.heap.size, 3, none⟩ = some (.int .i64 (p).d)) ∧ (W.cell? ⟨w.heap.size + 1, 0, none⟩ = some (.int .i64 (q).a) ∧ W.cell? ⟨w.heap.size + 1, 1, none⟩ = some (.int .i64 (q).b) ∧ W.cell? ⟨w.heap.size + 1, 2, none⟩ = some (.int .i64 (q).c) ∧ W.cell? ⟨w.heap.size + 1, 3, none⟩ = some (.int .i64 (q).d)) ∧ Below w.heap.size w W ∧ W.heap.size = w.heap.size + 1 + 1 ∧ w.drawn ≤ W.drawn) ⟨⟨by go_simp, by go_simp, by go_simp, by go_simp⟩, ⟨by go_simp, by go_simp, by go_simp, by go_simp⟩, by go_grown, by first | (simp; done) | (simp; omega), by first | exact Nat.le_refl _ | (simp [World.drewN]; done) | omega⟩ ?_
  rintro W ⟨⟨c0_0, c0_1, c0_2, c0_3⟩, ⟨c1_0, c1_1, c1_2, c1_3⟩, HB, hz, HD⟩
  have k0_0 := fun d os => cell_grownc c0_0 d os
  have k0_1 := fun d os => cell_grownc c0_1 d os
  have k0_2 := fun d os => cell_grownc c0_2 d os
  have k0_3 := fun d os => cell_grownc c0_3 d os
  have k1_0 := fun d os => cell_grownc c1_0 d os
  have k1_1 := fun d os => cell_grownc c1_1 d os
  have k1_2 := fun d os => cell_grownc c1_2 d os
  have k1_3 := fun d os => cell_grownc c1_3 d os
  refine region_grown_tail 10 (by kernel_rfl) (by kernel_rfl) ?_
  simp only [List.take_succ_cons, List.take_zero, List.drop_succ_cons, List.drop_zero]
  repeat (quiet_step (first | (go_at_call 76; with_reducible exact grown_of' (imXG p (hp.mono (by omega)) _)) | (go_at_call 76; with_reducible exact grown_of' (imXG q (hq.mono (by omega)) _)) | (go_at_call 78; with_reducible exact grown_of' (imYG p (hp.mono (by omega)) _)) | (go_at_call 78; with_reducible exact grown_of' (imYG q (hq.mono (by omega)) _)) | (go_at_call 99; with_reducible exact grown_of' (HX _)) | (go_at_call 99; with_reducible exact grown_of' (HY _))))
  refine wpQuiet_nil ?_
  rintro _ ⟨⟨nq, osq⟩, rfl⟩
  have hbw1 := below_gr' (w := W) nq osq
  have hdw1 : W.drawn ≤ (grow (W.drewN nq) osq).drawn := Nat.le_add_right _ _
  generalize grow (W.drewN nq) osq = w1 at hbw1 hdw1 ⊢
  obtain ⟨hcw1, hfw1⟩ := bcell hbw1
  have hlw1 := hbw1.size
  replace HB := ba HB hbw1
  replace HD := Nat.le_trans HD hdw1
  go_wp2_with (go_at_call 131; (with_reducible refine (orP x y _ _ (by go_simp) (by go_simp)).mono ?_); rintro e w2 ⟨rfl, rfl⟩)
  go_returns
  exact ⟨rfl, by go_grown, by first | exact HD | (simp; done)⟩

/-- The order: p comes before q. -/
theorem cmpP_lt (p q : Pn) : cmpP p q < 0 ↔ Pn.ltd true p q := by
  have ex : p.tx - q.tx = -(Pn.vec p q).X := by apply Su.ext' <;> simp only [Pn.vec, Pn.tx, Su.sub_x, Su.sub_r, Su.neg_x, Su.neg_r] <;> omega
  have ey : p.ty - q.ty = -(Pn.vec p q).Y := by apply Su.ext' <;> simp only [Pn.vec, Pn.ty, Su.sub_x, Su.sub_r, Su.neg_x, Su.neg_r] <;> omega
  unfold cmpP orI Pn.ltd Pn.vd Ve.lx
  rw [ex, ey, cond_true, Su.sn_of_neg, Su.sn_of_neg, ← Su.sn_pos, ← Su.sn_pos, ← Su.sn_zero]
  split <;> omega

end Go.Proofs.Ytppbbcckijcckaa

/- Contracts: how often a chord passes a point, in the program. -/
namespace Go.Proofs.Ytppbbcckijcckaa
open Go.ChangeShapes Go.WideShapes Go.ChangeAt Go.RowKit Go.Sort

set_option linter.unusedVariables false
set_option linter.unusedSimpArgs false

theorem tfP (p : Prop) : p = True ∨ p = False := by
  by_cases h : p
  · exact .inl (eq_true h)
  · exact .inr (eq_false h)

/-- a is no farther to the north than p. -/
def lowB (a p : Pn) : Bool := decide ((a.ty - p.ty).sn ≤ 0)

def passI (a b p : Pn) : Int := cond (lowB a p && !lowB b p) (max (Pn.sd a b p) 0) (cond (!lowB a p && lowB b p) (min (Pn.sd a b p) 0) 0)

theorem imCmpQ (s t : Su) (h : Bs 2000000000000000 s) (k : Bs 2000000000000000 t) (w : World) : Calls Try.prog 99 #[sv s, sv t] w fun e w' => e = .returned (.int .i64 (s - t).sn) ∧ Below w.heap.size w w' :=
  (imCmpG s t h k w).mono fun _ _ ⟨h1, h2, _⟩ => ⟨h1, h2⟩

set_option maxRecDepth 100000 in
set_option maxHeartbeats 1600000 in
theorem passingP (a b p : Pn) (ha : Bd 100000 a) (hb : Bd 100000 b) (hp : Bd 100000 p) (w : World) :
    Calls Try.prog 84 #[cv a b, pv p] w fun e w' => e = .returned (.int .i64 (passI a b p)) ∧ Below w.heap.size w w' := by
  have YA := imYP a (ha.mono (by omega))
  have YB := imYP b (hb.mono (by omega))
  have YP := imYP p (hp.mono (by omega))
  have CA := imCmpQ a.ty p.ty (ha.ty_bd.mono (by omega)) (hp.ty_bd.mono (by omega))
  have CB := imCmpQ b.ty p.ty (hb.ty_bd.mono (by omega)) (hp.ty_bd.mono (by omega))
  have SD := sideP a b p ha hb hp
  have e0 : passI a b p = cond (lowB a p && !lowB b p) (max (Pn.sd a b p) 0) (cond (!lowB a p && lowB b p) (min (Pn.sd a b p) 0) 0) := rfl
  have E0 := Lib.hid e0
  have l1 : lowB a p = decide ((a.ty - p.ty).sn ≤ 0) := rfl
  have l2 : lowB b p = decide ((b.ty - p.ty).sn ≤ 0) := rfl
  have s3 := sd_three a b p
  generalize passI a b p = R at *
  generalize (a.ty - p.ty).sn = x at *
  generalize (b.ty - p.ty).sn = y at *
  generalize Pn.sd a b p = z at *
  clear e0
  go_enter Try.func84, Try.ntmps84
  go_wp2_with fail
  (go_at_call 78; (with_reducible refine (YP _).mono ?_); rintro e wA ⟨rfl, h1⟩; (try with_reducible replace h1 := undrew h1); have hB : Below w.heap.size w wA := ba (by go_grown) h1; obtain ⟨hcwA, hfwA⟩ := bcell h1; have hqwA := h1.size; (try simp at hqwA); (try have hz0wA : w.heap.size < wA.heap.size := (by omega)); (try have he0wA : w.heap.size ≤ wA.heap.size := (by omega)); (try have hz1wA : w.heap.size + 1 < wA.heap.size := (by omega)); (try have he1wA : w.heap.size + 1 ≤ wA.heap.size := (by omega)))
  go_wp2_with fail
  refine absW (F := fun W => (W.cell? ⟨w.heap.size, 0, none⟩ = some (.int .i64 (a).a) ∧ W.cell? ⟨w.heap.size, 1, none⟩ = some (.int .i64 (a).b) ∧ W.cell? ⟨w.heap.size, 2, none⟩ = some (.int .i64 (a).c) ∧ W.cell? ⟨w.heap.size, 3, none⟩ = some (.int .i64 (a).d)) ∧ (W.cell? ⟨w.heap.size, 4, none⟩ = some (.int .i64 (b).a) ∧ W.cell? ⟨w.heap.size, 5, none⟩ = some (.int .i64 (b).b) ∧ W.cell? ⟨w.heap.size, 6, none⟩ = some (.int .i64 (b).c) ∧ W.cell? ⟨w.heap.size, 7, none⟩ = some (.int .i64 (b).d)) ∧ (W.cell? ⟨w.heap.size + 1, 0, none⟩ = some (.int .i64 (p).a) ∧ W.cell? ⟨w.heap.size + 1, 1, none⟩ = some (.int .i64 (p).b) ∧ W.cell? ⟨w.heap.size + 1, 2, none⟩ = some (.int .i64 (p).c) ∧ W.cell? ⟨w.heap.size + 1, 3, none⟩ = some (.int .i64 (p).d)) ∧ (W.cell? ⟨wA.heap.size, 0, none⟩ = some (.int .i64 (p.ty).x) ∧ W.cell? ⟨wA.heap.size, 1, none⟩ = some (.int .i64 (p.ty).r)) ∧ (wA.heap.size < W.heap.size) ∧ Below w.heap.size w W) ⟨⟨by go_simp, by go_simp, by go_simp, by go_simp⟩, ⟨by go_simp, by go_simp, by go_simp, by go_simp⟩, ⟨by go_simp, by go_simp, by go_simp, by go_simp⟩, ⟨by go_simp, by go_simp⟩, by simp, by go_grown⟩ ?_
  rintro W ⟨⟨c0_0, c0_1, c0_2, c0_3⟩, ⟨c0_4, c0_5, c0_6, c0_7⟩, ⟨c1_0, c1_1, c1_2, c1_3⟩, ⟨cH_0, cH_1⟩, hzW, HB⟩
  have k0_0 := fun d os => cell_regrown c0_0 d os
  have k0_1 := fun d os => cell_regrown c0_1 d os
  have k0_2 := fun d os => cell_regrown c0_2 d os
  have k0_3 := fun d os => cell_regrown c0_3 d os
  have k0_4 := fun d os => cell_regrown c0_4 d os
  have k0_5 := fun d os => cell_regrown c0_5 d os
  have k0_6 := fun d os => cell_regrown c0_6 d os
  have k0_7 := fun d os => cell_regrown c0_7 d os
  have k1_0 := fun d os => cell_regrown c1_0 d os
  have k1_1 := fun d os => cell_regrown c1_1 d os
  have k1_2 := fun d os => cell_regrown c1_2 d os
  have k1_3 := fun d os => cell_regrown c1_3 d os
  have kH_0 := fun d os => cell_regrown cH_0 d os
  have kH_1 := fun d os => cell_regrown cH_1 d os
  have v0 : w.heap.size < W.heap.size := by omega
  have v1 : w.heap.size + 1 < W.heap.size := by omega
  refine wp_region_quiet_below (by kernel_rfl) (by kernel_rfl) ?_
  repeat (quiet_step (first | (go_at_call 78; with_reducible exact Calls.regrown_of (YA _)) | (go_at_call 99; with_reducible exact Calls.regrown_of (CA _))))
  refine wpQuiet_nil ?_
  rintro _ ⟨⟨dq, osq⟩, rfl⟩
  have hbw1 := below_regrown W dq osq
  generalize grow (redrawn W dq) osq = w1 at hbw1 ⊢
  obtain ⟨hcw1, hfw1⟩ := bcell hbw1
  have hlw1 := hbw1.size
  replace HB := ba HB hbw1
  go_wp2_with fail
  refine absW (F := fun X => (X.cell? ⟨w.heap.size, 0, none⟩ = some (.int .i64 (a).a) ∧ X.cell? ⟨w.heap.size, 1, none⟩ = some (.int .i64 (a).b) ∧ X.cell? ⟨w.heap.size, 2, none⟩ = some (.int .i64 (a).c) ∧ X.cell? ⟨w.heap.size, 3, none⟩ = some (.int .i64 (a).d)) ∧ (X.cell? ⟨w.heap.size, 4, none⟩ = some (.int .i64 (b).a) ∧ X.cell? ⟨w.heap.size, 5, none⟩ = some (.int .i64 (b).b) ∧ X.cell? ⟨w.heap.size, 6, none⟩ = some (.int .i64 (b).c) ∧ X.cell? ⟨w.heap.size, 7, none⟩ = some (.int .i64 (b).d)) ∧ (X.cell? ⟨w.heap.size + 1, 0, none⟩ = some (.int .i64 (p).a) ∧ X.cell? ⟨w.heap.size + 1, 1, none⟩ = some (.int .i64 (p).b) ∧ X.cell? ⟨w.heap.size + 1, 2, none⟩ = some (.int .i64 (p).c) ∧ X.cell? ⟨w.heap.size + 1, 3, none⟩ = some (.int .i64 (p).d)) ∧ (X.cell? ⟨wA.heap.size, 0, none⟩ = some (.int .i64 (p.ty).x) ∧ X.cell? ⟨wA.heap.size, 1, none⟩ = some (.int .i64 (p.ty).r)) ∧ (wA.heap.size < X.heap.size) ∧ Below w.heap.size w X) ⟨⟨by go_simp, by go_simp, by go_simp, by go_simp⟩, ⟨by go_simp, by go_simp, by go_simp, by go_simp⟩, ⟨by go_simp, by go_simp, by go_simp, by go_simp⟩, ⟨by go_simp, by go_simp⟩, by omega, by go_grown⟩ ?_
  rintro X ⟨⟨c0_0, c0_1, c0_2, c0_3⟩, ⟨c0_4, c0_5, c0_6, c0_7⟩, ⟨c1_0, c1_1, c1_2, c1_3⟩, ⟨cH_0, cH_1⟩, hzX, HB⟩
  have k0_0 := fun d os => cell_regrown c0_0 d os
  have k0_1 := fun d os => cell_regrown c0_1 d os
  have k0_2 := fun d os => cell_regrown c0_2 d os
  have k0_3 := fun d os => cell_regrown c0_3 d os
  have k0_4 := fun d os => cell_regrown c0_4 d os
  have k0_5 := fun d os => cell_regrown c0_5 d os
  have k0_6 := fun d os => cell_regrown c0_6 d os
  have k0_7 := fun d os => cell_regrown c0_7 d os
  have k1_0 := fun d os => cell_regrown c1_0 d os
  have k1_1 := fun d os => cell_regrown c1_1 d os
  have k1_2 := fun d os => cell_regrown c1_2 d os
  have k1_3 := fun d os => cell_regrown c1_3 d os
  have kH_0 := fun d os => cell_regrown cH_0 d os
  have kH_1 := fun d os => cell_regrown cH_1 d os
  have y0 : w.heap.size < X.heap.size := by omega
  have y1 : w.heap.size + 1 < X.heap.size := by omega
  refine wp_region_quiet_below (by kernel_rfl) (by kernel_rfl) ?_
  repeat (quiet_step (first | (go_at_call 78; with_reducible exact Calls.regrown_of (YB _)) | (go_at_call 99; with_reducible exact Calls.regrown_of (CB _))))
  refine wpQuiet_nil ?_
  rintro _ ⟨⟨dq, osq⟩, rfl⟩
  have hbw2 := below_regrown X dq osq
  generalize grow (redrawn X dq) osq = w2 at hbw2 ⊢
  obtain ⟨hcw2, hfw2⟩ := bcell hbw2
  have hlw2 := hbw2.size
  replace HB := ba HB hbw2
  have u0 : w.heap.size < w2.heap.size := by omega
  have u1 : w.heap.size + 1 < w2.heap.size := by omega
  go_wp2_with fail
  (go_at_call 56; (with_reducible refine (SD _).mono ?_); rintro e wC ⟨rfl, h1⟩; (try with_reducible replace h1 := undrew h1); have hB : Below w.heap.size w wC := ba (by go_grown) h1; obtain ⟨hcwC, hfwC⟩ := bcell h1; have hqwC := h1.size; (try simp at hqwC); (try have hz0wC : w.heap.size < wC.heap.size := (by omega)); (try have he0wC : w.heap.size ≤ wC.heap.size := (by omega)); (try have hz1wC : w.heap.size + 1 < wC.heap.size := (by omega)); (try have he1wC : w.heap.size + 1 ≤ wC.heap.size := (by omega)))
  clear hcwA hfwA hcwC hfwC
  have ex := tfP (x ≤ 0)
  have ey := tfP (y ≤ 0)
  rcases ex with hx | hx <;> rcases ey with hy | hy
  all_goals
    go_wp2_with fail
    go_returns
    exact ⟨by rw [E0.out, l1, l2]; simp only [hx, hy, decide_true, decide_false, Bool.not_true, Bool.not_false, Bool.and_true, Bool.and_false, Bool.true_and, Bool.false_and, cond_true, cond_false]; rfl, by go_grown⟩

end Go.Proofs.Ytppbbcckijcckaa
