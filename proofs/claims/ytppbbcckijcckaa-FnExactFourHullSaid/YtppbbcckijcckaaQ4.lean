/- Contracts and facts, put together (part 4). Conditions: each says its own. -/
import Derived.Test.YtppbbcckijcckaaQ3
import Derived.Lib.Strings
import Derived.Test.YtppbbcckijcckaaProg
import Derived.WalkKit
import Derived.ProofKit
import Derived.Handy
import Derived.WalkSpells
import Derived.LoopTactic
import Derived.Lib.Hide
import Derived.Outline

/- Contracts: points on pieces and pieces that meet, in the program. -/
namespace Go.Proofs.Ytppbbcckijcckaa
open Go.ChangeShapes Go.WideShapes Go.ChangeAt Go.RowKit Go.Sort

set_option linter.unusedVariables false
set_option linter.unusedSimpArgs false

set_option maxRecDepth 100000 in
theorem hasP (a b p : Pn) (ha : Bd 100000 a) (hb : Bd 100000 b) (hp : Bd 100000 p) (w : World) :
    Calls Try.prog 58 #[cv a b, pv p] w fun e w' => e = .returned (.bool (Pn.btw a b p)) ∧ Below w.heap.size w w' := by
  have I := isStraightP a p b ha hp hb
  go_enter Try.func58, Try.ntmps58
  go_wp2_with (go_at_call 113; (with_reducible refine (I _).mono ?_); rintro e wA ⟨rfl, h1⟩; (try with_reducible replace h1 := undrew h1); have hB : Below w.heap.size w wA := ba (by go_grown) h1; obtain ⟨hcwA, hfwA⟩ := bcell h1; have hqwA := h1.size; (try simp at hqwA); (try have hz0wA : w.heap.size < wA.heap.size := (by omega)); (try have he0wA : w.heap.size ≤ wA.heap.size := (by omega)); (try have hz1wA : w.heap.size + 1 < wA.heap.size := (by omega)); (try have he1wA : w.heap.size + 1 ≤ wA.heap.size := (by omega)))
  go_returns
  exact ⟨rfl, by go_grown⟩

set_option maxRecDepth 100000 in
set_option maxHeartbeats 800000 in
theorem splitsP (a b c d : Pn) (ha : Bd 100000 a) (hb : Bd 100000 b) (hc : Bd 100000 c) (hd : Bd 100000 d) (w : World) :
    Calls Try.prog 114 #[cv a b, cv c d] w fun e w' => e = .returned (.bool (spl a b c d)) ∧ Below w.heap.size w w' := by
  have S1 := sideP a b c ha hb hc
  have S2 := sideP a b d ha hb hd
  have m1 := sd_mulK a b c a b d
  unfold spl
  go_enter Try.func114, Try.ntmps114
  go_wp2_with fail
  refine absW (F := fun W => (W.cell? ⟨w.heap.size, 0, none⟩ = some (.int .i64 (a).a) ∧ W.cell? ⟨w.heap.size, 1, none⟩ = some (.int .i64 (a).b) ∧ W.cell? ⟨w.heap.size, 2, none⟩ = some (.int .i64 (a).c) ∧ W.cell? ⟨w.heap.size, 3, none⟩ = some (.int .i64 (a).d)) ∧ (W.cell? ⟨w.heap.size, 4, none⟩ = some (.int .i64 (b).a) ∧ W.cell? ⟨w.heap.size, 5, none⟩ = some (.int .i64 (b).b) ∧ W.cell? ⟨w.heap.size, 6, none⟩ = some (.int .i64 (b).c) ∧ W.cell? ⟨w.heap.size, 7, none⟩ = some (.int .i64 (b).d)) ∧ (W.cell? ⟨w.heap.size + 1, 0, none⟩ = some (.int .i64 (c).a) ∧ W.cell? ⟨w.heap.size + 1, 1, none⟩ = some (.int .i64 (c).b) ∧ W.cell? ⟨w.heap.size + 1, 2, none⟩ = some (.int .i64 (c).c) ∧ W.cell? ⟨w.heap.size + 1, 3, none⟩ = some (.int .i64 (c).d)) ∧ (W.cell? ⟨w.heap.size + 1, 4, none⟩ = some (.int .i64 (d).a) ∧ W.cell? ⟨w.heap.size + 1, 5, none⟩ = some (.int .i64 (d).b) ∧ W.cell? ⟨w.heap.size + 1, 6, none⟩ = some (.int .i64 (d).c) ∧ W.cell? ⟨w.heap.size + 1, 7, none⟩ = some (.int .i64 (d).d)) ∧ Below w.heap.size w W ∧ W.heap.size = w.heap.size + 1 + 1) ⟨⟨by go_simp, by go_simp, by go_simp, by go_simp⟩, ⟨by go_simp, by go_simp, by go_simp, by go_simp⟩, ⟨by go_simp, by go_simp, by go_simp, by go_simp⟩, ⟨by go_simp, by go_simp, by go_simp, by go_simp⟩, by go_grown, by first | (simp; done) | (simp; omega)⟩ ?_
  rintro W ⟨⟨c0_0, c0_1, c0_2, c0_3⟩, ⟨c0_4, c0_5, c0_6, c0_7⟩, ⟨c1_0, c1_1, c1_2, c1_3⟩, ⟨c1_4, c1_5, c1_6, c1_7⟩, HB, hz⟩
  have k0_0 := fun d os => cell_regrown c0_0 d os
  have k0_1 := fun d os => cell_regrown c0_1 d os
  have k0_2 := fun d os => cell_regrown c0_2 d os
  have k0_3 := fun d os => cell_regrown c0_3 d os
  have k0_4 := fun d os => cell_regrown c0_4 d os
  have k0_5 := fun d os => cell_regrown c0_5 d os
  have k0_6 := fun d os => cell_regrown c0_6 d os
  have k0_7 := fun d os => cell_regrown c0_7 d os
  have k1_0 := fun d os => cell_regrown c1_0 d os
  have k1_1 := fun d os => cell_regrown c1_1 d os
  have k1_2 := fun d os => cell_regrown c1_2 d os
  have k1_3 := fun d os => cell_regrown c1_3 d os
  have k1_4 := fun d os => cell_regrown c1_4 d os
  have k1_5 := fun d os => cell_regrown c1_5 d os
  have k1_6 := fun d os => cell_regrown c1_6 d os
  have k1_7 := fun d os => cell_regrown c1_7 d os
  refine wp_region_quiet_below (by kernel_rfl) (by kernel_rfl) ?_
  repeat (quiet_step (first | (go_at_call 56; with_reducible exact Calls.regrown_of (S1 _)) | (go_at_call 56; with_reducible exact Calls.regrown_of (S2 _))))
  refine wpQuiet_nil ?_
  rintro _ ⟨⟨dq, osq⟩, rfl⟩
  have hbw1 := below_regrown W dq osq
  generalize grow (redrawn W dq) osq = w1 at hbw1 ⊢
  obtain ⟨hcw1, hfw1⟩ := bcell hbw1
  have hlw1 := hbw1.size
  replace HB := ba HB hbw1
  go_wp2_with fail
  go_returns
  exact ⟨by simp [m1], by go_grown⟩

set_option maxRecDepth 100000 in
set_option maxHeartbeats 1600000 in
theorem meetsP (a b c d : Pn) (ha : Bd 100000 a) (hb : Bd 100000 b) (hc : Bd 100000 c) (hd : Bd 100000 d) (w : World) :
    Calls Try.prog 60 #[cv a b, cv c d] w fun e w' => e = .returned (.bool (shr a b c d)) ∧ Below w.heap.size w w' := by
  have P1 := splitsP a b c d ha hb hc hd
  have P2 := splitsP c d a b hc hd ha hb
  have B1 := hasP a b c ha hb hc
  have B2 := hasP a b d ha hb hd
  have B3 := hasP c d a hc hd ha
  have B4 := hasP c d b hc hd hb
  rw [shr]
  generalize spl a b c d = s1 at *
  generalize spl c d a b = s2 at *
  generalize Pn.btw a b c = b1 at *
  generalize Pn.btw a b d = b2 at *
  generalize Pn.btw c d a = b3 at *
  generalize Pn.btw c d b = b4 at *
  clear ha hb hc hd
  cases s1
  case true =>
    cases s2
    case true =>
      go_enter Try.func60, Try.ntmps60
      go_wp2_with (first | (go_at_call 114; (with_reducible refine (P1 _).mono ?_); rintro e wP ⟨rfl, h1⟩; (try with_reducible replace h1 := undrew h1); have hB : Below w.heap.size w wP := ba (by go_grown) h1; obtain ⟨hcwP, hfwP⟩ := bcell h1; have hqwP := h1.size; (try simp at hqwP); (try have hz0wP : w.heap.size < wP.heap.size := (by omega)); (try have he0wP : w.heap.size ≤ wP.heap.size := (by omega)); (try have hz1wP : w.heap.size + 1 < wP.heap.size := (by omega)); (try have he1wP : w.heap.size + 1 ≤ wP.heap.size := (by omega))) | (go_at_call 114; (with_reducible refine (P2 _).mono ?_); rintro e wQ ⟨rfl, h1⟩; (try with_reducible replace h1 := undrew h1); have hB : Below w.heap.size w wQ := ba (by go_grown) h1; obtain ⟨hcwQ, hfwQ⟩ := bcell h1; have hqwQ := h1.size; (try simp at hqwQ); (try have hz0wQ : w.heap.size < wQ.heap.size := (by omega)); (try have he0wQ : w.heap.size ≤ wQ.heap.size := (by omega)); (try have hz1wQ : w.heap.size + 1 < wQ.heap.size := (by omega)); (try have he1wQ : w.heap.size + 1 ≤ wQ.heap.size := (by omega))) | (go_at_call 58; (with_reducible refine (B1 _).mono ?_); rintro e wA ⟨rfl, h1⟩; (try with_reducible replace h1 := undrew h1); have hB : Below w.heap.size w wA := ba (by go_grown) h1; obtain ⟨hcwA, hfwA⟩ := bcell h1; have hqwA := h1.size; (try simp at hqwA); (try have hz0wA : w.heap.size < wA.heap.size := (by omega)); (try have he0wA : w.heap.size ≤ wA.heap.size := (by omega)); (try have hz1wA : w.heap.size + 1 < wA.heap.size := (by omega)); (try have he1wA : w.heap.size + 1 ≤ wA.heap.size := (by omega))) | (go_at_call 58; (with_reducible refine (B2 _).mono ?_); rintro e wB ⟨rfl, h1⟩; (try with_reducible replace h1 := undrew h1); have hB : Below w.heap.size w wB := ba (by go_grown) h1; obtain ⟨hcwB, hfwB⟩ := bcell h1; have hqwB := h1.size; (try simp at hqwB); (try have hz0wB : w.heap.size < wB.heap.size := (by omega)); (try have he0wB : w.heap.size ≤ wB.heap.size := (by omega)); (try have hz1wB : w.heap.size + 1 < wB.heap.size := (by omega)); (try have he1wB : w.heap.size + 1 ≤ wB.heap.size := (by omega))) | (go_at_call 58; (with_reducible refine (B3 _).mono ?_); rintro e wC ⟨rfl, h1⟩; (try with_reducible replace h1 := undrew h1); have hB : Below w.heap.size w wC := ba (by go_grown) h1; obtain ⟨hcwC, hfwC⟩ := bcell h1; have hqwC := h1.size; (try simp at hqwC); (try have hz0wC : w.heap.size < wC.heap.size := (by omega)); (try have he0wC : w.heap.size ≤ wC.heap.size := (by omega)); (try have hz1wC : w.heap.size + 1 < wC.heap.size := (by omega)); (try have he1wC : w.heap.size + 1 ≤ wC.heap.size := (by omega))) | (go_at_call 58; (with_reducible refine (B4 _).mono ?_); rintro e wD ⟨rfl, h1⟩; (try with_reducible replace h1 := undrew h1); have hB : Below w.heap.size w wD := ba (by go_grown) h1; obtain ⟨hcwD, hfwD⟩ := bcell h1; have hqwD := h1.size; (try simp at hqwD); (try have hz0wD : w.heap.size < wD.heap.size := (by omega)); (try have he0wD : w.heap.size ≤ wD.heap.size := (by omega)); (try have hz1wD : w.heap.size + 1 < wD.heap.size := (by omega)); (try have he1wD : w.heap.size + 1 ≤ wD.heap.size := (by omega))))
      go_returns
      exact ⟨by simp, by go_grown⟩
    cases b1
    case true =>
      go_enter Try.func60, Try.ntmps60
      go_wp2_with (first | (go_at_call 114; (with_reducible refine (P1 _).mono ?_); rintro e wP ⟨rfl, h1⟩; (try with_reducible replace h1 := undrew h1); have hB : Below w.heap.size w wP := ba (by go_grown) h1; obtain ⟨hcwP, hfwP⟩ := bcell h1; have hqwP := h1.size; (try simp at hqwP); (try have hz0wP : w.heap.size < wP.heap.size := (by omega)); (try have he0wP : w.heap.size ≤ wP.heap.size := (by omega)); (try have hz1wP : w.heap.size + 1 < wP.heap.size := (by omega)); (try have he1wP : w.heap.size + 1 ≤ wP.heap.size := (by omega))) | (go_at_call 114; (with_reducible refine (P2 _).mono ?_); rintro e wQ ⟨rfl, h1⟩; (try with_reducible replace h1 := undrew h1); have hB : Below w.heap.size w wQ := ba (by go_grown) h1; obtain ⟨hcwQ, hfwQ⟩ := bcell h1; have hqwQ := h1.size; (try simp at hqwQ); (try have hz0wQ : w.heap.size < wQ.heap.size := (by omega)); (try have he0wQ : w.heap.size ≤ wQ.heap.size := (by omega)); (try have hz1wQ : w.heap.size + 1 < wQ.heap.size := (by omega)); (try have he1wQ : w.heap.size + 1 ≤ wQ.heap.size := (by omega))) | (go_at_call 58; (with_reducible refine (B1 _).mono ?_); rintro e wA ⟨rfl, h1⟩; (try with_reducible replace h1 := undrew h1); have hB : Below w.heap.size w wA := ba (by go_grown) h1; obtain ⟨hcwA, hfwA⟩ := bcell h1; have hqwA := h1.size; (try simp at hqwA); (try have hz0wA : w.heap.size < wA.heap.size := (by omega)); (try have he0wA : w.heap.size ≤ wA.heap.size := (by omega)); (try have hz1wA : w.heap.size + 1 < wA.heap.size := (by omega)); (try have he1wA : w.heap.size + 1 ≤ wA.heap.size := (by omega))) | (go_at_call 58; (with_reducible refine (B2 _).mono ?_); rintro e wB ⟨rfl, h1⟩; (try with_reducible replace h1 := undrew h1); have hB : Below w.heap.size w wB := ba (by go_grown) h1; obtain ⟨hcwB, hfwB⟩ := bcell h1; have hqwB := h1.size; (try simp at hqwB); (try have hz0wB : w.heap.size < wB.heap.size := (by omega)); (try have he0wB : w.heap.size ≤ wB.heap.size := (by omega)); (try have hz1wB : w.heap.size + 1 < wB.heap.size := (by omega)); (try have he1wB : w.heap.size + 1 ≤ wB.heap.size := (by omega))) | (go_at_call 58; (with_reducible refine (B3 _).mono ?_); rintro e wC ⟨rfl, h1⟩; (try with_reducible replace h1 := undrew h1); have hB : Below w.heap.size w wC := ba (by go_grown) h1; obtain ⟨hcwC, hfwC⟩ := bcell h1; have hqwC := h1.size; (try simp at hqwC); (try have hz0wC : w.heap.size < wC.heap.size := (by omega)); (try have he0wC : w.heap.size ≤ wC.heap.size := (by omega)); (try have hz1wC : w.heap.size + 1 < wC.heap.size := (by omega)); (try have he1wC : w.heap.size + 1 ≤ wC.heap.size := (by omega))) | (go_at_call 58; (with_reducible refine (B4 _).mono ?_); rintro e wD ⟨rfl, h1⟩; (try with_reducible replace h1 := undrew h1); have hB : Below w.heap.size w wD := ba (by go_grown) h1; obtain ⟨hcwD, hfwD⟩ := bcell h1; have hqwD := h1.size; (try simp at hqwD); (try have hz0wD : w.heap.size < wD.heap.size := (by omega)); (try have he0wD : w.heap.size ≤ wD.heap.size := (by omega)); (try have hz1wD : w.heap.size + 1 < wD.heap.size := (by omega)); (try have he1wD : w.heap.size + 1 ≤ wD.heap.size := (by omega))))
      go_returns
      exact ⟨by simp, by go_grown⟩
    cases b2
    case true =>
      go_enter Try.func60, Try.ntmps60
      go_wp2_with (first | (go_at_call 114; (with_reducible refine (P1 _).mono ?_); rintro e wP ⟨rfl, h1⟩; (try with_reducible replace h1 := undrew h1); have hB : Below w.heap.size w wP := ba (by go_grown) h1; obtain ⟨hcwP, hfwP⟩ := bcell h1; have hqwP := h1.size; (try simp at hqwP); (try have hz0wP : w.heap.size < wP.heap.size := (by omega)); (try have he0wP : w.heap.size ≤ wP.heap.size := (by omega)); (try have hz1wP : w.heap.size + 1 < wP.heap.size := (by omega)); (try have he1wP : w.heap.size + 1 ≤ wP.heap.size := (by omega))) | (go_at_call 114; (with_reducible refine (P2 _).mono ?_); rintro e wQ ⟨rfl, h1⟩; (try with_reducible replace h1 := undrew h1); have hB : Below w.heap.size w wQ := ba (by go_grown) h1; obtain ⟨hcwQ, hfwQ⟩ := bcell h1; have hqwQ := h1.size; (try simp at hqwQ); (try have hz0wQ : w.heap.size < wQ.heap.size := (by omega)); (try have he0wQ : w.heap.size ≤ wQ.heap.size := (by omega)); (try have hz1wQ : w.heap.size + 1 < wQ.heap.size := (by omega)); (try have he1wQ : w.heap.size + 1 ≤ wQ.heap.size := (by omega))) | (go_at_call 58; (with_reducible refine (B1 _).mono ?_); rintro e wA ⟨rfl, h1⟩; (try with_reducible replace h1 := undrew h1); have hB : Below w.heap.size w wA := ba (by go_grown) h1; obtain ⟨hcwA, hfwA⟩ := bcell h1; have hqwA := h1.size; (try simp at hqwA); (try have hz0wA : w.heap.size < wA.heap.size := (by omega)); (try have he0wA : w.heap.size ≤ wA.heap.size := (by omega)); (try have hz1wA : w.heap.size + 1 < wA.heap.size := (by omega)); (try have he1wA : w.heap.size + 1 ≤ wA.heap.size := (by omega))) | (go_at_call 58; (with_reducible refine (B2 _).mono ?_); rintro e wB ⟨rfl, h1⟩; (try with_reducible replace h1 := undrew h1); have hB : Below w.heap.size w wB := ba (by go_grown) h1; obtain ⟨hcwB, hfwB⟩ := bcell h1; have hqwB := h1.size; (try simp at hqwB); (try have hz0wB : w.heap.size < wB.heap.size := (by omega)); (try have he0wB : w.heap.size ≤ wB.heap.size := (by omega)); (try have hz1wB : w.heap.size + 1 < wB.heap.size := (by omega)); (try have he1wB : w.heap.size + 1 ≤ wB.heap.size := (by omega))) | (go_at_call 58; (with_reducible refine (B3 _).mono ?_); rintro e wC ⟨rfl, h1⟩; (try with_reducible replace h1 := undrew h1); have hB : Below w.heap.size w wC := ba (by go_grown) h1; obtain ⟨hcwC, hfwC⟩ := bcell h1; have hqwC := h1.size; (try simp at hqwC); (try have hz0wC : w.heap.size < wC.heap.size := (by omega)); (try have he0wC : w.heap.size ≤ wC.heap.size := (by omega)); (try have hz1wC : w.heap.size + 1 < wC.heap.size := (by omega)); (try have he1wC : w.heap.size + 1 ≤ wC.heap.size := (by omega))) | (go_at_call 58; (with_reducible refine (B4 _).mono ?_); rintro e wD ⟨rfl, h1⟩; (try with_reducible replace h1 := undrew h1); have hB : Below w.heap.size w wD := ba (by go_grown) h1; obtain ⟨hcwD, hfwD⟩ := bcell h1; have hqwD := h1.size; (try simp at hqwD); (try have hz0wD : w.heap.size < wD.heap.size := (by omega)); (try have he0wD : w.heap.size ≤ wD.heap.size := (by omega)); (try have hz1wD : w.heap.size + 1 < wD.heap.size := (by omega)); (try have he1wD : w.heap.size + 1 ≤ wD.heap.size := (by omega))))
      go_returns
      exact ⟨by simp, by go_grown⟩
    cases b3
    case true =>
      go_enter Try.func60, Try.ntmps60
      go_wp2_with (first | (go_at_call 114; (with_reducible refine (P1 _).mono ?_); rintro e wP ⟨rfl, h1⟩; (try with_reducible replace h1 := undrew h1); have hB : Below w.heap.size w wP := ba (by go_grown) h1; obtain ⟨hcwP, hfwP⟩ := bcell h1; have hqwP := h1.size; (try simp at hqwP); (try have hz0wP : w.heap.size < wP.heap.size := (by omega)); (try have he0wP : w.heap.size ≤ wP.heap.size := (by omega)); (try have hz1wP : w.heap.size + 1 < wP.heap.size := (by omega)); (try have he1wP : w.heap.size + 1 ≤ wP.heap.size := (by omega))) | (go_at_call 114; (with_reducible refine (P2 _).mono ?_); rintro e wQ ⟨rfl, h1⟩; (try with_reducible replace h1 := undrew h1); have hB : Below w.heap.size w wQ := ba (by go_grown) h1; obtain ⟨hcwQ, hfwQ⟩ := bcell h1; have hqwQ := h1.size; (try simp at hqwQ); (try have hz0wQ : w.heap.size < wQ.heap.size := (by omega)); (try have he0wQ : w.heap.size ≤ wQ.heap.size := (by omega)); (try have hz1wQ : w.heap.size + 1 < wQ.heap.size := (by omega)); (try have he1wQ : w.heap.size + 1 ≤ wQ.heap.size := (by omega))) | (go_at_call 58; (with_reducible refine (B1 _).mono ?_); rintro e wA ⟨rfl, h1⟩; (try with_reducible replace h1 := undrew h1); have hB : Below w.heap.size w wA := ba (by go_grown) h1; obtain ⟨hcwA, hfwA⟩ := bcell h1; have hqwA := h1.size; (try simp at hqwA); (try have hz0wA : w.heap.size < wA.heap.size := (by omega)); (try have he0wA : w.heap.size ≤ wA.heap.size := (by omega)); (try have hz1wA : w.heap.size + 1 < wA.heap.size := (by omega)); (try have he1wA : w.heap.size + 1 ≤ wA.heap.size := (by omega))) | (go_at_call 58; (with_reducible refine (B2 _).mono ?_); rintro e wB ⟨rfl, h1⟩; (try with_reducible replace h1 := undrew h1); have hB : Below w.heap.size w wB := ba (by go_grown) h1; obtain ⟨hcwB, hfwB⟩ := bcell h1; have hqwB := h1.size; (try simp at hqwB); (try have hz0wB : w.heap.size < wB.heap.size := (by omega)); (try have he0wB : w.heap.size ≤ wB.heap.size := (by omega)); (try have hz1wB : w.heap.size + 1 < wB.heap.size := (by omega)); (try have he1wB : w.heap.size + 1 ≤ wB.heap.size := (by omega))) | (go_at_call 58; (with_reducible refine (B3 _).mono ?_); rintro e wC ⟨rfl, h1⟩; (try with_reducible replace h1 := undrew h1); have hB : Below w.heap.size w wC := ba (by go_grown) h1; obtain ⟨hcwC, hfwC⟩ := bcell h1; have hqwC := h1.size; (try simp at hqwC); (try have hz0wC : w.heap.size < wC.heap.size := (by omega)); (try have he0wC : w.heap.size ≤ wC.heap.size := (by omega)); (try have hz1wC : w.heap.size + 1 < wC.heap.size := (by omega)); (try have he1wC : w.heap.size + 1 ≤ wC.heap.size := (by omega))) | (go_at_call 58; (with_reducible refine (B4 _).mono ?_); rintro e wD ⟨rfl, h1⟩; (try with_reducible replace h1 := undrew h1); have hB : Below w.heap.size w wD := ba (by go_grown) h1; obtain ⟨hcwD, hfwD⟩ := bcell h1; have hqwD := h1.size; (try simp at hqwD); (try have hz0wD : w.heap.size < wD.heap.size := (by omega)); (try have he0wD : w.heap.size ≤ wD.heap.size := (by omega)); (try have hz1wD : w.heap.size + 1 < wD.heap.size := (by omega)); (try have he1wD : w.heap.size + 1 ≤ wD.heap.size := (by omega))))
      go_returns
      exact ⟨by simp, by go_grown⟩
    cases b4
    case true =>
      go_enter Try.func60, Try.ntmps60
      go_wp2_with (first | (go_at_call 114; (with_reducible refine (P1 _).mono ?_); rintro e wP ⟨rfl, h1⟩; (try with_reducible replace h1 := undrew h1); have hB : Below w.heap.size w wP := ba (by go_grown) h1; obtain ⟨hcwP, hfwP⟩ := bcell h1; have hqwP := h1.size; (try simp at hqwP); (try have hz0wP : w.heap.size < wP.heap.size := (by omega)); (try have he0wP : w.heap.size ≤ wP.heap.size := (by omega)); (try have hz1wP : w.heap.size + 1 < wP.heap.size := (by omega)); (try have he1wP : w.heap.size + 1 ≤ wP.heap.size := (by omega))) | (go_at_call 114; (with_reducible refine (P2 _).mono ?_); rintro e wQ ⟨rfl, h1⟩; (try with_reducible replace h1 := undrew h1); have hB : Below w.heap.size w wQ := ba (by go_grown) h1; obtain ⟨hcwQ, hfwQ⟩ := bcell h1; have hqwQ := h1.size; (try simp at hqwQ); (try have hz0wQ : w.heap.size < wQ.heap.size := (by omega)); (try have he0wQ : w.heap.size ≤ wQ.heap.size := (by omega)); (try have hz1wQ : w.heap.size + 1 < wQ.heap.size := (by omega)); (try have he1wQ : w.heap.size + 1 ≤ wQ.heap.size := (by omega))) | (go_at_call 58; (with_reducible refine (B1 _).mono ?_); rintro e wA ⟨rfl, h1⟩; (try with_reducible replace h1 := undrew h1); have hB : Below w.heap.size w wA := ba (by go_grown) h1; obtain ⟨hcwA, hfwA⟩ := bcell h1; have hqwA := h1.size; (try simp at hqwA); (try have hz0wA : w.heap.size < wA.heap.size := (by omega)); (try have he0wA : w.heap.size ≤ wA.heap.size := (by omega)); (try have hz1wA : w.heap.size + 1 < wA.heap.size := (by omega)); (try have he1wA : w.heap.size + 1 ≤ wA.heap.size := (by omega))) | (go_at_call 58; (with_reducible refine (B2 _).mono ?_); rintro e wB ⟨rfl, h1⟩; (try with_reducible replace h1 := undrew h1); have hB : Below w.heap.size w wB := ba (by go_grown) h1; obtain ⟨hcwB, hfwB⟩ := bcell h1; have hqwB := h1.size; (try simp at hqwB); (try have hz0wB : w.heap.size < wB.heap.size := (by omega)); (try have he0wB : w.heap.size ≤ wB.heap.size := (by omega)); (try have hz1wB : w.heap.size + 1 < wB.heap.size := (by omega)); (try have he1wB : w.heap.size + 1 ≤ wB.heap.size := (by omega))) | (go_at_call 58; (with_reducible refine (B3 _).mono ?_); rintro e wC ⟨rfl, h1⟩; (try with_reducible replace h1 := undrew h1); have hB : Below w.heap.size w wC := ba (by go_grown) h1; obtain ⟨hcwC, hfwC⟩ := bcell h1; have hqwC := h1.size; (try simp at hqwC); (try have hz0wC : w.heap.size < wC.heap.size := (by omega)); (try have he0wC : w.heap.size ≤ wC.heap.size := (by omega)); (try have hz1wC : w.heap.size + 1 < wC.heap.size := (by omega)); (try have he1wC : w.heap.size + 1 ≤ wC.heap.size := (by omega))) | (go_at_call 58; (with_reducible refine (B4 _).mono ?_); rintro e wD ⟨rfl, h1⟩; (try with_reducible replace h1 := undrew h1); have hB : Below w.heap.size w wD := ba (by go_grown) h1; obtain ⟨hcwD, hfwD⟩ := bcell h1; have hqwD := h1.size; (try simp at hqwD); (try have hz0wD : w.heap.size < wD.heap.size := (by omega)); (try have he0wD : w.heap.size ≤ wD.heap.size := (by omega)); (try have hz1wD : w.heap.size + 1 < wD.heap.size := (by omega)); (try have he1wD : w.heap.size + 1 ≤ wD.heap.size := (by omega))))
      go_returns
      exact ⟨by simp, by go_grown⟩
    go_enter Try.func60, Try.ntmps60
    go_wp2_with (first | (go_at_call 114; (with_reducible refine (P1 _).mono ?_); rintro e wP ⟨rfl, h1⟩; (try with_reducible replace h1 := undrew h1); have hB : Below w.heap.size w wP := ba (by go_grown) h1; obtain ⟨hcwP, hfwP⟩ := bcell h1; have hqwP := h1.size; (try simp at hqwP); (try have hz0wP : w.heap.size < wP.heap.size := (by omega)); (try have he0wP : w.heap.size ≤ wP.heap.size := (by omega)); (try have hz1wP : w.heap.size + 1 < wP.heap.size := (by omega)); (try have he1wP : w.heap.size + 1 ≤ wP.heap.size := (by omega))) | (go_at_call 114; (with_reducible refine (P2 _).mono ?_); rintro e wQ ⟨rfl, h1⟩; (try with_reducible replace h1 := undrew h1); have hB : Below w.heap.size w wQ := ba (by go_grown) h1; obtain ⟨hcwQ, hfwQ⟩ := bcell h1; have hqwQ := h1.size; (try simp at hqwQ); (try have hz0wQ : w.heap.size < wQ.heap.size := (by omega)); (try have he0wQ : w.heap.size ≤ wQ.heap.size := (by omega)); (try have hz1wQ : w.heap.size + 1 < wQ.heap.size := (by omega)); (try have he1wQ : w.heap.size + 1 ≤ wQ.heap.size := (by omega))) | (go_at_call 58; (with_reducible refine (B1 _).mono ?_); rintro e wA ⟨rfl, h1⟩; (try with_reducible replace h1 := undrew h1); have hB : Below w.heap.size w wA := ba (by go_grown) h1; obtain ⟨hcwA, hfwA⟩ := bcell h1; have hqwA := h1.size; (try simp at hqwA); (try have hz0wA : w.heap.size < wA.heap.size := (by omega)); (try have he0wA : w.heap.size ≤ wA.heap.size := (by omega)); (try have hz1wA : w.heap.size + 1 < wA.heap.size := (by omega)); (try have he1wA : w.heap.size + 1 ≤ wA.heap.size := (by omega))) | (go_at_call 58; (with_reducible refine (B2 _).mono ?_); rintro e wB ⟨rfl, h1⟩; (try with_reducible replace h1 := undrew h1); have hB : Below w.heap.size w wB := ba (by go_grown) h1; obtain ⟨hcwB, hfwB⟩ := bcell h1; have hqwB := h1.size; (try simp at hqwB); (try have hz0wB : w.heap.size < wB.heap.size := (by omega)); (try have he0wB : w.heap.size ≤ wB.heap.size := (by omega)); (try have hz1wB : w.heap.size + 1 < wB.heap.size := (by omega)); (try have he1wB : w.heap.size + 1 ≤ wB.heap.size := (by omega))) | (go_at_call 58; (with_reducible refine (B3 _).mono ?_); rintro e wC ⟨rfl, h1⟩; (try with_reducible replace h1 := undrew h1); have hB : Below w.heap.size w wC := ba (by go_grown) h1; obtain ⟨hcwC, hfwC⟩ := bcell h1; have hqwC := h1.size; (try simp at hqwC); (try have hz0wC : w.heap.size < wC.heap.size := (by omega)); (try have he0wC : w.heap.size ≤ wC.heap.size := (by omega)); (try have hz1wC : w.heap.size + 1 < wC.heap.size := (by omega)); (try have he1wC : w.heap.size + 1 ≤ wC.heap.size := (by omega))) | (go_at_call 58; (with_reducible refine (B4 _).mono ?_); rintro e wD ⟨rfl, h1⟩; (try with_reducible replace h1 := undrew h1); have hB : Below w.heap.size w wD := ba (by go_grown) h1; obtain ⟨hcwD, hfwD⟩ := bcell h1; have hqwD := h1.size; (try simp at hqwD); (try have hz0wD : w.heap.size < wD.heap.size := (by omega)); (try have he0wD : w.heap.size ≤ wD.heap.size := (by omega)); (try have hz1wD : w.heap.size + 1 < wD.heap.size := (by omega)); (try have he1wD : w.heap.size + 1 ≤ wD.heap.size := (by omega))))
    go_returns
    exact ⟨by simp, by go_grown⟩
  cases b1
  case true =>
    go_enter Try.func60, Try.ntmps60
    go_wp2_with (first | (go_at_call 114; (with_reducible refine (P1 _).mono ?_); rintro e wP ⟨rfl, h1⟩; (try with_reducible replace h1 := undrew h1); have hB : Below w.heap.size w wP := ba (by go_grown) h1; obtain ⟨hcwP, hfwP⟩ := bcell h1; have hqwP := h1.size; (try simp at hqwP); (try have hz0wP : w.heap.size < wP.heap.size := (by omega)); (try have he0wP : w.heap.size ≤ wP.heap.size := (by omega)); (try have hz1wP : w.heap.size + 1 < wP.heap.size := (by omega)); (try have he1wP : w.heap.size + 1 ≤ wP.heap.size := (by omega))) | (go_at_call 114; (with_reducible refine (P2 _).mono ?_); rintro e wQ ⟨rfl, h1⟩; (try with_reducible replace h1 := undrew h1); have hB : Below w.heap.size w wQ := ba (by go_grown) h1; obtain ⟨hcwQ, hfwQ⟩ := bcell h1; have hqwQ := h1.size; (try simp at hqwQ); (try have hz0wQ : w.heap.size < wQ.heap.size := (by omega)); (try have he0wQ : w.heap.size ≤ wQ.heap.size := (by omega)); (try have hz1wQ : w.heap.size + 1 < wQ.heap.size := (by omega)); (try have he1wQ : w.heap.size + 1 ≤ wQ.heap.size := (by omega))) | (go_at_call 58; (with_reducible refine (B1 _).mono ?_); rintro e wA ⟨rfl, h1⟩; (try with_reducible replace h1 := undrew h1); have hB : Below w.heap.size w wA := ba (by go_grown) h1; obtain ⟨hcwA, hfwA⟩ := bcell h1; have hqwA := h1.size; (try simp at hqwA); (try have hz0wA : w.heap.size < wA.heap.size := (by omega)); (try have he0wA : w.heap.size ≤ wA.heap.size := (by omega)); (try have hz1wA : w.heap.size + 1 < wA.heap.size := (by omega)); (try have he1wA : w.heap.size + 1 ≤ wA.heap.size := (by omega))) | (go_at_call 58; (with_reducible refine (B2 _).mono ?_); rintro e wB ⟨rfl, h1⟩; (try with_reducible replace h1 := undrew h1); have hB : Below w.heap.size w wB := ba (by go_grown) h1; obtain ⟨hcwB, hfwB⟩ := bcell h1; have hqwB := h1.size; (try simp at hqwB); (try have hz0wB : w.heap.size < wB.heap.size := (by omega)); (try have he0wB : w.heap.size ≤ wB.heap.size := (by omega)); (try have hz1wB : w.heap.size + 1 < wB.heap.size := (by omega)); (try have he1wB : w.heap.size + 1 ≤ wB.heap.size := (by omega))) | (go_at_call 58; (with_reducible refine (B3 _).mono ?_); rintro e wC ⟨rfl, h1⟩; (try with_reducible replace h1 := undrew h1); have hB : Below w.heap.size w wC := ba (by go_grown) h1; obtain ⟨hcwC, hfwC⟩ := bcell h1; have hqwC := h1.size; (try simp at hqwC); (try have hz0wC : w.heap.size < wC.heap.size := (by omega)); (try have he0wC : w.heap.size ≤ wC.heap.size := (by omega)); (try have hz1wC : w.heap.size + 1 < wC.heap.size := (by omega)); (try have he1wC : w.heap.size + 1 ≤ wC.heap.size := (by omega))) | (go_at_call 58; (with_reducible refine (B4 _).mono ?_); rintro e wD ⟨rfl, h1⟩; (try with_reducible replace h1 := undrew h1); have hB : Below w.heap.size w wD := ba (by go_grown) h1; obtain ⟨hcwD, hfwD⟩ := bcell h1; have hqwD := h1.size; (try simp at hqwD); (try have hz0wD : w.heap.size < wD.heap.size := (by omega)); (try have he0wD : w.heap.size ≤ wD.heap.size := (by omega)); (try have hz1wD : w.heap.size + 1 < wD.heap.size := (by omega)); (try have he1wD : w.heap.size + 1 ≤ wD.heap.size := (by omega))))
    go_returns
    exact ⟨by simp, by go_grown⟩
  cases b2
  case true =>
    go_enter Try.func60, Try.ntmps60
    go_wp2_with (first | (go_at_call 114; (with_reducible refine (P1 _).mono ?_); rintro e wP ⟨rfl, h1⟩; (try with_reducible replace h1 := undrew h1); have hB : Below w.heap.size w wP := ba (by go_grown) h1; obtain ⟨hcwP, hfwP⟩ := bcell h1; have hqwP := h1.size; (try simp at hqwP); (try have hz0wP : w.heap.size < wP.heap.size := (by omega)); (try have he0wP : w.heap.size ≤ wP.heap.size := (by omega)); (try have hz1wP : w.heap.size + 1 < wP.heap.size := (by omega)); (try have he1wP : w.heap.size + 1 ≤ wP.heap.size := (by omega))) | (go_at_call 114; (with_reducible refine (P2 _).mono ?_); rintro e wQ ⟨rfl, h1⟩; (try with_reducible replace h1 := undrew h1); have hB : Below w.heap.size w wQ := ba (by go_grown) h1; obtain ⟨hcwQ, hfwQ⟩ := bcell h1; have hqwQ := h1.size; (try simp at hqwQ); (try have hz0wQ : w.heap.size < wQ.heap.size := (by omega)); (try have he0wQ : w.heap.size ≤ wQ.heap.size := (by omega)); (try have hz1wQ : w.heap.size + 1 < wQ.heap.size := (by omega)); (try have he1wQ : w.heap.size + 1 ≤ wQ.heap.size := (by omega))) | (go_at_call 58; (with_reducible refine (B1 _).mono ?_); rintro e wA ⟨rfl, h1⟩; (try with_reducible replace h1 := undrew h1); have hB : Below w.heap.size w wA := ba (by go_grown) h1; obtain ⟨hcwA, hfwA⟩ := bcell h1; have hqwA := h1.size; (try simp at hqwA); (try have hz0wA : w.heap.size < wA.heap.size := (by omega)); (try have he0wA : w.heap.size ≤ wA.heap.size := (by omega)); (try have hz1wA : w.heap.size + 1 < wA.heap.size := (by omega)); (try have he1wA : w.heap.size + 1 ≤ wA.heap.size := (by omega))) | (go_at_call 58; (with_reducible refine (B2 _).mono ?_); rintro e wB ⟨rfl, h1⟩; (try with_reducible replace h1 := undrew h1); have hB : Below w.heap.size w wB := ba (by go_grown) h1; obtain ⟨hcwB, hfwB⟩ := bcell h1; have hqwB := h1.size; (try simp at hqwB); (try have hz0wB : w.heap.size < wB.heap.size := (by omega)); (try have he0wB : w.heap.size ≤ wB.heap.size := (by omega)); (try have hz1wB : w.heap.size + 1 < wB.heap.size := (by omega)); (try have he1wB : w.heap.size + 1 ≤ wB.heap.size := (by omega))) | (go_at_call 58; (with_reducible refine (B3 _).mono ?_); rintro e wC ⟨rfl, h1⟩; (try with_reducible replace h1 := undrew h1); have hB : Below w.heap.size w wC := ba (by go_grown) h1; obtain ⟨hcwC, hfwC⟩ := bcell h1; have hqwC := h1.size; (try simp at hqwC); (try have hz0wC : w.heap.size < wC.heap.size := (by omega)); (try have he0wC : w.heap.size ≤ wC.heap.size := (by omega)); (try have hz1wC : w.heap.size + 1 < wC.heap.size := (by omega)); (try have he1wC : w.heap.size + 1 ≤ wC.heap.size := (by omega))) | (go_at_call 58; (with_reducible refine (B4 _).mono ?_); rintro e wD ⟨rfl, h1⟩; (try with_reducible replace h1 := undrew h1); have hB : Below w.heap.size w wD := ba (by go_grown) h1; obtain ⟨hcwD, hfwD⟩ := bcell h1; have hqwD := h1.size; (try simp at hqwD); (try have hz0wD : w.heap.size < wD.heap.size := (by omega)); (try have he0wD : w.heap.size ≤ wD.heap.size := (by omega)); (try have hz1wD : w.heap.size + 1 < wD.heap.size := (by omega)); (try have he1wD : w.heap.size + 1 ≤ wD.heap.size := (by omega))))
    go_returns
    exact ⟨by simp, by go_grown⟩
  cases b3
  case true =>
    go_enter Try.func60, Try.ntmps60
    go_wp2_with (first | (go_at_call 114; (with_reducible refine (P1 _).mono ?_); rintro e wP ⟨rfl, h1⟩; (try with_reducible replace h1 := undrew h1); have hB : Below w.heap.size w wP := ba (by go_grown) h1; obtain ⟨hcwP, hfwP⟩ := bcell h1; have hqwP := h1.size; (try simp at hqwP); (try have hz0wP : w.heap.size < wP.heap.size := (by omega)); (try have he0wP : w.heap.size ≤ wP.heap.size := (by omega)); (try have hz1wP : w.heap.size + 1 < wP.heap.size := (by omega)); (try have he1wP : w.heap.size + 1 ≤ wP.heap.size := (by omega))) | (go_at_call 114; (with_reducible refine (P2 _).mono ?_); rintro e wQ ⟨rfl, h1⟩; (try with_reducible replace h1 := undrew h1); have hB : Below w.heap.size w wQ := ba (by go_grown) h1; obtain ⟨hcwQ, hfwQ⟩ := bcell h1; have hqwQ := h1.size; (try simp at hqwQ); (try have hz0wQ : w.heap.size < wQ.heap.size := (by omega)); (try have he0wQ : w.heap.size ≤ wQ.heap.size := (by omega)); (try have hz1wQ : w.heap.size + 1 < wQ.heap.size := (by omega)); (try have he1wQ : w.heap.size + 1 ≤ wQ.heap.size := (by omega))) | (go_at_call 58; (with_reducible refine (B1 _).mono ?_); rintro e wA ⟨rfl, h1⟩; (try with_reducible replace h1 := undrew h1); have hB : Below w.heap.size w wA := ba (by go_grown) h1; obtain ⟨hcwA, hfwA⟩ := bcell h1; have hqwA := h1.size; (try simp at hqwA); (try have hz0wA : w.heap.size < wA.heap.size := (by omega)); (try have he0wA : w.heap.size ≤ wA.heap.size := (by omega)); (try have hz1wA : w.heap.size + 1 < wA.heap.size := (by omega)); (try have he1wA : w.heap.size + 1 ≤ wA.heap.size := (by omega))) | (go_at_call 58; (with_reducible refine (B2 _).mono ?_); rintro e wB ⟨rfl, h1⟩; (try with_reducible replace h1 := undrew h1); have hB : Below w.heap.size w wB := ba (by go_grown) h1; obtain ⟨hcwB, hfwB⟩ := bcell h1; have hqwB := h1.size; (try simp at hqwB); (try have hz0wB : w.heap.size < wB.heap.size := (by omega)); (try have he0wB : w.heap.size ≤ wB.heap.size := (by omega)); (try have hz1wB : w.heap.size + 1 < wB.heap.size := (by omega)); (try have he1wB : w.heap.size + 1 ≤ wB.heap.size := (by omega))) | (go_at_call 58; (with_reducible refine (B3 _).mono ?_); rintro e wC ⟨rfl, h1⟩; (try with_reducible replace h1 := undrew h1); have hB : Below w.heap.size w wC := ba (by go_grown) h1; obtain ⟨hcwC, hfwC⟩ := bcell h1; have hqwC := h1.size; (try simp at hqwC); (try have hz0wC : w.heap.size < wC.heap.size := (by omega)); (try have he0wC : w.heap.size ≤ wC.heap.size := (by omega)); (try have hz1wC : w.heap.size + 1 < wC.heap.size := (by omega)); (try have he1wC : w.heap.size + 1 ≤ wC.heap.size := (by omega))) | (go_at_call 58; (with_reducible refine (B4 _).mono ?_); rintro e wD ⟨rfl, h1⟩; (try with_reducible replace h1 := undrew h1); have hB : Below w.heap.size w wD := ba (by go_grown) h1; obtain ⟨hcwD, hfwD⟩ := bcell h1; have hqwD := h1.size; (try simp at hqwD); (try have hz0wD : w.heap.size < wD.heap.size := (by omega)); (try have he0wD : w.heap.size ≤ wD.heap.size := (by omega)); (try have hz1wD : w.heap.size + 1 < wD.heap.size := (by omega)); (try have he1wD : w.heap.size + 1 ≤ wD.heap.size := (by omega))))
    go_returns
    exact ⟨by simp, by go_grown⟩
  cases b4
  case true =>
    go_enter Try.func60, Try.ntmps60
    go_wp2_with (first | (go_at_call 114; (with_reducible refine (P1 _).mono ?_); rintro e wP ⟨rfl, h1⟩; (try with_reducible replace h1 := undrew h1); have hB : Below w.heap.size w wP := ba (by go_grown) h1; obtain ⟨hcwP, hfwP⟩ := bcell h1; have hqwP := h1.size; (try simp at hqwP); (try have hz0wP : w.heap.size < wP.heap.size := (by omega)); (try have he0wP : w.heap.size ≤ wP.heap.size := (by omega)); (try have hz1wP : w.heap.size + 1 < wP.heap.size := (by omega)); (try have he1wP : w.heap.size + 1 ≤ wP.heap.size := (by omega))) | (go_at_call 114; (with_reducible refine (P2 _).mono ?_); rintro e wQ ⟨rfl, h1⟩; (try with_reducible replace h1 := undrew h1); have hB : Below w.heap.size w wQ := ba (by go_grown) h1; obtain ⟨hcwQ, hfwQ⟩ := bcell h1; have hqwQ := h1.size; (try simp at hqwQ); (try have hz0wQ : w.heap.size < wQ.heap.size := (by omega)); (try have he0wQ : w.heap.size ≤ wQ.heap.size := (by omega)); (try have hz1wQ : w.heap.size + 1 < wQ.heap.size := (by omega)); (try have he1wQ : w.heap.size + 1 ≤ wQ.heap.size := (by omega))) | (go_at_call 58; (with_reducible refine (B1 _).mono ?_); rintro e wA ⟨rfl, h1⟩; (try with_reducible replace h1 := undrew h1); have hB : Below w.heap.size w wA := ba (by go_grown) h1; obtain ⟨hcwA, hfwA⟩ := bcell h1; have hqwA := h1.size; (try simp at hqwA); (try have hz0wA : w.heap.size < wA.heap.size := (by omega)); (try have he0wA : w.heap.size ≤ wA.heap.size := (by omega)); (try have hz1wA : w.heap.size + 1 < wA.heap.size := (by omega)); (try have he1wA : w.heap.size + 1 ≤ wA.heap.size := (by omega))) | (go_at_call 58; (with_reducible refine (B2 _).mono ?_); rintro e wB ⟨rfl, h1⟩; (try with_reducible replace h1 := undrew h1); have hB : Below w.heap.size w wB := ba (by go_grown) h1; obtain ⟨hcwB, hfwB⟩ := bcell h1; have hqwB := h1.size; (try simp at hqwB); (try have hz0wB : w.heap.size < wB.heap.size := (by omega)); (try have he0wB : w.heap.size ≤ wB.heap.size := (by omega)); (try have hz1wB : w.heap.size + 1 < wB.heap.size := (by omega)); (try have he1wB : w.heap.size + 1 ≤ wB.heap.size := (by omega))) | (go_at_call 58; (with_reducible refine (B3 _).mono ?_); rintro e wC ⟨rfl, h1⟩; (try with_reducible replace h1 := undrew h1); have hB : Below w.heap.size w wC := ba (by go_grown) h1; obtain ⟨hcwC, hfwC⟩ := bcell h1; have hqwC := h1.size; (try simp at hqwC); (try have hz0wC : w.heap.size < wC.heap.size := (by omega)); (try have he0wC : w.heap.size ≤ wC.heap.size := (by omega)); (try have hz1wC : w.heap.size + 1 < wC.heap.size := (by omega)); (try have he1wC : w.heap.size + 1 ≤ wC.heap.size := (by omega))) | (go_at_call 58; (with_reducible refine (B4 _).mono ?_); rintro e wD ⟨rfl, h1⟩; (try with_reducible replace h1 := undrew h1); have hB : Below w.heap.size w wD := ba (by go_grown) h1; obtain ⟨hcwD, hfwD⟩ := bcell h1; have hqwD := h1.size; (try simp at hqwD); (try have hz0wD : w.heap.size < wD.heap.size := (by omega)); (try have he0wD : w.heap.size ≤ wD.heap.size := (by omega)); (try have hz1wD : w.heap.size + 1 < wD.heap.size := (by omega)); (try have he1wD : w.heap.size + 1 ≤ wD.heap.size := (by omega))))
    go_returns
    exact ⟨by simp, by go_grown⟩
  go_enter Try.func60, Try.ntmps60
  go_wp2_with (first | (go_at_call 114; (with_reducible refine (P1 _).mono ?_); rintro e wP ⟨rfl, h1⟩; (try with_reducible replace h1 := undrew h1); have hB : Below w.heap.size w wP := ba (by go_grown) h1; obtain ⟨hcwP, hfwP⟩ := bcell h1; have hqwP := h1.size; (try simp at hqwP); (try have hz0wP : w.heap.size < wP.heap.size := (by omega)); (try have he0wP : w.heap.size ≤ wP.heap.size := (by omega)); (try have hz1wP : w.heap.size + 1 < wP.heap.size := (by omega)); (try have he1wP : w.heap.size + 1 ≤ wP.heap.size := (by omega))) | (go_at_call 114; (with_reducible refine (P2 _).mono ?_); rintro e wQ ⟨rfl, h1⟩; (try with_reducible replace h1 := undrew h1); have hB : Below w.heap.size w wQ := ba (by go_grown) h1; obtain ⟨hcwQ, hfwQ⟩ := bcell h1; have hqwQ := h1.size; (try simp at hqwQ); (try have hz0wQ : w.heap.size < wQ.heap.size := (by omega)); (try have he0wQ : w.heap.size ≤ wQ.heap.size := (by omega)); (try have hz1wQ : w.heap.size + 1 < wQ.heap.size := (by omega)); (try have he1wQ : w.heap.size + 1 ≤ wQ.heap.size := (by omega))) | (go_at_call 58; (with_reducible refine (B1 _).mono ?_); rintro e wA ⟨rfl, h1⟩; (try with_reducible replace h1 := undrew h1); have hB : Below w.heap.size w wA := ba (by go_grown) h1; obtain ⟨hcwA, hfwA⟩ := bcell h1; have hqwA := h1.size; (try simp at hqwA); (try have hz0wA : w.heap.size < wA.heap.size := (by omega)); (try have he0wA : w.heap.size ≤ wA.heap.size := (by omega)); (try have hz1wA : w.heap.size + 1 < wA.heap.size := (by omega)); (try have he1wA : w.heap.size + 1 ≤ wA.heap.size := (by omega))) | (go_at_call 58; (with_reducible refine (B2 _).mono ?_); rintro e wB ⟨rfl, h1⟩; (try with_reducible replace h1 := undrew h1); have hB : Below w.heap.size w wB := ba (by go_grown) h1; obtain ⟨hcwB, hfwB⟩ := bcell h1; have hqwB := h1.size; (try simp at hqwB); (try have hz0wB : w.heap.size < wB.heap.size := (by omega)); (try have he0wB : w.heap.size ≤ wB.heap.size := (by omega)); (try have hz1wB : w.heap.size + 1 < wB.heap.size := (by omega)); (try have he1wB : w.heap.size + 1 ≤ wB.heap.size := (by omega))) | (go_at_call 58; (with_reducible refine (B3 _).mono ?_); rintro e wC ⟨rfl, h1⟩; (try with_reducible replace h1 := undrew h1); have hB : Below w.heap.size w wC := ba (by go_grown) h1; obtain ⟨hcwC, hfwC⟩ := bcell h1; have hqwC := h1.size; (try simp at hqwC); (try have hz0wC : w.heap.size < wC.heap.size := (by omega)); (try have he0wC : w.heap.size ≤ wC.heap.size := (by omega)); (try have hz1wC : w.heap.size + 1 < wC.heap.size := (by omega)); (try have he1wC : w.heap.size + 1 ≤ wC.heap.size := (by omega))) | (go_at_call 58; (with_reducible refine (B4 _).mono ?_); rintro e wD ⟨rfl, h1⟩; (try with_reducible replace h1 := undrew h1); have hB : Below w.heap.size w wD := ba (by go_grown) h1; obtain ⟨hcwD, hfwD⟩ := bcell h1; have hqwD := h1.size; (try simp at hqwD); (try have hz0wD : w.heap.size < wD.heap.size := (by omega)); (try have he0wD : w.heap.size ≤ wD.heap.size := (by omega)); (try have hz1wD : w.heap.size + 1 < wD.heap.size := (by omega)); (try have he1wD : w.heap.size + 1 ≤ wD.heap.size := (by omega))))
  go_returns
  exact ⟨by simp, by go_grown⟩

end Go.Proofs.Ytppbbcckijcckaa

/- Texts of pieces, as lists of bytes: which are tracks; what is counted, mirrored and turned round in them. -/
namespace Go.Proofs.Ytppbbcckijcckaa

def pcb (c : UInt8) : Bool := c == 83 || (c == 76 || c == 82)

def tkB (s : ByteArray) : Bool := decide (s.size ≤ 40) && s.data.toList.all pcb

theorem pcb_cases {c : UInt8} (h : pcb c = true) : c = 83 ∨ (c = 76 ∨ c = 82) := by
  simpa [pcb, Bool.or_eq_true, beq_iff_eq] using h

theorem take_snoc (s : ByteArray) (k : Nat) (h : k < s.size) : s.data.toList.take (k + 1) = s.data.toList.take k ++ [s[k]] := by
  rw [List.take_succ_eq_append_getElem (by simpa using h)]; rfl

theorem take_all (s : ByteArray) {k : Nat} (h : ¬ k < s.size) : s.data.toList.take k = s.data.toList := List.take_of_length_le (by simp; omega)

theorem all_snoc {s : ByteArray} {k : Nat} (h : k < s.size) (ha : (s.data.toList.take k).all pcb = true) (hp : pcb s[k] = true) : (s.data.toList.take (k + 1)).all pcb = true := by
  rw [take_snoc s k h, List.all_append, ha]; simp [hp]

theorem tkB_no {s : ByteArray} {k : Nat} (h : k < s.size) (hp : pcb s[k] = false) : tkB s = false := by
  have hm : s[k] ∈ s.data.toList := by
    have := List.getElem_mem (l := s.data.toList) (n := k) (by simpa using h)
    exact this
  have : s.data.toList.all pcb = false := by
    rw [List.all_eq_false]
    exact ⟨s[k], hm, by simp [hp]⟩
  simp [tkB, this]

theorem tkB_yes {s : ByteArray} (h : s.size ≤ 40) {k : Nat} (hk : ¬ k < s.size) (ha : (s.data.toList.take k).all pcb = true) : tkB s = true := by
  rw [take_all s hk] at ha
  simp [tkB, h, ha]

theorem tkB_long {s : ByteArray} (h : ¬ s.size ≤ 40) : tkB s = false := by simp [tkB, h]

theorem tkB_size {s : ByteArray} (h : tkB s = true) : s.size ≤ 40 := by
  simp only [tkB, Bool.and_eq_true, decide_eq_true_eq] at h
  exact h.1

theorem tkB_list {s : ByteArray} (h : tkB s = true) : ∀ c ∈ s.data.toList, pcb c = true := by
  simp only [tkB, Bool.and_eq_true, List.all_eq_true] at h
  exact h.2

theorem tkB_at {s : ByteArray} (h : tkB s = true) {k : Nat} (hk : k < s.size) : pcb s[k] = true := by
  refine tkB_list h _ ?_
  have := List.getElem_mem (l := s.data.toList) (n := k) (by simpa using hk)
  exact this

theorem size_list (s : ByteArray) : s.data.toList.length = s.size := by simp

theorem ext_one (s : ByteArray) (k : Nat) (h : k < s.size) : s.extract k (k + 1) = ⟨#[s[k]]⟩ := by
  apply ByteArray.ext
  rw [ByteArray.data_extract]
  apply Array.ext
  · simp; omega
  · intro i h1 h2
    simp at h2
    subst h2
    simp
    rfl

def mir (c : UInt8) : UInt8 := if c == 76 then 82 else if c == 82 then 76 else c

def ofL (l : List UInt8) : ByteArray := ⟨l.toArray⟩

theorem ofL_snoc (l : List UInt8) (c : UInt8) : ofL l ++ ⟨#[c]⟩ = ofL (l ++ [c]) := by
  apply ByteArray.ext
  rw [ByteArray.data_append]
  simp [ofL]

theorem ofL_append (l m : List UInt8) : ofL l ++ ofL m = ofL (l ++ m) := by
  apply ByteArray.ext
  rw [ByteArray.data_append]
  simp [ofL]

theorem ofL_self (s : ByteArray) : ofL s.data.toList = s := by
  apply ByteArray.ext
  simp [ofL]

theorem ofL_size (l : List UInt8) : (ofL l).size = l.length := by simp [ofL, ByteArray.size]

/-- How often c is in l. -/
def cnt (c : UInt8) (l : List UInt8) : Nat := l.count c

theorem cnt_snoc (c d : UInt8) (l : List UInt8) : cnt c (l ++ [d]) = cnt c l + (if d == c then 1 else 0) := by
  unfold cnt
  rw [List.count_append, List.count_singleton]

theorem cnt_le (c : UInt8) (l : List UInt8) : cnt c l ≤ l.length := List.count_le_length

end Go.Proofs.Ytppbbcckijcckaa

/- Contract: which bytes are pieces, in the model. -/
namespace Go.Proofs.Ytppbbcckijcckaa
open Go.ChangeShapes Go.WideShapes Go.ChangeAt Go.RowKit

def pcB (c : Int) : Bool := decide (c = 83 ∨ c = 76 ∨ c = 82)

theorem ptPiece_any (c : Int) (w : World) :
    Calls Try.prog 122 #[.int .u8 c] w fun e w' => e = .returned (.bool (pcB c)) ∧ w = w' := by
  by_cases h1 : c = 83
  · subst h1
    go_enter Try.func122, Try.ntmps122
    go_wp2
    go_ret
    exact ⟨rfl, rfl⟩
  by_cases h2 : c = 76
  · subst h2
    go_enter Try.func122, Try.ntmps122
    go_wp2
    go_ret
    exact ⟨rfl, rfl⟩
  have b1 : (c == 83) = false := by simpa using h1
  have b2 : (c == 76) = false := by simpa using h2
  go_enter Try.func122, Try.ntmps122
  go_wp2
  all_goals go_ret
  all_goals exact ⟨by by_cases h3 : c = 82 <;> simp [pcB, h1, h2, h3], rfl⟩

end Go.Proofs.Ytppbbcckijcckaa

/- Contracts: how a piece is laid: the function that the program picks. -/
namespace Go.Proofs.Ytppbbcckijcckaa
open Go.ChangeShapes Go.WideShapes Go.ChangeAt Go.RowKit

@[go_sem high] theorem fneq_L (w : World) : (binOp .eql 114 (.func (Fn.func 156) #[] #[]) .nilFunc).run Try.prog w = .ok (.bool false) w := by kernel_rfl

@[go_sem high] theorem fneq_R (w : World) : (binOp .eql 114 (.func (Fn.func 157) #[] #[]) .nilFunc).run Try.prog w = .ok (.bool false) w := by kernel_rfl

@[go_sem high] theorem fneq_S (w : World) : (binOp .eql 114 (.func (Fn.func 155) #[] #[]) .nilFunc).run Try.prog w = .ok (.bool false) w := by kernel_rfl

@[go_sem high] theorem fneq_no (w : World) : (binOp .eql 114 .nilFunc .nilFunc).run Try.prog w = .ok (.bool true) w := by kernel_rfl

theorem lay_L (w : World) :
    Calls Try.prog 125 #[.string ⟨#[76]⟩] w fun e w' => e = .returned (.func (Fn.func 156) #[] #[]) ∧ w = w' := by
  go_enter Try.func125, Try.ntmps125
  go_wp2
  go_ret
  exact ⟨rfl, rfl⟩

theorem lay_R (w : World) :
    Calls Try.prog 125 #[.string ⟨#[82]⟩] w fun e w' => e = .returned (.func (Fn.func 157) #[] #[]) ∧ w = w' := by
  go_enter Try.func125, Try.ntmps125
  go_wp2
  go_ret
  exact ⟨rfl, rfl⟩

theorem lay_S (w : World) :
    Calls Try.prog 125 #[.string ⟨#[83]⟩] w fun e w' => e = .returned (.func (Fn.func 155) #[] #[]) ∧ w = w' := by
  go_enter Try.func125, Try.ntmps125
  go_wp2
  go_ret
  exact ⟨rfl, rfl⟩

theorem lay_no (s : ByteArray) (n1 : (s.toList == [83]) = false) (n2 : (s.toList == [76]) = false) (n3 : (s.toList == [82]) = false) (w : World) :
    Calls Try.prog 125 #[.string s] w fun e w' => e = .returned .nilFunc ∧ w = w' := by
  go_enter Try.func125, Try.ntmps125
  go_wp2
  go_ret
  exact ⟨rfl, rfl⟩

end Go.Proofs.Ytppbbcckijcckaa

/- Contracts: which texts are tracks, in the model and in the program. -/
namespace Go.Proofs.Ytppbbcckijcckaa
open Go.ChangeShapes Go.WideShapes Go.ChangeAt Go.RowKit

theorem pcB_pcb (c : UInt8) : pcB ((c.toNat : Nat) : Int) = pcb c := by
  rw [Bool.eq_iff_iff]
  simp only [pcB, pcb, decide_eq_true_eq, Bool.or_eq_true, beq_iff_eq, ← UInt8.toNat_inj]
  constructor <;> (intro h; simp at h ⊢; omega)

theorem lay_L' (x : ByteArray) (hx : x = ⟨#[76]⟩) (w : World) :
    Calls Try.prog 125 #[.string x] w fun e w' => e = .returned (.func (Fn.func 156) #[] #[]) ∧ w = w' := by subst hx; exact lay_L w

theorem lay_R' (x : ByteArray) (hx : x = ⟨#[82]⟩) (w : World) :
    Calls Try.prog 125 #[.string x] w fun e w' => e = .returned (.func (Fn.func 157) #[] #[]) ∧ w = w' := by subst hx; exact lay_R w

theorem lay_S' (x : ByteArray) (hx : x = ⟨#[83]⟩) (w : World) :
    Calls Try.prog 125 #[.string x] w fun e w' => e = .returned (.func (Fn.func 155) #[] #[]) ∧ w = w' := by subst hx; exact lay_S w

theorem lay_N' (x : ByteArray) (c : UInt8) (hx : x = ⟨#[c]⟩) (hp : pcb c = false) (w : World) :
    Calls Try.prog 125 #[.string x] w fun e w' => e = .returned .nilFunc ∧ w = w' := by
  subst hx
  simp only [pcb, Bool.or_eq_false_iff, beq_eq_false_iff_ne] at hp
  obtain ⟨p1, p2, p3⟩ := hp
  exact lay_no _ (by simp [ByteArray.toList_eq, p1]) (by simp [ByteArray.toList_eq, p2]) (by simp [ByteArray.toList_eq, p3]) w

theorem lay_cases {x : ByteArray} {c : UInt8} (hx : x = ⟨#[c]⟩) (hp : pcb c = true) (w : World) :
    ∃ g : FuncId, (g = 155 ∨ g = 156 ∨ g = 157) ∧ Calls Try.prog 125 #[.string x] w fun e w' => e = .returned (.func (Fn.func g) #[] #[]) ∧ w = w' := by
  rcases pcb_cases hp with rfl | rfl | rfl
  · exact ⟨_, .inl rfl, lay_S' x hx w⟩
  · exact ⟨_, .inr (.inl rfl), lay_L' x hx w⟩
  · exact ⟨_, .inr (.inr rfl), lay_R' x hx w⟩

set_option maxRecDepth 100000 in
theorem tkGood_any (s : ByteArray) (hs : s.size ≤ 1048576) (w : World) :
    Calls Try.prog 72 #[.string s] w fun e w' => e = .returned (.bool (tkB s)) ∧ w = w' := by
  by_cases h40 : s.size ≤ 40
  · go_enter Try.func72, Try.ntmps72
    go_wp2_with fail
    go_loop [3] (fun i => ∃ k : Nat, k ≤ s.size ∧ i = .int .i64 k ∧ (s.data.toList.take k).all pcb = true) (fun i => s.size - (intOf i).toNat)
    case atStart => exact ⟨0, Nat.zero_le _, rfl, rfl⟩
    case round =>
      obtain ⟨k, hk, rfl, hall⟩ := hrel
      have HA := Lib.hid hall
      clear hall
      by_cases hlt : k < s.size
      · have he := pcB_pcb s[k]
        cases hp : pcb s[k]
        · have hp2 : pcB ((s[k].toNat : Nat) : Int) = false := he.trans hp
          have HP := Lib.hid hp
          clear he hp
          go_wp2_with (go_at_call 122; refine (ptPiece_any _ _).mono ?_; rintro e w' ⟨rfl, rfl⟩)
          go_ret
          exact ⟨by rw [tkB_no hlt HP.out]; rfl, rfl⟩
        · have hp2 : pcB ((s[k].toNat : Nat) : Int) = true := he.trans hp
          have HP := Lib.hid hp
          clear he hp
          go_wp2_with (go_at_call 122; refine (ptPiece_any _ _).mono ?_; rintro e w' ⟨rfl, rfl⟩)
          go_round
          case rel => exact ⟨k + 1, by omega, by go_num, all_snoc hlt HA.out HP.out⟩
          case measure => simp [intOf]; omega
      · go_wp2_with fail
        go_ret
        exact ⟨by rw [tkB_yes h40 hlt HA.out]; rfl, rfl⟩
  · have hgt : 40 < s.size := by omega
    go_enter Try.func72, Try.ntmps72
    go_wp2_with fail
    go_ret
    exact ⟨by rw [tkB_long h40]; rfl, rfl⟩

set_option maxRecDepth 100000 in
theorem imIsTrack_any (s : ByteArray) (hs : s.size ≤ 1048576) (w : World) :
    Calls Try.prog 80 #[.string s] w fun e w' => e = .returned (.bool (tkB s)) ∧ w = w' := by
  by_cases h40 : s.size ≤ 40
  · go_enter Try.func80, Try.ntmps80
    go_wp2_with fail
    go_loop [9] (fun i => ∃ k : Nat, k ≤ s.size ∧ i = .int .i64 k ∧ (s.data.toList.take k).all pcb = true) (fun i => s.size - (intOf i).toNat)
    case atStart => exact ⟨0, Nat.zero_le _, rfl, rfl⟩
    case round =>
      obtain ⟨k, hk, rfl, hall⟩ := hrel
      have HA := Lib.hid hall
      clear hall
      by_cases hlt : k < s.size
      · have HX := Lib.hid (ext_one s k hlt)
        cases hp : pcb s[k]
        · have HP := Lib.hid hp
          clear hp
          go_wp2_with (go_at_call 125; refine (lay_N' _ _ HX.out HP.out _).mono ?_; rintro e w' ⟨rfl, rfl⟩)
          go_ret
          exact ⟨by rw [tkB_no hlt HP.out]; rfl, rfl⟩
        · have HP := Lib.hid hp
          clear hp
          obtain ⟨g, hg, hc⟩ := lay_cases HX.out HP.out w
          have HC := Lib.hid hc
          clear hc
          rcases hg with rfl | rfl | rfl
          all_goals
            go_wp2_with (go_at_call 125; refine (HC.out).mono ?_; rintro e w' ⟨rfl, rfl⟩)
            go_round
            case rel => exact ⟨k + 1, by omega, by go_num, all_snoc hlt HA.out HP.out⟩
            case measure => simp [intOf]; omega
      · go_wp2_with fail
        go_ret
        exact ⟨by rw [tkB_yes h40 hlt HA.out]; rfl, rfl⟩
  · have hgt : 40 < s.size := by omega
    go_enter Try.func80, Try.ntmps80
    go_wp2_with fail
    go_ret
    exact ⟨by rw [tkB_long h40]; rfl, rfl⟩

end Go.Proofs.Ytppbbcckijcckaa

/- Contracts: IsTrack of the model and of the program, as the laws ask for them. -/
namespace Go.Proofs.Ytppbbcckijcckaa
open Go.ChangeShapes Go.WideShapes Go.ChangeAt Go.RowKit

theorem imIsTrack (s : ByteArray) (hs : s.size ≤ 1048576) (w : World) :
    Calls Try.prog 80 #[.string s] w fun e w' => e = .returned (.bool (tkB s)) ∧ Below w.heap.size w w' := grownOf (imIsTrack_any s hs w)

end Go.Proofs.Ytppbbcckijcckaa

/- Contracts: turned points and powers, in the model and in the program. -/
namespace Go.Proofs.Ytppbbcckijcckaa
open Go.ChangeShapes Go.WideShapes Go.ChangeAt Go.RowKit

def tu0 (k : Int) (a0 a1 a2 a3 : Int) : Int := if k = 0 then a0 else if k = 1 then -a3 else if k = 2 then -a2 else if k = 3 then -a1 else if k = 4 then -a0 else if k = 5 then a3 else if k = 6 then a2 else a1

def tu1 (k : Int) (a0 a1 a2 a3 : Int) : Int := if k = 0 then a1 else if k = 1 then a0 else if k = 2 then -a3 else if k = 3 then -a2 else if k = 4 then -a1 else if k = 5 then -a0 else if k = 6 then a3 else a2

def tu2 (k : Int) (a0 a1 a2 a3 : Int) : Int := if k = 0 then a2 else if k = 1 then a1 else if k = 2 then a0 else if k = 3 then -a3 else if k = 4 then -a2 else if k = 5 then -a1 else if k = 6 then -a0 else a3

def tu3 (k : Int) (a0 a1 a2 a3 : Int) : Int := if k = 0 then a3 else if k = 1 then a2 else if k = 2 then a1 else if k = 3 then a0 else if k = 4 then -a3 else if k = 5 then -a2 else if k = 6 then -a1 else -a0

theorem good_bd (a0 a1 a2 a3 : Int) (h : goodB a0 a1 a2 a3 = true) : -999999 ≤ a0 ∧ a0 ≤ 999999 ∧ -999999 ≤ a1 ∧ a1 ≤ 999999 ∧ -999999 ≤ a2 ∧ a2 ≤ 999999 ∧ -999999 ≤ a3 ∧ a3 ≤ 999999 := by
  simpa [goodB] using h

theorem in_bd {n lo hi : Int} (h : inB n lo hi = true) : lo ≤ n ∧ n ≤ hi := by simpa [inB] using h

theorem eight (k : Int) (h0 : 0 ≤ k) (h7 : k ≤ 7) : k = 0 ∨ k = 1 ∨ k = 2 ∨ k = 3 ∨ k = 4 ∨ k = 5 ∨ k = 6 ∨ k = 7 := by omega

set_option maxRecDepth 100000 in
set_option maxHeartbeats 1600000 in
theorem ptTurn_any (a0 a1 a2 a3 : Int) (k : Int) (p0 : -999999 ≤ a0) (q0 : a0 ≤ 999999) (p1 : -999999 ≤ a1) (q1 : a1 ≤ 999999) (p2 : -999999 ≤ a2) (q2 : a2 ≤ 999999) (p3 : -999999 ≤ a3) (q3 : a3 ≤ 999999) (h0 : 0 ≤ k) (h7 : k ≤ 7) (w : World) :
    Calls Try.prog 170 #[.agg #[.int .i64 a0, .int .i64 a1, .int .i64 a2, .int .i64 a3], .int .i64 k] w fun e w' => e = .returned (.agg #[.int .i64 (tu0 k a0 a1 a2 a3), .int .i64 (tu1 k a0 a1 a2 a3), .int .i64 (tu2 k a0 a1 a2 a3), .int .i64 (tu3 k a0 a1 a2 a3)]) ∧ Below w.heap.size w w' := by
  rcases eight k h0 h7 with rfl | rfl | rfl | rfl | rfl | rfl | rfl | rfl
  all_goals
    go_enter Try.func170, Try.ntmps170
    go_wp2_with fail
    refine wp_loop_rounds 9 ?_
    repeat any_goals (rw [rounds_succ]; go_wp2)
    go_returns
    exact ⟨by simp [tu0, tu1, tu2, tu3], by go_grown⟩

set_option maxRecDepth 100000 in
set_option maxHeartbeats 1600000 in
theorem power_any (k : Int) (h0 : 0 ≤ k) (h7 : k ≤ 7) (w : World) :
    Calls Try.prog 173 #[.int .i64 k] w fun e w' => e = .returned (.agg #[.int .i64 (tu0 k 1 0 0 0), .int .i64 (tu1 k 1 0 0 0), .int .i64 (tu2 k 1 0 0 0), .int .i64 (tu3 k 1 0 0 0)]) ∧ Below w.heap.size w w' := by
  rcases eight k h0 h7 with rfl | rfl | rfl | rfl | rfl | rfl | rfl | rfl
  all_goals
    go_enter Try.func173, Try.ntmps173
    go_wp2
    go_returns
    exact ⟨by simp [tu0, tu1, tu2, tu3], by go_grown⟩

set_option maxRecDepth 100000 in
theorem ptHeading_any (h : Int) (h0 : 0 ≤ h) (h1 : h ≤ 1000) (w : World) :
    Calls Try.prog 171 #[.int .i64 h] w fun e w' => e = .returned (.agg #[.int .i64 (tu0 (h % 8) 1 0 0 0), .int .i64 (tu1 (h % 8) 1 0 0 0), .int .i64 (tu2 (h % 8) 1 0 0 0), .int .i64 (tu3 (h % 8) 1 0 0 0)]) ∧ Below w.heap.size w w' := by
  have m0 : 0 ≤ h % 8 := by omega
  have m7 : h % 8 ≤ 7 := by omega
  go_enter Try.func171, Try.ntmps171
  go_wp2_with fail
  (go_at_call 170; (with_reducible refine (ptTurn_any 1 0 0 0 (h % 8) (by omega) (by omega) (by omega) (by omega) (by omega) (by omega) (by omega) (by omega) m0 m7 _).mono ?_); rintro e wA ⟨rfl, h1⟩; (try with_reducible replace h1 := undrew h1); have hB : Below w.heap.size w wA := ba (by go_grown) h1; obtain ⟨hcwA, hfwA⟩ := bcell h1; have hqwA := h1.size; (try simp at hqwA); )
  go_wp2_with fail
  refine bodyPost_ret (by simp [results, Try.results171, go_sem, *]; try rfl) rfl ?_
  exact ⟨rfl, by go_grown⟩

end Go.Proofs.Ytppbbcckijcckaa
