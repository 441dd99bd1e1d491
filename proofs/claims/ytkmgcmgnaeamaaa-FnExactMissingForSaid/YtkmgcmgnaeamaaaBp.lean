/- Contracts: prices, missing pieces and counts of tracks, in the model and in the program. -/
import Derived.Test.YtkmgcmgnaeamaaaBn
import Derived.Test.YtkmgcmgnaeamaaaQa
namespace Go.Proofs.Ytkmgcmgnaeamaaa
open Go.ChangeShapes Go.WideShapes Go.ChangeAt Go.RowKit Go.Sort

set_option linter.unusedVariables false
set_option linter.unusedSimpArgs false

set_option maxRecDepth 100000 in
theorem spPriceOf (b : Bq) (s c : Int) (w : World) : Calls Try.prog 47 #[bv b, .int .i64 s, .int .i64 c] w fun e w' => e = .returned (.tuple #[.int .i64 (prR b s c), .bool (prG b s c)]) ∧ Below w.heap.size w w' := by
  have PB := Lib.hid (spBox_any b)
  have PR := Lib.hid (spPrices_any s c)
  unfold prR prG
  cases hb : bxB 40 b
  · rw [hb] at PB
    clear hb
    go_enter Try.func47, Try.ntmps47
    go_wp2_with (go_at_call 51; refine (PB.out _).mono ?_; rintro e w1 ⟨rfl, h1⟩; have hB : Below w.heap.size w w1 := ba (by go_grown) h1; obtain ⟨hc1, hf1⟩ := bcell h1; have hq := h1.size; (try simp at hq); have hz0 : w.heap.size < w1.heap.size := (by omega); have HK1 := Lib.hid h1; clear h1 hq)
    go_returns
    exact ⟨rfl, by go_grown⟩
  · cases hp : (inB s 0 1000 && inB c 0 1000)
    · rw [hb] at PB
      rw [hp] at PR
      clear hb hp
      go_enter Try.func47, Try.ntmps47
      go_wp2_with (first | (go_at_call 51; refine (PB.out _).mono ?_; rintro e w1 ⟨rfl, h1⟩; have hB : Below w.heap.size w w1 := ba (by go_grown) h1; obtain ⟨hc1, hf1⟩ := bcell h1; have hq := h1.size; (try simp at hq); have hz0 : w.heap.size < w1.heap.size := (by omega); have HK1 := Lib.hid h1; clear h1 hq) | (go_at_call 84; refine (PR.out _).mono ?_; rintro e w' ⟨rfl, rfl⟩))
      go_returns
      exact ⟨rfl, by go_grown⟩
    · obtain ⟨b0, b1, b2⟩ := bxB_yes hb
      have hs' : (0 ≤ s ∧ s ≤ 1000) ∧ (0 ≤ c ∧ c ≤ 1000) := by simpa [inB] using hp
      rw [hb] at PB
      rw [hp] at PR
      obtain ⟨x, r⟩ := b
      simp only at b0 b1 b2
      obtain ⟨p0, p1⟩ := pr_bd b0 (by omega) hs'.1.1 hs'.1.2
      obtain ⟨q0, q1⟩ := pr_bd b1 (by omega) hs'.2.1 hs'.2.2
      have e0 : wrap64 (x * s) = x * s := IntWalk.wrap64_in _ ⟨by omega, by omega⟩
      have e1 : wrap64 (r * c) = r * c := IntWalk.wrap64_in _ ⟨by omega, by omega⟩
      have e2 : wrap64 (x * s + r * c) = x * s + r * c := IntWalk.wrap64_in _ ⟨by omega, by omega⟩
      clear hb hp
      go_enter Try.func47, Try.ntmps47
      go_wp2_with fail
      (go_at_call 51; (with_reducible refine (PB.out _).mono ?_); rintro e wA ⟨rfl, h1⟩; (try with_reducible replace h1 := undrew h1); have hB : Below w.heap.size w wA := ba (by go_grown) h1; obtain ⟨hcwA, hfwA⟩ := bcell h1; have hqwA := h1.size; (try simp at hqwA); (try have hz0wA : w.heap.size < wA.heap.size := (by omega)); (try have he0wA : w.heap.size ≤ wA.heap.size := (by omega)))
      go_wp2_with (go_at_call 84; refine (PR.out _).mono ?_; rintro e w' ⟨rfl, rfl⟩)
      go_returns
      exact ⟨rfl, by go_grown⟩

set_option maxRecDepth 100000 in
theorem imPriceOf (b : Bq) (s c : Int) (w : World) : Calls Try.prog 48 #[bv b, .int .i64 s, .int .i64 c] w fun e w' => e = .returned (.tuple #[.int .i64 (prR b s c), .bool (prG b s c)]) ∧ Below w.heap.size w w' := by
  have PB := Lib.hid (imIsBox b)
  have PR := Lib.hid (arePrices_any s c)
  unfold prR prG
  cases hb : bxB 40 b
  · rw [hb] at PB
    clear hb
    go_enter Try.func48, Try.ntmps48
    go_wp2_with (go_at_call 18; refine (PB.out _).mono ?_; rintro e w1 ⟨rfl, h1⟩; have hB : Below w.heap.size w w1 := ba (by go_grown) h1; obtain ⟨hc1, hf1⟩ := bcell h1; have hq := h1.size; (try simp at hq); have hz0 : w.heap.size < w1.heap.size := (by omega); have HK1 := Lib.hid h1; clear h1 hq)
    go_returns
    exact ⟨rfl, by go_grown⟩
  · cases hp : (inB s 0 1000 && inB c 0 1000)
    · rw [hb] at PB
      rw [hp] at PR
      clear hb hp
      go_enter Try.func48, Try.ntmps48
      go_wp2_with (first | (go_at_call 18; refine (PB.out _).mono ?_; rintro e w1 ⟨rfl, h1⟩; have hB : Below w.heap.size w w1 := ba (by go_grown) h1; obtain ⟨hc1, hf1⟩ := bcell h1; have hq := h1.size; (try simp at hq); have hz0 : w.heap.size < w1.heap.size := (by omega); have HK1 := Lib.hid h1; clear h1 hq) | (go_at_call 85; refine (PR.out _).mono ?_; rintro e w' ⟨rfl, rfl⟩))
      go_returns
      exact ⟨rfl, by go_grown⟩
    · have hs' : inB s 0 1000 = true ∧ inB c 0 1000 = true := by simpa using hp
      have PP := Lib.hid (price_any b s c hb hs'.1 hs'.2)
      rw [hb] at PB
      rw [hp] at PR
      simp only [Bool.true_and, cond_true]
      generalize b.x * s + b.r * c = R at *
      clear hb hp
      go_enter Try.func48, Try.ntmps48
      go_wp2_with fail
      (go_at_call 18; (with_reducible refine (PB.out _).mono ?_); rintro e wA ⟨rfl, h1⟩; (try with_reducible replace h1 := undrew h1); have hB : Below w.heap.size w wA := ba (by go_grown) h1; obtain ⟨hcwA, hfwA⟩ := bcell h1; have hqwA := h1.size; (try simp at hqwA); (try have hz0wA : w.heap.size < wA.heap.size := (by omega)); (try have he0wA : w.heap.size ≤ wA.heap.size := (by omega)))
      go_wp2_with (go_at_call 85; refine (PR.out _).mono ?_; rintro e w' ⟨rfl, rfl⟩)
      (go_at_call 86; (with_reducible refine (PP.out _).mono ?_); rintro e wB ⟨rfl, h1⟩; (try with_reducible replace h1 := undrew h1); have hB : Below w.heap.size w wB := ba (by go_grown) h1; obtain ⟨hcwB, hfwB⟩ := bcell h1; have hqwB := h1.size; (try simp at hqwB); (try have hz0wB : w.heap.size < wB.heap.size := (by omega)); (try have he0wB : w.heap.size ≤ wB.heap.size := (by omega)))
      go_wp2_with fail
      go_returns
      exact ⟨rfl, by go_grown⟩

set_option maxRecDepth 100000 in
set_option maxHeartbeats 800000 in
theorem spMissingFor (b : Bq) (s : ByteArray) (hs : s.size ≤ 1048576) (w : World) : Calls Try.prog 24 #[bv b, .string s] w fun e w' => e = .returned (.tuple #[bv (msR b s), .bool (btG b s)]) ∧ Below w.heap.size w w' := by
  have PB := Lib.hid (spBox_any b)
  unfold msR
  cases hb : bxB 40 b
  · rw [btG_no1 hb s]
    rw [hb] at PB
    clear hb
    go_enter Try.func24, Try.ntmps24
    go_wp2_with (first | (go_at_call 51; refine (PB.out _).mono ?_; rintro e w1 ⟨rfl, h1⟩; have hB : Below w.heap.size w w1 := ba (by go_grown) h1; obtain ⟨hc1, hf1⟩ := bcell h1; have hq := h1.size; (try simp at hq); have hz0 : w.heap.size < w1.heap.size := (by omega); have hz1 : w.heap.size + 1 < w1.heap.size := (by omega); have HK1 := Lib.hid h1; clear h1 hq))
    refine bodyPost_ret (by simp [results, Try.results24, go_sem, *]; try rfl) rfl ?_
    exact ⟨rfl, by go_grown⟩
  · cases ht : tkB s
    · rw [btG_no2 b ht]
      rw [hb] at PB
      clear hb
      go_enter Try.func24, Try.ntmps24
      go_wp2_with (first | (go_at_call 51; refine (PB.out _).mono ?_; rintro e w1 ⟨rfl, h1⟩; have hB : Below w.heap.size w w1 := ba (by go_grown) h1; obtain ⟨hc1, hf1⟩ := bcell h1; have hq := h1.size; (try simp at hq); have hz0 : w.heap.size < w1.heap.size := (by omega); have hz1 : w.heap.size + 1 < w1.heap.size := (by omega); have HK1 := Lib.hid h1; clear h1 hq) | (go_at_call 53; refine (tkGood_any s hs _).mono ?_; rintro e w' ⟨rfl, rfl⟩))
      refine bodyPost_ret (by simp [results, Try.results24, go_sem, *]; try rfl) rfl ?_
      exact ⟨rfl, by go_grown⟩
    · obtain ⟨b0, b1, b2⟩ := bxB_yes hb
      have h40 := tkB_size ht
      have hsc := st_cv s
      rw [btG_yes hb ht]
      rw [hb] at PB
      have P := Lib.hid (spOf_any s ht)
      generalize stN s = a at *
      generalize cvN s = c at *
      obtain ⟨x, r⟩ := b
      simp only at b0 b1 b2
      have e0 : wrap64 ((a : Int) - x) = (a : Int) - x := IntWalk.wrap64_in _ ⟨by omega, by omega⟩
      have e1 : wrap64 ((c : Int) - r) = (c : Int) - r := IntWalk.wrap64_in _ ⟨by omega, by omega⟩
      have e2 : IntKind.i64.wrap ((a : Int) - x) = (a : Int) - x := by rw [IntKind.wrap_i64]; omega
      have e3 : IntKind.i64.wrap ((c : Int) - r) = (c : Int) - r := by rw [IntKind.wrap_i64]; omega
      have M0 := Lib.hid (l1Most_any 0 ((a : Int) - x))
      have M1 := Lib.hid (l1Most_any 0 ((c : Int) - r))
      simp only [cond_true]
      generalize max 0 ((a : Int) - x) = m0 at *
      generalize max 0 ((c : Int) - r) = m1 at *
      clear hb
      go_enter Try.func24, Try.ntmps24
      go_wp2_with fail
      (go_at_call 51; (with_reducible refine (PB.out _).mono ?_); rintro e wA ⟨rfl, h1⟩; (try with_reducible replace h1 := undrew h1); have hB : Below w.heap.size w wA := ba (by go_grown) h1; obtain ⟨hcwA, hfwA⟩ := bcell h1; have hqwA := h1.size; (try simp at hqwA); (try have hz0wA : w.heap.size < wA.heap.size := (by omega)); (try have he0wA : w.heap.size ≤ wA.heap.size := (by omega)); (try have hz1wA : w.heap.size + 1 < wA.heap.size := (by omega)); (try have he1wA : w.heap.size + 1 ≤ wA.heap.size := (by omega)))
      go_wp2_with (go_at_call 53; refine (tkGood_any s hs _).mono ?_; rintro e w' ⟨rfl, rfl⟩)
      (go_at_call 54; (with_reducible refine (P.out _).mono ?_); rintro e wB ⟨rfl, h1⟩; (try with_reducible replace h1 := undrew h1); have hB : Below w.heap.size w wB := ba (by go_grown) h1; obtain ⟨hcwB, hfwB⟩ := bcell h1; have hqwB := h1.size; (try simp at hqwB); (try have hz0wB : w.heap.size < wB.heap.size := (by omega)); (try have he0wB : w.heap.size ≤ wB.heap.size := (by omega)); (try have hz1wB : w.heap.size + 1 < wB.heap.size := (by omega)); (try have he1wB : w.heap.size + 1 ≤ wB.heap.size := (by omega)); (try have hz2wB : wA.heap.size < wB.heap.size := (by omega)); (try have he2wB : wA.heap.size ≤ wB.heap.size := (by omega)))
      go_wp2_with fail
      refine absWB (F := fun W => (W.cell? ⟨w.heap.size, 0, none⟩ = some (.int .i64 x)) ∧ (W.cell? ⟨w.heap.size, 1, none⟩ = some (.int .i64 r)) ∧ (W.cell? ⟨wB.heap.size, 0, none⟩ = some (.int .i64 (a : Int))) ∧ (W.cell? ⟨wB.heap.size, 1, none⟩ = some (.int .i64 (c : Int))) ∧ (∀ i, W.frozen? ⟨w.heap.size + 1, i, none⟩ = false) ∧ (W.cell? ⟨w.heap.size + 1, 0, none⟩ = some (.int .i64 0) ∧ W.cell? ⟨w.heap.size + 1, 1, none⟩ = some (.int .i64 0)) ∧ (w.heap.size + 1 < W.heap.size) ∧ Below w.heap.size w W) ⟨by go_simp, by go_simp, by go_simp, by go_simp, fun i => by go_simp, ⟨by go_simp, by go_simp⟩, by first | omega | (simp; omega), by go_grown⟩ ?_
      rintro W ⟨ca0_0, ca1_1, cb0_0, cb1_1, fr9, ⟨z90, z91⟩, hzW, HB⟩
      have ka0_0 := fun d os => cell_regrown ca0_0 d os
      have ka1_1 := fun d os => cell_regrown ca1_1 d os
      have kb0_0 := fun d os => cell_regrown cb0_0 d os
      have kb1_1 := fun d os => cell_regrown cb1_1 d os
      refine region_below_tail 13 (by kernel_rfl) (by kernel_rfl) ?_
      simp only [List.take_succ_cons, List.take_zero, List.drop_succ_cons, List.drop_zero]
      repeat (quiet_step (first | (go_at_call 60; with_reducible exact same_regrownB (M0.out _)) | (go_at_call 60; with_reducible exact same_regrownB (M1.out _))))
      refine wpQuiet_nil ?_
      rintro _ ⟨⟨dq, osq⟩, rfl⟩
      have hbw1 := below_regrown W dq osq
      generalize grow (redrawn W dq) osq = w1 at hbw1 ⊢
      obtain ⟨hcw1, hfw1⟩ := bcell hbw1
      have hlw1 := hbw1.size
      replace HB := ba HB hbw1
      go_wp2_with fail
      refine bodyPost_ret (by simp [results, Try.results24, go_sem, *]; try rfl) rfl ?_
      exact ⟨rfl, by go_grown⟩

set_option maxRecDepth 100000 in
set_option maxHeartbeats 800000 in
theorem imMissingFor (b : Bq) (s : ByteArray) (hs : s.size ≤ 1048576) (w : World) : Calls Try.prog 25 #[bv b, .string s] w fun e w' => e = .returned (.tuple #[bv (msR b s), .bool (btG b s)]) ∧ Below w.heap.size w w' := by
  have PB := Lib.hid (imIsBox b)
  unfold msR
  cases hb : bxB 40 b
  · rw [btG_no1 hb s]
    rw [hb] at PB
    clear hb
    go_enter Try.func25, Try.ntmps25
    go_wp2_with (first | (go_at_call 18; refine (PB.out _).mono ?_; rintro e w1 ⟨rfl, h1⟩; have hB : Below w.heap.size w w1 := ba (by go_grown) h1; obtain ⟨hc1, hf1⟩ := bcell h1; have hq := h1.size; (try simp at hq); have hz0 : w.heap.size < w1.heap.size := (by omega); have hz1 : w.heap.size + 1 < w1.heap.size := (by omega); have HK1 := Lib.hid h1; clear h1 hq))
    refine bodyPost_ret (by simp [results, Try.results25, go_sem, *]; try rfl) rfl ?_
    exact ⟨rfl, by go_grown⟩
  · cases ht : tkB s
    · rw [btG_no2 b ht]
      rw [hb] at PB
      clear hb
      go_enter Try.func25, Try.ntmps25
      go_wp2_with (first | (go_at_call 18; refine (PB.out _).mono ?_; rintro e w1 ⟨rfl, h1⟩; have hB : Below w.heap.size w w1 := ba (by go_grown) h1; obtain ⟨hc1, hf1⟩ := bcell h1; have hq := h1.size; (try simp at hq); have hz0 : w.heap.size < w1.heap.size := (by omega); have hz1 : w.heap.size + 1 < w1.heap.size := (by omega); have HK1 := Lib.hid h1; clear h1 hq) | (go_at_call 55; refine (imIsTrack_any s hs _).mono ?_; rintro e w' ⟨rfl, rfl⟩))
      refine bodyPost_ret (by simp [results, Try.results25, go_sem, *]; try rfl) rfl ?_
      exact ⟨rfl, by go_grown⟩
    · obtain ⟨b0, b1, b2⟩ := bxB_yes hb
      have h40 := tkB_size ht
      have hsc := st_cv s
      rw [btG_yes hb ht]
      rw [hb] at PB
      have PS := Lib.hid (boxSupply_any b)
      have P := Lib.hid (needsOf_any s ht)
      have PM := Lib.hid (most_any b ⟨(stN s : Int), (cvN s : Int)⟩)
      have PL := less_any ⟨max b.x (stN s : Int), max b.r (cvN s : Int)⟩ b
      rw [show wrap64 ((⟨max b.x (stN s : Int), max b.r (cvN s : Int)⟩ : Bq).x - b.x) = max 0 ((stN s : Int) - b.x) by show wrap64 (max b.x (stN s : Int) - b.x) = _; rw [IntWalk.wrap64_in _ ⟨by omega, by omega⟩]; omega,
        show wrap64 ((⟨max b.x (stN s : Int), max b.r (cvN s : Int)⟩ : Bq).r - b.r) = max 0 ((cvN s : Int) - b.r) by show wrap64 (max b.r (cvN s : Int) - b.r) = _; rw [IntWalk.wrap64_in _ ⟨by omega, by omega⟩]; omega] at PL
      have PLH := Lib.hid PL
      have BX := Lib.hid (supplyBox_any ⟨max 0 ((stN s : Int) - b.x), max 0 ((cvN s : Int) - b.r)⟩)
      clear PL
      simp only [cond_true]
      generalize (⟨max 0 ((stN s : Int) - b.x), max 0 ((cvN s : Int) - b.r)⟩ : Bq) = q at *
      generalize (⟨max b.x (stN s : Int), max b.r (cvN s : Int)⟩ : Bq) = m at *
      generalize (⟨(stN s : Int), (cvN s : Int)⟩ : Bq) = n at *
      obtain ⟨qx, qr⟩ := q
      clear hb hsc b0 b1 b2
      go_enter Try.func25, Try.ntmps25
      go_wp2_with fail
      (go_at_call 18; (with_reducible refine (PB.out _).mono ?_); rintro e wA ⟨rfl, h1⟩; (try with_reducible replace h1 := undrew h1); have hB : Below w.heap.size w wA := ba (by go_grown) h1; obtain ⟨hcwA, hfwA⟩ := bcell h1; have hqwA := h1.size; (try simp at hqwA); (try have hz0wA : w.heap.size < wA.heap.size := (by omega)); (try have he0wA : w.heap.size ≤ wA.heap.size := (by omega)); (try have hz1wA : w.heap.size + 1 < wA.heap.size := (by omega)); (try have he1wA : w.heap.size + 1 ≤ wA.heap.size := (by omega)))
      go_wp2_with (go_at_call 55; refine (imIsTrack_any s hs _).mono ?_; rintro e w' ⟨rfl, rfl⟩)
      (go_at_call 58; (with_reducible refine (PS.out _).mono ?_); rintro e wB ⟨rfl, h1⟩; (try with_reducible replace h1 := undrew h1); have hB : Below w.heap.size w wB := ba (by go_grown) h1; obtain ⟨hcwB, hfwB⟩ := bcell h1; have hqwB := h1.size; (try simp at hqwB); (try have hz0wB : w.heap.size < wB.heap.size := (by omega)); (try have he0wB : w.heap.size ≤ wB.heap.size := (by omega)); (try have hz1wB : w.heap.size + 1 < wB.heap.size := (by omega)); (try have he1wB : w.heap.size + 1 ≤ wB.heap.size := (by omega)); (try have hz2wB : wA.heap.size < wB.heap.size := (by omega)); (try have he2wB : wA.heap.size ≤ wB.heap.size := (by omega)))
      go_wp2_with fail
      refine absWB (F := fun W => (W.cell? ⟨wB.heap.size, 0, none⟩ = some (.int .i64 b.x)) ∧ (W.cell? ⟨wB.heap.size, 1, none⟩ = some (.int .i64 b.r)) ∧ (∀ i, W.frozen? ⟨w.heap.size + 1, i, none⟩ = false) ∧ (W.cell? ⟨w.heap.size + 1, 0, none⟩ = some (.int .i64 0) ∧ W.cell? ⟨w.heap.size + 1, 1, none⟩ = some (.int .i64 0)) ∧ (w.heap.size + 1 < W.heap.size) ∧ Below w.heap.size w W) ⟨by go_simp, by go_simp, fun i => by go_simp, ⟨by go_simp, by go_simp⟩, by first | omega | (simp; omega), by go_grown⟩ ?_
      rintro W ⟨cb0_0, cb1_1, fr9, ⟨z90, z91⟩, hzW, HB⟩
      have kb0_0 := fun d os => cell_regrown cb0_0 d os
      have kb1_1 := fun d os => cell_regrown cb1_1 d os
      refine region_below_tail 7 (by kernel_rfl) (by kernel_rfl) ?_
      simp only [List.take_succ_cons, List.take_zero, List.drop_succ_cons, List.drop_zero]
      repeat (quiet_step (first | (go_at_call 56; with_reducible exact Calls.regrown_of (P.out _)) | (go_at_call 61; with_reducible exact Calls.regrown_of (PM.out _)) | (go_at_call 62; with_reducible exact Calls.regrown_of (PLH.out _)) | (go_at_call 57; with_reducible exact Calls.regrown_of (BX.out _))))
      refine wpQuiet_nil ?_
      rintro _ ⟨⟨dq, osq⟩, rfl⟩
      have hbw1 := below_regrown W dq osq
      generalize grow (redrawn W dq) osq = w1 at hbw1 ⊢
      obtain ⟨hcw1, hfw1⟩ := bcell hbw1
      have hlw1 := hbw1.size
      replace HB := ba HB hbw1
      go_wp2_with fail
      refine bodyPost_ret (by simp [results, Try.results25, go_sem, *]; try rfl) rfl ?_
      exact ⟨rfl, by go_grown⟩

end Go.Proofs.Ytkmgcmgnaeamaaa
