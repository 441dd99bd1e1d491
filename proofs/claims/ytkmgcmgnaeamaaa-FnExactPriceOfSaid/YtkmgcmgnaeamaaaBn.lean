/- Contracts: what is laid from a box, what is missing, sums and prices of boxes, in the model and in the program. -/
import Derived.Test.YtkmgcmgnaeamaaaBc
import Derived.Test.YtkmgcmgnaeamaaaQa
namespace Go.Proofs.Ytkmgcmgnaeamaaa
open Go.ChangeShapes Go.WideShapes Go.ChangeAt Go.RowKit Go.Sort

set_option linter.unusedVariables false
set_option linter.unusedSimpArgs false

def boxOfX (s : ByteArray) : Int := cond (tkB s) (stN s : Int) 0

def boxOfR (s : ByteArray) : Int := cond (tkB s) (cvN s : Int) 0

theorem spBoxOf (s : ByteArray) (hs : s.size ≤ 1048576) (w : World) : Calls Try.prog 19 #[.string s] w fun e w' => e = .returned (.tuple #[.agg #[.int .i64 (boxOfX s), .int .i64 (boxOfR s)], .bool (tkB s)]) ∧ Below w.heap.size w w' := by
  unfold boxOfX boxOfR
  cases ht : tkB s
  · go_enter Try.func19, Try.ntmps19
    go_wp2_with (go_at_call 53; refine (tkGood_any s hs _).mono ?_; rintro e w' ⟨rfl, rfl⟩)
    refine bodyPost_ret (by simp [results, Try.results19, go_sem, *]; try rfl) rfl ?_
    exact ⟨rfl, by go_grown⟩
  · have P := Lib.hid (spOf_any s ht)
    generalize stN s = a at *
    generalize cvN s = c at *
    go_enter Try.func19, Try.ntmps19
    go_wp2_with (first | (go_at_call 53; refine (tkGood_any s hs _).mono ?_; rintro e w' ⟨rfl, rfl⟩) | (go_at_call 54; refine (P.out _).mono ?_; rintro e w1 ⟨rfl, h1⟩; have hB : Below w.heap.size w w1 := ba (by go_grown) h1; obtain ⟨hc1, hf1⟩ := bcell h1; have hq := h1.size; (try simp at hq); have hz0 : w.heap.size < w1.heap.size := (by omega); have HK1 := Lib.hid h1; clear h1 hq))
    refine bodyPost_ret (by simp [results, Try.results19, go_sem, *]; try rfl) rfl ?_
    exact ⟨rfl, by go_grown⟩

theorem imBoxOf (s : ByteArray) (hs : s.size ≤ 1048576) (w : World) : Calls Try.prog 20 #[.string s] w fun e w' => e = .returned (.tuple #[.agg #[.int .i64 (boxOfX s), .int .i64 (boxOfR s)], .bool (tkB s)]) ∧ Below w.heap.size w w' := by
  unfold boxOfX boxOfR
  cases ht : tkB s
  · go_enter Try.func20, Try.ntmps20
    go_wp2_with (go_at_call 55; refine (imIsTrack_any s hs _).mono ?_; rintro e w' ⟨rfl, rfl⟩)
    refine bodyPost_ret (by simp [results, Try.results20, go_sem, *]; try rfl) rfl ?_
    exact ⟨rfl, by go_grown⟩
  · have P := Lib.hid (needsOf_any s ht)
    generalize stN s = a at *
    generalize cvN s = c at *
    have SB := Lib.hid (supplyBox_any ⟨(a : Int), (c : Int)⟩)
    go_enter Try.func20, Try.ntmps20
    go_wp2_with (go_at_call 55; refine (imIsTrack_any s hs _).mono ?_; rintro e w' ⟨rfl, rfl⟩)
    (go_at_call 56; (with_reducible refine (P.out _).mono ?_); rintro e wA ⟨rfl, h1⟩; (try with_reducible replace h1 := undrew h1); have hB : Below w.heap.size w wA := ba (by go_grown) h1; obtain ⟨hcwA, hfwA⟩ := bcell h1; have hqwA := h1.size; (try simp at hqwA); (try have hz0wA : w.heap.size < wA.heap.size := (by omega)); (try have he0wA : w.heap.size ≤ wA.heap.size := (by omega)))
    go_wp2_with fail
    (go_at_call 57; (with_reducible refine (SB.out _).mono ?_); rintro e wB ⟨rfl, h1⟩; (try with_reducible replace h1 := undrew h1); have hB : Below w.heap.size w wB := ba (by go_grown) h1; obtain ⟨hcwB, hfwB⟩ := bcell h1; have hqwB := h1.size; (try simp at hqwB); (try have hz0wB : w.heap.size < wB.heap.size := (by omega)); (try have he0wB : w.heap.size ≤ wB.heap.size := (by omega)))
    go_wp2_with fail
    refine bodyPost_ret (by simp [results, Try.results20, go_sem, *]; try rfl) rfl ?_
    exact ⟨rfl, by go_grown⟩

/-- A box and a track, both good. -/
def btG (b : Bq) (s : ByteArray) : Bool := bxB 40 b && tkB s

def clR (b : Bq) (s : ByteArray) : Bool := btG b s && (decide ((stN s : Int) ≤ b.x) && decide ((cvN s : Int) ≤ b.r))

def msR (b : Bq) (s : ByteArray) : Bq := cond (btG b s) ⟨max 0 ((stN s : Int) - b.x), max 0 ((cvN s : Int) - b.r)⟩ ⟨0, 0⟩

theorem btG_no1 {b : Bq} (h : bxB 40 b = false) (s : ByteArray) : btG b s = false := by simp [btG, h]

theorem btG_no2 (b : Bq) {s : ByteArray} (h : tkB s = false) : btG b s = false := by simp [btG, h]

theorem btG_yes {b : Bq} {s : ByteArray} (h : bxB 40 b = true) (k : tkB s = true) : btG b s = true := by simp [btG, h, k]

theorem most_le {a b c d : Int} : ((max a c == a) && (max b d == b)) = (decide (c ≤ a) && decide (d ≤ b)) := by
  rw [Bool.eq_iff_iff]; simp; omega

set_option maxRecDepth 100000 in
theorem l1Most_any (a b : Int) (w : World) : Calls Try.prog 60 #[.int .i64 a, .int .i64 b] w fun e w' => e = .returned (.int .i64 (max a b)) ∧ w = w' := by
  by_cases h : b < a
  · rw [show max a b = a by omega]
    go_enter Try.func60, Try.ntmps60
    go_wp2_with fail
    all_goals go_ret
    all_goals exact ⟨by first | rfl | (congr 2; omega), rfl⟩
  · rw [show max a b = b by omega]
    go_enter Try.func60, Try.ntmps60
    go_wp2_with fail
    all_goals go_ret
    all_goals exact ⟨by first | rfl | (congr 2; omega), rfl⟩

set_option maxRecDepth 100000 in
theorem covers_any (a b : Bq) (w : World) : Calls Try.prog 59 #[bv a, bv b] w fun e w' => e = .returned (.bool (decide (b.x ≤ a.x) && decide (b.r ≤ a.r))) ∧ Below w.heap.size w w' := by
  have P := Lib.hid (most_any a b)
  rw [← most_le]
  generalize max a.x b.x = m at *
  generalize max a.r b.r = n at *
  go_enter Try.func59, Try.ntmps59
  go_wp2_with fail
  refine absWB (F := fun W => (W.cell? ⟨w.heap.size, 0, none⟩ = some (.int .i64 (a).x) ∧ W.cell? ⟨w.heap.size, 1, none⟩ = some (.int .i64 (a).r)) ∧ (W.cell? ⟨w.heap.size + 1, 0, none⟩ = some (.int .i64 (b).x) ∧ W.cell? ⟨w.heap.size + 1, 1, none⟩ = some (.int .i64 (b).r)) ∧ Below w.heap.size w W ∧ W.heap.size = w.heap.size + 1 + 1) ⟨⟨by go_simp, by go_simp⟩, ⟨by go_simp, by go_simp⟩, by go_grown, by first | (simp; done) | (simp; omega)⟩ ?_
  rintro W ⟨⟨c0_0, c0_1⟩, ⟨c1_0, c1_1⟩, HB, hz⟩
  have k0_0 := fun d os => cell_regrown c0_0 d os
  have k0_1 := fun d os => cell_regrown c0_1 d os
  have k1_0 := fun d os => cell_regrown c1_0 d os
  have k1_1 := fun d os => cell_regrown c1_1 d os
  refine wp_region_quiet_below (by kernel_rfl) (by kernel_rfl) ?_
  repeat (quiet_step (first | (go_at_call 61; with_reducible exact Calls.regrown_of (P.out _))))
  refine wpQuiet_nil ?_
  rintro _ ⟨⟨dq, osq⟩, rfl⟩
  have hbw1 := below_regrown W dq osq
  generalize grow (redrawn W dq) osq = w1 at hbw1 ⊢
  obtain ⟨hcw1, hfw1⟩ := bcell hbw1
  have hlw1 := hbw1.size
  replace HB := ba HB hbw1
  go_wp2_with fail
  go_returns
  exact ⟨rfl, by go_grown⟩

set_option maxRecDepth 100000 in
theorem spCanLay (b : Bq) (s : ByteArray) (hs : s.size ≤ 1048576) (w : World) : Calls Try.prog 22 #[bv b, .string s] w fun e w' => e = .returned (.tuple #[.bool (clR b s), .bool (btG b s)]) ∧ Below w.heap.size w w' := by
  have PB := Lib.hid (spBox_any b)
  unfold clR
  cases hb : bxB 40 b
  · rw [btG_no1 hb s]
    rw [hb] at PB
    clear hb
    go_enter Try.func22, Try.ntmps22
    go_wp2_with (first | (go_at_call 51; refine (PB.out _).mono ?_; rintro e w1 ⟨rfl, h1⟩; have hB : Below w.heap.size w w1 := ba (by go_grown) h1; obtain ⟨hc1, hf1⟩ := bcell h1; have hq := h1.size; (try simp at hq); have hz0 : w.heap.size < w1.heap.size := (by omega); have HK1 := Lib.hid h1; clear h1 hq))
    go_returns
    exact ⟨rfl, by go_grown⟩
  · cases ht : tkB s
    · rw [btG_no2 b ht]
      rw [hb] at PB
      clear hb
      go_enter Try.func22, Try.ntmps22
      go_wp2_with (first | (go_at_call 51; refine (PB.out _).mono ?_; rintro e w1 ⟨rfl, h1⟩; have hB : Below w.heap.size w w1 := ba (by go_grown) h1; obtain ⟨hc1, hf1⟩ := bcell h1; have hq := h1.size; (try simp at hq); have hz0 : w.heap.size < w1.heap.size := (by omega); have HK1 := Lib.hid h1; clear h1 hq) | (go_at_call 53; refine (tkGood_any s hs _).mono ?_; rintro e w' ⟨rfl, rfl⟩))
      go_returns
      exact ⟨rfl, by go_grown⟩
    · rw [btG_yes hb ht]
      rw [hb] at PB
      have P := Lib.hid (spOf_any s ht)
      generalize stN s = a at *
      generalize cvN s = c at *
      obtain ⟨x, r⟩ := b
      simp only at PB ⊢
      cases h0 : decide ((a : Int) ≤ x)
      all_goals
        clear hb
        go_enter Try.func22, Try.ntmps22
        go_wp2_with (first | (go_at_call 51; (with_reducible refine (PB.out _).mono ?_); rintro e wA ⟨rfl, h1⟩; (try with_reducible replace h1 := undrew h1); have hB : Below w.heap.size w wA := ba (by go_grown) h1; obtain ⟨hcwA, hfwA⟩ := bcell h1; have hqwA := h1.size; (try simp at hqwA); (try have hz0wA : w.heap.size < wA.heap.size := (by omega)); (try have he0wA : w.heap.size ≤ wA.heap.size := (by omega))) | (go_at_call 53; refine (tkGood_any s hs _).mono ?_; rintro e w' ⟨rfl, rfl⟩) | (go_at_call 54; (with_reducible refine (P.out _).mono ?_); rintro e wB ⟨rfl, h1⟩; (try with_reducible replace h1 := undrew h1); have hB : Below w.heap.size w wB := ba (by go_grown) h1; obtain ⟨hcwB, hfwB⟩ := bcell h1; have hqwB := h1.size; (try simp at hqwB); (try have hz0wB : w.heap.size < wB.heap.size := (by omega)); (try have he0wB : w.heap.size ≤ wB.heap.size := (by omega)); (try have hz1wB : wA.heap.size < wB.heap.size := (by omega)); (try have he1wB : wA.heap.size ≤ wB.heap.size := (by omega))))
        go_returns
        exact ⟨rfl, by go_grown⟩

set_option maxRecDepth 100000 in
theorem imCanLay (b : Bq) (s : ByteArray) (hs : s.size ≤ 1048576) (w : World) : Calls Try.prog 23 #[bv b, .string s] w fun e w' => e = .returned (.tuple #[.bool (clR b s), .bool (btG b s)]) ∧ Below w.heap.size w w' := by
  have PB := Lib.hid (imIsBox b)
  unfold clR
  cases hb : bxB 40 b
  · rw [btG_no1 hb s]
    rw [hb] at PB
    clear hb
    go_enter Try.func23, Try.ntmps23
    go_wp2_with (first | (go_at_call 18; refine (PB.out _).mono ?_; rintro e w1 ⟨rfl, h1⟩; have hB : Below w.heap.size w w1 := ba (by go_grown) h1; obtain ⟨hc1, hf1⟩ := bcell h1; have hq := h1.size; (try simp at hq); have hz0 : w.heap.size < w1.heap.size := (by omega); have HK1 := Lib.hid h1; clear h1 hq))
    go_returns
    exact ⟨rfl, by go_grown⟩
  · cases ht : tkB s
    · rw [btG_no2 b ht]
      rw [hb] at PB
      clear hb
      go_enter Try.func23, Try.ntmps23
      go_wp2_with (first | (go_at_call 18; refine (PB.out _).mono ?_; rintro e w1 ⟨rfl, h1⟩; have hB : Below w.heap.size w w1 := ba (by go_grown) h1; obtain ⟨hc1, hf1⟩ := bcell h1; have hq := h1.size; (try simp at hq); have hz0 : w.heap.size < w1.heap.size := (by omega); have HK1 := Lib.hid h1; clear h1 hq) | (go_at_call 55; refine (imIsTrack_any s hs _).mono ?_; rintro e w' ⟨rfl, rfl⟩))
      go_returns
      exact ⟨rfl, by go_grown⟩
    · rw [btG_yes hb ht]
      rw [hb] at PB
      have P := Lib.hid (needsOf_any s ht)
      have PC := Lib.hid (covers_any b ⟨(stN s : Int), (cvN s : Int)⟩)
      have PS := Lib.hid (boxSupply_any b)
      generalize stN s = a at *
      generalize cvN s = c at *
      clear hb
      go_enter Try.func23, Try.ntmps23
      go_wp2_with (first | (go_at_call 18; (with_reducible refine (PB.out _).mono ?_); rintro e wA ⟨rfl, h1⟩; (try with_reducible replace h1 := undrew h1); have hB : Below w.heap.size w wA := ba (by go_grown) h1; obtain ⟨hcwA, hfwA⟩ := bcell h1; have hqwA := h1.size; (try simp at hqwA); (try have hz0wA : w.heap.size < wA.heap.size := (by omega)); (try have he0wA : w.heap.size ≤ wA.heap.size := (by omega))) | (go_at_call 55; refine (imIsTrack_any s hs _).mono ?_; rintro e w' ⟨rfl, rfl⟩) | (go_at_call 58; (with_reducible refine (PS.out _).mono ?_); rintro e wB ⟨rfl, h1⟩; (try with_reducible replace h1 := undrew h1); have hB : Below w.heap.size w wB := ba (by go_grown) h1; obtain ⟨hcwB, hfwB⟩ := bcell h1; have hqwB := h1.size; (try simp at hqwB); (try have hz0wB : w.heap.size < wB.heap.size := (by omega)); (try have he0wB : w.heap.size ≤ wB.heap.size := (by omega)); (try have hz1wB : wA.heap.size < wB.heap.size := (by omega)); (try have he1wB : wA.heap.size ≤ wB.heap.size := (by omega))) | (go_at_call 56; (with_reducible refine (P.out _).mono ?_); rintro e wC ⟨rfl, h1⟩; (try with_reducible replace h1 := undrew h1); have hB : Below w.heap.size w wC := ba (by go_grown) h1; obtain ⟨hcwC, hfwC⟩ := bcell h1; have hqwC := h1.size; (try simp at hqwC); (try have hz0wC : w.heap.size < wC.heap.size := (by omega)); (try have he0wC : w.heap.size ≤ wC.heap.size := (by omega)); (try have hz1wC : wA.heap.size < wC.heap.size := (by omega)); (try have he1wC : wA.heap.size ≤ wC.heap.size := (by omega))) | (go_at_call 59; (with_reducible refine (PC.out _).mono ?_); rintro e wD ⟨rfl, h1⟩; (try with_reducible replace h1 := undrew h1); have hB : Below w.heap.size w wD := ba (by go_grown) h1; obtain ⟨hcwD, hfwD⟩ := bcell h1; have hqwD := h1.size; (try simp at hqwD); (try have hz0wD : w.heap.size < wD.heap.size := (by omega)); (try have he0wD : w.heap.size ≤ wD.heap.size := (by omega)); (try have hz1wD : wA.heap.size < wD.heap.size := (by omega)); (try have he1wD : wA.heap.size ≤ wD.heap.size := (by omega))))
      go_returns
      exact ⟨rfl, by go_grown⟩

/-- The boxes' sum, if there is one. -/
def adG (a b : Bq) : Bool := bxB 40 a && bxB 40 b && bxB 40 ⟨a.x + b.x, a.r + b.r⟩

def adR (a b : Bq) : Bq := cond (adG a b) ⟨a.x + b.x, a.r + b.r⟩ ⟨0, 0⟩

theorem wrSum {a b : Int} (h : 0 ≤ a ∧ a ≤ 1000) (k : 0 ≤ b ∧ b ≤ 1000) : wrap64 (a + b) = a + b := IntWalk.wrap64_in _ ⟨by omega, by omega⟩

set_option maxRecDepth 100000 in
theorem onlyBox_any (b : Bq) (w : World) : Calls Try.prog 63 #[bv b] w fun e w' => e = .returned (.tuple #[.agg #[.int .i64 (cond (bxB 40 b) b.x 0), .int .i64 (cond (bxB 40 b) b.r 0)], .bool (bxB 40 b)]) ∧ Below w.heap.size w w' := by
  have P := Lib.hid (imIsBox b)
  obtain ⟨x, r⟩ := b
  simp only at P ⊢
  cases hb : bxB 40 ⟨x, r⟩
  all_goals
    rw [hb] at P
    clear hb
    go_enter Try.func63, Try.ntmps63
    go_wp2_with (go_at_call 18; refine (P.out _).mono ?_; rintro e w1 ⟨rfl, h1⟩; have hB : Below w.heap.size w w1 := ba (by go_grown) h1; obtain ⟨hc1, hf1⟩ := bcell h1; have hq := h1.size; (try simp at hq); have hz0 : w.heap.size < w1.heap.size := (by omega); have hz1 : w.heap.size + 1 < w1.heap.size := (by omega); have HK1 := Lib.hid h1; clear h1 hq)
    refine bodyPost_ret (by simp [results, Try.results63, go_sem, *]; try rfl) rfl ?_
    exact ⟨rfl, by go_grown⟩

set_option maxRecDepth 100000 in
set_option maxHeartbeats 800000 in
theorem spAddBoxes (a b : Bq) (w : World) : Calls Try.prog 45 #[bv a, bv b] w fun e w' => e = .returned (.tuple #[bv (adR a b), .bool (adG a b)]) ∧ Below w.heap.size w w' := by
  have PA := Lib.hid (spBox_any a)
  have PB := Lib.hid (spBox_any b)
  unfold adR adG
  cases ha : bxB 40 a
  · rw [ha] at PA
    clear ha
    go_enter Try.func45, Try.ntmps45
    go_wp2_with (first | (go_at_call 51; (with_reducible refine (PA.out _).mono ?_); rintro e wA ⟨rfl, h1⟩; (try with_reducible replace h1 := undrew h1); have hB : Below w.heap.size w wA := ba (by go_grown) h1; obtain ⟨hcwA, hfwA⟩ := bcell h1; have hqwA := h1.size; (try simp at hqwA); (try have hz0wA : w.heap.size < wA.heap.size := (by omega)); (try have he0wA : w.heap.size ≤ wA.heap.size := (by omega)); (try have hz1wA : w.heap.size + 1 < wA.heap.size := (by omega)); (try have he1wA : w.heap.size + 1 ≤ wA.heap.size := (by omega)); (try have hz2wA : w.heap.size + 1 + 1 < wA.heap.size := (by omega)); (try have he2wA : w.heap.size + 1 + 1 ≤ wA.heap.size := (by omega))))
    refine bodyPost_ret (by simp [results, Try.results45, go_sem, *]; try rfl) rfl ?_
    exact ⟨rfl, by go_grown⟩
  · cases hb : bxB 40 b
    · rw [ha] at PA
      rw [hb] at PB
      clear ha hb
      obtain ⟨ax, ar⟩ := a
      obtain ⟨bx, br⟩ := b
      go_enter Try.func45, Try.ntmps45
      go_wp2_with fail
      (go_at_call 51; (with_reducible refine (PA.out _).mono ?_); rintro e wA ⟨rfl, h1⟩; (try with_reducible replace h1 := undrew h1); have hB : Below w.heap.size w wA := ba (by go_grown) h1; obtain ⟨hcwA, hfwA⟩ := bcell h1; have hqwA := h1.size; (try simp at hqwA); (try have hz0wA : w.heap.size < wA.heap.size := (by omega)); (try have he0wA : w.heap.size ≤ wA.heap.size := (by omega)); (try have hz1wA : w.heap.size + 1 < wA.heap.size := (by omega)); (try have he1wA : w.heap.size + 1 ≤ wA.heap.size := (by omega)); (try have hz2wA : w.heap.size + 1 + 1 < wA.heap.size := (by omega)); (try have he2wA : w.heap.size + 1 + 1 ≤ wA.heap.size := (by omega)))
      go_wp2_with fail
      (go_at_call 51; (with_reducible refine (PB.out _).mono ?_); rintro e wB ⟨rfl, h1⟩; (try with_reducible replace h1 := undrew h1); have hB : Below w.heap.size w wB := ba (by go_grown) h1; obtain ⟨hcwB, hfwB⟩ := bcell h1; have hqwB := h1.size; (try simp at hqwB); (try have hz0wB : w.heap.size < wB.heap.size := (by omega)); (try have he0wB : w.heap.size ≤ wB.heap.size := (by omega)); (try have hz1wB : w.heap.size + 1 < wB.heap.size := (by omega)); (try have he1wB : w.heap.size + 1 ≤ wB.heap.size := (by omega)); (try have hz2wB : w.heap.size + 1 + 1 < wB.heap.size := (by omega)); (try have he2wB : w.heap.size + 1 + 1 ≤ wB.heap.size := (by omega)))
      go_wp2_with fail
      refine bodyPost_ret (by simp [results, Try.results45, go_sem, *]; try rfl) rfl ?_
      exact ⟨rfl, by go_grown⟩
    · obtain ⟨a0, a1, a2⟩ := bxB_yes ha
      obtain ⟨b0, b1, b2⟩ := bxB_yes hb
      rw [ha] at PA
      rw [hb] at PB
      clear ha hb
      obtain ⟨ax, ar⟩ := a
      obtain ⟨bx, br⟩ := b
      simp only at a0 a1 a2 b0 b1 b2
      have e0 := wrSum (a := ax) (b := bx) (by omega) (by omega)
      have e1 := wrSum (a := ar) (b := br) (by omega) (by omega)
      have PC := Lib.hid (spBox_any ⟨ax + bx, ar + br⟩)
      cases hc : bxB 40 ⟨ax + bx, ar + br⟩
      all_goals
        rw [hc] at PC
        clear hc
        go_enter Try.func45, Try.ntmps45
        go_wp2_with fail
        (go_at_call 51; (with_reducible refine (PA.out _).mono ?_); rintro e wA ⟨rfl, h1⟩; (try with_reducible replace h1 := undrew h1); have hB : Below w.heap.size w wA := ba (by go_grown) h1; obtain ⟨hcwA, hfwA⟩ := bcell h1; have hqwA := h1.size; (try simp at hqwA); (try have hz0wA : w.heap.size < wA.heap.size := (by omega)); (try have he0wA : w.heap.size ≤ wA.heap.size := (by omega)); (try have hz1wA : w.heap.size + 1 < wA.heap.size := (by omega)); (try have he1wA : w.heap.size + 1 ≤ wA.heap.size := (by omega)); (try have hz2wA : w.heap.size + 1 + 1 < wA.heap.size := (by omega)); (try have he2wA : w.heap.size + 1 + 1 ≤ wA.heap.size := (by omega)))
        go_wp2_with fail
        (go_at_call 51; (with_reducible refine (PB.out _).mono ?_); rintro e wB ⟨rfl, h1⟩; (try with_reducible replace h1 := undrew h1); have hB : Below w.heap.size w wB := ba (by go_grown) h1; obtain ⟨hcwB, hfwB⟩ := bcell h1; have hqwB := h1.size; (try simp at hqwB); (try have hz0wB : w.heap.size < wB.heap.size := (by omega)); (try have he0wB : w.heap.size ≤ wB.heap.size := (by omega)); (try have hz1wB : w.heap.size + 1 < wB.heap.size := (by omega)); (try have he1wB : w.heap.size + 1 ≤ wB.heap.size := (by omega)); (try have hz2wB : w.heap.size + 1 + 1 < wB.heap.size := (by omega)); (try have he2wB : w.heap.size + 1 + 1 ≤ wB.heap.size := (by omega)))
        go_wp2_with fail
        (go_at_call 51; (with_reducible refine (PC.out _).mono ?_); rintro e wC ⟨rfl, h1⟩; (try with_reducible replace h1 := undrew h1); have hB : Below w.heap.size w wC := ba (by go_grown) h1; obtain ⟨hcwC, hfwC⟩ := bcell h1; have hqwC := h1.size; (try simp at hqwC); (try have hz0wC : w.heap.size < wC.heap.size := (by omega)); (try have he0wC : w.heap.size ≤ wC.heap.size := (by omega)); (try have hz1wC : w.heap.size + 1 < wC.heap.size := (by omega)); (try have he1wC : w.heap.size + 1 ≤ wC.heap.size := (by omega)); (try have hz2wC : w.heap.size + 1 + 1 < wC.heap.size := (by omega)); (try have he2wC : w.heap.size + 1 + 1 ≤ wC.heap.size := (by omega)); (try have hz3wC : wB.heap.size < wC.heap.size := (by omega)); (try have he3wC : wB.heap.size ≤ wC.heap.size := (by omega)))
        go_wp2_with fail
        refine bodyPost_ret (by simp [results, Try.results45, go_sem, *]; try rfl) rfl ?_
        exact ⟨rfl, by go_grown⟩

set_option maxRecDepth 100000 in
set_option maxHeartbeats 800000 in
theorem imAddBoxes (a b : Bq) (w : World) : Calls Try.prog 46 #[bv a, bv b] w fun e w' => e = .returned (.tuple #[bv (adR a b), .bool (adG a b)]) ∧ Below w.heap.size w w' := by
  have PA := Lib.hid (imIsBox a)
  have PB := Lib.hid (imIsBox b)
  unfold adR adG
  cases ha : bxB 40 a
  · rw [ha] at PA
    clear ha
    go_enter Try.func46, Try.ntmps46
    go_wp2_with (first | (go_at_call 18; (with_reducible refine (PA.out _).mono ?_); rintro e wA ⟨rfl, h1⟩; (try with_reducible replace h1 := undrew h1); have hB : Below w.heap.size w wA := ba (by go_grown) h1; obtain ⟨hcwA, hfwA⟩ := bcell h1; have hqwA := h1.size; (try simp at hqwA); (try have hz0wA : w.heap.size < wA.heap.size := (by omega)); (try have he0wA : w.heap.size ≤ wA.heap.size := (by omega)); (try have hz1wA : w.heap.size + 1 < wA.heap.size := (by omega)); (try have he1wA : w.heap.size + 1 ≤ wA.heap.size := (by omega)); (try have hz2wA : w.heap.size + 1 + 1 < wA.heap.size := (by omega)); (try have he2wA : w.heap.size + 1 + 1 ≤ wA.heap.size := (by omega))))
    refine bodyPost_ret (by simp [results, Try.results46, go_sem, *]; try rfl) rfl ?_
    exact ⟨rfl, by go_grown⟩
  · cases hb : bxB 40 b
    · rw [ha] at PA
      rw [hb] at PB
      clear ha hb
      obtain ⟨ax, ar⟩ := a
      obtain ⟨bx, br⟩ := b
      go_enter Try.func46, Try.ntmps46
      go_wp2_with fail
      (go_at_call 18; (with_reducible refine (PA.out _).mono ?_); rintro e wA ⟨rfl, h1⟩; (try with_reducible replace h1 := undrew h1); have hB : Below w.heap.size w wA := ba (by go_grown) h1; obtain ⟨hcwA, hfwA⟩ := bcell h1; have hqwA := h1.size; (try simp at hqwA); (try have hz0wA : w.heap.size < wA.heap.size := (by omega)); (try have he0wA : w.heap.size ≤ wA.heap.size := (by omega)); (try have hz1wA : w.heap.size + 1 < wA.heap.size := (by omega)); (try have he1wA : w.heap.size + 1 ≤ wA.heap.size := (by omega)); (try have hz2wA : w.heap.size + 1 + 1 < wA.heap.size := (by omega)); (try have he2wA : w.heap.size + 1 + 1 ≤ wA.heap.size := (by omega)))
      go_wp2_with fail
      (go_at_call 18; (with_reducible refine (PB.out _).mono ?_); rintro e wB ⟨rfl, h1⟩; (try with_reducible replace h1 := undrew h1); have hB : Below w.heap.size w wB := ba (by go_grown) h1; obtain ⟨hcwB, hfwB⟩ := bcell h1; have hqwB := h1.size; (try simp at hqwB); (try have hz0wB : w.heap.size < wB.heap.size := (by omega)); (try have he0wB : w.heap.size ≤ wB.heap.size := (by omega)); (try have hz1wB : w.heap.size + 1 < wB.heap.size := (by omega)); (try have he1wB : w.heap.size + 1 ≤ wB.heap.size := (by omega)); (try have hz2wB : w.heap.size + 1 + 1 < wB.heap.size := (by omega)); (try have he2wB : w.heap.size + 1 + 1 ≤ wB.heap.size := (by omega)))
      go_wp2_with fail
      refine bodyPost_ret (by simp [results, Try.results46, go_sem, *]; try rfl) rfl ?_
      exact ⟨rfl, by go_grown⟩
    · obtain ⟨a0, a1, a2⟩ := bxB_yes ha
      obtain ⟨b0, b1, b2⟩ := bxB_yes hb
      rw [ha] at PA
      rw [hb] at PB
      clear ha hb
      have SA := Lib.hid (boxSupply_any a)
      have SB := Lib.hid (boxSupply_any b)
      have PL := plus_any a b
      obtain ⟨ax, ar⟩ := a
      obtain ⟨bx, br⟩ := b
      simp only at a0 a1 a2 b0 b1 b2 PL
      rw [wrSum (a := ax) (b := bx) (by omega) (by omega), wrSum (a := ar) (b := br) (by omega) (by omega)] at PL
      have PLH := Lib.hid PL
      have BX := Lib.hid (supplyBox_any ⟨ax + bx, ar + br⟩)
      have OB := Lib.hid (onlyBox_any ⟨ax + bx, ar + br⟩)
      clear PL
      generalize ax + bx = x at *
      generalize ar + br = r at *
      have OB2 : ∀ w, Calls Try.prog 63 #[.agg #[.int .i64 x, .int .i64 r]] w fun e w' => e = .returned (.tuple #[bv (cond (bxB 40 ⟨x, r⟩) ⟨x, r⟩ ⟨0, 0⟩), .bool (bxB 40 ⟨x, r⟩)]) ∧ Below w.heap.size w w' := fun w => by
        have := OB.out w
        cases h : bxB 40 ⟨x, r⟩ <;> (rw [h] at this; exact this)
      have OBH := Lib.hid OB2
      clear OB OB2
      simp only [Bool.true_and]
      generalize cond (bxB 40 ⟨x, r⟩) (⟨x, r⟩ : Bq) ⟨0, 0⟩ = q at *
      obtain ⟨qx, qr⟩ := q
      generalize bxB 40 ⟨x, r⟩ = g at *
      go_enter Try.func46, Try.ntmps46
      go_wp2_with fail
      (go_at_call 18; (with_reducible refine (PA.out _).mono ?_); rintro e wA ⟨rfl, h1⟩; (try with_reducible replace h1 := undrew h1); have hB : Below w.heap.size w wA := ba (by go_grown) h1; obtain ⟨hcwA, hfwA⟩ := bcell h1; have hqwA := h1.size; (try simp at hqwA); (try have hz0wA : w.heap.size < wA.heap.size := (by omega)); (try have he0wA : w.heap.size ≤ wA.heap.size := (by omega)); (try have hz1wA : w.heap.size + 1 < wA.heap.size := (by omega)); (try have he1wA : w.heap.size + 1 ≤ wA.heap.size := (by omega)); (try have hz2wA : w.heap.size + 1 + 1 < wA.heap.size := (by omega)); (try have he2wA : w.heap.size + 1 + 1 ≤ wA.heap.size := (by omega)))
      go_wp2_with fail
      (go_at_call 18; (with_reducible refine (PB.out _).mono ?_); rintro e wB ⟨rfl, h1⟩; (try with_reducible replace h1 := undrew h1); have hB : Below w.heap.size w wB := ba (by go_grown) h1; obtain ⟨hcwB, hfwB⟩ := bcell h1; have hqwB := h1.size; (try simp at hqwB); (try have hz0wB : w.heap.size < wB.heap.size := (by omega)); (try have he0wB : w.heap.size ≤ wB.heap.size := (by omega)); (try have hz1wB : w.heap.size + 1 < wB.heap.size := (by omega)); (try have he1wB : w.heap.size + 1 ≤ wB.heap.size := (by omega)); (try have hz2wB : w.heap.size + 1 + 1 < wB.heap.size := (by omega)); (try have he2wB : w.heap.size + 1 + 1 ≤ wB.heap.size := (by omega)))
      go_wp2_with fail
      refine absWB (F := fun W => (W.cell? ⟨w.heap.size, 0, none⟩ = some (.int .i64 ax)) ∧ (W.cell? ⟨w.heap.size, 1, none⟩ = some (.int .i64 ar)) ∧ (W.cell? ⟨w.heap.size + 1, 0, none⟩ = some (.int .i64 bx)) ∧ (W.cell? ⟨w.heap.size + 1, 1, none⟩ = some (.int .i64 br)) ∧ (∀ i, W.frozen? ⟨w.heap.size + 1 + 1, i, none⟩ = false) ∧ (W.cell? ⟨w.heap.size + 1 + 1, 0, none⟩ = some (.int .i64 0) ∧ W.cell? ⟨w.heap.size + 1 + 1, 1, none⟩ = some (.int .i64 0)) ∧ (w.heap.size + 1 + 1 < W.heap.size) ∧ Below w.heap.size w W) ⟨by go_simp, by go_simp, by go_simp, by go_simp, fun i => by go_simp, ⟨by go_simp, by go_simp⟩, by first | omega | (simp; omega), by go_grown⟩ ?_
      rintro W ⟨ca0_0, ca1_1, cb0_0, cb1_1, fr9, ⟨z90, z91⟩, hzW, HB⟩
      have ka0_0 := fun d os => cell_regrown ca0_0 d os
      have ka1_1 := fun d os => cell_regrown ca1_1 d os
      have kb0_0 := fun d os => cell_regrown cb0_0 d os
      have kb1_1 := fun d os => cell_regrown cb1_1 d os
      refine region_below_tail 9 (by kernel_rfl) (by kernel_rfl) ?_
      simp only [List.take_succ_cons, List.take_zero, List.drop_succ_cons, List.drop_zero]
      repeat (quiet_step (first | (go_at_call 58; with_reducible exact Calls.regrown_of (SA.out _)) | (go_at_call 58; with_reducible exact Calls.regrown_of (SB.out _)) | (go_at_call 83; with_reducible exact Calls.regrown_of (PLH.out _)) | (go_at_call 57; with_reducible exact Calls.regrown_of (BX.out _)) | (go_at_call 63; with_reducible exact Calls.regrown_of (OBH.out _))))
      refine wpQuiet_nil ?_
      rintro _ ⟨⟨dq, osq⟩, rfl⟩
      have hbw1 := below_regrown W dq osq
      generalize grow (redrawn W dq) osq = w1 at hbw1 ⊢
      obtain ⟨hcw1, hfw1⟩ := bcell hbw1
      have hlw1 := hbw1.size
      replace HB := ba HB hbw1
      go_wp2_with fail
      refine bodyPost_ret (by simp [results, Try.results46, go_sem, *]; try rfl) rfl ?_
      exact ⟨rfl, by go_grown⟩

def prG (b : Bq) (s c : Int) : Bool := bxB 40 b && (inB s 0 1000 && inB c 0 1000)

def prR (b : Bq) (s c : Int) : Int := cond (prG b s c) (b.x * s + b.r * c) 0

theorem pr_bd {x s : Int} (hx : 0 ≤ x) (hx2 : x ≤ 40) (hs : 0 ≤ s) (hs2 : s ≤ 1000) : 0 ≤ x * s ∧ x * s ≤ 40000 :=
  ⟨Int.mul_nonneg hx hs, Int.le_trans (Int.mul_le_mul hx2 hs2 hs (by decide)) (by decide)⟩

theorem price_any (b : Bq) (s c : Int) (hb : bxB 40 b = true) (hs : inB s 0 1000 = true) (hc : inB c 0 1000 = true) (w : World) : Calls Try.prog 86 #[bv b, .int .i64 s, .int .i64 c] w fun e w' => e = .returned (.int .i64 (b.x * s + b.r * c)) ∧ Below w.heap.size w w' := by
  obtain ⟨b0, b1, b2⟩ := bxB_yes hb
  have hs' : 0 ≤ s ∧ s ≤ 1000 := by simpa [inB] using hs
  have hc' : 0 ≤ c ∧ c ≤ 1000 := by simpa [inB] using hc
  obtain ⟨x, r⟩ := b
  simp only at b0 b1 b2 ⊢
  obtain ⟨p0, p1⟩ := pr_bd b0 (by omega) hs'.1 hs'.2
  obtain ⟨q0, q1⟩ := pr_bd b1 (by omega) hc'.1 hc'.2
  have e0 : wrap64 (x * s) = x * s := IntWalk.wrap64_in _ ⟨by omega, by omega⟩
  have e1 : wrap64 (r * c) = r * c := IntWalk.wrap64_in _ ⟨by omega, by omega⟩
  have e2 : wrap64 (x * s + r * c) = x * s + r * c := IntWalk.wrap64_in _ ⟨by omega, by omega⟩
  clear hb hs hc
  go_enter Try.func86, Try.ntmps86
  go_wp2_with fail
  go_returns
  exact ⟨rfl, by go_grown⟩

theorem spPrices_any (s c : Int) (w : World) : Calls Try.prog 84 #[.int .i64 s, .int .i64 c] w fun e w' => e = .returned (.bool (inB s 0 1000 && inB c 0 1000)) ∧ w = w' := by
  cases h0 : inB s 0 1000
  all_goals
    go_enter Try.func84, Try.ntmps84
    go_wp2_with (go_at_call 72; refine (l1In_any _ _ _ _).mono ?_; rintro e w' ⟨rfl, rfl⟩)
    go_ret
    exact ⟨rfl, rfl⟩

theorem arePrices_any (s c : Int) (w : World) : Calls Try.prog 85 #[.int .i64 s, .int .i64 c] w fun e w' => e = .returned (.bool (inB s 0 1000 && inB c 0 1000)) ∧ w = w' := by
  cases h0 : inB s 0 1000
  all_goals
    go_enter Try.func85, Try.ntmps85
    go_wp2_with (go_at_call 74; refine (isInRange_any _ _ _ _).mono ?_; rintro e w' ⟨rfl, rfl⟩)
    go_ret
    exact ⟨rfl, rfl⟩

end Go.Proofs.Ytkmgcmgnaeamaaa
