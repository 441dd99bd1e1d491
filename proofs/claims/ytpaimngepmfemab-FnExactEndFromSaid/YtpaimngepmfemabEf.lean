/- Contract: the end of a track that is laid from a point with a heading, in the model. -/
import Derived.Test.YtpaimngepmfemabSe
import Derived.Test.YtpaimngepmfemabRoM
namespace Go.Proofs.Ytpaimngepmfemab
open Go.ChangeShapes Go.WideShapes Go.ChangeAt Go.RowKit

set_option linter.unusedVariables false

def efF (s : ByteArray) (p0 p1 p2 p3 h : Int) : Sp := fin ⟨p0, p1, p2, p3, h⟩ s.data.toList
def efG (s : ByteArray) (p0 p1 p2 p3 h : Int) : Bool := tkB s && (goodB p0 p1 p2 p3 && (inB h 0 7 && goodB (efF s p0 p1 p2 p3 h).x0 (efF s p0 p1 p2 p3 h).x1 (efF s p0 p1 p2 p3 h).x2 (efF s p0 p1 p2 p3 h).x3))
def efV (s : ByteArray) (p0 p1 p2 p3 h : Int) : Sp := cond (efG s p0 p1 p2 p3 h) (efF s p0 p1 p2 p3 h) sp0
theorem ret_ef {s : ByteArray} {p0 p1 p2 p3 h : Int} {v : Sp} {b : Bool} (hg : efG s p0 p1 p2 p3 h = b) (hv : efV s p0 p1 p2 p3 h = v) :
    Ending.returned (.tuple #[.agg #[.int .i64 v.x0, .int .i64 v.x1, .int .i64 v.x2, .int .i64 v.x3], .int .i64 v.h, .bool b]) =
    Ending.returned (.tuple #[.agg #[.int .i64 (efV s p0 p1 p2 p3 h).x0, .int .i64 (efV s p0 p1 p2 p3 h).x1, .int .i64 (efV s p0 p1 p2 p3 h).x2, .int .i64 (efV s p0 p1 p2 p3 h).x3], .int .i64 (efV s p0 p1 p2 p3 h).h, .bool (efG s p0 p1 p2 p3 h)]) := by rw [hg, hv]
theorem ef_no {s : ByteArray} {p0 p1 p2 p3 h : Int} (hg : efG s p0 p1 p2 p3 h = false) : efV s p0 p1 p2 p3 h = sp0 := by simp [efV, hg]
theorem ef_yes {s : ByteArray} {p0 p1 p2 p3 h : Int} (hg : efG s p0 p1 p2 p3 h = true) : efV s p0 p1 p2 p3 h = efF s p0 p1 p2 p3 h := by simp [efV, hg]

set_option maxRecDepth 100000 in
set_option maxHeartbeats 3200000 in
theorem spEndFrom (s : ByteArray) (p0 p1 p2 p3 h : Int) (hs : s.size ≤ 1048576) (w : World) :
    Calls Try.prog 25 #[.string s, .agg #[.int .i64 p0, .int .i64 p1, .int .i64 p2, .int .i64 p3], .int .i64 h] w fun e w' =>
      e = .returned (.tuple #[.agg #[.int .i64 (efV s p0 p1 p2 p3 h).x0, .int .i64 (efV s p0 p1 p2 p3 h).x1, .int .i64 (efV s p0 p1 p2 p3 h).x2, .int .i64 (efV s p0 p1 p2 p3 h).x3], .int .i64 (efV s p0 p1 p2 p3 h).h, .bool (efG s p0 p1 p2 p3 h)]) ∧ Below w.heap.size w w' := by
  cases tb : tkB s
  · have HG := Lib.hid (show efG s p0 p1 p2 p3 h = false by simp [efG, tb])
    go_enter Try.func25, Try.ntmps25
    go_wp2_with (go_at_call 39; refine (tkGood_any s hs _).mono ?_; rintro e w' ⟨rfl, rfl⟩)
    refine bodyPost_ret (by simp [results, Try.results25, go_sem, *]; try rfl) rfl ?_
    exact ⟨ret_ef HG.out (ef_no HG.out), by go_grown⟩
  cases hg : goodB p0 p1 p2 p3
  · have HG := Lib.hid (show efG s p0 p1 p2 p3 h = false by simp [efG, hg])
    go_enter Try.func25, Try.ntmps25
    go_wp2_with (first | (go_at_call 39; refine (tkGood_any s hs _).mono ?_; rintro e w' ⟨rfl, rfl⟩) | (go_at_call 45; refine (spGood_any _ _ _ _ _).mono ?_; rintro e w1 ⟨rfl, h1⟩; have hB : Below w.heap.size w w1 := ba (by go_grown) h1; obtain ⟨hc1, hf1⟩ := bcell h1; have hq := h1.size; (try simp at hq); have hz0 : w.heap.size < w1.heap.size := (by omega); have hz1 : w.heap.size + 1 < w1.heap.size := (by omega); clear h1 hq))
    refine bodyPost_ret (by simp [results, Try.results25, go_sem, *]; try rfl) rfl ?_
    exact ⟨ret_ef HG.out (ef_no HG.out), by go_grown⟩
  cases hh : inB h 0 7
  · have HG := Lib.hid (show efG s p0 p1 p2 p3 h = false by simp [efG, hh])
    go_enter Try.func25, Try.ntmps25
    go_wp2_with (first | (go_at_call 39; refine (tkGood_any s hs _).mono ?_; rintro e w' ⟨rfl, rfl⟩) | (go_at_call 45; refine (spGood_any _ _ _ _ _).mono ?_; rintro e w1 ⟨rfl, h1⟩; have hB : Below w.heap.size w w1 := ba (by go_grown) h1; obtain ⟨hc1, hf1⟩ := bcell h1; have hq := h1.size; (try simp at hq); have hz0 : w.heap.size < w1.heap.size := (by omega); have hz1 : w.heap.size + 1 < w1.heap.size := (by omega); clear h1 hq) | (go_at_call 46; refine (l1In_any _ _ _ _).mono ?_; rintro e w' ⟨rfl, rfl⟩))
    refine bodyPost_ret (by simp [results, Try.results25, go_sem, *]; try rfl) rfl ?_
    exact ⟨ret_ef HG.out (ef_no HG.out), by go_grown⟩
  obtain ⟨b0, b0', b1, b1', b2, b2', b3, b3'⟩ := good_bd _ _ _ _ hg
  obtain ⟨h0, h7⟩ := in_bd hh
  have hok : (⟨p0, p1, p2, p3, h⟩ : Sp).okB 1000000 := by simp only [Sp.okB]; omega
  have hc := tkLay_any s tb ⟨p0, p1, p2, p3, h⟩ hok
  have hL := lays_atA ⟨p0, p1, p2, p3, h⟩ s
  have HN := Lib.hid (lays_lenA ⟨p0, p1, p2, p3, h⟩ s)
  have hG : efG s p0 p1 p2 p3 h = goodB (efF s p0 p1 p2 p3 h).x0 (efF s p0 p1 p2 p3 h).x1 (efF s p0 p1 p2 p3 h).x2 (efF s p0 p1 p2 p3 h).x3 := by simp [efG, tb, hg, hh]
  have hV := fun hq => @ef_yes s p0 p1 p2 p3 h hq
  have h40 := tkB_size tb
  generalize hf : fin ⟨p0, p1, p2, p3, h⟩ s.data.toList = q at hL
  have hf2 : efF s p0 p1 p2 p3 h = q := hf
  rw [hf2] at hG hV
  have HL := Lib.hid hL
  have HC := Lib.hid hc
  obtain ⟨f0, f1, f2, f3, fh⟩ := q
  clear hf hf2 hL hc
  simp only at hG
  cases hq : goodB f0 f1 f2 f3
  · rw [hq] at hG
    have HG := Lib.hid hG
    have HV := Lib.hid hV
    clear hG hV
    go_enter Try.func25, Try.ntmps25
    go_wp2_with (first | (go_at_call 39; refine (tkGood_any s hs _).mono ?_; rintro e w' ⟨rfl, rfl⟩) | (go_at_call 45; (with_reducible refine (spGood_any p0 p1 p2 p3 _).mono ?_); rintro e wA ⟨rfl, h1⟩; (try with_reducible replace h1 := undrew h1); have hB : Below w.heap.size w wA := ba (by go_grown) h1; obtain ⟨hcwA, hfwA⟩ := bcell h1; have hqwA := h1.size; (try simp at hqwA); (try have hz0wA : w.heap.size < wA.heap.size := (by omega)); (try have he0wA : w.heap.size ≤ wA.heap.size := (by omega)); (try have hz1wA : w.heap.size + 1 < wA.heap.size := (by omega)); (try have he1wA : w.heap.size + 1 ≤ wA.heap.size := (by omega))) | (go_at_call 46; refine (l1In_any _ _ _ _).mono ?_; rintro e w' ⟨rfl, rfl⟩))
    refine (HC.out _).mono ?_
    rintro e w1 ⟨gj, cj, gh, ch, rfl, hJ, hH, hb1⟩
    obtain ⟨c0, c1, c2, c3⟩ := own_pt hJ HN.out HL.out
    have c4 := own_hd hH HN.out HL.out
    have g1 := (hJ.lt gj rfl).1
    have g2 := (hH.lt gh rfl).1
    have g1' := (hJ.lt gj rfl).2
    have g2' := (hH.lt gh rfl).2
    have hz := hb1.size
    obtain ⟨hc1, hf1⟩ := bcell hb1
    have hB1 : Below w.heap.size w w1 := ba (by go_grown) hb1
    have n0 : w.heap.size < w1.heap.size := by omega
    have n0' : w.heap.size + 1 < w1.heap.size := by omega
    have n1 : ¬ gj = w.heap.size + 1 := by omega
    have n2 : ¬ gh = w.heap.size + 1 := by omega
    have n3 : ¬ w.heap.size + 1 = gj := by omega
    have n4 : ¬ w.heap.size + 1 = gh := by omega
    clear hJ hH hb1 hB
    go_wp2_with fail
    (go_at_call 45; (with_reducible refine (spGood_any f0 f1 f2 f3 _).mono ?_); rintro e wE ⟨rfl, h1⟩; (try with_reducible replace h1 := undrew h1); have hB : Below w.heap.size w wE := ba (by go_grown) h1; obtain ⟨hcwE, hfwE⟩ := bcell h1; have hqwE := h1.size; (try simp at hqwE); (try have hz0wE : w.heap.size < wE.heap.size := (by omega)); (try have he0wE : w.heap.size ≤ wE.heap.size := (by omega)); (try have hz1wE : w.heap.size + 1 < wE.heap.size := (by omega)); (try have he1wE : w.heap.size + 1 ≤ wE.heap.size := (by omega)); (try have hz2wE : w1.heap.size < wE.heap.size := (by omega)); (try have he2wE : w1.heap.size ≤ wE.heap.size := (by omega)); (try have hz3wE : gj < wE.heap.size := (by omega)); (try have he3wE : gj ≤ wE.heap.size := (by omega)); (try have hz4wE : gh < wE.heap.size := (by omega)); (try have he4wE : gh ≤ wE.heap.size := (by omega)))
    go_wp2_with fail
    refine bodyPost_ret (by simp [results, Try.results25, go_sem, *]; try rfl) rfl ?_
    exact ⟨ret_ef HG.out (ef_no HG.out), by go_grown⟩
  · rw [hq] at hG
    have HG := Lib.hid hG
    have HV := Lib.hid hV
    clear hG hV
    go_enter Try.func25, Try.ntmps25
    go_wp2_with (first | (go_at_call 39; refine (tkGood_any s hs _).mono ?_; rintro e w' ⟨rfl, rfl⟩) | (go_at_call 45; (with_reducible refine (spGood_any p0 p1 p2 p3 _).mono ?_); rintro e wA ⟨rfl, h1⟩; (try with_reducible replace h1 := undrew h1); have hB : Below w.heap.size w wA := ba (by go_grown) h1; obtain ⟨hcwA, hfwA⟩ := bcell h1; have hqwA := h1.size; (try simp at hqwA); (try have hz0wA : w.heap.size < wA.heap.size := (by omega)); (try have he0wA : w.heap.size ≤ wA.heap.size := (by omega)); (try have hz1wA : w.heap.size + 1 < wA.heap.size := (by omega)); (try have he1wA : w.heap.size + 1 ≤ wA.heap.size := (by omega))) | (go_at_call 46; refine (l1In_any _ _ _ _).mono ?_; rintro e w' ⟨rfl, rfl⟩))
    refine (HC.out _).mono ?_
    rintro e w1 ⟨gj, cj, gh, ch, rfl, hJ, hH, hb1⟩
    obtain ⟨c0, c1, c2, c3⟩ := own_pt hJ HN.out HL.out
    have c4 := own_hd hH HN.out HL.out
    have g1 := (hJ.lt gj rfl).1
    have g2 := (hH.lt gh rfl).1
    have g1' := (hJ.lt gj rfl).2
    have g2' := (hH.lt gh rfl).2
    have hz := hb1.size
    obtain ⟨hc1, hf1⟩ := bcell hb1
    have hB1 : Below w.heap.size w w1 := ba (by go_grown) hb1
    have n0 : w.heap.size < w1.heap.size := by omega
    have n0' : w.heap.size + 1 < w1.heap.size := by omega
    have n1 : ¬ gj = w.heap.size + 1 := by omega
    have n2 : ¬ gh = w.heap.size + 1 := by omega
    have n3 : ¬ w.heap.size + 1 = gj := by omega
    have n4 : ¬ w.heap.size + 1 = gh := by omega
    clear hJ hH hb1 hB
    go_wp2_with fail
    (go_at_call 45; (with_reducible refine (spGood_any f0 f1 f2 f3 _).mono ?_); rintro e wE ⟨rfl, h1⟩; (try with_reducible replace h1 := undrew h1); have hB : Below w.heap.size w wE := ba (by go_grown) h1; obtain ⟨hcwE, hfwE⟩ := bcell h1; have hqwE := h1.size; (try simp at hqwE); (try have hz0wE : w.heap.size < wE.heap.size := (by omega)); (try have he0wE : w.heap.size ≤ wE.heap.size := (by omega)); (try have hz1wE : w.heap.size + 1 < wE.heap.size := (by omega)); (try have he1wE : w.heap.size + 1 ≤ wE.heap.size := (by omega)); (try have hz2wE : w1.heap.size < wE.heap.size := (by omega)); (try have he2wE : w1.heap.size ≤ wE.heap.size := (by omega)); (try have hz3wE : gj < wE.heap.size := (by omega)); (try have he3wE : gj ≤ wE.heap.size := (by omega)); (try have hz4wE : gh < wE.heap.size := (by omega)); (try have he4wE : gh ≤ wE.heap.size := (by omega)))
    go_wp2_with fail
    go_region
    all_goals
      go_wp2_with fail
      refine bodyPost_ret (by simp [results, Try.results25, go_sem, *]; try rfl) rfl ?_
      exact ⟨ret_ef HG.out (HV.out HG.out), by go_grown⟩

end Go.Proofs.Ytpaimngepmfemab
