/- Contract: the end of a track that is laid from a point with a heading, in the program. -/
import Derived.Test.YtpaimngepmfemabEg
import Derived.Test.YtpaimngepmfemabEh
namespace Go.Proofs.Ytpaimngepmfemab
open Go.ChangeShapes Go.WideShapes Go.ChangeAt Go.RowKit

set_option linter.unusedVariables false
set_option linter.unusedSimpArgs false

set_option maxRecDepth 100000 in
set_option maxHeartbeats 6400000 in
theorem imEndFrom (s : ByteArray) (p0 p1 p2 p3 h : Int) (hs : s.size ≤ 1048576) (w : World) :
    Calls Try.prog 27 #[.string s, .agg #[.int .i64 p0, .int .i64 p1, .int .i64 p2, .int .i64 p3], .int .i64 h] w fun e w' =>
      e = .returned (.tuple #[.agg #[.int .i64 (efV s p0 p1 p2 p3 h).x0, .int .i64 (efV s p0 p1 p2 p3 h).x1, .int .i64 (efV s p0 p1 p2 p3 h).x2, .int .i64 (efV s p0 p1 p2 p3 h).x3], .int .i64 (efV s p0 p1 p2 p3 h).h, .bool (efG s p0 p1 p2 p3 h)]) ∧ Below w.heap.size w w' := by
  have he := endOf_any s hs
  cases tb : tkB s
  · have HG := Lib.hid (show efG s p0 p1 p2 p3 h = false by simp [efG, tb])
    rw [tb] at he
    generalize enS s = q at he
    obtain ⟨e0, e1, e2, e3, eh⟩ := q
    have HE := Lib.hid he
    clear he tb
    go_enter Try.func27, Try.ntmps27
    go_wp2_with (go_at_call 44; refine (HE.out _).mono ?_; rintro e w1 ⟨rfl, h1⟩; have hB : Below w.heap.size w w1 := ba (by go_grown) h1; obtain ⟨hc1, hf1⟩ := bcell h1; have hq := h1.size; (try simp at hq); have hz0 : w.heap.size < w1.heap.size := (by omega); have hz1 : w.heap.size + 1 < w1.heap.size := (by omega); clear h1 hq)
    refine bodyPost_ret (by simp [results, Try.results27, go_sem, *]; try rfl) rfl ?_
    exact ⟨ret_ef HG.out (ef_no HG.out), by go_grown⟩
  cases hg : goodB p0 p1 p2 p3
  · have HG := Lib.hid (show efG s p0 p1 p2 p3 h = false by simp [efG, hg])
    rw [tb] at he
    generalize enS s = q at he
    obtain ⟨e0, e1, e2, e3, eh⟩ := q
    have HE := Lib.hid he
    clear he tb
    go_enter Try.func27, Try.ntmps27
    go_wp2_with fail
    (go_at_call 44; (with_reducible refine (HE.out _).mono ?_); rintro e wA ⟨rfl, h1⟩; (try with_reducible replace h1 := undrew h1); have hB : Below w.heap.size w wA := ba (by go_grown) h1; obtain ⟨hcwA, hfwA⟩ := bcell h1; have hqwA := h1.size; (try simp at hqwA); (try have hz0wA : w.heap.size < wA.heap.size := (by omega)); (try have he0wA : w.heap.size ≤ wA.heap.size := (by omega)); (try have hz1wA : w.heap.size + 1 < wA.heap.size := (by omega)); (try have he1wA : w.heap.size + 1 ≤ wA.heap.size := (by omega)))
    go_wp2_with fail
    (go_at_call 48; (with_reducible refine (imIsPoint_any p0 p1 p2 p3 _).mono ?_); rintro e wB ⟨rfl, h1⟩; (try with_reducible replace h1 := undrew h1); have hB : Below w.heap.size w wB := ba (by go_grown) h1; obtain ⟨hcwB, hfwB⟩ := bcell h1; have hqwB := h1.size; (try simp at hqwB); (try have hz0wB : w.heap.size < wB.heap.size := (by omega)); (try have he0wB : w.heap.size ≤ wB.heap.size := (by omega)); (try have hz1wB : w.heap.size + 1 < wB.heap.size := (by omega)); (try have he1wB : w.heap.size + 1 ≤ wB.heap.size := (by omega)); (try have hz2wB : wA.heap.size < wB.heap.size := (by omega)); (try have he2wB : wA.heap.size ≤ wB.heap.size := (by omega)))
    go_wp2_with fail
    refine bodyPost_ret (by simp [results, Try.results27, go_sem, *]; try rfl) rfl ?_
    exact ⟨ret_ef HG.out (ef_no HG.out), by go_grown⟩
  cases hh : inB h 0 7
  · have HG := Lib.hid (show efG s p0 p1 p2 p3 h = false by simp [efG, hh])
    rw [tb] at he
    generalize enS s = q at he
    obtain ⟨e0, e1, e2, e3, eh⟩ := q
    have HE := Lib.hid he
    clear he tb
    go_enter Try.func27, Try.ntmps27
    go_wp2_with fail
    (go_at_call 44; (with_reducible refine (HE.out _).mono ?_); rintro e wA ⟨rfl, h1⟩; (try with_reducible replace h1 := undrew h1); have hB : Below w.heap.size w wA := ba (by go_grown) h1; obtain ⟨hcwA, hfwA⟩ := bcell h1; have hqwA := h1.size; (try simp at hqwA); (try have hz0wA : w.heap.size < wA.heap.size := (by omega)); (try have he0wA : w.heap.size ≤ wA.heap.size := (by omega)); (try have hz1wA : w.heap.size + 1 < wA.heap.size := (by omega)); (try have he1wA : w.heap.size + 1 ≤ wA.heap.size := (by omega)))
    go_wp2_with fail
    (go_at_call 48; (with_reducible refine (imIsPoint_any p0 p1 p2 p3 _).mono ?_); rintro e wB ⟨rfl, h1⟩; (try with_reducible replace h1 := undrew h1); have hB : Below w.heap.size w wB := ba (by go_grown) h1; obtain ⟨hcwB, hfwB⟩ := bcell h1; have hqwB := h1.size; (try simp at hqwB); (try have hz0wB : w.heap.size < wB.heap.size := (by omega)); (try have he0wB : w.heap.size ≤ wB.heap.size := (by omega)); (try have hz1wB : w.heap.size + 1 < wB.heap.size := (by omega)); (try have he1wB : w.heap.size + 1 ≤ wB.heap.size := (by omega)); (try have hz2wB : wA.heap.size < wB.heap.size := (by omega)); (try have he2wB : wA.heap.size ≤ wB.heap.size := (by omega)))
    go_wp2_with (go_at_call 49; refine (isHeading_any _ _).mono ?_; rintro e w' ⟨rfl, rfl⟩)
    refine bodyPost_ret (by simp [results, Try.results27, go_sem, *]; try rfl) rfl ?_
    exact ⟨ret_ef HG.out (ef_no HG.out), by go_grown⟩
  obtain ⟨b0, b0', b1, b1', b2, b2', b3, b3'⟩ := good_bd _ _ _ _ hg
  obtain ⟨h0, h7⟩ := in_bd hh
  have h40 := tkB_size tb
  have hG : efG s p0 p1 p2 p3 h = goodB (efF s p0 p1 p2 p3 h).x0 (efF s p0 p1 p2 p3 h).x1 (efF s p0 p1 p2 p3 h).x2 (efF s p0 p1 p2 p3 h).x3 := by simp [efG, tb, hg, hh]
  have hV := fun hq => @ef_yes s p0 p1 p2 p3 h hq
  have hrot : efF s p0 p1 p2 p3 h = rot ⟨p0, p1, p2, p3, h⟩ (enS s) := by rw [enS_yes tb]; exact fin_rot ⟨p0, p1, p2, p3, h⟩ h0 h7 s.data.toList
  have hok : (enS s).okB (0 + 2 * (s.data.toList.length : Nat)) := by rw [enS_yes tb]; exact fin_ok sp0_ok s.data.toList
  rw [size_list] at hok
  rw [hrot] at hG hV
  rw [tb] at he
  generalize enS s = q at he hG hV hok
  obtain ⟨e0, e1, e2, e3, eh⟩ := q
  simp only [Sp.okB] at hok
  obtain ⟨⟨k0, k0'⟩, ⟨k1, k1'⟩, ⟨k2, k2'⟩, ⟨k3, k3'⟩, k4, k5⟩ := hok
  have hT := times_tu h h0 h7 e0 e1 e2 e3 (by omega) (by omega) (by omega) (by omega) (by omega) (by omega) (by omega) (by omega)
  obtain ⟨m0, m0'⟩ := tu_sm0 h e0 e1 e2 e3 999999 (by omega) (by omega) (by omega) (by omega)
  obtain ⟨m1, m1'⟩ := tu_sm1 h e0 e1 e2 e3 999999 (by omega) (by omega) (by omega) (by omega)
  obtain ⟨m2, m2'⟩ := tu_sm2 h e0 e1 e2 e3 999999 (by omega) (by omega) (by omega) (by omega)
  obtain ⟨m3, m3'⟩ := tu_sm3 h e0 e1 e2 e3 999999 (by omega) (by omega) (by omega) (by omega)
  simp only [rot] at hG hV
  generalize tu0 h e0 e1 e2 e3 = t0 at hT hG hV m0 m0'
  generalize tu1 h e0 e1 e2 e3 = t1 at hT hG hV m1 m1'
  generalize tu2 h e0 e1 e2 e3 = t2 at hT hG hV m2 m2'
  generalize tu3 h e0 e1 e2 e3 = t3 at hT hG hV m3 m3'
  cases hq : goodB (p0 + t0) (p1 + t1) (p2 + t2) (p3 + t3)
  · refine (imEF_no s p0 p1 p2 p3 h e0 e1 e2 e3 eh t0 t1 t2 t3 w hg hh k4 k5 m0 m0' m1 m1' m2 m2' m3 m3' he hT hq).mono ?_
    rintro e w' ⟨rfl, hb⟩
    rw [hq] at hG
    exact ⟨ret_ef hG (ef_no hG), hb⟩
  · refine (imEF_yes s p0 p1 p2 p3 h e0 e1 e2 e3 eh t0 t1 t2 t3 w hg hh k4 k5 m0 m0' m1 m1' m2 m2' m3 m3' he hT hq).mono ?_
    rintro e w' ⟨rfl, hb⟩
    rw [hq] at hG
    exact ⟨ret_ef hG (hV hG), hb⟩

end Go.Proofs.Ytpaimngepmfemab
