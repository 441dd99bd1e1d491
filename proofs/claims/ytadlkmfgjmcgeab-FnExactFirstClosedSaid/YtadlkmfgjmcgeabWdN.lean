/- Whatever n pieces lead back from lies no farther than n from the beginning. -/
import Derived.Test.YtadlkmfgjmcgeabWdM
import Derived.Test.YtadlkmfgjmcgeabPtNorm
import Derived.Test.YtadlkmfgjmcgeabSqS
import Derived.Test.YtadlkmfgjmcgeabNb
namespace Go.Proofs.Ytadlkmfgjmcgeab

abbrev cone (a b : Int) : Prop := 0 ≤ 5 * a + 7 * b ∧ 0 ≤ 2 * a + 3 * b
def R0 (s0 s1 s2 s3 t0 t1 t2 t3 : Int) : Int := 2 * (s0 * t0) + 2 * (s1 * t1) + 2 * (s2 * t2) + 2 * (s3 * t3)
def R1 (s0 s1 s2 s3 t0 t1 t2 t3 : Int) : Int := s0 * t1 + s1 * t0 + s1 * t2 + s2 * t1 + s2 * t3 + s3 * t2 - s0 * t3 - s3 * t0
def hd8 : List Int := [0, 1, 2, 3, 4, 5, 6, 7]
theorem hd8_mem {h : Int} (h0 : 0 ≤ h) (h7 : h ≤ 7) : h ∈ hd8 := by
  have e : h = 0 ∨ h = 1 ∨ h = 2 ∨ h = 3 ∨ h = 4 ∨ h = 5 ∨ h = 6 ∨ h = 7 := by omega
  rcases e with rfl | rfl | rfl | rfl | rfl | rfl | rfl | rfl <;> simp [hd8]
theorem ltr_mem {c : UInt8} (h : c ∈ ltr) : c = 76 ∨ c = 82 ∨ c = 83 := by simpa [ltr] using h

theorem pairs8 : ∀ c ∈ ltr, ∀ h ∈ hd8, ∀ c' ∈ ltr, ∀ h' ∈ hd8, cone (2 - R0 (dd0 c h) (dd1 c h) (dd2 c h) (dd3 c h) (dd0 c' h') (dd1 c' h') (dd2 c' h') (dd3 c' h')) (-(R1 (dd0 c h) (dd1 c h) (dd2 c h) (dd3 c h) (dd0 c' h') (dd1 c' h') (dd2 c' h') (dd3 c' h'))) := by decide +kernel
theorem ones8 : ∀ c ∈ ltr, ∀ h ∈ hd8, cone (1 - (dd0 c h * dd0 c h + dd1 c h * dd1 c h + dd2 c h * dd2 c h + dd3 c h * dd3 c h)) (-(dd0 c h * dd1 c h + dd1 c h * dd2 c h + dd2 c h * dd3 c h - dd0 c h * dd3 c h)) := by decide +kernel

def NearS (s : Sp) (m : Int) : Prop := ∀ c ∈ ltr, ∀ h ∈ hd8, cone (2 * m - R0 s.x0 s.x1 s.x2 s.x3 (dd0 c h) (dd1 c h) (dd2 c h) (dd3 c h)) (-(R1 s.x0 s.x1 s.x2 s.x3 (dd0 c h) (dd1 c h) (dd2 c h) (dd3 c h)))
def NormS (s : Sp) (m : Int) : Prop := cone (m * m - (s.x0 * s.x0 + s.x1 * s.x1 + s.x2 * s.x2 + s.x3 * s.x3)) (-(s.x0 * s.x1 + s.x1 * s.x2 + s.x2 * s.x3 - s.x0 * s.x3))

theorem near_next {s : Sp} {m : Int} (hN : NearS s m) (h0 : 0 ≤ s.h) (h7 : s.h ≤ 7) {c : UInt8} (hc : c ∈ ltr) : NearS (s.next c) (m + 1) := by
  intro c' hc' h' hh'
  have a := hN c' hc' h' hh'
  have b := pairs8 c hc s.h (hd8_mem h0 h7) c' hc' h' hh'
  simp only [Sp.next]
  generalize dd0 c s.h = u0 at *
  generalize dd1 c s.h = u1 at *
  generalize dd2 c s.h = u2 at *
  generalize dd3 c s.h = u3 at *
  generalize dd0 c' h' = t0 at *
  generalize dd1 c' h' = t1 at *
  generalize dd2 c' h' = t2 at *
  generalize dd3 c' h' = t3 at *
  simp only [cone, R0, R1, Int.add_mul] at a b ⊢
  omega

theorem norm_next {s : Sp} {m : Int} (hM : NormS s m) (hN : NearS s m) (h0 : 0 ≤ s.h) (h7 : s.h ≤ 7) {c : UInt8} (hc : c ∈ ltr) : NormS (s.next c) (m + 1) := by
  have a := hN c hc s.h (hd8_mem h0 h7)
  have b := ones8 c hc s.h (hd8_mem h0 h7)
  unfold NormS at hM ⊢
  simp only [Sp.next]
  generalize dd0 c s.h = t0 at *
  generalize dd1 c s.h = t1 at *
  generalize dd2 c s.h = t2 at *
  generalize dd3 c s.h = t3 at *
  obtain ⟨x0, x1, x2, x3, x4⟩ := s
  simp only [cone, R0, R1, Int.add_mul, Int.mul_add] at a b hM ⊢
  rw [Int.mul_comm t0 x0, Int.mul_comm t1 x1, Int.mul_comm t2 x2, Int.mul_comm t3 x3, Int.mul_comm t0 x1, Int.mul_comm t1 x2, Int.mul_comm t2 x3, Int.mul_comm t0 x3]
  omega

theorem near_all : ∀ (n : Nat) (h : Int), 0 ≤ h → h ≤ 7 → ∀ w ∈ words n, NearS (fin ⟨0, 0, 0, 0, h⟩ w) n ∧ NormS (fin ⟨0, 0, 0, 0, h⟩ w) n ∧ 0 ≤ (fin ⟨0, 0, 0, 0, h⟩ w).h ∧ (fin ⟨0, 0, 0, 0, h⟩ w).h ≤ 7
  | 0, h, h0, h7, w, hw => by
    simp only [words, List.mem_cons, List.not_mem_nil, or_false] at hw
    subst hw
    refine ⟨?_, ?_, h0, h7⟩
    · intro c hc h' hh'
      simp [fin, R0, R1, cone]
    · simp [fin, NormS, cone]
  | n + 1, h, h0, h7, w, hw => by
    simp only [words, List.mem_flatMap, List.mem_map] at hw
    obtain ⟨u, hu, c, hc, rfl⟩ := hw
    obtain ⟨a, b, d, e⟩ := near_all n h h0 h7 u hu
    rw [fin_snoc]
    have f := nh_bd c _ d e
    exact ⟨near_next a d e hc, norm_next b a d e hc, f.1, f.2⟩

theorem far_sgn {u v : Int} (h1 : 5 * u + 7 * v ≤ 0) (h2 : 2 * u + 3 * v ≤ 0) : sgn2 u v ≤ 0 := by
  have sg_le : ∀ n : Int, n ≤ 0 → sg n ≤ 0 := fun n hn => by unfold sg; split <;> (try split) <;> omega
  unfold sgn2
  cases hg : G1 u v
  · refine sg_le v ?_
    have hg' : ¬ (2 * (v * v) < u * u) := of_decide_eq_false hg
    refine Classical.byContradiction fun hv => ?_
    have e1 := Int.mul_nonneg (show (0 : Int) ≤ -2 * u - 3 * v by omega) (show (0 : Int) ≤ -2 * u + 3 * v by omega)
    have e2 := Int.mul_pos (show (0 : Int) < v by omega) (show (0 : Int) < v by omega)
    have e3 : (-2 * u - 3 * v) * (-2 * u + 3 * v) = 4 * (u * u) - 9 * (v * v) := by
      simp only [Int.mul_add, Int.sub_mul, Int.neg_mul, Int.mul_neg, Int.mul_assoc]
      rw [Int.mul_left_comm u 2 u, Int.mul_left_comm u 3 v, Int.mul_left_comm v 2 u, Int.mul_left_comm v 3 v, Int.mul_comm v u]
      omega
    omega
  · refine sg_le u ?_
    have hg' : 2 * (v * v) < u * u := of_decide_eq_true hg
    refine Classical.byContradiction fun hu => ?_
    have e1 := Int.mul_nonneg (show (0 : Int) ≤ -7 * v - 5 * u by omega) (show (0 : Int) ≤ -7 * v + 5 * u by omega)
    have e2 := Int.mul_pos (show (0 : Int) < u by omega) (show (0 : Int) < u by omega)
    have e3 : (-7 * v - 5 * u) * (-7 * v + 5 * u) = 49 * (v * v) - 25 * (u * u) := by
      simp only [Int.mul_add, Int.sub_mul, Int.neg_mul, Int.mul_neg, Int.mul_assoc]
      rw [Int.mul_left_comm v 7 v, Int.mul_left_comm v 5 u, Int.mul_left_comm u 7 v, Int.mul_left_comm u 5 u, Int.mul_comm u v]
      omega
    omega

theorem nm_plain (a0 a1 a2 a3 : Int) (p0 : -999999 ≤ a0) (q0 : a0 ≤ 999999) (p1 : -999999 ≤ a1) (q1 : a1 ≤ 999999) (p2 : -999999 ≤ a2) (q2 : a2 ≤ 999999) (p3 : -999999 ≤ a3) (q3 : a3 ≤ 999999) :
    nm0 a0 a1 a2 a3 = a0 * a0 + a1 * a1 + a2 * a2 + a3 * a3 ∧ nm1 a0 a1 a2 a3 = a0 * a1 + a1 * a2 + a2 * a3 - a0 * a3 := by
  obtain ⟨l00, u00⟩ := mul_bd a0 a0 p0 q0 p0 q0
  obtain ⟨l11, u11⟩ := mul_bd a1 a1 p1 q1 p1 q1
  obtain ⟨l22, u22⟩ := mul_bd a2 a2 p2 q2 p2 q2
  obtain ⟨l33, u33⟩ := mul_bd a3 a3 p3 q3 p3 q3
  obtain ⟨l01, u01⟩ := mul_bd a0 a1 p0 q0 p1 q1
  obtain ⟨l12, u12⟩ := mul_bd a1 a2 p1 q1 p2 q2
  obtain ⟨l23, u23⟩ := mul_bd a2 a3 p2 q2 p3 q3
  obtain ⟨l03, u03⟩ := mul_bd a0 a3 p0 q0 p3 q3
  unfold nm0 nm1
  rw [w64n (a0 * a0) (by omega) (by omega), w64n (a1 * a1) (by omega) (by omega), w64n (a2 * a2) (by omega) (by omega), w64n (a3 * a3) (by omega) (by omega), w64n (a0 * a1) (by omega) (by omega), w64n (a1 * a2) (by omega) (by omega), w64n (a2 * a3) (by omega) (by omega), w64n (a0 * a3) (by omega) (by omega)]
  rw [w64n (a0 * a0 + a1 * a1) (by omega) (by omega), w64n (a0 * a1 + a1 * a2) (by omega) (by omega)]
  rw [w64n (a0 * a0 + a1 * a1 + a2 * a2) (by omega) (by omega), w64n (a0 * a1 + a1 * a2 + a2 * a3) (by omega) (by omega)]
  rw [w64n (a0 * a0 + a1 * a1 + a2 * a2 + a3 * a3) (by omega) (by omega), w64n (a0 * a1 + a1 * a2 + a2 * a3 - a0 * a3) (by omega) (by omega)]
  exact ⟨rfl, rfl⟩

/-- What lies too far is led back by no text of n pieces. -/
theorem cls_far (a : Sp) (ha : a.okB 999999) (n : Nat) (h : 0 < sgn2 (nm0 a.x0 a.x1 a.x2 a.x3 - (n : Int) * n) (nm1 a.x0 a.x1 a.x2 a.x3)) : clsL a n = [] := by
  obtain ⟨⟨b0, b0'⟩, ⟨b1, b1'⟩, ⟨b2, b2'⟩, ⟨b3, b3'⟩, b4, b5⟩ := ha
  obtain ⟨e0, e1⟩ := nm_plain a.x0 a.x1 a.x2 a.x3 b0 b0' b1 b1' b2 b2' b3 b3'
  refine List.filter_eq_nil_iff.2 fun w hw hf => ?_
  rw [spE_iff, fin_rot a b4 b5] at hf
  obtain ⟨_, hM, _, _⟩ := near_all n a.h b4 b5 w hw
  rw [fin_rot ⟨0, 0, 0, 0, a.h⟩ b4 b5] at hM
  replace hf : rot a (fin sp0 w) = ⟨0, 0, 0, 0, 0⟩ := hf
  simp only [rot, Sp.mk.injEq, Int.zero_add, NormS] at hf hM
  obtain ⟨f0, f1, f2, f3, _⟩ := hf
  generalize tu0 a.h (fin sp0 w).x0 (fin sp0 w).x1 (fin sp0 w).x2 (fin sp0 w).x3 = t0 at f0 hM
  generalize tu1 a.h (fin sp0 w).x0 (fin sp0 w).x1 (fin sp0 w).x2 (fin sp0 w).x3 = t1 at f1 hM
  generalize tu2 a.h (fin sp0 w).x0 (fin sp0 w).x1 (fin sp0 w).x2 (fin sp0 w).x3 = t2 at f2 hM
  generalize tu3 a.h (fin sp0 w).x0 (fin sp0 w).x1 (fin sp0 w).x2 (fin sp0 w).x3 = t3 at f3 hM
  obtain rfl : t0 = -a.x0 := by omega
  obtain rfl : t1 = -a.x1 := by omega
  obtain rfl : t2 = -a.x2 := by omega
  obtain rfl : t3 = -a.x3 := by omega
  simp only [Int.neg_mul_neg] at hM
  rw [e0, e1] at h
  have := far_sgn (u := a.x0 * a.x0 + a.x1 * a.x1 + a.x2 * a.x2 + a.x3 * a.x3 - (n : Int) * n) (v := a.x0 * a.x1 + a.x1 * a.x2 + a.x2 * a.x3 - a.x0 * a.x3) (by have := hM.1; omega) (by have := hM.2; omega)
  omega

theorem cls_zero (a : Sp) : clsL a 0 = cond (spE a sp0) [[]] [] := by
  simp only [clsL, words, List.filter_cons, List.filter_nil, fin, List.foldl_nil]
  by_cases h : spE a sp0 = true <;> simp [h]
theorem cls_succ (a : Sp) (n : Nat) : clsL a (n + 1) = ltr.flatMap fun c => (clsL (a.next c) n).map fun w => c :: w := by
  simp only [clsL, words_cons, List.filter_flatMap, List.filter_map, Function.comp_def, fin_cons]
theorem cls_len (a : Sp) (n : Nat) : (clsL a n).length ≤ 3 ^ n := by
  rw [← words_count n]
  exact List.length_filter_le _ _

end Go.Proofs.Ytadlkmfgjmcgeab
