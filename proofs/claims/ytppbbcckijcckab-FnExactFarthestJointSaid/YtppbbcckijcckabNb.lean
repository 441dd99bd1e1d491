/- Norms of joints are small; the farthest joint. -/
import Derived.Test.YtppbbcckijcckabPtNorm
import Derived.Test.YtppbbcckijcckabPtTurn2
import Derived.Test.YtppbbcckijcckabStM
import Derived.Test.YtppbbcckijcckabSqL
namespace Go.Proofs.Ytppbbcckijcckab
open Go.ChangeShapes Go.WideShapes Go.ChangeAt Go.RowKit

theorem w64n (n : Int) (h0 : -9000000000000000000 ≤ n) (h1 : n ≤ 9000000000000000000) : wrap64 n = n := IntWalk.wrap64_in n ⟨by omega, by omega⟩

theorem nm_bd (a0 a1 a2 a3 : Int) (p0 : -999999 ≤ a0) (q0 : a0 ≤ 999999) (p1 : -999999 ≤ a1) (q1 : a1 ≤ 999999) (p2 : -999999 ≤ a2) (q2 : a2 ≤ 999999) (p3 : -999999 ≤ a3) (q3 : a3 ≤ 999999) : -4000000000000 ≤ nm0 a0 a1 a2 a3 ∧ nm0 a0 a1 a2 a3 ≤ 4000000000000 ∧ -4000000000000 ≤ nm1 a0 a1 a2 a3 ∧ nm1 a0 a1 a2 a3 ≤ 4000000000000 := by
  obtain ⟨l00, u00⟩ := mul_bd a0 a0 p0 q0 p0 q0
  obtain ⟨l11, u11⟩ := mul_bd a1 a1 p1 q1 p1 q1
  obtain ⟨l22, u22⟩ := mul_bd a2 a2 p2 q2 p2 q2
  obtain ⟨l33, u33⟩ := mul_bd a3 a3 p3 q3 p3 q3
  obtain ⟨l01, u01⟩ := mul_bd a0 a1 p0 q0 p1 q1
  obtain ⟨l12, u12⟩ := mul_bd a1 a2 p1 q1 p2 q2
  obtain ⟨l23, u23⟩ := mul_bd a2 a3 p2 q2 p3 q3
  obtain ⟨l03, u03⟩ := mul_bd a0 a3 p0 q0 p3 q3
  unfold nm0 nm1
  rw [w64n (a0 * a0) (by omega) (by omega), w64n (a1 * a1) (by omega) (by omega), w64n (a2 * a2) (by omega) (by omega), w64n (a3 * a3) (by omega) (by omega), w64n (a0 * a1) (by omega) (by omega), w64n (a1 * a2) (by omega) (by omega), w64n (a2 * a3) (by omega) (by omega), w64n (a0 * a3) (by omega) (by omega)]
  rw [w64n (a0 * a0 + a1 * a1) (by omega) (by omega), w64n (a0 * a1 + a1 * a2) (by omega) (by omega)]
  rw [w64n (a0 * a0 + a1 * a1 + a2 * a2) (by omega) (by omega), w64n (a0 * a1 + a1 * a2 + a2 * a3) (by omega) (by omega)]
  rw [w64n (a0 * a0 + a1 * a1 + a2 * a2 + a3 * a3) (by omega) (by omega), w64n (a0 * a1 + a1 * a2 + a2 * a3 - a0 * a3) (by omega) (by omega)]
  omega

def Sp.n0 (s : Sp) : Int := nm0 s.x0 s.x1 s.x2 s.x3

def Sp.n1 (s : Sp) : Int := nm1 s.x0 s.x1 s.x2 s.x3

/-- p lies farther than q. -/
def farB (p q : Sp) : Bool := decide (0 < sgn2 (p.n0 - q.n0) (p.n1 - q.n1))

/-- The farthest of the first k joints: the first one of them. -/
def farI (l : List Sp) : Nat → Nat
  | 0 => 0
  | k + 1 => match l[k]?, l[farI l k]? with
    | some p, some q => cond (farB p q) k (farI l k)
    | _, _ => farI l k

theorem farI_lt (l : List Sp) (hl : 0 < l.length) : ∀ k, k ≤ l.length → farI l k < l.length
  | 0, _ => hl
  | k + 1, hk => by
    have ih := farI_lt l hl k (by omega)
    simp only [farI]
    split
    · rename_i p q h1 h2
      cases farB p q
      · exact ih
      · simp; omega
    · exact ih

theorem farI_yes {l : List Sp} {k : Nat} {p q : Sp} (h1 : l[k]? = some p) (h2 : l[farI l k]? = some q) (h : farB p q = true) : farI l (k + 1) = k := by simp [farI, h1, h2, h]

theorem farI_no {l : List Sp} {k : Nat} {p q : Sp} (h1 : l[k]? = some p) (h2 : l[farI l k]? = some q) (h : farB p q = false) : farI l (k + 1) = farI l k := by simp [farI, h1, h2, h]

theorem lays_ok {a : Sp} {n : Int} (h : a.okB n) (l : List UInt8) : ∀ p ∈ lays a l, p.okB (n + 2 * l.length) := by
  induction l generalizing a n with
  | nil => intro p hp; simp [lays] at hp; subst hp; simpa using h
  | cons c l ih =>
    intro p hp
    simp only [lays, List.mem_cons] at hp
    rcases hp with rfl | hp
    · exact h.mono (by omega)
    · exact (ih (h.next c) p hp).mono (by simp only [List.length_cons]; omega)

end Go.Proofs.Ytppbbcckijcckab
