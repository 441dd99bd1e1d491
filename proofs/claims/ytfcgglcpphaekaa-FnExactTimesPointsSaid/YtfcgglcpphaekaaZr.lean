/- Numbers with the root of two as an ordered ring; vectors, their products, turning on. -/
import Derived.Test.YtfcgglcpphaekaaSqS
namespace Go.Proofs.Ytfcgglcpphaekaa

theorem sq_nn (n : Int) : 0 ≤ n * n := by
  rcases Int.le_total 0 n with h | h
  · exact Int.mul_nonneg h h
  · exact Int.mul_nonneg_of_nonpos_of_nonpos h h

theorem sq_pos {n : Int} (h : n ≠ 0) : 0 < n * n := by
  rcases Int.lt_or_gt_of_ne h with h | h
  · exact Int.mul_pos_of_neg_of_neg h h
  · exact Int.mul_pos h h

theorem irr2 (a b : Int) (h : a * a = 2 * (b * b)) : a = 0 ∧ b = 0 := by
  have key : ∀ x y : Int, 0 ≤ x → 0 ≤ y → x * x = 2 * (y * y) → y = 0 := by
    intro x y hx hy h
    rcases Int.lt_or_eq_of_le hy with hy' | hy'
    · exfalso
      have hxy : y < x := by
        rcases Int.lt_or_le y x with h1 | h1
        · exact h1
        · have h2 := Int.mul_le_mul h1 h1 hx hy
          have := Int.mul_pos hy' hy'
          omega
      refine irr (x - y).toNat y (x - y) (Nat.le_refl _) hy' (by omega) ?_
      grind
    · exact hy'.symm
  have hb : b = 0 := by
    rcases Int.le_total 0 a with ha | ha <;> rcases Int.le_total 0 b with hb | hb
    · exact key a b ha hb h
    · have := key a (-b) ha (by omega) (by rw [Int.neg_mul_neg]; exact h); omega
    · have := key (-a) b (by omega) hb (by rw [Int.neg_mul_neg]; exact h); exact this
    · have := key (-a) (-b) (by omega) (by omega) (by rw [Int.neg_mul_neg, Int.neg_mul_neg]; exact h); omega
  subst hb
  refine ⟨?_, rfl⟩
  by_cases h1 : a = 0
  · exact h1
  · have := sq_pos h1; omega

/-- A number x + r times the root of two. -/
structure Su where
  x : Int
  r : Int
deriving DecidableEq

namespace Su
theorem ext' {s t : Su} (h : s.x = t.x) (k : s.r = t.r) : s = t := by cases s; cases t; simp_all

theorem eq_iff {s t : Su} : s = t ↔ s.x = t.x ∧ s.r = t.r := ⟨fun h => by subst h; exact ⟨rfl, rfl⟩, fun h => ext' h.1 h.2⟩

instance : Add Su := ⟨fun s t => ⟨s.x + t.x, s.r + t.r⟩⟩

instance : Sub Su := ⟨fun s t => ⟨s.x - t.x, s.r - t.r⟩⟩

instance : Neg Su := ⟨fun s => ⟨-s.x, -s.r⟩⟩

instance : Mul Su := ⟨fun s t => ⟨s.x * t.x + 2 * (s.r * t.r), s.x * t.r + s.r * t.x⟩⟩

instance : Zero Su := ⟨⟨0, 0⟩⟩

theorem add_x (s t : Su) : (s + t).x = s.x + t.x := rfl

theorem add_r (s t : Su) : (s + t).r = s.r + t.r := rfl

theorem sub_x (s t : Su) : (s - t).x = s.x - t.x := rfl

theorem sub_r (s t : Su) : (s - t).r = s.r - t.r := rfl

theorem neg_x (s : Su) : (-s).x = -s.x := rfl

theorem neg_r (s : Su) : (-s).r = -s.r := rfl

theorem mul_x (s t : Su) : (s * t).x = s.x * t.x + 2 * (s.r * t.r) := rfl

theorem mul_r (s t : Su) : (s * t).r = s.x * t.r + s.r * t.x := rfl

theorem zero_x : (0 : Su).x = 0 := rfl

theorem zero_r : (0 : Su).r = 0 := rfl

/-- The norm: greater than 0 if x tells the sign. -/
def nn (s : Su) : Int := s.x * s.x - 2 * (s.r * s.r)

/-- Greater than 0. -/
def P (s : Su) : Prop := (0 < s.nn ∧ 0 < s.x) ∨ (s.nn < 0 ∧ 0 < s.r)

theorem nn_zero {s : Su} (h : s.nn = 0) : s = 0 := by
  have := irr2 s.x s.r (by unfold nn at h; omega)
  exact ext' this.1 this.2

theorem nn_neg (s : Su) : (-s).nn = s.nn := by simp [nn, neg_x, neg_r, Int.neg_mul_neg]

theorem not_P_zero : ¬ P 0 := by simp [P, nn, zero_x, zero_r]

theorem P_ne {s : Su} (h : P s) : s ≠ 0 := fun e => not_P_zero (e ▸ h)

theorem tri (s : Su) : P s ∨ s = 0 ∨ P (-s) := by
  unfold P
  rw [nn_neg, neg_x, neg_r]
  rcases Int.lt_trichotomy s.nn 0 with h | h | h
  · have hr : s.r ≠ 0 := fun e => by
      have := sq_nn s.x
      simp [nn, e] at h; omega
    omega
  · exact .inr (.inl (nn_zero h))
  · have hx : s.x ≠ 0 := fun e => by
      have := sq_nn s.r
      simp [nn, e] at h; omega
    omega

theorem P_neg {s : Su} (h : P s) : ¬ P (-s) := by
  unfold P at *
  rw [nn_neg, neg_x, neg_r]
  omega

/-- x * x < y * y and 0 < y: x lies between. -/
theorem sq_lt {x y : Int} (h : x * x < y * y) (hy : 0 < y) : -y < x ∧ x < y := by
  constructor
  · rcases Int.lt_or_le (-y) x with h1 | h1
    · exact h1
    · have := Int.mul_le_mul (a := y) (c := -x) (b := y) (d := -x) (by omega) (by omega) (by omega) (by omega)
      rw [Int.neg_mul_neg] at this
      omega
  · rcases Int.lt_or_le x y with h1 | h1
    · exact h1
    · have := Int.mul_le_mul (a := y) (c := x) (b := y) (d := x) h1 h1 (by omega) (by omega)
      omega

theorem mul_lt4 {a b c d : Int} (h : a < b) (k : c < d) (ha : 0 ≤ a) (hc : 0 ≤ c) : a * c < b * d := by
  have h1 : a * c ≤ a * d := Int.mul_le_mul_of_nonneg_left (by omega) ha
  have h2 : a * d < b * d := Int.mul_lt_mul_of_pos_right h (by omega)
  omega

theorem nn_mul (s t : Su) : (s * t).nn = s.nn * t.nn := by
  simp only [nn, mul_x, mul_r]
  grind

theorem nn_add (s t : Su) : (s + t).nn = s.nn + t.nn + 2 * (s.x * t.x - 2 * (s.r * t.r)) := by
  simp only [nn, add_x, add_r]
  grind

/-- Both parts told by x. -/
theorem xx {s t : Su} (h : 0 < s.nn) (hx : 0 < s.x) (k : 0 < t.nn) (kx : 0 < t.x) : -(s.x * t.x) < 2 * (s.r * t.r) ∧ 2 * (s.r * t.r) < s.x * t.x := by
  refine sq_lt ?_ (Int.mul_pos hx kx)
  have := mul_lt4 (a := 2 * (s.r * s.r)) (b := s.x * s.x) (c := 2 * (t.r * t.r)) (d := t.x * t.x) (by unfold nn at h; omega) (by unfold nn at k; omega) (by have := sq_nn s.r; omega) (by have := sq_nn t.r; omega)
  grind

theorem rr {s t : Su} (h : s.nn < 0) (hx : 0 < s.r) (k : t.nn < 0) (kx : 0 < t.r) : -(2 * (s.r * t.r)) < s.x * t.x ∧ s.x * t.x < 2 * (s.r * t.r) := by
  refine sq_lt ?_ (by have := Int.mul_pos hx kx; omega)
  have := mul_lt4 (b := 2 * (s.r * s.r)) (a := s.x * s.x) (d := 2 * (t.r * t.r)) (c := t.x * t.x) (by unfold nn at h; omega) (by unfold nn at k; omega) (sq_nn _) (sq_nn _)
  grind

theorem xr {s t : Su} (h : 0 < s.nn) (hx : 0 < s.x) (k : t.nn < 0) (kx : 0 < t.r) : -(s.x * t.r) < s.r * t.x ∧ s.r * t.x < s.x * t.r := by
  refine sq_lt ?_ (Int.mul_pos hx kx)
  have := mul_lt4 (a := 2 * (s.r * s.r)) (b := s.x * s.x) (c := t.x * t.x) (d := 2 * (t.r * t.r)) (by unfold nn at h; omega) (by unfold nn at k; omega) (by have := sq_nn s.r; omega) (sq_nn _)
  grind

theorem mul_comm (s t : Su) : s * t = t * s := by
  apply ext' <;> simp only [mul_x, mul_r] <;> grind

theorem add_comm (s t : Su) : s + t = t + s := by
  apply ext' <;> simp only [add_x, add_r] <;> omega

theorem P_mul {s t : Su} (h : P s) (k : P t) : P (s * t) := by
  have hn := nn_mul s t
  unfold P at *
  simp only [mul_x, mul_r, hn]
  rcases h with ⟨h1, h2⟩ | ⟨h1, h2⟩ <;> rcases k with ⟨k1, k2⟩ | ⟨k1, k2⟩
  · have := xx h1 h2 k1 k2
    exact .inl ⟨Int.mul_pos h1 k1, by omega⟩
  · have := xr h1 h2 k1 k2
    exact .inr ⟨Int.mul_neg_of_pos_of_neg h1 k1, by omega⟩
  · have := xr k1 k2 h1 h2
    have e1 := Int.mul_comm t.x s.r
    have e2 := Int.mul_comm t.r s.x
    exact .inr ⟨Int.mul_neg_of_neg_of_pos h1 k1, by omega⟩
  · have := rr h1 h2 k1 k2
    exact .inl ⟨Int.mul_pos_of_neg_of_neg h1 k1, by omega⟩

theorem P_addx {s t : Su} (h : 0 < s.nn) (hx : 0 < s.x) (k : 0 < t.nn) (kx : 0 < t.x) : 0 < (s + t).nn ∧ 0 < (s + t).x := by
  have := xx h hx k kx
  rw [nn_add, add_x]; omega

theorem P_addr {s t : Su} (h : s.nn < 0) (hx : 0 < s.r) (k : t.nn < 0) (kx : 0 < t.r) : (s + t).nn < 0 ∧ 0 < (s + t).r := by
  have := rr h hx k kx
  rw [nn_add, add_r]; omega

theorem P_addxr {s t : Su} (h : 0 < s.nn) (hx : 0 < s.x) (k : t.nn < 0) (kx : 0 < t.r) : P (s + t) := by
  unfold P
  rcases Int.lt_trichotomy (s + t).nn 0 with hn | hn | hn
  · refine .inr ⟨hn, ?_⟩
    rcases Int.lt_trichotomy (s + t).r 0 with h1 | h1 | h1
    · exfalso
      have h2 := P_addr (s := t) (t := -(s + t)) k kx (by rw [nn_neg]; exact hn) (by rw [neg_r]; omega)
      have e : t + -(s + t) = -s := by apply ext' <;> simp only [add_x, add_r, neg_x, neg_r] <;> omega
      rw [e, nn_neg] at h2
      omega
    · have := sq_nn (s + t).x
      simp [nn, h1] at hn; omega
    · exact h1
  · exfalso
    have e := nn_zero hn
    have e2 : t = -s := by
      have a1 := congrArg Su.x e; have a2 := congrArg Su.r e
      simp only [add_x, add_r, zero_x, zero_r] at a1 a2
      apply ext' <;> simp only [neg_x, neg_r] <;> omega
    rw [e2, nn_neg] at k
    omega
  · refine .inl ⟨hn, ?_⟩
    rcases Int.lt_trichotomy (s + t).x 0 with h1 | h1 | h1
    · exfalso
      have h2 := P_addx (s := s) (t := -(s + t)) h hx (by rw [nn_neg]; exact hn) (by rw [neg_x]; omega)
      have e : s + -(s + t) = -t := by apply ext' <;> simp only [add_x, add_r, neg_x, neg_r] <;> omega
      rw [e, nn_neg] at h2
      omega
    · have := sq_nn (s + t).r
      simp [nn, h1] at hn; omega
    · exact h1

theorem P_add {s t : Su} (h : P s) (k : P t) : P (s + t) := by
  rcases h with ⟨h1, h2⟩ | ⟨h1, h2⟩ <;> rcases k with ⟨k1, k2⟩ | ⟨k1, k2⟩
  · exact .inl (P_addx h1 h2 k1 k2)
  · exact P_addxr h1 h2 k1 k2
  · rw [add_comm]; exact P_addxr k1 k2 h1 h2
  · exact .inr (P_addr h1 h2 k1 k2)

/-- The sign, as a number. -/
def sn (s : Su) : Int := sgn2 s.x s.r

theorem sn_P {s : Su} (h : P s) : s.sn = 1 := by
  unfold sn sgn2 G1
  rcases h with ⟨h1, h2⟩ | ⟨h1, h2⟩
  · rw [decide_eq_true (by unfold nn at h1; omega)]; exact sg_pos h2
  · rw [decide_eq_false (by unfold nn at h1; omega)]; exact sg_pos h2

theorem sn_N {s : Su} (h : P (-s)) : s.sn = -1 := by
  unfold sn sgn2 G1
  unfold P at h
  rw [nn_neg, neg_x, neg_r] at h
  rcases h with ⟨h1, h2⟩ | ⟨h1, h2⟩
  · rw [decide_eq_true (by unfold nn at h1; omega)]; exact sg_neg (by omega)
  · rw [decide_eq_false (by unfold nn at h1; omega)]; exact sg_neg (by omega)

theorem sn_0 : (0 : Su).sn = 0 := rfl

theorem sn_pos {s : Su} : 0 < s.sn ↔ P s := by
  rcases tri s with h | h | h
  · simp [sn_P h, h]
  · subst h; simp [sn_0, not_P_zero]
  · simp [sn_N h]; exact fun h' => P_neg h' h

theorem sn_neg {s : Su} : s.sn < 0 ↔ P (-s) := by
  rcases tri s with h | h | h
  · simp [sn_P h, P_neg h]
  · subst h; rw [sn_0, show (-(0 : Su)) = 0 from rfl]; simp [not_P_zero]
  · simp [sn_N h, h]

theorem sn_zero {s : Su} : s.sn = 0 ↔ s = 0 := by
  rcases tri s with h | h | h
  · simp [sn_P h, P_ne h]
  · simp [h, sn_0]
  · rw [sn_N h]
    have : s ≠ 0 := fun e => by subst e; exact not_P_zero h
    simp [this]

theorem neg_neg' (s : Su) : - -s = s := by apply ext' <;> simp [neg_x, neg_r]

theorem sn_of_neg (s : Su) : (-s).sn = -s.sn := by
  rcases tri s with h | h | h
  · rw [sn_P h, sn_N (by rw [neg_neg']; exact h)]
  · subst h; rfl
  · rw [sn_P h, sn_N h]; rfl

theorem sn_three (s : Su) : s.sn = 1 ∨ s.sn = 0 ∨ s.sn = -1 := by
  rcases tri s with h | h | h
  · exact .inl (sn_P h)
  · exact .inr (.inl (by rw [h]; rfl))
  · exact .inr (.inr (sn_N h))

theorem zero_mul' (s : Su) : 0 * s = 0 := by apply ext' <;> simp [mul_x, mul_r, zero_x, zero_r]

theorem mul_zero' (s : Su) : s * 0 = 0 := by apply ext' <;> simp [mul_x, mul_r, zero_x, zero_r]

theorem neg_mul' (s t : Su) : -s * t = -(s * t) := by apply ext' <;> simp only [mul_x, mul_r, neg_x, neg_r] <;> grind

theorem sn_mul (s t : Su) : (s * t).sn = s.sn * t.sn := by
  have half : ∀ s t : Su, P s → (s * t).sn = t.sn := by
    intro s t h
    rcases tri t with k | k | k
    · rw [sn_P k, sn_P (P_mul h k)]
    · subst k; rw [mul_zero']
    · rw [sn_N k, sn_N]
      have e : -(s * t) = s * -t := by apply ext' <;> simp only [mul_x, mul_r, neg_x, neg_r] <;> grind
      rw [e]; exact P_mul h k
  rcases tri s with h | h | h
  · rw [half s t h, sn_P h, Int.one_mul]
  · subst h; rw [zero_mul', sn_0, Int.zero_mul]
  · have e := half (-s) t h
    rw [neg_mul', sn_of_neg] at e
    rw [sn_N h]; omega

theorem sn_add {s t : Su} (h : 0 ≤ s.sn) (k : 0 ≤ t.sn) : 0 ≤ (s + t).sn ∧ ((s + t).sn = 0 → s.sn = 0 ∧ t.sn = 0) := by
  rcases tri s with a | a | a
  · rcases tri t with b | b | b
    · rw [sn_P (P_add a b)]; exact ⟨by omega, fun h => by omega⟩
    · subst b
      have e : s + 0 = s := by apply ext' <;> simp [add_x, add_r, zero_x, zero_r]
      rw [e]; exact ⟨h, fun h => ⟨h, rfl⟩⟩
    · rw [sn_N b] at k; omega
  · subst a
    have e : 0 + t = t := by apply ext' <;> simp [add_x, add_r, zero_x, zero_r]
    rw [e]; exact ⟨k, fun h => ⟨rfl, h⟩⟩
  · rw [sn_N a] at h; omega
end Su

/-- A vector: twice its numbers to the east and to the north. -/
structure Ve where
  X : Su
  Y : Su
deriving DecidableEq
namespace Ve

def cr (u v : Ve) : Su := u.X * v.Y - u.Y * v.X

def dt (u v : Ve) : Su := u.X * v.X + u.Y * v.Y

/-- To the east, or straight to the north. -/
def lx (u : Ve) : Prop := Su.P u.X ∨ (u.X = 0 ∧ Su.P u.Y)

instance : Neg Ve := ⟨fun u => ⟨-u.X, -u.Y⟩⟩

instance : Add Ve := ⟨fun u v => ⟨u.X + v.X, u.Y + v.Y⟩⟩

instance : Zero Ve := ⟨⟨0, 0⟩⟩

theorem neg_X (u : Ve) : (-u).X = -u.X := rfl

theorem neg_Y (u : Ve) : (-u).Y = -u.Y := rfl

theorem add_X (u v : Ve) : (u + v).X = u.X + v.X := rfl

theorem add_Y (u v : Ve) : (u + v).Y = u.Y + v.Y := rfl

theorem ext' {u v : Ve} (h : u.X = v.X) (k : u.Y = v.Y) : u = v := by cases u; cases v; simp_all

open Su in
theorem cr_plu (u v w : Ve) : v.X * cr u w = u.X * cr v w + w.X * cr u v := by
  apply Su.ext' <;> simp only [cr, mul_x, mul_r, add_x, add_r, sub_x, sub_r] <;> grind
open Su in

theorem cr_swap (u v : Ve) : cr v u = -cr u v := by
  apply Su.ext' <;> simp only [cr, mul_x, mul_r, neg_x, neg_r, sub_x, sub_r] <;> grind
open Su in

theorem cr_neg_l (u v : Ve) : cr (-u) v = -cr u v := by
  apply Su.ext' <;> simp only [cr, mul_x, mul_r, neg_x, neg_r, sub_x, sub_r, neg_X, neg_Y] <;> grind
open Su in

theorem cr_neg_r (u v : Ve) : cr u (-v) = -cr u v := by
  apply Su.ext' <;> simp only [cr, mul_x, mul_r, neg_x, neg_r, sub_x, sub_r, neg_X, neg_Y] <;> grind
open Su in

theorem cr_neg2 (u v : Ve) : cr (-u) (-v) = cr u v := by
  apply Su.ext' <;> simp only [cr, mul_x, mul_r, neg_x, neg_r, sub_x, sub_r, neg_X, neg_Y] <;> grind
open Su in

theorem cr_add_self (u v : Ve) : cr u (u + v) = cr u v := by
  apply Su.ext' <;> simp only [cr, mul_x, mul_r, add_x, add_r, sub_x, sub_r, add_X, add_Y] <;> grind
open Su in

theorem cr_self (u : Ve) : cr u u = 0 := by
  apply Su.ext' <;> simp only [cr, mul_x, mul_r, sub_x, sub_r, zero_x, zero_r] <;> grind

theorem lx_add {u v : Ve} (h : lx u) (k : lx v) : lx (u + v) := by
  unfold lx at *
  rw [add_X, add_Y]
  have z : ∀ s : Su, s + 0 = s := fun s => by apply Su.ext' <;> simp [Su.add_x, Su.add_r, Su.zero_x, Su.zero_r]
  have z2 : ∀ s : Su, 0 + s = s := fun s => by apply Su.ext' <;> simp [Su.add_x, Su.add_r, Su.zero_x, Su.zero_r]
  rcases h with h | ⟨h, h2⟩ <;> rcases k with k | ⟨k, k2⟩
  · exact .inl (Su.P_add h k)
  · rw [k, z]; exact .inl h
  · rw [h, z2]; exact .inl k
  · rw [h, k]; exact .inr ⟨z 0, Su.P_add h2 k2⟩

theorem lx_tri (u : Ve) : lx u ∨ u = 0 ∨ lx (-u) := by
  unfold lx
  rw [neg_X, neg_Y]
  rcases Su.tri u.X with h | h | h
  · exact .inl (.inl h)
  · rcases Su.tri u.Y with k | k | k
    · exact .inl (.inr ⟨h, k⟩)
    · exact .inr (.inl (ext' h k))
    · exact .inr (.inr (.inr ⟨by rw [h]; rfl, k⟩))
  · exact .inr (.inr (.inl h))

theorem lx_neg {u : Ve} (h : lx u) : ¬ lx (-u) := by
  unfold lx at *
  rw [neg_X, neg_Y]
  rintro (k | ⟨k, k2⟩) <;> rcases h with h | ⟨h, h2⟩
  · exact Su.P_neg h k
  · rw [h] at k; exact Su.not_P_zero k
  · have : u.X = 0 := by rw [← Su.neg_neg' u.X, k]; rfl
    exact Su.P_ne h this
  · exact Su.P_neg h2 k2

theorem lx_ne {u : Ve} (h : lx u) : u ≠ 0 := fun e => by
  subst e
  rcases h with h | ⟨_, h⟩ <;> exact Su.not_P_zero h

/-- Turning on: what is to the left of what is to the left, among vectors to the east. -/
theorem cr_trans {u v w : Ve} (hu : lx u) (hv : lx v) (hw : lx w) (h : 0 ≤ (cr u v).sn) (k : 0 ≤ (cr v w).sn) : 0 ≤ (cr u w).sn ∧ ((cr u w).sn = 0 → (cr u v).sn = 0 ∧ (cr v w).sn = 0) := by
  have ux : 0 ≤ u.X.sn := by rcases hu with h | ⟨h, _⟩ <;> simp [Su.sn_P, h, Su.sn_0]
  have wx : 0 ≤ w.X.sn := by rcases hw with h | ⟨h, _⟩ <;> simp [Su.sn_P, h, Su.sn_0]
  have z : ∀ s : Su, s - 0 = s := fun s => by apply Su.ext' <;> simp [Su.sub_x, Su.sub_r, Su.zero_x, Su.zero_r]
  have z3 : ∀ s : Su, 0 - s = -s := fun s => by apply Su.ext' <;> simp [Su.sub_x, Su.sub_r, Su.zero_x, Su.zero_r, Su.neg_x, Su.neg_r]
  rcases hv with hv | ⟨hv0, hvy⟩
  · have e := congrArg Su.sn (cr_plu u v w)
    rw [Su.sn_mul, Su.sn_P hv, Int.one_mul] at e
    have hA : 0 ≤ (u.X * cr v w).sn := by rw [Su.sn_mul]; exact Int.mul_nonneg ux k
    have hB : 0 ≤ (w.X * cr u v).sn := by rw [Su.sn_mul]; exact Int.mul_nonneg wx h
    have s := Su.sn_add hA hB
    rw [← e] at s
    refine ⟨s.1, fun h0 => ?_⟩
    have s2 := s.2 h0
    rw [Su.sn_mul, Su.sn_mul] at s2
    have u0 : u.X = 0 → (cr u v).sn = -1 := fun e => by
      rcases hu with hu | ⟨_, hy⟩
      · exact absurd e (Su.P_ne hu)
      · unfold cr; rw [e, Su.zero_mul', z3, Su.sn_of_neg, Su.sn_mul, Su.sn_P hy, Su.sn_P hv]; rfl
    have w0 : w.X = 0 → (cr v w).sn = 1 := fun e => by
      rcases hw with hw | ⟨_, hy⟩
      · exact absurd e (Su.P_ne hw)
      · unfold cr; rw [e, Su.mul_zero', z, Su.sn_mul, Su.sn_P hy, Su.sn_P hv]; rfl
    have uX : u.X.sn ≠ 0 := fun e => by have := u0 (Su.sn_zero.1 e); omega
    have a := (Int.mul_eq_zero.1 s2.1).resolve_left uX
    have wX : w.X.sn ≠ 0 := fun e => by have := w0 (Su.sn_zero.1 e); omega
    have b := (Int.mul_eq_zero.1 s2.2).resolve_left wX
    exact ⟨b, a⟩
  · have e1 : (cr v w).sn = -w.X.sn := by unfold cr; rw [hv0, Su.zero_mul', z3, Su.sn_of_neg, Su.sn_mul, Su.sn_P hvy]; simp
    have w0 : w.X.sn = 0 := by omega
    have wz := Su.sn_zero.1 w0
    have wy : Su.P w.Y := by
      rcases hw with hw | ⟨_, hy⟩
      · exact absurd wz (Su.P_ne hw)
      · exact hy
    have e2 : (cr u w).sn = u.X.sn := by unfold cr; rw [wz, Su.mul_zero', z, Su.sn_mul, Su.sn_P wy]; simp
    have e3 : (cr u v).sn = u.X.sn := by unfold cr; rw [hv0, Su.mul_zero', z, Su.sn_mul, Su.sn_P hvy]; simp
    rw [e1, e2, e3, w0]
    exact ⟨ux, fun h => ⟨h, rfl⟩⟩

theorem dt_pos {u v : Ve} (hu : lx u) (hv : lx v) (h : (cr u v).sn = 0) : Su.P (dt u v) := by
  have z : ∀ s : Su, s - 0 = s := fun s => by apply Su.ext' <;> simp [Su.sub_x, Su.sub_r, Su.zero_x, Su.zero_r]
  have z2 : ∀ s : Su, 0 + s = s := fun s => by apply Su.ext' <;> simp [Su.add_x, Su.add_r, Su.zero_x, Su.zero_r]
  have z3 : ∀ s : Su, 0 - s = -s := fun s => by apply Su.ext' <;> simp [Su.sub_x, Su.sub_r, Su.zero_x, Su.zero_r, Su.neg_x, Su.neg_r]
  rcases hu with hu | ⟨hu, hu2⟩
  · rcases hv with hv | ⟨hv, hv2⟩
    · have e : u.X * (u.Y * v.Y) = u.Y * u.Y * v.X := by
        have h0 := Su.sn_zero.1 h
        have a1 := congrArg Su.x h0; have a2 := congrArg Su.r h0
        simp only [cr, Su.sub_x, Su.sub_r, Su.mul_x, Su.mul_r, Su.zero_x, Su.zero_r] at a1 a2
        apply Su.ext' <;> simp only [Su.mul_x, Su.mul_r] <;> grind
      have e2 := congrArg Su.sn e
      simp only [Su.sn_mul, Su.sn_P hu, Su.sn_P hv, Int.one_mul, Int.mul_one] at e2
      have e3 := sq_nn u.Y.sn
      have := (Su.sn_add (s := u.X * v.X) (t := u.Y * v.Y) (by rw [Su.sn_P (Su.P_mul hu hv)]; omega) (by rw [Su.sn_mul]; omega))
      have h1 := Su.sn_P (Su.P_mul hu hv)
      unfold dt
      exact Su.sn_pos.1 (by omega)
    · exfalso
      unfold cr at h
      rw [hv, Su.mul_zero', z, Su.sn_mul, Su.sn_P hu, Su.sn_P hv2] at h
      omega
  · have hv0 : v.X = 0 := by
      unfold cr at h
      rw [hu, Su.zero_mul', z3, Su.sn_of_neg, Su.sn_mul, Su.sn_P hu2] at h
      exact Su.sn_zero.1 (by omega)
    rcases hv with hv | ⟨_, hv⟩
    · exact absurd hv0 (Su.P_ne hv)
    · unfold dt
      rw [hu, Su.zero_mul', z2]
      exact Su.P_mul hu2 hv
open Su in

theorem dt_neg_l (u v : Ve) : dt (-u) v = -dt u v := by
  apply Su.ext' <;> simp only [dt, mul_x, mul_r, neg_x, neg_r, add_x, add_r, neg_X, neg_Y] <;> grind
open Su in

theorem dt_neg_r (u v : Ve) : dt u (-v) = -dt u v := by
  apply Su.ext' <;> simp only [dt, mul_x, mul_r, neg_x, neg_r, add_x, add_r, neg_X, neg_Y] <;> grind
open Su in

theorem cr_add_neg (u v : Ve) : cr u (v + -u) = cr u v := by
  apply Su.ext' <;> simp only [cr, mul_x, mul_r, neg_x, neg_r, sub_x, sub_r, add_x, add_r, neg_X, neg_Y, add_X, add_Y] <;> grind

theorem neg_sub' (u v : Ve) : u + -v = -(v + -u) := by
  apply ext' <;> apply Su.ext' <;> simp only [Su.neg_x, Su.neg_r, Su.add_x, Su.add_r, neg_X, neg_Y, add_X, add_Y] <;> omega

theorem neg_neg' (u : Ve) : - -u = u := by apply ext' <;> apply Su.ext' <;> simp [Su.neg_x, Su.neg_r, neg_X, neg_Y]

theorem dt_zero_l (v : Ve) : dt 0 v = 0 := by
  unfold dt
  rw [show (0 : Ve).X = 0 from rfl, show (0 : Ve).Y = 0 from rfl, Su.zero_mul', Su.zero_mul']; rfl

theorem dt_zero_r (v : Ve) : dt v 0 = 0 := by
  unfold dt
  rw [show (0 : Ve).X = 0 from rfl, show (0 : Ve).Y = 0 from rfl, Su.mul_zero', Su.mul_zero']; rfl

/-- On one line: between the ends by the order to the east and to the north, and by the directions. -/
theorem between {u v : Ve} (h : (cr u v).sn = 0) :
    ((lx u ∨ u = 0) ∧ (lx (v + -u) ∨ v + -u = 0) ∨ (lx (-u) ∨ u = 0) ∧ (lx (u + -v) ∨ v + -u = 0)) ↔ (dt (-u) (v + -u)).sn ≤ 0 := by
  rw [neg_sub' u v]
  rw [← cr_add_neg] at h
  generalize v + -u = W at *
  rw [dt_neg_l, Su.sn_of_neg]
  rcases lx_tri u with a | a | a
  · rcases lx_tri W with b | b | b
    · rw [Su.sn_P (dt_pos a b h)]; simp [a, b]
    · subst b; rw [dt_zero_r, Su.sn_0]; simp [a]
    · have n1 := lx_neg a
      have n2 : ¬ lx W := fun k => lx_neg k b
      have n3 := lx_ne a
      have n4 : W ≠ 0 := fun e => by subst e; exact lx_ne b rfl
      have hc : (cr u (-W)).sn = 0 := by rw [cr_neg_r, Su.sn_of_neg, h]; rfl
      have := Su.sn_P (dt_pos a b hc)
      rw [dt_neg_r, Su.sn_of_neg] at this
      simp [n1, n2, n3, n4]; omega
  · subst a
    rw [dt_zero_l, Su.sn_0]
    rcases lx_tri W with b | b | b <;> simp [b]
  · have n1 : ¬ lx u := fun k => lx_neg k a
    have n3 : u ≠ 0 := fun e => by subst e; exact lx_ne a rfl
    rcases lx_tri W with b | b | b
    · have n2 := lx_neg b
      have n4 := lx_ne b
      have hc : (cr (-u) W).sn = 0 := by rw [cr_neg_l, Su.sn_of_neg, h]; rfl
      have := Su.sn_P (dt_pos a b hc)
      rw [dt_neg_l, Su.sn_of_neg] at this
      simp [n1, n2, n3, n4]; omega
    · subst b; rw [dt_zero_r, Su.sn_0]; simp [a]
    · have hc : (cr (-u) (-W)).sn = 0 := by rw [cr_neg2]; exact h
      have := Su.sn_P (dt_pos a b hc)
      rw [dt_neg_l, dt_neg_r, Su.neg_neg'] at this
      simp [a, b]; omega
end Ve

end Go.Proofs.Ytfcgglcpphaekaa
