/- Points and surds by their parts: bounds, differences, products; the model's and the program's contracts. -/
import Derived.Test.YtfcgglcpphaekaaQt
import Derived.Test.YtfcgglcpphaekaaPt3
import Derived.Test.YtfcgglcpphaekaaCl
import Derived.Test.YtfcgglcpphaekaaPtNorm
import Derived.Test.YtfcgglcpphaekaaHl
import Derived.Test.YtfcgglcpphaekaaSqP
namespace Go.Proofs.Ytfcgglcpphaekaa
open Go.ChangeShapes Go.WideShapes Go.ChangeAt Go.RowKit Go.Sort

abbrev pv (p : Pn) : Value := .agg #[.int .i64 p.a, .int .i64 p.b, .int .i64 p.c, .int .i64 p.d]

abbrev sv (s : Su) : Value := .agg #[.int .i64 s.x, .int .i64 s.r]

def Bd (n : Int) (p : Pn) : Prop := (-n ≤ p.a ∧ p.a ≤ n) ∧ (-n ≤ p.b ∧ p.b ≤ n) ∧ (-n ≤ p.c ∧ p.c ≤ n) ∧ (-n ≤ p.d ∧ p.d ≤ n)

def Bs (n : Int) (s : Su) : Prop := (-n ≤ s.x ∧ s.x ≤ n) ∧ (-n ≤ s.r ∧ s.r ≤ n)

theorem Bd.A {n : Int} {p : Pn} (h : Bd n p) : -n ≤ p.a ∧ p.a ≤ n := h.1

theorem Bd.B {n : Int} {p : Pn} (h : Bd n p) : -n ≤ p.b ∧ p.b ≤ n := h.2.1

theorem Bd.C {n : Int} {p : Pn} (h : Bd n p) : -n ≤ p.c ∧ p.c ≤ n := h.2.2.1

theorem Bd.D {n : Int} {p : Pn} (h : Bd n p) : -n ≤ p.d ∧ p.d ≤ n := h.2.2.2

theorem Bd.mono {n m : Int} {p : Pn} (h : Bd n p) (k : n ≤ m) : Bd m p := by unfold Bd at *; omega

theorem Bs.mono {n m : Int} {s : Su} (h : Bs n s) (k : n ≤ m) : Bs m s := by unfold Bs at *; omega

def Pn.sub (p q : Pn) : Pn := ⟨p.a - q.a, p.b - q.b, p.c - q.c, p.d - q.d⟩

def Pn.mir (p : Pn) : Pn := ⟨p.a, -p.d, -p.c, -p.b⟩

def Pn.mul (p q : Pn) : Pn := ⟨p.a * q.a - p.b * q.d - p.c * q.c - p.d * q.b, p.a * q.b + p.b * q.a - p.c * q.d - p.d * q.c, p.a * q.c + p.b * q.b + p.c * q.a - p.d * q.d, p.a * q.d + p.b * q.c + p.c * q.b + p.d * q.a⟩

def Pn.tx (p : Pn) : Su := ⟨2 * p.a, p.b - p.d⟩

def Pn.ty (p : Pn) : Su := ⟨2 * p.c, p.b + p.d⟩

theorem w64p (n : Int) (h0 : -9000000000000000000 ≤ n) (h1 : n ≤ 9000000000000000000) : wrap64 n = n := IntWalk.wrap64_in n ⟨by omega, by omega⟩

theorem Bd.sub_bd {n m : Int} {p q : Pn} (h : Bd n p) (k : Bd m q) : Bd (n + m) (p.sub q) := by unfold Bd Pn.sub at *; simp only; omega

theorem Bd.mir_bd {n : Int} {p : Pn} (h : Bd n p) : Bd n p.mir := by unfold Bd Pn.mir at *; simp only; omega

theorem lsd_sub {n m : Int} (h0 : -400000 ≤ n) (h1 : n ≤ 400000) (k0 : -400000 ≤ m) (k1 : m ≤ 400000) : wrap64 (n + wrap64 (-1 * m)) = n - m := by
  rw [w64p (-1 * m) (by omega) (by omega), w64p _ (by omega) (by omega)]; omega

theorem absW {F : World → Prop} {P : Program} {c : Code} {Q : Exit → Act → World → Prop} {a : Act} {W : World} (hF : F W) (h : ∀ W, F W → c.wp P Q a W) : c.wp P Q a W := h W hF

theorem absE {F : World → Prop} {K : Act → World → Prop} {Q : Exit → Act → World → Prop} {a : Act} {W : World} (hF : F W) (h : ∀ W, F W → Exit.then K Q .normal a W) : Exit.then K Q .normal a W := h W hF

theorem same_regrown {P : Program} {f : FuncId} {args : Array Value} {w : World} {d : Nat} {os : Array Obj} {v : Value}
    (h : Calls P f args (grow (redrawn w d) os) fun e w' => e = .returned v ∧ grow (redrawn w d) os = w') : Calls P f args (grow (redrawn w d) os) fun e w'' => e = .returned v ∧ ∃ p : Regrown, w'' = grow (redrawn w p.d) p.os :=
  h.mono fun _ _ ⟨he, hb⟩ => ⟨he, ⟨d, os⟩, hb.symm⟩

def Pn.add (p q : Pn) : Pn := ⟨p.a + q.a, p.b + q.b, p.c + q.c, p.d + q.d⟩

def Pn.scl (k : Int) (p : Pn) : Pn := ⟨k * p.a, k * p.b, k * p.c, k * p.d⟩

def Pn.rot (p : Pn) : Pn := ⟨-p.d, p.a, p.b, p.c⟩

theorem mulb {n a b : Int} (h0 : -n ≤ a) (h1 : a ≤ n) (k0 : -n ≤ b) (k1 : b ≤ n) : -(n * n) ≤ a * b ∧ a * b ≤ n * n := by
  have e1 := Int.mul_nonneg (a := n - a) (b := n + b) (by omega) (by omega)
  have e2 := Int.mul_nonneg (a := n + a) (b := n - b) (by omega) (by omega)
  have e3 := Int.mul_nonneg (a := n - a) (b := n - b) (by omega) (by omega)
  have e4 := Int.mul_nonneg (a := n + a) (b := n + b) (by omega) (by omega)
  have r1 : (n - a) * (n + b) = n * n + n * b - a * n - a * b := by grind
  have r2 : (n + a) * (n - b) = n * n - n * b + a * n - a * b := by grind
  have r3 : (n - a) * (n - b) = n * n - n * b - a * n + a * b := by grind
  have r4 : (n + a) * (n + b) = n * n + n * b + a * n + a * b := by grind
  omega

theorem mulk {n m a b : Int} (h : Int.natAbs a ≤ n) (k : Int.natAbs b ≤ m) : -(n * m) ≤ a * b ∧ a * b ≤ n * m := by
  have h1 : (Int.natAbs (a * b) : Int) ≤ n * m := by
    rw [Int.natAbs_mul]
    exact_mod_cast Int.mul_le_mul h k (by omega) (by omega)
  omega

theorem Bd.rot_bd {n : Int} {p : Pn} (h : Bd n p) : Bd n p.rot := by unfold Bd Pn.rot at *; simp only; omega

theorem Bd.add_bd {n m : Int} {p q : Pn} (h : Bd n p) (k : Bd m q) : Bd (n + m) (p.add q) := by unfold Bd Pn.add at *; simp only; omega

theorem Bd.scl_bd {n m k : Int} {p : Pn} (h : Bd n p) (h0 : -m ≤ k) (h1 : k ≤ m) : Bd (m * n) (Pn.scl k p) := by
  unfold Bd Pn.scl at *
  have f := fun x (hx : -n ≤ x ∧ x ≤ n) => mulk (n := m) (m := n) (a := k) (b := x) (by omega) (by omega)
  exact ⟨f _ h.1, f _ h.2.1, f _ h.2.2.1, f _ h.2.2.2⟩

set_option maxRecDepth 100000 in
theorem spScaleP (p : Pn) (k n : Int) (h : Bd n p) (hk : -n ≤ k ∧ k ≤ n) (hn : n * n ≤ 9000000000000000000) (w : World) :
    Calls Try.prog 15 #[pv p, .int .i64 k] w fun e w' => e = .returned (pv (Pn.scl k p)) ∧ Below w.heap.size w w' :=
  (spScale_any p.a p.b p.c p.d k w).mono fun e w' ⟨he, hb⟩ => ⟨by
    have f := fun x (hx : -n ≤ x ∧ x ≤ n) => mulb (n := n) (a := k) (b := x) hk.1 hk.2 hx.1 hx.2
    rw [he, w64p _ (by have := f _ h.1; omega) (by have := f _ h.1; omega), w64p _ (by have := f _ h.2.1; omega) (by have := f _ h.2.1; omega), w64p _ (by have := f _ h.2.2.1; omega) (by have := f _ h.2.2.1; omega), w64p _ (by have := f _ h.2.2.2; omega) (by have := f _ h.2.2.2; omega)]
    rfl, hb⟩

theorem spAddQ (p q : Pn) (h : Bd 4000000000000000000 p) (k : Bd 4000000000000000000 q) (w : World) :
    Calls Try.prog 16 #[pv p, pv q] w fun e w' => e = .returned (pv (p.add q)) ∧ Below w.heap.size w w' :=
  (spAdd_any p.a p.b p.c p.d q.a q.b q.c q.d w).mono fun e w' ⟨he, hb⟩ => ⟨by
    unfold Bd at h k
    rw [he, w64p _ (by omega) (by omega), w64p _ (by omega) (by omega), w64p _ (by omega) (by omega), w64p _ (by omega) (by omega)]; rfl, hb⟩

theorem add_scl (p q : Pn) : p.add (Pn.scl (-1) q) = p.sub q := by
  apply Pn.ext' <;> simp only [Pn.add, Pn.scl, Pn.sub] <;> omega

end Go.Proofs.Ytfcgglcpphaekaa
