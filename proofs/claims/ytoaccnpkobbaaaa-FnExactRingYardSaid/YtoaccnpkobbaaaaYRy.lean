/- A ring of switches: the numbers of its rails, and the program's join. -/
import Derived.Test.YtoaccnpkobbaaaaYTop
import Derived.Test.YtoaccnpkobbaaaaYSp
import Derived.Test.YtoaccnpkobbaaaaYLd
import Derived.Test.YtoaccnpkobbaaaaIs3
import Derived.Deep.RegionLaw
namespace Go.Proofs.Ytoaccnpkobbaaaa
open Go.ChangeShapes Go.WideShapes Go.ChangeAt Go.RowKit
open Yd

set_option linter.unusedVariables false

/-- The rails behind the first k rounds, in the model. -/
def ryk (n : Nat) : Nat → List Int
  | 0 => List.replicate (3 * n) 0
  | k + 1 => (((ryk n k).set (3 * k + 1) ((3 * ((k + 1) % n) : Nat) : Int)).set (3 * ((k + 1) % n)) ((3 * k + 1 : Nat) : Int)).set (3 * k + 2) ((3 * (k + 1 - 2 * (k % 2)) + 2 : Nat) : Int)

theorem ryk_len (n : Nat) : ∀ k, (ryk n k).length = 3 * n
  | 0 => by simp [ryk]
  | k + 1 => by simp [ryk, ryk_len n k]

/-- .. in the program: first the left branches, .. -/
def ryi (n : Nat) : Nat → List Int
  | 0 => List.replicate (3 * n) 0
  | k + 1 => ((ryi n k).set (3 * k + 1) ((3 * ((k + 1) % n) : Nat) : Int)).set (3 * ((k + 1) % n)) ((3 * k + 1 : Nat) : Int)

/-- .. then the right ones. -/
def ryj (n : Nat) : Nat → List Int
  | 0 => ryi n n
  | k + 1 => ((ryj n k).set (6 * k + 2) ((6 * k + 5 : Nat) : Int)).set (6 * k + 5) ((6 * k + 2 : Nat) : Int)

theorem ryi_len (n : Nat) : ∀ k, (ryi n k).length = 3 * n
  | 0 => by simp [ryi]
  | k + 1 => by simp [ryi, ryi_len n k]

theorem ryj_len (n : Nat) : ∀ k, (ryj n k).length = 3 * n
  | 0 => ryi_len n n
  | k + 1 => by simp [ryj, ryj_len n k]

theorem ry_same {n : Nat} (h : n = 0 ∨ n = 2 ∨ n = 4 ∨ n = 6) : ryj n (n / 2) = ryk n n := by
  rcases h with rfl | rfl | rfl | rfl <;> decide

/-- Is there a ring of these switches? -/
def ryB (ks : List Int) : Bool := decide (ks.length % 2 = 0) && ydB ks (ryk ks.length ks.length)

theorem ryB_len {ks : List Int} (h : ryB ks = true) : ks.length = 2 ∨ ks.length = 4 ∨ ks.length = 6 := by
  rw [ryB, Bool.and_eq_true, decide_eq_true_eq] at h
  have hg := (good_iff _ _).1 h.2
  have := hg.n1
  have := hg.n6
  omega

theorem grown_set (w : World) (a : Addr) (v : Value) : w.grownBy (w.setCell a v) (some a.block) :=
  ⟨rfl, rfl, rfl, by simp, fun k _ hk => heap_setCell_other w a k v (fun e => hk (by rw [e]))⟩

set_option maxRecDepth 100000 in
set_option maxHeartbeats 800000 in
theorem join_at (g n c h m d a b : Nat) (xs : List Int) (ha : a < m) (hb : b < m) (hab : a ≠ b) (hx : xs.length = m) (hm : m ≤ 2000) (w : World) (h1 : RL w h m xs) :
    Calls Try.prog 77 #[.agg #[.slice (some ⟨g, 0, none⟩) n c, .slice (some ⟨h, 0, none⟩) m d], .int .i64 a, .int .i64 b] w fun e w' => e = .returned (.tuple #[]) ∧ RL w' h m ((xs.set a (b : Nat)).set b (a : Nat)) ∧ Apart2 h h w w' := by
  have hlt := h1.lt
  have a0 := h1.cell ha
  have a1 := (h1.2 a ha).2
  have b0 := h1.cell hb
  have b1 := (h1.2 b hb).2
  have H1 := Lib.hid h1
  have i1 : (0 : Int) ≤ (a : Int) := by omega
  have i2 : (a : Int) < (m : Int) := by omega
  have i3 : (0 : Int) ≤ (b : Int) := by omega
  have i4 : (b : Int) < (m : Int) := by omega
  generalize xs.getD a 0 = u at *
  generalize xs.getD b 0 = v at *
  clear h1
  go_enter Try.func77, Try.ntmps77
  go_wp2_with fail
  go_region
  all_goals
    have hL := (H1.out.set a (by omega) (b : Nat)).set b (by rw [List.length_set]; omega) (a : Nat)
    have hA := (Apart2.of (grown_set w ⟨h, a, none⟩ (.int .i64 (b : Nat))) h).trans (Apart2.of (grown_set (w.setCell ⟨h, a, none⟩ (.int .i64 (b : Nat))) ⟨h, b, none⟩ (.int .i64 (a : Nat))) h)
    have HL := Lib.hid hL
    have HA := Lib.hid hA
    clear hL hA
    go_wp2_with fail
    refine ⟨rfl, .tuple #[], by first | rfl | (simp [results, Try.results77, go_sem]; done), ?_⟩
    exact ⟨rfl, HL.out.keep (by go_grown), HA.out.trans (Apart2.ofB (by go_grown) h h)⟩

theorem join_int (x y : Int) (g n c h m d a b : Nat) (xs : List Int) (ex : x = (a : Nat)) (ey : y = (b : Nat)) (ha : a < m) (hb : b < m) (hab : a ≠ b) (hx : xs.length = m) (hm : m ≤ 2000) (w : World) (h1 : RL w h m xs) :
    Calls Try.prog 77 #[.agg #[.slice (some ⟨g, 0, none⟩) n c, .slice (some ⟨h, 0, none⟩) m d], .int .i64 x, .int .i64 y] w fun e w' => e = .returned (.tuple #[]) ∧ RL w' h m ((xs.set a (b : Nat)).set b (a : Nat)) ∧ Apart2 h h w w' := by
  subst ex ey
  exact join_at g n c h m d a b xs ha hb hab hx hm w h1

/-- A ring of switches, .. -/
def RyPost (n m : Nat) (ks : List Int) (w : World) (e : Ending) (w' : World) : Prop :=
  ∃ g c h d, e = .returned (.tuple #[.agg #[.slice (some ⟨g, 0, none⟩) n c, .slice (some ⟨h, 0, none⟩) m d], .bool true]) ∧ w.heap.size ≤ g ∧ w.heap.size ≤ h ∧ g ≠ h ∧ RL w' g n ks ∧ RL w' h m (ryk n n) ∧ Below w.heap.size w w'

/-- .. or none. -/
def R0Post (w : World) (e : Ending) (w' : World) : Prop :=
  e = .returned (.tuple #[.agg #[.slice none 0 0, .slice none 0 0], .bool false]) ∧ Below w.heap.size w w'

end Go.Proofs.Ytoaccnpkobbaaaa
