/- Contracts and facts, put together (part 2). Conditions: each says its own. -/
import Derived.Test.YthiimllafcfieaaQ1
import Derived.Lib.Hide
import Derived.Laws.AppendOwn
import Derived.Deep.AppendLies
import Derived.Maps.AppendAt
import Derived.Test.YthiimllafcfieaaProg
import Derived.WalkKit
import Derived.ProofKit
import Derived.Handy
import Derived.WalkSpells
import Derived.LoopTactic
import Derived.Outline

/- Contracts: TurnPoint and HeadingPoint, in the model and in the program; a product of two points in the program. -/
namespace Go.Proofs.Ythiimllafcfieaa
open Go.ChangeShapes Go.WideShapes Go.ChangeAt Go.RowKit

theorem mul_bd (a b : Int) (h0 : -999999 ≤ a) (h1 : a ≤ 999999) (k0 : -999999 ≤ b) (k1 : b ≤ 999999) : -999998000001 ≤ a * b ∧ a * b ≤ 999998000001 := by
  have ha : a.natAbs ≤ 999999 := by omega
  have hb : b.natAbs ≤ 999999 := by omega
  have hm : (a * b).natAbs ≤ 999998000001 := by rw [Int.natAbs_mul]; exact Nat.mul_le_mul ha hb
  omega

def tm0 (a0 a1 a2 a3 : Int) (b0 b1 b2 b3 : Int) : Int := a0 * b0 - a1 * b3 - a2 * b2 - a3 * b1

def tm1 (a0 a1 a2 a3 : Int) (b0 b1 b2 b3 : Int) : Int := a0 * b1 + a1 * b0 - a2 * b3 - a3 * b2

def tm2 (a0 a1 a2 a3 : Int) (b0 b1 b2 b3 : Int) : Int := a0 * b2 + a1 * b1 + a2 * b0 - a3 * b3

def tm3 (a0 a1 a2 a3 : Int) (b0 b1 b2 b3 : Int) : Int := a0 * b3 + a1 * b2 + a2 * b1 + a3 * b0

set_option maxRecDepth 100000 in
set_option maxHeartbeats 3200000 in
theorem imTimes_any (a0 a1 a2 a3 : Int) (b0 b1 b2 b3 : Int) (pa0 : -999999 ≤ a0) (qa0 : a0 ≤ 999999) (pa1 : -999999 ≤ a1) (qa1 : a1 ≤ 999999) (pa2 : -999999 ≤ a2) (qa2 : a2 ≤ 999999) (pa3 : -999999 ≤ a3) (qa3 : a3 ≤ 999999) (pb0 : -999999 ≤ b0) (qb0 : b0 ≤ 999999) (pb1 : -999999 ≤ b1) (qb1 : b1 ≤ 999999) (pb2 : -999999 ≤ b2) (qb2 : b2 ≤ 999999) (pb3 : -999999 ≤ b3) (qb3 : b3 ≤ 999999) (w : World) :
    Calls Try.prog 100 #[.agg #[.int .i64 a0, .int .i64 a1, .int .i64 a2, .int .i64 a3], .agg #[.int .i64 b0, .int .i64 b1, .int .i64 b2, .int .i64 b3]] w fun e w' => e = .returned (.agg #[.int .i64 (tm0 a0 a1 a2 a3 b0 b1 b2 b3), .int .i64 (tm1 a0 a1 a2 a3 b0 b1 b2 b3), .int .i64 (tm2 a0 a1 a2 a3 b0 b1 b2 b3), .int .i64 (tm3 a0 a1 a2 a3 b0 b1 b2 b3)]) ∧ Below w.heap.size w w' := by
  obtain ⟨l00, u00⟩ := mul_bd a0 b0 pa0 qa0 pb0 qb0
  obtain ⟨l01, u01⟩ := mul_bd a0 b1 pa0 qa0 pb1 qb1
  obtain ⟨l02, u02⟩ := mul_bd a0 b2 pa0 qa0 pb2 qb2
  obtain ⟨l03, u03⟩ := mul_bd a0 b3 pa0 qa0 pb3 qb3
  obtain ⟨l10, u10⟩ := mul_bd a1 b0 pa1 qa1 pb0 qb0
  obtain ⟨l11, u11⟩ := mul_bd a1 b1 pa1 qa1 pb1 qb1
  obtain ⟨l12, u12⟩ := mul_bd a1 b2 pa1 qa1 pb2 qb2
  obtain ⟨l13, u13⟩ := mul_bd a1 b3 pa1 qa1 pb3 qb3
  obtain ⟨l20, u20⟩ := mul_bd a2 b0 pa2 qa2 pb0 qb0
  obtain ⟨l21, u21⟩ := mul_bd a2 b1 pa2 qa2 pb1 qb1
  obtain ⟨l22, u22⟩ := mul_bd a2 b2 pa2 qa2 pb2 qb2
  obtain ⟨l23, u23⟩ := mul_bd a2 b3 pa2 qa2 pb3 qb3
  obtain ⟨l30, u30⟩ := mul_bd a3 b0 pa3 qa3 pb0 qb0
  obtain ⟨l31, u31⟩ := mul_bd a3 b1 pa3 qa3 pb1 qb1
  obtain ⟨l32, u32⟩ := mul_bd a3 b2 pa3 qa3 pb2 qb2
  obtain ⟨l33, u33⟩ := mul_bd a3 b3 pa3 qa3 pb3 qb3
  go_enter Try.func100, Try.ntmps100
  go_wp2
  go_returns
  exact ⟨rfl, by go_grown⟩

end Go.Proofs.Ythiimllafcfieaa

/- Contracts: TurnPoint, in the model and in the program. -/
namespace Go.Proofs.Ythiimllafcfieaa
open Go.ChangeShapes Go.WideShapes Go.ChangeAt Go.RowKit

def tuG (a0 a1 a2 a3 : Int) (k : Int) : Bool := goodB a0 a1 a2 a3 && inB k 0 7

theorem tu_bd0 (k : Int) (h0 : 0 ≤ k) (h7 : k ≤ 7) : -999999 ≤ tu0 k 1 0 0 0 ∧ tu0 k 1 0 0 0 ≤ 999999 := by
  rcases eight k h0 h7 with rfl | rfl | rfl | rfl | rfl | rfl | rfl | rfl <;> simp [tu0]

theorem tm_tu0 (a0 a1 a2 a3 : Int) (k : Int) (h0 : 0 ≤ k) (h7 : k ≤ 7) : tm0 a0 a1 a2 a3 (tu0 k 1 0 0 0) (tu1 k 1 0 0 0) (tu2 k 1 0 0 0) (tu3 k 1 0 0 0) = tu0 k a0 a1 a2 a3 := by
  rcases eight k h0 h7 with rfl | rfl | rfl | rfl | rfl | rfl | rfl | rfl <;> simp [tm0, tu0, tu1, tu2, tu3]

theorem tu_bd1 (k : Int) (h0 : 0 ≤ k) (h7 : k ≤ 7) : -999999 ≤ tu1 k 1 0 0 0 ∧ tu1 k 1 0 0 0 ≤ 999999 := by
  rcases eight k h0 h7 with rfl | rfl | rfl | rfl | rfl | rfl | rfl | rfl <;> simp [tu1]

theorem tm_tu1 (a0 a1 a2 a3 : Int) (k : Int) (h0 : 0 ≤ k) (h7 : k ≤ 7) : tm1 a0 a1 a2 a3 (tu0 k 1 0 0 0) (tu1 k 1 0 0 0) (tu2 k 1 0 0 0) (tu3 k 1 0 0 0) = tu1 k a0 a1 a2 a3 := by
  rcases eight k h0 h7 with rfl | rfl | rfl | rfl | rfl | rfl | rfl | rfl <;> simp [tm1, tu0, tu1, tu2, tu3]

theorem tu_bd2 (k : Int) (h0 : 0 ≤ k) (h7 : k ≤ 7) : -999999 ≤ tu2 k 1 0 0 0 ∧ tu2 k 1 0 0 0 ≤ 999999 := by
  rcases eight k h0 h7 with rfl | rfl | rfl | rfl | rfl | rfl | rfl | rfl <;> simp [tu2]

theorem tm_tu2 (a0 a1 a2 a3 : Int) (k : Int) (h0 : 0 ≤ k) (h7 : k ≤ 7) : tm2 a0 a1 a2 a3 (tu0 k 1 0 0 0) (tu1 k 1 0 0 0) (tu2 k 1 0 0 0) (tu3 k 1 0 0 0) = tu2 k a0 a1 a2 a3 := by
  rcases eight k h0 h7 with rfl | rfl | rfl | rfl | rfl | rfl | rfl | rfl <;> simp [tm2, tu0, tu1, tu2, tu3]

theorem tu_bd3 (k : Int) (h0 : 0 ≤ k) (h7 : k ≤ 7) : -999999 ≤ tu3 k 1 0 0 0 ∧ tu3 k 1 0 0 0 ≤ 999999 := by
  rcases eight k h0 h7 with rfl | rfl | rfl | rfl | rfl | rfl | rfl | rfl <;> simp [tu3]

theorem tm_tu3 (a0 a1 a2 a3 : Int) (k : Int) (h0 : 0 ≤ k) (h7 : k ≤ 7) : tm3 a0 a1 a2 a3 (tu0 k 1 0 0 0) (tu1 k 1 0 0 0) (tu2 k 1 0 0 0) (tu3 k 1 0 0 0) = tu3 k a0 a1 a2 a3 := by
  rcases eight k h0 h7 with rfl | rfl | rfl | rfl | rfl | rfl | rfl | rfl <;> simp [tm3, tu0, tu1, tu2, tu3]

end Go.Proofs.Ythiimllafcfieaa

/- Steps along a track: where each piece leads. -/
namespace Go.Proofs.Ythiimllafcfieaa

structure Sp where
  x0 : Int
  x1 : Int
  x2 : Int
  x3 : Int
  h : Int

def Sp.cells (s : Sp) : List Value := [.int .i64 s.x0, .int .i64 s.x1, .int .i64 s.x2, .int .i64 s.x3, .int .i64 s.h]

def Sp.ptc (s : Sp) : List Value := [.int .i64 s.x0, .int .i64 s.x1, .int .i64 s.x2, .int .i64 s.x3]

theorem Sp.cells_length (s : Sp) : s.cells.length = 5 := rfl

theorem Sp.ptc_length (s : Sp) : s.ptc.length = 4 := rfl

def dd0 (c : UInt8) (h : Int) : Int := if c == 76 then tu0 ((h + 7) % 8) 1 0 0 0 - tu0 ((h + 6) % 8) 1 0 0 0 else if c == 82 then tu0 ((h + 1) % 8) 1 0 0 0 - tu0 ((h + 2) % 8) 1 0 0 0 else tu0 h 1 0 0 0

def dd1 (c : UInt8) (h : Int) : Int := if c == 76 then tu1 ((h + 7) % 8) 1 0 0 0 - tu1 ((h + 6) % 8) 1 0 0 0 else if c == 82 then tu1 ((h + 1) % 8) 1 0 0 0 - tu1 ((h + 2) % 8) 1 0 0 0 else tu1 h 1 0 0 0

def dd2 (c : UInt8) (h : Int) : Int := if c == 76 then tu2 ((h + 7) % 8) 1 0 0 0 - tu2 ((h + 6) % 8) 1 0 0 0 else if c == 82 then tu2 ((h + 1) % 8) 1 0 0 0 - tu2 ((h + 2) % 8) 1 0 0 0 else tu2 h 1 0 0 0

def dd3 (c : UInt8) (h : Int) : Int := if c == 76 then tu3 ((h + 7) % 8) 1 0 0 0 - tu3 ((h + 6) % 8) 1 0 0 0 else if c == 82 then tu3 ((h + 1) % 8) 1 0 0 0 - tu3 ((h + 2) % 8) 1 0 0 0 else tu3 h 1 0 0 0

def nh (c : UInt8) (h : Int) : Int := if c == 76 then (h + 1) % 8 else if c == 82 then (h + 7) % 8 else h

def Sp.next (s : Sp) (c : UInt8) : Sp := ⟨s.x0 + dd0 c s.h, s.x1 + dd1 c s.h, s.x2 + dd2 c s.h, s.x3 + dd3 c s.h, nh c s.h⟩

/-- The last step behind the pieces l. -/
def fin (s : Sp) (l : List UInt8) : Sp := l.foldl Sp.next s

/-- The steps before and behind each piece. -/
def lays : Sp → List UInt8 → List Sp
  | s, [] => [s]
  | s, c :: l => s :: lays (s.next c) l

theorem fin_snoc (s : Sp) (l : List UInt8) (c : UInt8) : fin s (l ++ [c]) = (fin s l).next c := by simp [fin, List.foldl_append]

theorem lays_snoc (s : Sp) (l : List UInt8) (c : UInt8) : lays s (l ++ [c]) = lays s l ++ [(fin s l).next c] := by
  induction l generalizing s with
  | nil => rfl
  | cons d l ih => simp [lays, ih, fin]

theorem lays_length (s : Sp) (l : List UInt8) : (lays s l).length = l.length + 1 := by
  induction l generalizing s with
  | nil => rfl
  | cons d l ih => simp [lays, ih]

theorem lays_last (s : Sp) (l : List UInt8) : (lays s l)[l.length]? = some (fin s l) := by
  induction l generalizing s with
  | nil => rfl
  | cons d l ih => simp [lays, ih, fin]

theorem tu_one0 (k : Int) : -1 ≤ tu0 k 1 0 0 0 ∧ tu0 k 1 0 0 0 ≤ 1 := by unfold tu0; repeat' split <;> omega

theorem tu_one1 (k : Int) : -1 ≤ tu1 k 1 0 0 0 ∧ tu1 k 1 0 0 0 ≤ 1 := by unfold tu1; repeat' split <;> omega

theorem tu_one2 (k : Int) : -1 ≤ tu2 k 1 0 0 0 ∧ tu2 k 1 0 0 0 ≤ 1 := by unfold tu2; repeat' split <;> omega

theorem tu_one3 (k : Int) : -1 ≤ tu3 k 1 0 0 0 ∧ tu3 k 1 0 0 0 ≤ 1 := by unfold tu3; repeat' split <;> omega

theorem dd_bd0 (c : UInt8) (h : Int) : -2 ≤ dd0 c h ∧ dd0 c h ≤ 2 := by
  have a := tu_one0 ((h + 7) % 8); have b := tu_one0 ((h + 6) % 8); have d := tu_one0 ((h + 1) % 8); have e := tu_one0 ((h + 2) % 8); have f := tu_one0 h
  unfold dd0; repeat' split <;> omega

theorem dd_bd1 (c : UInt8) (h : Int) : -2 ≤ dd1 c h ∧ dd1 c h ≤ 2 := by
  have a := tu_one1 ((h + 7) % 8); have b := tu_one1 ((h + 6) % 8); have d := tu_one1 ((h + 1) % 8); have e := tu_one1 ((h + 2) % 8); have f := tu_one1 h
  unfold dd1; repeat' split <;> omega

theorem dd_bd2 (c : UInt8) (h : Int) : -2 ≤ dd2 c h ∧ dd2 c h ≤ 2 := by
  have a := tu_one2 ((h + 7) % 8); have b := tu_one2 ((h + 6) % 8); have d := tu_one2 ((h + 1) % 8); have e := tu_one2 ((h + 2) % 8); have f := tu_one2 h
  unfold dd2; repeat' split <;> omega

theorem dd_bd3 (c : UInt8) (h : Int) : -2 ≤ dd3 c h ∧ dd3 c h ≤ 2 := by
  have a := tu_one3 ((h + 7) % 8); have b := tu_one3 ((h + 6) % 8); have d := tu_one3 ((h + 1) % 8); have e := tu_one3 ((h + 2) % 8); have f := tu_one3 h
  unfold dd3; repeat' split <;> omega

theorem nh_bd (c : UInt8) (h : Int) (h0 : 0 ≤ h) (h7 : h ≤ 7) : 0 ≤ nh c h ∧ nh c h ≤ 7 := by unfold nh; repeat' split <;> omega

/-- A step whose numbers are no more than n in size, with a heading. -/
def Sp.okB (s : Sp) (n : Int) : Prop := (-n ≤ s.x0 ∧ s.x0 ≤ n) ∧ (-n ≤ s.x1 ∧ s.x1 ≤ n) ∧ (-n ≤ s.x2 ∧ s.x2 ≤ n) ∧ (-n ≤ s.x3 ∧ s.x3 ≤ n) ∧ 0 ≤ s.h ∧ s.h ≤ 7

theorem Sp.okB.next {s : Sp} {n : Int} (h : s.okB n) (c : UInt8) : (s.next c).okB (n + 2) := by
  obtain ⟨h0, h1, h2, h3, h4, h5⟩ := h
  have d0 := dd_bd0 c s.h; have d1 := dd_bd1 c s.h; have d2 := dd_bd2 c s.h; have d3 := dd_bd3 c s.h
  have d4 := nh_bd c s.h h4 h5
  simp only [Sp.okB, Sp.next]
  omega

theorem Sp.okB.mono {s : Sp} {n m : Int} (h : s.okB n) (hm : n ≤ m) : s.okB m := by
  obtain ⟨h0, h1, h2, h3, h4, h5⟩ := h
  simp only [Sp.okB]
  omega

theorem fin_ok {s : Sp} {n : Int} (h : s.okB n) (l : List UInt8) : (fin s l).okB (n + 2 * l.length) := by
  induction l generalizing s n with
  | nil => simpa [fin] using h
  | cons c l ih =>
    have := ih (h.next c)
    simp only [fin, List.foldl_cons, List.length_cons] at this ⊢
    exact this.mono (by omega)

def sp0 : Sp := ⟨0, 0, 0, 0, 0⟩

theorem sp0_ok : sp0.okB 0 := by simp [Sp.okB, sp0]

/-- All cells of a list of steps, one after the other. -/
def spCells (l : List Sp) : List Value := (l.map Sp.cells).flatten

def ptCells (l : List Sp) : List Value := (l.map Sp.ptc).flatten

theorem spCells_length (l : List Sp) : (spCells l).length = 5 * l.length := by
  induction l with
  | nil => rfl
  | cons a l ih => simp only [spCells, List.map_cons, List.flatten_cons, List.length_append, Sp.cells_length, List.length_cons] at ih ⊢; omega

theorem ptCells_length (l : List Sp) : (ptCells l).length = 4 * l.length := by
  induction l with
  | nil => rfl
  | cons a l ih => simp only [ptCells, List.map_cons, List.flatten_cons, List.length_append, Sp.ptc_length, List.length_cons] at ih ⊢; omega

theorem spCells_append (l m : List Sp) : spCells (l ++ m) = spCells l ++ spCells m := by simp [spCells]

theorem ptCells_append (l m : List Sp) : ptCells (l ++ m) = ptCells l ++ ptCells m := by simp [ptCells]

theorem spCells_at (l : List Sp) {i : Nat} {s : Sp} (h : l[i]? = some s) (j : Nat) (hj : j < 5) : (spCells l)[5 * i + j]? = s.cells[j]? := by
  induction l generalizing i with
  | nil => simp at h
  | cons a l ih =>
    have e : spCells (a :: l) = a.cells ++ spCells l := by simp [spCells]
    rw [e]
    cases i with
    | zero =>
      simp at h; subst h
      rw [List.getElem?_append_left (by rw [Sp.cells_length]; omega)]
      simp
    | succ i =>
      simp at h
      rw [List.getElem?_append_right (by rw [Sp.cells_length]; omega), Sp.cells_length, ← ih h]
      congr 1
      omega

theorem ptCells_at (l : List Sp) {i : Nat} {s : Sp} (h : l[i]? = some s) (j : Nat) (hj : j < 4) : (ptCells l)[4 * i + j]? = s.ptc[j]? := by
  induction l generalizing i with
  | nil => simp at h
  | cons a l ih =>
    have e : ptCells (a :: l) = a.ptc ++ ptCells l := by simp [ptCells]
    rw [e]
    cases i with
    | zero =>
      simp at h; subst h
      rw [List.getElem?_append_left (by rw [Sp.ptc_length]; omega)]
      simp
    | succ i =>
      simp at h
      rw [List.getElem?_append_right (by rw [Sp.ptc_length]; omega), Sp.ptc_length, ← ih h]
      congr 1
      omega

theorem spCells_one (l : List Sp) : ∀ u ∈ spCells l, u.oneCell' = true := by
  intro u hu
  simp only [spCells, List.mem_flatten, List.mem_map] at hu
  obtain ⟨_, ⟨s, _, rfl⟩, hu⟩ := hu
  simp only [Sp.cells, List.mem_cons, List.not_mem_nil, or_false] at hu
  rcases hu with rfl | rfl | rfl | rfl | rfl <;> rfl

theorem ptCells_one (l : List Sp) : ∀ u ∈ ptCells l, u.oneCell' = true := by
  intro u hu
  simp only [ptCells, List.mem_flatten, List.mem_map] at hu
  obtain ⟨_, ⟨s, _, rfl⟩, hu⟩ := hu
  simp only [Sp.ptc, List.mem_cons, List.not_mem_nil, or_false] at hu
  rcases hu with rfl | rfl | rfl | rfl <;> rfl

end Go.Proofs.Ythiimllafcfieaa

/- A track laid from a point with a heading: turned and moved. -/
namespace Go.Proofs.Ythiimllafcfieaa

theorem tS0 (k h : Int) (k0 : 0 ≤ k) (k7 : k ≤ 7) (h0 : 0 ≤ h) (h7 : h ≤ 7) : tu0 ((k + h) % 8) 1 0 0 0 = tu0 k (tu0 h 1 0 0 0) (tu1 h 1 0 0 0) (tu2 h 1 0 0 0) (tu3 h 1 0 0 0) := by
  rcases eight k k0 k7 with rfl | rfl | rfl | rfl | rfl | rfl | rfl | rfl <;> rcases eight h h0 h7 with rfl | rfl | rfl | rfl | rfl | rfl | rfl | rfl <;> decide

theorem tS1 (k h : Int) (k0 : 0 ≤ k) (k7 : k ≤ 7) (h0 : 0 ≤ h) (h7 : h ≤ 7) : tu1 ((k + h) % 8) 1 0 0 0 = tu1 k (tu0 h 1 0 0 0) (tu1 h 1 0 0 0) (tu2 h 1 0 0 0) (tu3 h 1 0 0 0) := by
  rcases eight k k0 k7 with rfl | rfl | rfl | rfl | rfl | rfl | rfl | rfl <;> rcases eight h h0 h7 with rfl | rfl | rfl | rfl | rfl | rfl | rfl | rfl <;> decide

theorem tS2 (k h : Int) (k0 : 0 ≤ k) (k7 : k ≤ 7) (h0 : 0 ≤ h) (h7 : h ≤ 7) : tu2 ((k + h) % 8) 1 0 0 0 = tu2 k (tu0 h 1 0 0 0) (tu1 h 1 0 0 0) (tu2 h 1 0 0 0) (tu3 h 1 0 0 0) := by
  rcases eight k k0 k7 with rfl | rfl | rfl | rfl | rfl | rfl | rfl | rfl <;> rcases eight h h0 h7 with rfl | rfl | rfl | rfl | rfl | rfl | rfl | rfl <;> decide

theorem tS3 (k h : Int) (k0 : 0 ≤ k) (k7 : k ≤ 7) (h0 : 0 ≤ h) (h7 : h ≤ 7) : tu3 ((k + h) % 8) 1 0 0 0 = tu3 k (tu0 h 1 0 0 0) (tu1 h 1 0 0 0) (tu2 h 1 0 0 0) (tu3 h 1 0 0 0) := by
  rcases eight k k0 k7 with rfl | rfl | rfl | rfl | rfl | rfl | rfl | rfl <;> rcases eight h h0 h7 with rfl | rfl | rfl | rfl | rfl | rfl | rfl | rfl <;> decide

theorem tuA0 (k a0 a1 a2 a3 b0 b1 b2 b3 : Int) : tu0 k (a0 + b0) (a1 + b1) (a2 + b2) (a3 + b3) = tu0 k a0 a1 a2 a3 + tu0 k b0 b1 b2 b3 := by unfold tu0; repeat' split <;> omega

theorem tuA1 (k a0 a1 a2 a3 b0 b1 b2 b3 : Int) : tu1 k (a0 + b0) (a1 + b1) (a2 + b2) (a3 + b3) = tu1 k a0 a1 a2 a3 + tu1 k b0 b1 b2 b3 := by unfold tu1; repeat' split <;> omega

theorem tuA2 (k a0 a1 a2 a3 b0 b1 b2 b3 : Int) : tu2 k (a0 + b0) (a1 + b1) (a2 + b2) (a3 + b3) = tu2 k a0 a1 a2 a3 + tu2 k b0 b1 b2 b3 := by unfold tu2; repeat' split <;> omega

theorem tuA3 (k a0 a1 a2 a3 b0 b1 b2 b3 : Int) : tu3 k (a0 + b0) (a1 + b1) (a2 + b2) (a3 + b3) = tu3 k a0 a1 a2 a3 + tu3 k b0 b1 b2 b3 := by unfold tu3; repeat' split <;> omega

theorem tuM0 (k a0 a1 a2 a3 b0 b1 b2 b3 : Int) : tu0 k (a0 - b0) (a1 - b1) (a2 - b2) (a3 - b3) = tu0 k a0 a1 a2 a3 - tu0 k b0 b1 b2 b3 := by unfold tu0; repeat' split <;> omega

theorem tuM1 (k a0 a1 a2 a3 b0 b1 b2 b3 : Int) : tu1 k (a0 - b0) (a1 - b1) (a2 - b2) (a3 - b3) = tu1 k a0 a1 a2 a3 - tu1 k b0 b1 b2 b3 := by unfold tu1; repeat' split <;> omega

theorem tuM2 (k a0 a1 a2 a3 b0 b1 b2 b3 : Int) : tu2 k (a0 - b0) (a1 - b1) (a2 - b2) (a3 - b3) = tu2 k a0 a1 a2 a3 - tu2 k b0 b1 b2 b3 := by unfold tu2; repeat' split <;> omega

theorem tuM3 (k a0 a1 a2 a3 b0 b1 b2 b3 : Int) : tu3 k (a0 - b0) (a1 - b1) (a2 - b2) (a3 - b3) = tu3 k a0 a1 a2 a3 - tu3 k b0 b1 b2 b3 := by unfold tu3; repeat' split <;> omega

theorem turn8 (k h n : Int) : ((k + h) % 8 + n) % 8 = (k + (h + n) % 8) % 8 := by omega

theorem ddR (c : UInt8) (k h : Int) (k0 : 0 ≤ k) (k7 : k ≤ 7) (h0 : 0 ≤ h) (h7 : h ≤ 7) :
    dd0 c ((k + h) % 8) = tu0 k (dd0 c h) (dd1 c h) (dd2 c h) (dd3 c h) ∧ dd1 c ((k + h) % 8) = tu1 k (dd0 c h) (dd1 c h) (dd2 c h) (dd3 c h) ∧
    dd2 c ((k + h) % 8) = tu2 k (dd0 c h) (dd1 c h) (dd2 c h) (dd3 c h) ∧ dd3 c ((k + h) % 8) = tu3 k (dd0 c h) (dd1 c h) (dd2 c h) (dd3 c h) := by
  have q := fun n (hn : 0 ≤ (h + n) % 8 ∧ (h + n) % 8 ≤ 7) => And.intro (tS0 k ((h + n) % 8) k0 k7 hn.1 hn.2) (And.intro (tS1 k ((h + n) % 8) k0 k7 hn.1 hn.2) (And.intro (tS2 k ((h + n) % 8) k0 k7 hn.1 hn.2) (tS3 k ((h + n) % 8) k0 k7 hn.1 hn.2)))
  obtain ⟨a0, a1, a2, a3⟩ := q 7 (by omega)
  obtain ⟨b0, b1, b2, b3⟩ := q 6 (by omega)
  obtain ⟨c0, c1, c2, c3⟩ := q 1 (by omega)
  obtain ⟨d0, d1, d2, d3⟩ := q 2 (by omega)
  unfold dd0 dd1 dd2 dd3
  by_cases e1 : c == 76
  · simp only [e1, if_true, turn8, tuM0, tuM1, tuM2, tuM3]
    exact ⟨by rw [a0, b0], by rw [a1, b1], by rw [a2, b2], by rw [a3, b3]⟩
  by_cases e2 : c == 82
  · simp only [e1, e2, if_true, if_false, Bool.false_eq_true, turn8, tuM0, tuM1, tuM2, tuM3]
    exact ⟨by rw [c0, d0], by rw [c1, d1], by rw [c2, d2], by rw [c3, d3]⟩
  · simp only [e1, e2, if_false, Bool.false_eq_true]
    exact ⟨tS0 k h k0 k7 h0 h7, tS1 k h k0 k7 h0 h7, tS2 k h k0 k7 h0 h7, tS3 k h k0 k7 h0 h7⟩

/-- The step s, turned by a's heading and moved to a. -/
def rot (a s : Sp) : Sp := ⟨a.x0 + tu0 a.h s.x0 s.x1 s.x2 s.x3, a.x1 + tu1 a.h s.x0 s.x1 s.x2 s.x3, a.x2 + tu2 a.h s.x0 s.x1 s.x2 s.x3, a.x3 + tu3 a.h s.x0 s.x1 s.x2 s.x3, (a.h + s.h) % 8⟩

set_option linter.unusedSimpArgs false in
theorem nhR (c : UInt8) (k h : Int) : nh c ((k + h) % 8) % 8 = (k + nh c h) % 8 := by
  unfold nh
  by_cases e1 : c == 76 <;> by_cases e2 : c == 82 <;> simp only [e1, e2, if_true, if_false, Bool.false_eq_true] <;> omega

theorem nh_mod (c : UInt8) (h : Int) (h0 : 0 ≤ h) (h7 : h ≤ 7) : nh c h % 8 = nh c h := by have := nh_bd c h h0 h7; omega

theorem rot_next (a s : Sp) (c : UInt8) (k0 : 0 ≤ a.h) (k7 : a.h ≤ 7) (h0 : 0 ≤ s.h) (h7 : s.h ≤ 7) : (rot a s).next c = rot a (s.next c) := by
  obtain ⟨r0, r1, r2, r3⟩ := ddR c a.h s.h k0 k7 h0 h7
  have r4 := nhR c a.h s.h
  rw [nh_mod c ((a.h + s.h) % 8) (by omega) (by omega)] at r4
  simp only [rot, Sp.next, r0, r1, r2, r3, r4, tuA0, tuA1, tuA2, tuA3, Int.add_assoc]

theorem rot_fin (a : Sp) (k0 : 0 ≤ a.h) (k7 : a.h ≤ 7) : ∀ (l : List UInt8) (s : Sp), 0 ≤ s.h → s.h ≤ 7 → fin (rot a s) l = rot a (fin s l)
  | [], _, _, _ => rfl
  | c :: l, s, h0, h7 => by
    have hb := nh_bd c s.h h0 h7
    have ih := rot_fin a k0 k7 l (s.next c) hb.1 hb.2
    simp only [fin, List.foldl_cons] at ih ⊢
    rw [rot_next a s c k0 k7 h0 h7]
    exact ih

theorem rot_zero (a : Sp) (k0 : 0 ≤ a.h) (k7 : a.h ≤ 7) : rot a sp0 = a := by
  have z0 : tu0 a.h 0 0 0 0 = 0 := by unfold tu0; repeat' split <;> omega
  have z1 : tu1 a.h 0 0 0 0 = 0 := by unfold tu1; repeat' split <;> omega
  have z2 : tu2 a.h 0 0 0 0 = 0 := by unfold tu2; repeat' split <;> omega
  have z3 : tu3 a.h 0 0 0 0 = 0 := by unfold tu3; repeat' split <;> omega
  have z4 : a.h % 8 = a.h := by omega
  simp [rot, sp0, z0, z1, z2, z3, z4]

/-- Laid from a: as laid from 0, turned and moved. -/
theorem fin_rot (a : Sp) (k0 : 0 ≤ a.h) (k7 : a.h ≤ 7) (l : List UInt8) : fin a l = rot a (fin sp0 l) := by
  have := rot_fin a k0 k7 l sp0 (by decide) (by decide)
  rwa [rot_zero a k0 k7] at this

end Go.Proofs.Ythiimllafcfieaa

/- Texts of n pieces, in order; which of them lead from a step back to the beginning; the way back from a step. -/
namespace Go.Proofs.Ythiimllafcfieaa

def ltr : List UInt8 := [76, 82, 83]

def words : Nat → List (List UInt8)
  | 0 => [[]]
  | n + 1 => (words n).flatMap fun w => ltr.map fun c => w ++ [c]

theorem words_add (a : Nat) : ∀ b, words (a + b) = (words a).flatMap fun u => (words b).map fun v => u ++ v
  | 0 => by simp [words]
  | b + 1 => by
    rw [← Nat.add_assoc]
    show (words (a + b)).flatMap _ = _
    rw [words_add a b, List.flatMap_assoc]
    congr 1
    funext u
    show _ = ((words b).flatMap _).map _
    rw [List.flatMap_map, List.map_flatMap]
    congr 1
    funext v
    simp [ltr]

theorem words_cons (n : Nat) : words (n + 1) = ltr.flatMap fun c => (words n).map fun v => c :: v := by
  rw [Nat.add_comm, words_add 1 n]
  simp [words, ltr]

theorem words_len : ∀ (n : Nat) (w : List UInt8), w ∈ words n → w.length = n
  | 0, w, h => by simp [words] at h; simp [h]
  | n + 1, w, h => by
    simp only [words, List.mem_flatMap, List.mem_map] at h
    obtain ⟨u, hu, c, _, rfl⟩ := h
    simp [words_len n u hu]

theorem words_pcb : ∀ (n : Nat) (w : List UInt8), w ∈ words n → w.all pcb = true
  | 0, w, h => by simp [words] at h; simp [h]
  | n + 1, w, h => by
    simp only [words, List.mem_flatMap, List.mem_map] at h
    obtain ⟨u, hu, c, hc, rfl⟩ := h
    rw [List.all_append, words_pcb n u hu]
    simp only [ltr, List.mem_cons, List.not_mem_nil, or_false] at hc
    rcases hc with rfl | rfl | rfl <;> rfl

theorem words_count : ∀ n : Nat, (words n).length = 3 ^ n
  | 0 => rfl
  | n + 1 => by
    simp only [words, List.length_flatMap, List.length_map]
    rw [show (ltr.length) = 3 from rfl, List.map_const', List.sum_replicate_nat, words_count n, Nat.pow_succ]

theorem fin_append (s : Sp) (l m : List UInt8) : fin s (l ++ m) = fin (fin s l) m := by simp [fin, List.foldl_append]

theorem fin_cons (s : Sp) (c : UInt8) (l : List UInt8) : fin s (c :: l) = fin (s.next c) l := rfl

def spE (p q : Sp) : Bool := (p.x0 == q.x0 && (p.x1 == q.x1 && (p.x2 == q.x2 && p.x3 == q.x3))) && p.h == q.h

theorem spE_iff {p q : Sp} : spE p q = true ↔ p = q := by
  obtain ⟨a0, a1, a2, a3, a4⟩ := p
  obtain ⟨b0, b1, b2, b3, b4⟩ := q
  simp only [spE, Bool.and_eq_true, beq_iff_eq, Sp.mk.injEq]
  constructor
  · rintro ⟨⟨h0, h1, h2, h3⟩, h4⟩; exact ⟨h0, h1, h2, h3, h4⟩
  · rintro ⟨h0, h1, h2, h3, h4⟩; exact ⟨⟨h0, h1, h2, h3⟩, h4⟩

theorem spE_no {p q : Sp} : spE p q = false ↔ p ≠ q := by
  rw [← Bool.not_eq_true, spE_iff]

/-- The end that a part of a track has if it leads from s back to the beginning. -/
def wayB (s : Sp) : Sp := ⟨tu0 ((8 - s.h) % 8) (-s.x0) (-s.x1) (-s.x2) (-s.x3), tu1 ((8 - s.h) % 8) (-s.x0) (-s.x1) (-s.x2) (-s.x3), tu2 ((8 - s.h) % 8) (-s.x0) (-s.x1) (-s.x2) (-s.x3), tu3 ((8 - s.h) % 8) (-s.x0) (-s.x1) (-s.x2) (-s.x3), (8 - s.h) % 8⟩

theorem rot_back (a v : Sp) (k0 : 0 ≤ a.h) (k7 : a.h ≤ 7) (h0 : 0 ≤ v.h) (h7 : v.h ≤ 7) : rot a v = sp0 ↔ v = wayB a := by
  obtain ⟨a0, a1, a2, a3, a4⟩ := a
  obtain ⟨b0, b1, b2, b3, b4⟩ := v
  simp only at k0 k7 h0 h7
  have e8 : a4 = 0 ∨ a4 = 1 ∨ a4 = 2 ∨ a4 = 3 ∨ a4 = 4 ∨ a4 = 5 ∨ a4 = 6 ∨ a4 = 7 := by omega
  rcases e8 with rfl | rfl | rfl | rfl | rfl | rfl | rfl | rfl <;> simp [rot, wayB, sp0, tu0, tu1, tu2, tu3] <;> omega

theorem fin_back (a : Sp) (k0 : 0 ≤ a.h) (k7 : a.h ≤ 7) (l : List UInt8) : fin a l = sp0 ↔ fin sp0 l = wayB a := by
  rw [fin_rot a k0 k7 l]
  have h := fin_ok sp0_ok l
  simp only [Sp.okB] at h
  exact rot_back a _ k0 k7 h.2.2.2.2.1 h.2.2.2.2.2

/-- All texts of n pieces that lead from a step back to the beginning. -/
def clsL (a : Sp) (n : Nat) : List (List UInt8) := (words n).filter fun w => spE (fin a w) sp0

/-- Parts: texts with their ends. -/
def parts (a : Sp) (n : Nat) : List (Sp × List UInt8) := (words n).map fun w => (fin a w, w)

/-- The texts of parts at a step. -/
def grp (k : Sp) (l : List (Sp × List UInt8)) : List (List UInt8) := (l.filter fun p => spE p.1 k).map Prod.snd

theorem parts_succ (a : Sp) (n : Nat) : parts a (n + 1) = (parts a n).flatMap fun p => ltr.map fun c => (p.1.next c, p.2 ++ [c]) := by
  simp only [parts, words, List.map_flatMap, List.flatMap_map, List.map_map]
  congr 1
  funext w
  simp [ltr, fin_snoc]

theorem parts_len (a : Sp) (n : Nat) : (parts a n).length = 3 ^ n := by rw [parts, List.length_map, words_count]

/-- Closed ones, out of two parts. -/
theorem cls_halves (a : Sp) (k0 : 0 ≤ a.h) (k7 : a.h ≤ 7) (m n : Nat) :
    ((parts a m).flatMap fun p => (grp (wayB p.1) (parts sp0 n)).map fun v => p.2 ++ v) = clsL a (m + n) := by
  rw [clsL, words_add, List.filter_flatMap, show parts a m = (words m).map fun w => (fin a w, w) from rfl, List.flatMap_map]
  congr 1
  funext u
  simp only [grp, parts, List.filter_map, List.map_map, Function.comp_def]
  rw [show (fun w : List UInt8 => u ++ w) = (fun v => u ++ v) from rfl]
  congr 1
  apply List.filter_congr
  intro v _
  have hb : (fin a u).okB _ := fin_ok (s := a) (n := (a.x0.natAbs + a.x1.natAbs + a.x2.natAbs + a.x3.natAbs : Nat)) (by simp only [Sp.okB]; omega) u
  simp only [Sp.okB] at hb
  have h := fin_back (fin a u) hb.2.2.2.2.1 hb.2.2.2.2.2 v
  rw [Bool.eq_iff_iff, spE_iff, spE_iff, fin_append, h]

/-- The turn of a text. -/
def trW (l : List UInt8) : Int := (cnt 76 l : Int) - (cnt 82 l : Int)

end Go.Proofs.Ythiimllafcfieaa

/- Cells handed on, as in Cl: those of a part, and lists of parts. -/
namespace Go.Proofs.Ythiimllafcfieaa
open Go.ChangeShapes Go.WideShapes Go.ChangeAt Go.RowKit

section
variable {B0 : Nat} {v00 v01 v02 v03 v04 v05 : Value} {W w1 : World}
theorem pr_below (h : W.cell? ⟨B0, 0, none⟩ = some v00 ∧ W.cell? ⟨B0, 1, none⟩ = some v01 ∧ W.cell? ⟨B0, 2, none⟩ = some v02 ∧ W.cell? ⟨B0, 3, none⟩ = some v03 ∧ W.cell? ⟨B0, 4, none⟩ = some v04 ∧ W.cell? ⟨B0, 5, none⟩ = some v05) (h0 : B0 < W.heap.size) (hb : Below W.heap.size W w1) : w1.cell? ⟨B0, 0, none⟩ = some v00 ∧ w1.cell? ⟨B0, 1, none⟩ = some v01 ∧ w1.cell? ⟨B0, 2, none⟩ = some v02 ∧ w1.cell? ⟨B0, 3, none⟩ = some v03 ∧ w1.cell? ⟨B0, 4, none⟩ = some v04 ∧ w1.cell? ⟨B0, 5, none⟩ = some v05 :=
  let ⟨k0, k1, k2, k3, k4, k5⟩ := h
  ⟨cl_below k0 h0 hb, cl_below k1 h0 hb, cl_below k2 h0 hb, cl_below k3 h0 hb, cl_below k4 h0 hb, cl_below k5 h0 hb⟩

theorem pr_alloc (h : W.cell? ⟨B0, 0, none⟩ = some v00 ∧ W.cell? ⟨B0, 1, none⟩ = some v01 ∧ W.cell? ⟨B0, 2, none⟩ = some v02 ∧ W.cell? ⟨B0, 3, none⟩ = some v03 ∧ W.cell? ⟨B0, 4, none⟩ = some v04 ∧ W.cell? ⟨B0, 5, none⟩ = some v05) (o : Obj) : (W.alloc o).cell? ⟨B0, 0, none⟩ = some v00 ∧ (W.alloc o).cell? ⟨B0, 1, none⟩ = some v01 ∧ (W.alloc o).cell? ⟨B0, 2, none⟩ = some v02 ∧ (W.alloc o).cell? ⟨B0, 3, none⟩ = some v03 ∧ (W.alloc o).cell? ⟨B0, 4, none⟩ = some v04 ∧ (W.alloc o).cell? ⟨B0, 5, none⟩ = some v05 :=
  let ⟨k0, k1, k2, k3, k4, k5⟩ := h
  ⟨cl_alloc k0 o, cl_alloc k1 o, cl_alloc k2 o, cl_alloc k3 o, cl_alloc k4 o, cl_alloc k5 o⟩

theorem pr_re {o : Obj} (h : (W.alloc o).cell? ⟨B0, 0, none⟩ = some v00 ∧ (W.alloc o).cell? ⟨B0, 1, none⟩ = some v01 ∧ (W.alloc o).cell? ⟨B0, 2, none⟩ = some v02 ∧ (W.alloc o).cell? ⟨B0, 3, none⟩ = some v03 ∧ (W.alloc o).cell? ⟨B0, 4, none⟩ = some v04 ∧ (W.alloc o).cell? ⟨B0, 5, none⟩ = some v05) (h0 : B0 < W.heap.size) (o2 : Obj) : (W.alloc o2).cell? ⟨B0, 0, none⟩ = some v00 ∧ (W.alloc o2).cell? ⟨B0, 1, none⟩ = some v01 ∧ (W.alloc o2).cell? ⟨B0, 2, none⟩ = some v02 ∧ (W.alloc o2).cell? ⟨B0, 3, none⟩ = some v03 ∧ (W.alloc o2).cell? ⟨B0, 4, none⟩ = some v04 ∧ (W.alloc o2).cell? ⟨B0, 5, none⟩ = some v05 :=
  let ⟨k0, k1, k2, k3, k4, k5⟩ := h
  ⟨cl_re k0 h0 o2, cl_re k1 h0 o2, cl_re k2 h0 o2, cl_re k3 h0 o2, cl_re k4 h0 o2, cl_re k5 h0 o2⟩

theorem pr_drew (h : W.cell? ⟨B0, 0, none⟩ = some v00 ∧ W.cell? ⟨B0, 1, none⟩ = some v01 ∧ W.cell? ⟨B0, 2, none⟩ = some v02 ∧ W.cell? ⟨B0, 3, none⟩ = some v03 ∧ W.cell? ⟨B0, 4, none⟩ = some v04 ∧ W.cell? ⟨B0, 5, none⟩ = some v05) : W.drew.cell? ⟨B0, 0, none⟩ = some v00 ∧ W.drew.cell? ⟨B0, 1, none⟩ = some v01 ∧ W.drew.cell? ⟨B0, 2, none⟩ = some v02 ∧ W.drew.cell? ⟨B0, 3, none⟩ = some v03 ∧ W.drew.cell? ⟨B0, 4, none⟩ = some v04 ∧ W.drew.cell? ⟨B0, 5, none⟩ = some v05 := h

theorem pr_undrew (h : W.drew.cell? ⟨B0, 0, none⟩ = some v00 ∧ W.drew.cell? ⟨B0, 1, none⟩ = some v01 ∧ W.drew.cell? ⟨B0, 2, none⟩ = some v02 ∧ W.drew.cell? ⟨B0, 3, none⟩ = some v03 ∧ W.drew.cell? ⟨B0, 4, none⟩ = some v04 ∧ W.drew.cell? ⟨B0, 5, none⟩ = some v05) : W.cell? ⟨B0, 0, none⟩ = some v00 ∧ W.cell? ⟨B0, 1, none⟩ = some v01 ∧ W.cell? ⟨B0, 2, none⟩ = some v02 ∧ W.cell? ⟨B0, 3, none⟩ = some v03 ∧ W.cell? ⟨B0, 4, none⟩ = some v04 ∧ W.cell? ⟨B0, 5, none⟩ = some v05 := h

theorem pr_set (h : W.cell? ⟨B0, 0, none⟩ = some v00 ∧ W.cell? ⟨B0, 1, none⟩ = some v01 ∧ W.cell? ⟨B0, 2, none⟩ = some v02 ∧ W.cell? ⟨B0, 3, none⟩ = some v03 ∧ W.cell? ⟨B0, 4, none⟩ = some v04 ∧ W.cell? ⟨B0, 5, none⟩ = some v05) (p : Addr) (u : Value) (h0 : p.block ≠ B0) : (W.setCell p u).cell? ⟨B0, 0, none⟩ = some v00 ∧ (W.setCell p u).cell? ⟨B0, 1, none⟩ = some v01 ∧ (W.setCell p u).cell? ⟨B0, 2, none⟩ = some v02 ∧ (W.setCell p u).cell? ⟨B0, 3, none⟩ = some v03 ∧ (W.setCell p u).cell? ⟨B0, 4, none⟩ = some v04 ∧ (W.setCell p u).cell? ⟨B0, 5, none⟩ = some v05 :=
  let ⟨k0, k1, k2, k3, k4, k5⟩ := h
  ⟨cl_set k0 p u h0, cl_set k1 p u h0, cl_set k2 p u h0, cl_set k3 p u h0, cl_set k4 p u h0, cl_set k5 p u h0⟩

theorem pr_far {row : Option Nat} (h : W.cell? ⟨B0, 0, none⟩ = some v00 ∧ W.cell? ⟨B0, 1, none⟩ = some v01 ∧ W.cell? ⟨B0, 2, none⟩ = some v02 ∧ W.cell? ⟨B0, 3, none⟩ = some v03 ∧ W.cell? ⟨B0, 4, none⟩ = some v04 ∧ W.cell? ⟨B0, 5, none⟩ = some v05) (h0 : some B0 ≠ row) (hg : W.grownBy w1 row) : w1.cell? ⟨B0, 0, none⟩ = some v00 ∧ w1.cell? ⟨B0, 1, none⟩ = some v01 ∧ w1.cell? ⟨B0, 2, none⟩ = some v02 ∧ w1.cell? ⟨B0, 3, none⟩ = some v03 ∧ w1.cell? ⟨B0, 4, none⟩ = some v04 ∧ w1.cell? ⟨B0, 5, none⟩ = some v05 :=
  let ⟨k0, k1, k2, k3, k4, k5⟩ := h
  ⟨hg.cell k0 h0, hg.cell k1 h0, hg.cell k2 h0, hg.cell k3 h0, hg.cell k4 h0, hg.cell k5 h0⟩
end

theorem flat_at {α : Type} (f : α → List Value) (n : Nat) (hf : ∀ a, (f a).length = n) : ∀ (l : List α) (i : Nat) (a : α), l[i]? = some a → ∀ j, j < n → ((l.map f).flatten)[n * i + j]? = (f a)[j]?
  | [], i, a, h, _, _ => by simp at h
  | b :: l, 0, a, h, j, hj => by
    simp only [List.getElem?_cons_zero, Option.some.injEq] at h
    subst h
    simp only [List.map_cons, List.flatten_cons, Nat.mul_zero, Nat.zero_add]
    rw [List.getElem?_append_left (by rw [hf]; exact hj)]
  | b :: l, i + 1, a, h, j, hj => by
    simp only [List.map_cons, List.flatten_cons]
    rw [List.getElem?_append_right (by rw [hf, Nat.mul_succ]; omega), hf, show n * (i + 1) + j - n = n * i + j by rw [Nat.mul_succ]; omega]
    exact flat_at f n hf l i a (by simpa using h) j hj

theorem flat_len {α : Type} (f : α → List Value) (n : Nat) (hf : ∀ a, (f a).length = n) (l : List α) : ((l.map f).flatten).length = l.length * n := by
  induction l with
  | nil => simp
  | cons a l ih => simp only [List.map_cons, List.flatten_cons, List.length_append, hf, ih, List.length_cons, Nat.succ_mul]; omega

def prtC (p : Sp × List UInt8) : List Value := [.int .i64 p.1.x0, .int .i64 p.1.x1, .int .i64 p.1.x2, .int .i64 p.1.x3, .int .i64 p.1.h, .string (ofL p.2)]

def prtCells (l : List (Sp × List UInt8)) : List Value := (l.map prtC).flatten

theorem prtCells_append (l m : List (Sp × List UInt8)) : prtCells (l ++ m) = prtCells l ++ prtCells m := by simp [prtCells]

/-- Parts at their place, in a block that was there. -/
def PrtAt (w : World) (g : Nat) (l : List (Sp × List UInt8)) : Prop :=
  ∀ i p, l[i]? = some p → w.cell? ⟨g, i * 6, none⟩ = some (.int .i64 p.1.x0) ∧ w.cell? ⟨g, i * 6 + 1, none⟩ = some (.int .i64 p.1.x1) ∧ w.cell? ⟨g, i * 6 + 2, none⟩ = some (.int .i64 p.1.x2) ∧ w.cell? ⟨g, i * 6 + 3, none⟩ = some (.int .i64 p.1.x3) ∧ w.cell? ⟨g, i * 6 + 4, none⟩ = some (.int .i64 p.1.h) ∧ w.cell? ⟨g, i * 6 + 5, none⟩ = some (.string (ofL p.2))

theorem PrtAt.below {w w' : World} {g n : Nat} {l : List (Sp × List UInt8)} (h : PrtAt w g l) (hg : g < n) (hb : Below n w w') : PrtAt w' g l := by
  intro i p hp
  obtain ⟨a, b, c, d, e, f⟩ := h i p hp
  refine ⟨?_, ?_, ?_, ?_, ?_, ?_⟩ <;> (rw [hb.cell hg]; assumption)

theorem prt_of {W : World} {B n g cap : Nat} {e : TypeId} {l : List (Sp × List UInt8)} (h : W.ownsRow B e 6 (.slice (some ⟨g, 0, none⟩) n cap) n (prtCells l)) (hn : l.length = n) : PrtAt W g l := by
  intro i p hp
  have hi : i < n := by rw [← hn]; exact (List.getElem?_eq_some_iff.1 hp).1
  have a := fun j (hj : j < 6) => (h.cellAt (i * 6 + j) (by omega)).trans ((by rw [Nat.mul_comm]) : _ = (prtCells l)[6 * i + j]?) |>.trans (flat_at prtC 6 (fun _ => rfl) l i p hp j hj)
  exact ⟨a 0 (by omega), a 1 (by omega), a 2 (by omega), a 3 (by omega), a 4 (by omega), a 5 (by omega)⟩

/-- The next longer parts. -/
def nxt (l : List (Sp × List UInt8)) : List (Sp × List UInt8) := l.flatMap fun p => ltr.map fun c => (p.1.next c, p.2 ++ [c])

theorem parts_nxt (a : Sp) (n : Nat) : parts a (n + 1) = nxt (parts a n) := parts_succ a n

theorem nxt_take {l : List (Sp × List UInt8)} {j : Nat} {p : Sp × List UInt8} (h : l[j]? = some p) : nxt (l.take (j + 1)) = nxt (l.take j) ++ ltr.map fun c => (p.1.next c, p.2 ++ [c]) := by
  rw [List.take_add_one, h]
  simp [nxt, List.flatMap_append]

theorem nxt_len (l : List (Sp × List UInt8)) : (nxt l).length = 3 * l.length := by
  induction l with
  | nil => rfl
  | cons a l ih =>
    simp only [nxt, List.flatMap_cons, List.length_append, List.length_map, List.length_cons] at ih ⊢
    rw [ih]
    simp [ltr]
    omega

theorem parts_ok {a : Sp} {m : Int} (ha : a.okB m) {n : Nat} {p : Sp × List UInt8} (h : p ∈ parts a n) : p.1.okB (m + 2 * n) ∧ p.2.length = n := by
  simp only [parts, List.mem_map] at h
  obtain ⟨w, hw, rfl⟩ := h
  have hl := words_len n w hw
  refine ⟨?_, hl⟩
  have := fin_ok ha w
  rwa [hl] at this

end Go.Proofs.Ythiimllafcfieaa

/- A map from steps to texts that a call has made: what lies at each step. -/
namespace Go.Proofs.Ythiimllafcfieaa
open Go Go.ChangeMaps Go.MapKept Go.ChangeShapes Go.WideShapes Go.RowKit
open Go.WideMaps (KeyLaw)
open Go.Maps (Keyed)

theorem stRow : (63 : TypeId) < Try.prog.types.size := of_decide_eq_true (by kernel_rfl)

theorem stDeep : Try.prog.keyTypeAt 4 63 = true := by kernel_rfl

theorem stLaid : laidOutB Try.prog = true := by kernel_rfl

set_option maxRecDepth 100000 in
theorem stLaw : KeyLaw Try.prog 63 := deep_law_laid stLaid (m := 4) (by omega) stRow stDeep (by rw [Try.underlying63])

def spV (s : Sp) : Value := .agg #[.int .i64 s.x0, .int .i64 s.x1, .int .i64 s.x2, .int .i64 s.x3, .int .i64 s.h]

/-- A step whose numbers fit. -/
def wfS (s : Sp) : Prop := (Lit.int .i64 s.x0).wf = true ∧ (Lit.int .i64 s.x1).wf = true ∧ (Lit.int .i64 s.x2).wf = true ∧ (Lit.int .i64 s.x3).wf = true ∧ (Lit.int .i64 s.h).wf = true

set_option maxRecDepth 100000 in
theorem stKey {s : Sp} (h : wfS s) : ∃ l, keyOf Try.prog 63 (spV s) = some l := by
  obtain ⟨h0, h1, h2, h3, h4⟩ := h
  have hkt : Try.prog.keyType 63 = true := by kernel_rfl
  have hc5 : Try.prog.cellsOf 63 = 5 := by kernel_rfl
  have hc4 : Try.prog.cellsOf 60 = 4 := by kernel_rfl
  have hc1 : Try.prog.cellsOf 3 = 1 := by kernel_rfl
  have hfs : Try.prog.underlying 63 = some (.struct (Try.prog.fieldsOf 63)) := by kernel_rfl
  obtain ⟨m, hm⟩ : ∃ m, Try.prog.types.size = m + 3 := ⟨Try.prog.types.size - 3, (Nat.sub_add_cancel (of_decide_eq_true (by kernel_rfl))).symm⟩
  have hL : Try.prog.keyLits (m + 4) 63 [.int .i64 s.x0, .int .i64 s.x1, .int .i64 s.x2, .int .i64 s.x3, .int .i64 s.h] = some [.int .i64 s.x0, .int .i64 s.x1, .int .i64 s.x2, .int .i64 s.x3, .int .i64 s.h] := by
    simp [Program.keyLits, Try.underlying63, Try.underlying60, Try.underlying3, hc5, hc4, hc1, h0, h1, h2, h3, h4]
    split
    · rfl
    · rename_i hc
      exact absurd (by decide) hc
  have hfm : (spV s).formed Try.prog 63 = true := by simp [Value.formed, spV, Try.underlying63, hc5]
  unfold keyOf
  rw [Try.underlying63]
  simp only [hkt, hfm, Bool.and_self, if_true]
  rw [hm, show (spV s).cells.toList = [.int .i64 s.x0, .int .i64 s.x1, .int .i64 s.x2, .int .i64 s.x3, .int .i64 s.h] from rfl, hL]
  exact ⟨_, rfl⟩

/-- The key that a step is. -/
noncomputable def klS (s : Sp) : Lit := (keyOf Try.prog 63 (spV s)).getD (.string [])
theorem klS_key {s : Sp} (h : wfS s) : keyOf Try.prog 63 (spV s) = some (klS s) := by
  obtain ⟨l, hl⟩ := stKey h
  simp [klS, hl]

theorem klS_inj {s s' : Sp} (h : wfS s) (h' : wfS s') (e : klS s = klS s') : s = s' := by
  have a := klS_key h
  have b := klS_key h'
  rw [e] at a
  have := stLaw.inj a b
  obtain ⟨a0, a1, a2, a3, a4⟩ := s
  obtain ⟨b0, b1, b2, b3, b4⟩ := s'
  simpa [spV] using this

set_option maxRecDepth 100000 in
theorem klS_lit {s : Sp} (h : wfS s) : WideAt.IsKeyLit (klS s) := (Keyed.of_law stLaw).key (klS_key h)

theorem wf_of {s : Sp} {n : Int} (h : s.okB n) (hn : n ≤ 1000000) : wfS s := by
  obtain ⟨⟨b0, b0'⟩, ⟨b1, b1'⟩, ⟨b2, b2'⟩, ⟨b3, b3'⟩, b4, b5⟩ := h
  refine ⟨?_, ?_, ?_, ?_, ?_⟩ <;> exact WalkArith.wf_i64 (by omega)

/-- How a slice's header reads. -/
def hdrR (v : Value) : Option (DataW Unit × List MemPlace) :=
  match v with
  | .slice none 0 0 => some (.nil, [])
  | .slice (some ⟨g, 0, none⟩) n c => some (.agg [.lit (.int .i64 g), .lit (.int .i64 n), .lit (.int .i64 c)], [])
  | _ => none

theorem hdrR_nil : hdrR (.slice none 0 0) = some (.nil, []) := rfl

theorem hdrR_some (g n c : Nat) : hdrR (.slice (some ⟨g, 0, none⟩) n c) = some (.agg [.lit (.int .i64 g), .lit (.int .i64 n), .lit (.int .i64 c)], []) := rfl

theorem hdrR_of {W : World} {B e size n : Nat} {v : Value} {xs : List Value} (h : W.ownsRow B e size v n xs) : ∃ d, hdrR v = some (d, []) := by
  rcases h.2 with ⟨rfl, _⟩ | ⟨g, cap, cur, rfl, _⟩
  · exact ⟨_, hdrR_nil⟩
  · exact ⟨_, hdrR_some g n cap⟩

theorem hdrR_inj {W : World} {B e size n : Nat} {v v' : Value} {xs : List Value} (h : W.ownsRow B e size v n xs) {d : DataW Unit} {ps ps' : List MemPlace} (h1 : hdrR v = some (d, ps)) (h2 : hdrR v' = some (d, ps')) : v = v' := by
  rcases h.2 with ⟨rfl, _⟩ | ⟨g, cap, cur, rfl, _⟩
  · rw [hdrR_nil] at h1
    unfold hdrR at h2
    split at h2
    · rfl
    · simp at h1 h2
      rw [← h1.1] at h2
      simp at h2
    · simp at h2
  · rw [hdrR_some] at h1
    unfold hdrR at h2
    split at h2
    · simp at h1 h2
      rw [← h1.1] at h2
      simp at h2
    · simp at h1 h2
      rw [← h1.1] at h2
      simp at h2
      obtain ⟨⟨e1, e2, e3⟩, _⟩ := h2
      rw [Int.ofNat_inj.1 e1, Int.ofNat_inj.1 e2, Int.ofNat_inj.1 e3]
    · simp at h2

def strV (l : List (List UInt8)) : List Value := l.map fun u => .string (ofL u)

theorem strV_append (l m : List (List UInt8)) : strV (l ++ m) = strV l ++ strV m := by simp [strV]

theorem spE_self (s : Sp) : spE s s = true := spE_iff.2 rfl

theorem spE_ne {s k : Sp} (h : s ≠ k) : spE s k = false := spE_no.2 h

theorem grp_same (s : Sp) (u : List UInt8) (G : List (Sp × List UInt8)) : grp s (G ++ [(s, u)]) = grp s G ++ [u] := by simp [grp, spE_self]

theorem grp_other {s k : Sp} (h : s ≠ k) (u : List UInt8) (G : List (Sp × List UInt8)) : grp k (G ++ [(s, u)]) = grp k G := by simp [grp, spE_ne h]

/-- Block b is a map from steps to the texts that stand at them in the list G; their rows lie from block base on, no two keys' in one. -/
def GrpAt (w : World) (b base m : Nat) (G : List (Sp × List UInt8)) : Prop :=
  b < base ∧ ∃ (D : DataW Unit) (V : Sp → Value), w.ownsMap Try.prog 63 hdrR b m D ∧
    (∀ s, wfS s → ∃ ps, hdrR (V s) = some (D.atKey (klS s) .nil, ps)) ∧
    (∀ s, wfS s → w.ownsRow base 9 1 (V s) (grp s G).length (strV (grp s G))) ∧
    (∀ s s', wfS s → wfS s' → s ≠ s' → (V s).ownBlock = none ∨ (V s).ownBlock ≠ (V s').ownBlock)

theorem own_far {W : World} {B b e size n : Nat} {v : Value} {xs : List Value} (h : W.ownsRow B e size v n xs) (hb : b < B) : v.ownBlock = none ∨ v.ownBlock ≠ some b := by
  cases hv : v.ownBlock with
  | none => exact .inl rfl
  | some k =>
    refine .inr fun e => ?_
    injection e with e
    have := (h.lt k hv).1
    omega

theorem own_far' {W : World} {B b e size n : Nat} {v : Value} {xs : List Value} (h : W.ownsRow B e size v n xs) (hb : b < B) : some b ≠ v.ownBlock := by
  intro e
  have := (h.lt b e.symm).1
  omega

theorem GrpAt_start (w : World) : GrpAt (w.alloc (.map #[] 0)) w.heap.size (w.heap.size + 1) 0 [] :=
  ⟨Nat.lt_succ_self _, .map [], fun _ => .slice none 0 0, World.ownsMap_made _ _ _ _, fun _ _ => ⟨[], by simp [hdrR_nil, DataW.atKey]⟩, fun _ _ => World.ownsRow_nil _ _ _ _, fun _ _ _ _ _ => .inl rfl⟩

theorem GrpAt.kept {w w' : World} {b base m : Nat} {G : List (Sp × List UInt8)} {row : Option Nat} (h : GrpAt w b base m G) (hg : w.grownBy w' row) (hb : some b ≠ row) (hr : ∀ k, row = some k → k < base ∨ w.heap.size ≤ k) : GrpAt w' b base m G := by
  obtain ⟨hbb, D, V, hM, hV, hR, hD⟩ := h
  refine ⟨hbb, D, V, hM.kept hg hb, hV, fun s hs => (hR s hs).kept hg ?_, hD⟩
  cases hv : (V s).ownBlock with
  | none => exact .inl rfl
  | some k =>
    refine .inr fun e => ?_
    have := (hR s hs).lt k hv
    rcases hr k e.symm with h | h <;> omega

set_option maxRecDepth 100000 in
theorem GrpAt.entry {w : World} {b base m : Nat} {G : List (Sp × List UInt8)} {s : Sp} (h : GrpAt w b base m G) (hs : wfS s) (hm : m < maxLen) :
    ∃ (v : Value) (st : Nat) (W1 : World), (Instr.mapEntry 132 (.map (some b)) (spV s)).run Try.prog w = .ok (.tuple #[v, goInt st]) W1 ∧ w.grownBy W1 (some b) ∧ W1.ownsRow base 9 1 v (grp s G).length (strV (grp s G)) ∧
      ∀ (w2 : World) (v' : Value) (u : List UInt8), W1.grownBy w2 v.ownBlock → w2.ownsRow base 9 1 v' ((grp s G).length + 1) (strV (grp s G) ++ [.string (ofL u)]) → (v.ownBlock = v'.ownBlock ∨ v'.ownBlock = some W1.heap.size) →
        ∃ w3, (Instr.entryStore 132 (.map (some b)) (goInt st) v').run Try.prog w2 = .ok () w3 ∧ GrpAt w3 b base (m + 1) (G ++ [(s, u)]) ∧ w2.grownBy w3 (some b) := by
  obtain ⟨hbb, D, V, hM, hV, hR, hD⟩ := h
  obtain ⟨v0, st, es1, c1, r1, g1, b1, ⟨ps, hv0⟩, hlt, hst⟩ := map_entry hM stLaw Try.underlying132 hm (z := .slice none 0 0) (fun u => by kernel_rfl) hdrR_nil (klS_key hs)
  obtain ⟨ps', hVs⟩ := hV s hs
  have hvs : V s = v0 := hdrR_inj (hR s hs) hVs hv0
  subst hvs
  refine ⟨V s, st, _, r1, g1, (hR s hs).kept g1 (own_far (hR s hs) hbb), fun w2 v' u hg hown hlies => ?_⟩
  have hb2 := (hg.block b (Nat.lt_of_lt_of_le hlt g1.size) (own_far' (hR s hs) hbb)).trans b1
  obtain ⟨d, hd⟩ := hdrR_of hown
  obtain ⟨w3, r3, m3, g3⟩ := hst w2 v' d [] hb2 hd
  refine ⟨w3, r3, ⟨hbb, D.put (klS s) d, fun k => cond (spE s k) v' (V k), m3, fun k hk => ?_, fun k hk => ?_, fun k k' hk hk' hne => ?_⟩, g3⟩
  · by_cases e : s = k
    · subst e
      exact ⟨[], by simp only [spE_self, cond_true]; rw [Maps.atKey_put_same hM.isMap (klS_lit hs)]; exact hd⟩
    · obtain ⟨q, hq⟩ := hV k hk
      exact ⟨q, by simp only [spE_ne e, cond_false]; rw [Maps.atKey_put_other (fun h => e (klS_inj hs hk h.symm))]; exact hq⟩
  · by_cases e : s = k
    · subst e
      simp only [spE_self, cond_true, grp_same, strV_append, List.length_append, List.length_cons, List.length_nil]
      exact hown.kept g3 (own_far hown hbb)
    · simp only [spE_ne e, cond_false, grp_other e]
      exact (((hR k hk).kept g1 (own_far (hR k hk) hbb)).kept hg (hD k s hk hs (Ne.symm e))).kept g3 (own_far (hR k hk) hbb)
  · have hnew : ∀ k, wfS k → s ≠ k → (V k).ownBlock = none ∨ (V k).ownBlock ≠ v'.ownBlock := by
      intro k hk e
      rcases hlies with h | h
      · rw [← h]; exact hD k s hk hs (Ne.symm e)
      · cases hv : (V k).ownBlock with
        | none => exact .inl rfl
        | some j =>
          refine .inr fun e2 => ?_
          rw [h] at e2
          injection e2 with e2
          have h1 := ((hR k hk).lt j hv).2
          have h2 := g1.size
          omega
    by_cases e : s = k
    · subst e
      simp only [spE_self, cond_true, spE_ne hne, cond_false]
      cases hv : v'.ownBlock with
      | none => exact .inl rfl
      | some j =>
        refine .inr fun e2 => ?_
        rcases hnew k' hk' hne with h | h
        · rw [h] at e2; cases e2
        · exact h (e2.symm.trans hv.symm)
    · by_cases e' : s = k'
      · subst e'
        simp only [spE_self, cond_true, spE_ne e, cond_false]
        exact hnew k hk e
      · simp only [spE_ne e, spE_ne e', cond_false]
        exact hD k k' hk hk' hne

theorem GrpAt_begin {w : World} {b : Nat} (hM : w.ownsMap Try.prog 63 hdrR b 0 (.map [] : DataW Unit)) : GrpAt w b w.heap.size 0 [] :=
  ⟨hM.lt, .map [], fun _ => .slice none 0 0, hM, fun _ _ => ⟨[], by simp [hdrR_nil, DataW.atKey]⟩, fun _ _ => World.ownsRow_nil _ _ _ _, fun _ _ _ _ _ => .inl rfl⟩

/-- 'm[k]': the texts at a step, in whatever world the map stands. -/
theorem GrpAt.look {w : World} {b base m : Nat} {G : List (Sp × List UInt8)} {s : Sp} (h : GrpAt w b base m G) (hs : wfS s) :
    ∃ v : Value, w.ownsRow base 9 1 v (grp s G).length (strV (grp s G)) ∧
      ∀ (w' : World) (row : Option Nat), w.grownBy w' row → some b ≠ row → (Instr.lookup 132 (.map (some b)) (spV s) false).run Try.prog w' = .ok v w' := by
  obtain ⟨hbb, D, V, hM, hV, hR, hD⟩ := h
  refine ⟨V s, hR s hs, fun w' row hg hne => ?_⟩
  obtain ⟨v, ps, hrun, hv⟩ := (hM.kept hg hne).lookup (Keyed.of_law stLaw) Try.underlying132 (z := .slice none 0 0) (by kernel_rfl) hdrR_nil (klS_key hs)
  obtain ⟨ps', hVs⟩ := hV s hs
  have hvs : V s = v := hdrR_inj (hR s hs) hVs hv
  subst hvs
  exact hrun

theorem below_grown {w w' : World} (h : Below w.heap.size w w') : w.grownBy w' none := ⟨h.os, h.tape, h.output, h.size, fun k hk _ => h.block k hk⟩

theorem GrpAt.below {w w' : World} {b base m : Nat} {G : List (Sp × List UInt8)} (h : GrpAt w b base m G) (hb : Below w.heap.size w w') : GrpAt w' b base m G :=
  h.kept (below_grown hb) (by simp) (by simp)

/-- One stretch behind another one whose row is new. -/
theorem grown_row {a c d : World} {row row' : Option Nat} (h : a.grownBy c row) (g : c.grownBy d row') (hr : ∀ k, row' = some k → a.heap.size ≤ k ∨ row = some k) : a.grownBy d row :=
  ⟨g.os.trans h.os, g.tape.trans h.tape, g.output.trans h.output, Nat.le_trans h.size g.size, fun k hk hne => (g.block k (Nat.lt_of_lt_of_le hk h.size) (fun e => by
    rcases hr k e.symm with h1 | h1
    · omega
    · exact hne h1.symm)).trans (h.block k hk hne)⟩

theorem grp_le (k : Sp) (l : List (Sp × List UInt8)) : (grp k l).length ≤ l.length := by
  simp only [grp, List.length_map]
  exact List.length_filter_le _ _

end Go.Proofs.Ythiimllafcfieaa

/- Contract: which bytes are pieces, in the model. -/
namespace Go.Proofs.Ythiimllafcfieaa
open Go.ChangeShapes Go.WideShapes Go.ChangeAt Go.RowKit

def pcB (c : Int) : Bool := decide (c = 83 ∨ c = 76 ∨ c = 82)

theorem ptPiece_any (c : Int) (w : World) :
    Calls Try.prog 118 #[.int .u8 c] w fun e w' => e = .returned (.bool (pcB c)) ∧ w = w' := by
  by_cases h1 : c = 83
  · subst h1
    go_enter Try.func118, Try.ntmps118
    go_wp2
    go_ret
    exact ⟨rfl, rfl⟩
  by_cases h2 : c = 76
  · subst h2
    go_enter Try.func118, Try.ntmps118
    go_wp2
    go_ret
    exact ⟨rfl, rfl⟩
  have b1 : (c == 83) = false := by simpa using h1
  have b2 : (c == 76) = false := by simpa using h2
  go_enter Try.func118, Try.ntmps118
  go_wp2
  all_goals go_ret
  all_goals exact ⟨by by_cases h3 : c = 82 <;> simp [pcB, h1, h2, h3], rfl⟩

end Go.Proofs.Ythiimllafcfieaa

/- Contracts: how a piece is laid: the function that the program picks. -/
namespace Go.Proofs.Ythiimllafcfieaa
open Go.ChangeShapes Go.WideShapes Go.ChangeAt Go.RowKit

@[go_sem high] theorem fneq_L (w : World) : (binOp .eql 137 (.func (Fn.func 134) #[] #[]) .nilFunc).run Try.prog w = .ok (.bool false) w := by kernel_rfl

@[go_sem high] theorem fneq_R (w : World) : (binOp .eql 137 (.func (Fn.func 135) #[] #[]) .nilFunc).run Try.prog w = .ok (.bool false) w := by kernel_rfl

@[go_sem high] theorem fneq_S (w : World) : (binOp .eql 137 (.func (Fn.func 133) #[] #[]) .nilFunc).run Try.prog w = .ok (.bool false) w := by kernel_rfl

@[go_sem high] theorem fneq_no (w : World) : (binOp .eql 137 .nilFunc .nilFunc).run Try.prog w = .ok (.bool true) w := by kernel_rfl

theorem lay_L (w : World) :
    Calls Try.prog 120 #[.string ⟨#[76]⟩] w fun e w' => e = .returned (.func (Fn.func 134) #[] #[]) ∧ w = w' := by
  go_enter Try.func120, Try.ntmps120
  go_wp2
  go_ret
  exact ⟨rfl, rfl⟩

theorem lay_R (w : World) :
    Calls Try.prog 120 #[.string ⟨#[82]⟩] w fun e w' => e = .returned (.func (Fn.func 135) #[] #[]) ∧ w = w' := by
  go_enter Try.func120, Try.ntmps120
  go_wp2
  go_ret
  exact ⟨rfl, rfl⟩

theorem lay_S (w : World) :
    Calls Try.prog 120 #[.string ⟨#[83]⟩] w fun e w' => e = .returned (.func (Fn.func 133) #[] #[]) ∧ w = w' := by
  go_enter Try.func120, Try.ntmps120
  go_wp2
  go_ret
  exact ⟨rfl, rfl⟩

theorem lay_no (s : ByteArray) (n1 : (s.toList == [83]) = false) (n2 : (s.toList == [76]) = false) (n3 : (s.toList == [82]) = false) (w : World) :
    Calls Try.prog 120 #[.string s] w fun e w' => e = .returned .nilFunc ∧ w = w' := by
  go_enter Try.func120, Try.ntmps120
  go_wp2
  go_ret
  exact ⟨rfl, rfl⟩

end Go.Proofs.Ythiimllafcfieaa

/- Contracts: which texts are tracks, in the model and in the program. -/
namespace Go.Proofs.Ythiimllafcfieaa
open Go.ChangeShapes Go.WideShapes Go.ChangeAt Go.RowKit

theorem pcB_pcb (c : UInt8) : pcB ((c.toNat : Nat) : Int) = pcb c := by
  rw [Bool.eq_iff_iff]
  simp only [pcB, pcb, decide_eq_true_eq, Bool.or_eq_true, beq_iff_eq, ← UInt8.toNat_inj]
  constructor <;> (intro h; simp at h ⊢; omega)

theorem lay_L' (x : ByteArray) (hx : x = ⟨#[76]⟩) (w : World) :
    Calls Try.prog 120 #[.string x] w fun e w' => e = .returned (.func (Fn.func 134) #[] #[]) ∧ w = w' := by subst hx; exact lay_L w

theorem lay_R' (x : ByteArray) (hx : x = ⟨#[82]⟩) (w : World) :
    Calls Try.prog 120 #[.string x] w fun e w' => e = .returned (.func (Fn.func 135) #[] #[]) ∧ w = w' := by subst hx; exact lay_R w

theorem lay_S' (x : ByteArray) (hx : x = ⟨#[83]⟩) (w : World) :
    Calls Try.prog 120 #[.string x] w fun e w' => e = .returned (.func (Fn.func 133) #[] #[]) ∧ w = w' := by subst hx; exact lay_S w

theorem lay_N' (x : ByteArray) (c : UInt8) (hx : x = ⟨#[c]⟩) (hp : pcb c = false) (w : World) :
    Calls Try.prog 120 #[.string x] w fun e w' => e = .returned .nilFunc ∧ w = w' := by
  subst hx
  simp only [pcb, Bool.or_eq_false_iff, beq_eq_false_iff_ne] at hp
  obtain ⟨p1, p2, p3⟩ := hp
  exact lay_no _ (by simp [ByteArray.toList_eq, p1]) (by simp [ByteArray.toList_eq, p2]) (by simp [ByteArray.toList_eq, p3]) w

theorem lay_cases {x : ByteArray} {c : UInt8} (hx : x = ⟨#[c]⟩) (hp : pcb c = true) (w : World) :
    ∃ g : FuncId, (g = 133 ∨ g = 134 ∨ g = 135) ∧ Calls Try.prog 120 #[.string x] w fun e w' => e = .returned (.func (Fn.func g) #[] #[]) ∧ w = w' := by
  rcases pcb_cases hp with rfl | rfl | rfl
  · exact ⟨_, .inl rfl, lay_S' x hx w⟩
  · exact ⟨_, .inr (.inl rfl), lay_L' x hx w⟩
  · exact ⟨_, .inr (.inr rfl), lay_R' x hx w⟩

set_option maxRecDepth 100000 in
theorem tkGood_any (s : ByteArray) (hs : s.size ≤ 1048576) (w : World) :
    Calls Try.prog 94 #[.string s] w fun e w' => e = .returned (.bool (tkB s)) ∧ w = w' := by
  by_cases h40 : s.size ≤ 40
  · go_enter Try.func94, Try.ntmps94
    go_wp2_with fail
    go_loop [3] (fun i => ∃ k : Nat, k ≤ s.size ∧ i = .int .i64 k ∧ (s.data.toList.take k).all pcb = true) (fun i => s.size - (intOf i).toNat)
    case atStart => exact ⟨0, Nat.zero_le _, rfl, rfl⟩
    case round =>
      obtain ⟨k, hk, rfl, hall⟩ := hrel
      have HA := Lib.hid hall
      clear hall
      by_cases hlt : k < s.size
      · have he := pcB_pcb s[k]
        cases hp : pcb s[k]
        · have hp2 : pcB ((s[k].toNat : Nat) : Int) = false := he.trans hp
          have HP := Lib.hid hp
          clear he hp
          go_wp2_with (go_at_call 118; refine (ptPiece_any _ _).mono ?_; rintro e w' ⟨rfl, rfl⟩)
          go_ret
          exact ⟨by rw [tkB_no hlt HP.out]; rfl, rfl⟩
        · have hp2 : pcB ((s[k].toNat : Nat) : Int) = true := he.trans hp
          have HP := Lib.hid hp
          clear he hp
          go_wp2_with (go_at_call 118; refine (ptPiece_any _ _).mono ?_; rintro e w' ⟨rfl, rfl⟩)
          go_round
          case rel => exact ⟨k + 1, by omega, by go_num, all_snoc hlt HA.out HP.out⟩
          case measure => simp [intOf]; omega
      · go_wp2_with fail
        go_ret
        exact ⟨by rw [tkB_yes h40 hlt HA.out]; rfl, rfl⟩
  · have hgt : 40 < s.size := by omega
    go_enter Try.func94, Try.ntmps94
    go_wp2_with fail
    go_ret
    exact ⟨by rw [tkB_long h40]; rfl, rfl⟩

set_option maxRecDepth 100000 in
theorem imIsTrack_any (s : ByteArray) (hs : s.size ≤ 1048576) (w : World) :
    Calls Try.prog 132 #[.string s] w fun e w' => e = .returned (.bool (tkB s)) ∧ w = w' := by
  by_cases h40 : s.size ≤ 40
  · go_enter Try.func132, Try.ntmps132
    go_wp2_with fail
    go_loop [9] (fun i => ∃ k : Nat, k ≤ s.size ∧ i = .int .i64 k ∧ (s.data.toList.take k).all pcb = true) (fun i => s.size - (intOf i).toNat)
    case atStart => exact ⟨0, Nat.zero_le _, rfl, rfl⟩
    case round =>
      obtain ⟨k, hk, rfl, hall⟩ := hrel
      have HA := Lib.hid hall
      clear hall
      by_cases hlt : k < s.size
      · have HX := Lib.hid (ext_one s k hlt)
        cases hp : pcb s[k]
        · have HP := Lib.hid hp
          clear hp
          go_wp2_with (go_at_call 120; refine (lay_N' _ _ HX.out HP.out _).mono ?_; rintro e w' ⟨rfl, rfl⟩)
          go_ret
          exact ⟨by rw [tkB_no hlt HP.out]; rfl, rfl⟩
        · have HP := Lib.hid hp
          clear hp
          obtain ⟨g, hg, hc⟩ := lay_cases HX.out HP.out w
          have HC := Lib.hid hc
          clear hc
          rcases hg with rfl | rfl | rfl
          all_goals
            go_wp2_with (go_at_call 120; refine (HC.out).mono ?_; rintro e w' ⟨rfl, rfl⟩)
            go_round
            case rel => exact ⟨k + 1, by omega, by go_num, all_snoc hlt HA.out HP.out⟩
            case measure => simp [intOf]; omega
      · go_wp2_with fail
        go_ret
        exact ⟨by rw [tkB_yes h40 hlt HA.out]; rfl, rfl⟩
  · have hgt : 40 < s.size := by omega
    go_enter Try.func132, Try.ntmps132
    go_wp2_with fail
    go_ret
    exact ⟨by rw [tkB_long h40]; rfl, rfl⟩

end Go.Proofs.Ythiimllafcfieaa

/- Contracts: IsTrack of the model and of the program, as the laws ask for them. -/
namespace Go.Proofs.Ythiimllafcfieaa
open Go.ChangeShapes Go.WideShapes Go.ChangeAt Go.RowKit

theorem imIsTrack (s : ByteArray) (hs : s.size ≤ 1048576) (w : World) :
    Calls Try.prog 132 #[.string s] w fun e w' => e = .returned (.bool (tkB s)) ∧ Below w.heap.size w w' := grownOf (imIsTrack_any s hs w)

end Go.Proofs.Ythiimllafcfieaa

/- Cells of steps and points, handed on in bundles. -/
namespace Go.Proofs.Ythiimllafcfieaa
open Go.ChangeShapes Go.WideShapes Go.ChangeAt Go.RowKit

section
variable {B0 : Nat} {v00 v01 v02 v03 v04 : Value} {W w1 : World}
theorem st_below (h : W.cell? ⟨B0, 0, none⟩ = some v00 ∧ W.cell? ⟨B0, 1, none⟩ = some v01 ∧ W.cell? ⟨B0, 2, none⟩ = some v02 ∧ W.cell? ⟨B0, 3, none⟩ = some v03 ∧ W.cell? ⟨B0, 4, none⟩ = some v04) (h0 : B0 < W.heap.size) (hb : Below W.heap.size W w1) : w1.cell? ⟨B0, 0, none⟩ = some v00 ∧ w1.cell? ⟨B0, 1, none⟩ = some v01 ∧ w1.cell? ⟨B0, 2, none⟩ = some v02 ∧ w1.cell? ⟨B0, 3, none⟩ = some v03 ∧ w1.cell? ⟨B0, 4, none⟩ = some v04 :=
  let ⟨k0, k1, k2, k3, k4⟩ := h
  ⟨cl_below k0 h0 hb, cl_below k1 h0 hb, cl_below k2 h0 hb, cl_below k3 h0 hb, cl_below k4 h0 hb⟩

theorem st_alloc (h : W.cell? ⟨B0, 0, none⟩ = some v00 ∧ W.cell? ⟨B0, 1, none⟩ = some v01 ∧ W.cell? ⟨B0, 2, none⟩ = some v02 ∧ W.cell? ⟨B0, 3, none⟩ = some v03 ∧ W.cell? ⟨B0, 4, none⟩ = some v04) (o : Obj) : (W.alloc o).cell? ⟨B0, 0, none⟩ = some v00 ∧ (W.alloc o).cell? ⟨B0, 1, none⟩ = some v01 ∧ (W.alloc o).cell? ⟨B0, 2, none⟩ = some v02 ∧ (W.alloc o).cell? ⟨B0, 3, none⟩ = some v03 ∧ (W.alloc o).cell? ⟨B0, 4, none⟩ = some v04 :=
  let ⟨k0, k1, k2, k3, k4⟩ := h
  ⟨cl_alloc k0 o, cl_alloc k1 o, cl_alloc k2 o, cl_alloc k3 o, cl_alloc k4 o⟩

theorem st_re {o : Obj} (h : (W.alloc o).cell? ⟨B0, 0, none⟩ = some v00 ∧ (W.alloc o).cell? ⟨B0, 1, none⟩ = some v01 ∧ (W.alloc o).cell? ⟨B0, 2, none⟩ = some v02 ∧ (W.alloc o).cell? ⟨B0, 3, none⟩ = some v03 ∧ (W.alloc o).cell? ⟨B0, 4, none⟩ = some v04) (h0 : B0 < W.heap.size) (o2 : Obj) : (W.alloc o2).cell? ⟨B0, 0, none⟩ = some v00 ∧ (W.alloc o2).cell? ⟨B0, 1, none⟩ = some v01 ∧ (W.alloc o2).cell? ⟨B0, 2, none⟩ = some v02 ∧ (W.alloc o2).cell? ⟨B0, 3, none⟩ = some v03 ∧ (W.alloc o2).cell? ⟨B0, 4, none⟩ = some v04 :=
  let ⟨k0, k1, k2, k3, k4⟩ := h
  ⟨cl_re k0 h0 o2, cl_re k1 h0 o2, cl_re k2 h0 o2, cl_re k3 h0 o2, cl_re k4 h0 o2⟩

theorem st_drew (h : W.cell? ⟨B0, 0, none⟩ = some v00 ∧ W.cell? ⟨B0, 1, none⟩ = some v01 ∧ W.cell? ⟨B0, 2, none⟩ = some v02 ∧ W.cell? ⟨B0, 3, none⟩ = some v03 ∧ W.cell? ⟨B0, 4, none⟩ = some v04) : W.drew.cell? ⟨B0, 0, none⟩ = some v00 ∧ W.drew.cell? ⟨B0, 1, none⟩ = some v01 ∧ W.drew.cell? ⟨B0, 2, none⟩ = some v02 ∧ W.drew.cell? ⟨B0, 3, none⟩ = some v03 ∧ W.drew.cell? ⟨B0, 4, none⟩ = some v04 := h

theorem st_undrew (h : W.drew.cell? ⟨B0, 0, none⟩ = some v00 ∧ W.drew.cell? ⟨B0, 1, none⟩ = some v01 ∧ W.drew.cell? ⟨B0, 2, none⟩ = some v02 ∧ W.drew.cell? ⟨B0, 3, none⟩ = some v03 ∧ W.drew.cell? ⟨B0, 4, none⟩ = some v04) : W.cell? ⟨B0, 0, none⟩ = some v00 ∧ W.cell? ⟨B0, 1, none⟩ = some v01 ∧ W.cell? ⟨B0, 2, none⟩ = some v02 ∧ W.cell? ⟨B0, 3, none⟩ = some v03 ∧ W.cell? ⟨B0, 4, none⟩ = some v04 := h

theorem st_set (h : W.cell? ⟨B0, 0, none⟩ = some v00 ∧ W.cell? ⟨B0, 1, none⟩ = some v01 ∧ W.cell? ⟨B0, 2, none⟩ = some v02 ∧ W.cell? ⟨B0, 3, none⟩ = some v03 ∧ W.cell? ⟨B0, 4, none⟩ = some v04) (p : Addr) (u : Value) (h0 : p.block ≠ B0) : (W.setCell p u).cell? ⟨B0, 0, none⟩ = some v00 ∧ (W.setCell p u).cell? ⟨B0, 1, none⟩ = some v01 ∧ (W.setCell p u).cell? ⟨B0, 2, none⟩ = some v02 ∧ (W.setCell p u).cell? ⟨B0, 3, none⟩ = some v03 ∧ (W.setCell p u).cell? ⟨B0, 4, none⟩ = some v04 :=
  let ⟨k0, k1, k2, k3, k4⟩ := h
  ⟨cl_set k0 p u h0, cl_set k1 p u h0, cl_set k2 p u h0, cl_set k3 p u h0, cl_set k4 p u h0⟩
end

section
variable {B0 B1 B2 : Nat} {v00 v01 v02 v03 v04 v10 v11 v12 v13 v20 v21 v22 v23 : Value} {W w1 : World}
theorem stpp_below (h : W.cell? ⟨B0, 0, none⟩ = some v00 ∧ W.cell? ⟨B0, 1, none⟩ = some v01 ∧ W.cell? ⟨B0, 2, none⟩ = some v02 ∧ W.cell? ⟨B0, 3, none⟩ = some v03 ∧ W.cell? ⟨B0, 4, none⟩ = some v04 ∧ W.cell? ⟨B1, 0, none⟩ = some v10 ∧ W.cell? ⟨B1, 1, none⟩ = some v11 ∧ W.cell? ⟨B1, 2, none⟩ = some v12 ∧ W.cell? ⟨B1, 3, none⟩ = some v13 ∧ W.cell? ⟨B2, 0, none⟩ = some v20 ∧ W.cell? ⟨B2, 1, none⟩ = some v21 ∧ W.cell? ⟨B2, 2, none⟩ = some v22 ∧ W.cell? ⟨B2, 3, none⟩ = some v23) (h0 : B0 < W.heap.size) (h1 : B1 < W.heap.size) (h2 : B2 < W.heap.size) (hb : Below W.heap.size W w1) : w1.cell? ⟨B0, 0, none⟩ = some v00 ∧ w1.cell? ⟨B0, 1, none⟩ = some v01 ∧ w1.cell? ⟨B0, 2, none⟩ = some v02 ∧ w1.cell? ⟨B0, 3, none⟩ = some v03 ∧ w1.cell? ⟨B0, 4, none⟩ = some v04 ∧ w1.cell? ⟨B1, 0, none⟩ = some v10 ∧ w1.cell? ⟨B1, 1, none⟩ = some v11 ∧ w1.cell? ⟨B1, 2, none⟩ = some v12 ∧ w1.cell? ⟨B1, 3, none⟩ = some v13 ∧ w1.cell? ⟨B2, 0, none⟩ = some v20 ∧ w1.cell? ⟨B2, 1, none⟩ = some v21 ∧ w1.cell? ⟨B2, 2, none⟩ = some v22 ∧ w1.cell? ⟨B2, 3, none⟩ = some v23 :=
  let ⟨k0, k1, k2, k3, k4, k5, k6, k7, k8, k9, k10, k11, k12⟩ := h
  ⟨cl_below k0 h0 hb, cl_below k1 h0 hb, cl_below k2 h0 hb, cl_below k3 h0 hb, cl_below k4 h0 hb, cl_below k5 h1 hb, cl_below k6 h1 hb, cl_below k7 h1 hb, cl_below k8 h1 hb, cl_below k9 h2 hb, cl_below k10 h2 hb, cl_below k11 h2 hb, cl_below k12 h2 hb⟩

theorem stpp_alloc (h : W.cell? ⟨B0, 0, none⟩ = some v00 ∧ W.cell? ⟨B0, 1, none⟩ = some v01 ∧ W.cell? ⟨B0, 2, none⟩ = some v02 ∧ W.cell? ⟨B0, 3, none⟩ = some v03 ∧ W.cell? ⟨B0, 4, none⟩ = some v04 ∧ W.cell? ⟨B1, 0, none⟩ = some v10 ∧ W.cell? ⟨B1, 1, none⟩ = some v11 ∧ W.cell? ⟨B1, 2, none⟩ = some v12 ∧ W.cell? ⟨B1, 3, none⟩ = some v13 ∧ W.cell? ⟨B2, 0, none⟩ = some v20 ∧ W.cell? ⟨B2, 1, none⟩ = some v21 ∧ W.cell? ⟨B2, 2, none⟩ = some v22 ∧ W.cell? ⟨B2, 3, none⟩ = some v23) (o : Obj) : (W.alloc o).cell? ⟨B0, 0, none⟩ = some v00 ∧ (W.alloc o).cell? ⟨B0, 1, none⟩ = some v01 ∧ (W.alloc o).cell? ⟨B0, 2, none⟩ = some v02 ∧ (W.alloc o).cell? ⟨B0, 3, none⟩ = some v03 ∧ (W.alloc o).cell? ⟨B0, 4, none⟩ = some v04 ∧ (W.alloc o).cell? ⟨B1, 0, none⟩ = some v10 ∧ (W.alloc o).cell? ⟨B1, 1, none⟩ = some v11 ∧ (W.alloc o).cell? ⟨B1, 2, none⟩ = some v12 ∧ (W.alloc o).cell? ⟨B1, 3, none⟩ = some v13 ∧ (W.alloc o).cell? ⟨B2, 0, none⟩ = some v20 ∧ (W.alloc o).cell? ⟨B2, 1, none⟩ = some v21 ∧ (W.alloc o).cell? ⟨B2, 2, none⟩ = some v22 ∧ (W.alloc o).cell? ⟨B2, 3, none⟩ = some v23 :=
  let ⟨k0, k1, k2, k3, k4, k5, k6, k7, k8, k9, k10, k11, k12⟩ := h
  ⟨cl_alloc k0 o, cl_alloc k1 o, cl_alloc k2 o, cl_alloc k3 o, cl_alloc k4 o, cl_alloc k5 o, cl_alloc k6 o, cl_alloc k7 o, cl_alloc k8 o, cl_alloc k9 o, cl_alloc k10 o, cl_alloc k11 o, cl_alloc k12 o⟩

theorem stpp_re {o : Obj} (h : (W.alloc o).cell? ⟨B0, 0, none⟩ = some v00 ∧ (W.alloc o).cell? ⟨B0, 1, none⟩ = some v01 ∧ (W.alloc o).cell? ⟨B0, 2, none⟩ = some v02 ∧ (W.alloc o).cell? ⟨B0, 3, none⟩ = some v03 ∧ (W.alloc o).cell? ⟨B0, 4, none⟩ = some v04 ∧ (W.alloc o).cell? ⟨B1, 0, none⟩ = some v10 ∧ (W.alloc o).cell? ⟨B1, 1, none⟩ = some v11 ∧ (W.alloc o).cell? ⟨B1, 2, none⟩ = some v12 ∧ (W.alloc o).cell? ⟨B1, 3, none⟩ = some v13 ∧ (W.alloc o).cell? ⟨B2, 0, none⟩ = some v20 ∧ (W.alloc o).cell? ⟨B2, 1, none⟩ = some v21 ∧ (W.alloc o).cell? ⟨B2, 2, none⟩ = some v22 ∧ (W.alloc o).cell? ⟨B2, 3, none⟩ = some v23) (h0 : B0 < W.heap.size) (h1 : B1 < W.heap.size) (h2 : B2 < W.heap.size) (o2 : Obj) : (W.alloc o2).cell? ⟨B0, 0, none⟩ = some v00 ∧ (W.alloc o2).cell? ⟨B0, 1, none⟩ = some v01 ∧ (W.alloc o2).cell? ⟨B0, 2, none⟩ = some v02 ∧ (W.alloc o2).cell? ⟨B0, 3, none⟩ = some v03 ∧ (W.alloc o2).cell? ⟨B0, 4, none⟩ = some v04 ∧ (W.alloc o2).cell? ⟨B1, 0, none⟩ = some v10 ∧ (W.alloc o2).cell? ⟨B1, 1, none⟩ = some v11 ∧ (W.alloc o2).cell? ⟨B1, 2, none⟩ = some v12 ∧ (W.alloc o2).cell? ⟨B1, 3, none⟩ = some v13 ∧ (W.alloc o2).cell? ⟨B2, 0, none⟩ = some v20 ∧ (W.alloc o2).cell? ⟨B2, 1, none⟩ = some v21 ∧ (W.alloc o2).cell? ⟨B2, 2, none⟩ = some v22 ∧ (W.alloc o2).cell? ⟨B2, 3, none⟩ = some v23 :=
  let ⟨k0, k1, k2, k3, k4, k5, k6, k7, k8, k9, k10, k11, k12⟩ := h
  ⟨cl_re k0 h0 o2, cl_re k1 h0 o2, cl_re k2 h0 o2, cl_re k3 h0 o2, cl_re k4 h0 o2, cl_re k5 h1 o2, cl_re k6 h1 o2, cl_re k7 h1 o2, cl_re k8 h1 o2, cl_re k9 h2 o2, cl_re k10 h2 o2, cl_re k11 h2 o2, cl_re k12 h2 o2⟩

theorem stpp_drew (h : W.cell? ⟨B0, 0, none⟩ = some v00 ∧ W.cell? ⟨B0, 1, none⟩ = some v01 ∧ W.cell? ⟨B0, 2, none⟩ = some v02 ∧ W.cell? ⟨B0, 3, none⟩ = some v03 ∧ W.cell? ⟨B0, 4, none⟩ = some v04 ∧ W.cell? ⟨B1, 0, none⟩ = some v10 ∧ W.cell? ⟨B1, 1, none⟩ = some v11 ∧ W.cell? ⟨B1, 2, none⟩ = some v12 ∧ W.cell? ⟨B1, 3, none⟩ = some v13 ∧ W.cell? ⟨B2, 0, none⟩ = some v20 ∧ W.cell? ⟨B2, 1, none⟩ = some v21 ∧ W.cell? ⟨B2, 2, none⟩ = some v22 ∧ W.cell? ⟨B2, 3, none⟩ = some v23) : W.drew.cell? ⟨B0, 0, none⟩ = some v00 ∧ W.drew.cell? ⟨B0, 1, none⟩ = some v01 ∧ W.drew.cell? ⟨B0, 2, none⟩ = some v02 ∧ W.drew.cell? ⟨B0, 3, none⟩ = some v03 ∧ W.drew.cell? ⟨B0, 4, none⟩ = some v04 ∧ W.drew.cell? ⟨B1, 0, none⟩ = some v10 ∧ W.drew.cell? ⟨B1, 1, none⟩ = some v11 ∧ W.drew.cell? ⟨B1, 2, none⟩ = some v12 ∧ W.drew.cell? ⟨B1, 3, none⟩ = some v13 ∧ W.drew.cell? ⟨B2, 0, none⟩ = some v20 ∧ W.drew.cell? ⟨B2, 1, none⟩ = some v21 ∧ W.drew.cell? ⟨B2, 2, none⟩ = some v22 ∧ W.drew.cell? ⟨B2, 3, none⟩ = some v23 := h

theorem stpp_undrew (h : W.drew.cell? ⟨B0, 0, none⟩ = some v00 ∧ W.drew.cell? ⟨B0, 1, none⟩ = some v01 ∧ W.drew.cell? ⟨B0, 2, none⟩ = some v02 ∧ W.drew.cell? ⟨B0, 3, none⟩ = some v03 ∧ W.drew.cell? ⟨B0, 4, none⟩ = some v04 ∧ W.drew.cell? ⟨B1, 0, none⟩ = some v10 ∧ W.drew.cell? ⟨B1, 1, none⟩ = some v11 ∧ W.drew.cell? ⟨B1, 2, none⟩ = some v12 ∧ W.drew.cell? ⟨B1, 3, none⟩ = some v13 ∧ W.drew.cell? ⟨B2, 0, none⟩ = some v20 ∧ W.drew.cell? ⟨B2, 1, none⟩ = some v21 ∧ W.drew.cell? ⟨B2, 2, none⟩ = some v22 ∧ W.drew.cell? ⟨B2, 3, none⟩ = some v23) : W.cell? ⟨B0, 0, none⟩ = some v00 ∧ W.cell? ⟨B0, 1, none⟩ = some v01 ∧ W.cell? ⟨B0, 2, none⟩ = some v02 ∧ W.cell? ⟨B0, 3, none⟩ = some v03 ∧ W.cell? ⟨B0, 4, none⟩ = some v04 ∧ W.cell? ⟨B1, 0, none⟩ = some v10 ∧ W.cell? ⟨B1, 1, none⟩ = some v11 ∧ W.cell? ⟨B1, 2, none⟩ = some v12 ∧ W.cell? ⟨B1, 3, none⟩ = some v13 ∧ W.cell? ⟨B2, 0, none⟩ = some v20 ∧ W.cell? ⟨B2, 1, none⟩ = some v21 ∧ W.cell? ⟨B2, 2, none⟩ = some v22 ∧ W.cell? ⟨B2, 3, none⟩ = some v23 := h

theorem stpp_set (h : W.cell? ⟨B0, 0, none⟩ = some v00 ∧ W.cell? ⟨B0, 1, none⟩ = some v01 ∧ W.cell? ⟨B0, 2, none⟩ = some v02 ∧ W.cell? ⟨B0, 3, none⟩ = some v03 ∧ W.cell? ⟨B0, 4, none⟩ = some v04 ∧ W.cell? ⟨B1, 0, none⟩ = some v10 ∧ W.cell? ⟨B1, 1, none⟩ = some v11 ∧ W.cell? ⟨B1, 2, none⟩ = some v12 ∧ W.cell? ⟨B1, 3, none⟩ = some v13 ∧ W.cell? ⟨B2, 0, none⟩ = some v20 ∧ W.cell? ⟨B2, 1, none⟩ = some v21 ∧ W.cell? ⟨B2, 2, none⟩ = some v22 ∧ W.cell? ⟨B2, 3, none⟩ = some v23) (p : Addr) (u : Value) (h0 : p.block ≠ B0) (h1 : p.block ≠ B1) (h2 : p.block ≠ B2) : (W.setCell p u).cell? ⟨B0, 0, none⟩ = some v00 ∧ (W.setCell p u).cell? ⟨B0, 1, none⟩ = some v01 ∧ (W.setCell p u).cell? ⟨B0, 2, none⟩ = some v02 ∧ (W.setCell p u).cell? ⟨B0, 3, none⟩ = some v03 ∧ (W.setCell p u).cell? ⟨B0, 4, none⟩ = some v04 ∧ (W.setCell p u).cell? ⟨B1, 0, none⟩ = some v10 ∧ (W.setCell p u).cell? ⟨B1, 1, none⟩ = some v11 ∧ (W.setCell p u).cell? ⟨B1, 2, none⟩ = some v12 ∧ (W.setCell p u).cell? ⟨B1, 3, none⟩ = some v13 ∧ (W.setCell p u).cell? ⟨B2, 0, none⟩ = some v20 ∧ (W.setCell p u).cell? ⟨B2, 1, none⟩ = some v21 ∧ (W.setCell p u).cell? ⟨B2, 2, none⟩ = some v22 ∧ (W.setCell p u).cell? ⟨B2, 3, none⟩ = some v23 :=
  let ⟨k0, k1, k2, k3, k4, k5, k6, k7, k8, k9, k10, k11, k12⟩ := h
  ⟨cl_set k0 p u h0, cl_set k1 p u h0, cl_set k2 p u h0, cl_set k3 p u h0, cl_set k4 p u h0, cl_set k5 p u h1, cl_set k6 p u h1, cl_set k7 p u h1, cl_set k8 p u h1, cl_set k9 p u h2, cl_set k10 p u h2, cl_set k11 p u h2, cl_set k12 p u h2⟩
end

theorem w64s (n : Int) (h0 : -9000000000000000000 ≤ n) (h1 : n ≤ 9000000000000000000) : wrap64 n = n := IntWalk.wrap64_in n ⟨by omega, by omega⟩

end Go.Proofs.Ythiimllafcfieaa

/- Contracts: headings turned, and a point negated, in the program. -/
namespace Go.Proofs.Ythiimllafcfieaa
open Go.ChangeShapes Go.WideShapes Go.ChangeAt Go.RowKit

set_option linter.unusedVariables false
set_option linter.unusedSimpArgs false

theorem tm1_any (h : Int) (h0 : 0 ≤ h) (h7 : h ≤ 7) (w : World) :
    Calls Try.prog 98 #[.int .i64 h, .int .i64 (-1)] w fun e w' => e = .returned (.int .i64 ((h + 7) % 8)) ∧ w = w' := by
  have hm : (h + (-1) + 8) % 8 = (h + 7) % 8 := by omega
  have HM := Lib.hid hm
  clear hm
  go_enter Try.func98, Try.ntmps98
  go_wp2
  go_ret
  exact ⟨by first | rfl | (rw [← HM.out]; rfl) | (simp; omega), rfl⟩

theorem tm2_any (h : Int) (h0 : 0 ≤ h) (h7 : h ≤ 7) (w : World) :
    Calls Try.prog 98 #[.int .i64 h, .int .i64 (-2)] w fun e w' => e = .returned (.int .i64 ((h + 6) % 8)) ∧ w = w' := by
  have hm : (h + (-2) + 8) % 8 = (h + 6) % 8 := by omega
  have HM := Lib.hid hm
  clear hm
  go_enter Try.func98, Try.ntmps98
  go_wp2
  go_ret
  exact ⟨by first | rfl | (rw [← HM.out]; rfl) | (simp; omega), rfl⟩

theorem tp1_any (h : Int) (h0 : 0 ≤ h) (h7 : h ≤ 7) (w : World) :
    Calls Try.prog 98 #[.int .i64 h, .int .i64 1] w fun e w' => e = .returned (.int .i64 ((h + 1) % 8)) ∧ w = w' := by
  have hm : (h + 1 + 8) % 8 = (h + 1) % 8 := by omega
  have HM := Lib.hid hm
  clear hm
  go_enter Try.func98, Try.ntmps98
  go_wp2
  go_ret
  exact ⟨by first | rfl | (rw [← HM.out]; rfl) | (simp; omega), rfl⟩

theorem tp2_any (h : Int) (h0 : 0 ≤ h) (h7 : h ≤ 7) (w : World) :
    Calls Try.prog 98 #[.int .i64 h, .int .i64 2] w fun e w' => e = .returned (.int .i64 ((h + 2) % 8)) ∧ w = w' := by
  have hm : (h + 2 + 8) % 8 = (h + 2) % 8 := by omega
  have HM := Lib.hid hm
  clear hm
  go_enter Try.func98, Try.ntmps98
  go_wp2
  go_ret
  exact ⟨by first | rfl | (rw [← HM.out]; rfl) | (simp; omega), rfl⟩

theorem scN (x0 x1 x2 x3 : Int) (px0 : -999999 ≤ x0) (qx0 : x0 ≤ 999999) (px1 : -999999 ≤ x1) (qx1 : x1 ≤ 999999) (px2 : -999999 ≤ x2) (qx2 : x2 ≤ 999999) (px3 : -999999 ≤ x3) (qx3 : x3 ≤ 999999) (w : World) :
    Calls Try.prog 99 #[.agg #[.int .i64 x0, .int .i64 x1, .int .i64 x2, .int .i64 x3], .int .i64 (-1)] w fun e w' => e = .returned (.agg #[.int .i64 (-x0), .int .i64 (-x1), .int .i64 (-x2), .int .i64 (-x3)]) ∧ Below w.heap.size w w' :=
  (imScaled_any x0 x1 x2 x3 (-1) w).mono fun e w' ⟨h, hb⟩ => ⟨by rw [h, w64s (-1 * x0) (by omega) (by omega), w64s (-1 * x1) (by omega) (by omega), w64s (-1 * x2) (by omega) (by omega), w64s (-1 * x3) (by omega) (by omega)]; simp, hb⟩

end Go.Proofs.Ythiimllafcfieaa

/- Contracts: how a piece is laid from any step, in the program. -/
namespace Go.Proofs.Ythiimllafcfieaa
open Go.ChangeShapes Go.WideShapes Go.ChangeAt Go.RowKit

set_option linter.unusedVariables false
set_option linter.unusedSimpArgs false

theorem plP (x0 x1 x2 x3 y0 y1 y2 y3 : Int) (px0 : -9000000 ≤ x0) (qx0 : x0 ≤ 9000000) (px1 : -9000000 ≤ x1) (qx1 : x1 ≤ 9000000) (px2 : -9000000 ≤ x2) (qx2 : x2 ≤ 9000000) (px3 : -9000000 ≤ x3) (qx3 : x3 ≤ 9000000) (py0 : -9000000 ≤ y0) (qy0 : y0 ≤ 9000000) (py1 : -9000000 ≤ y1) (qy1 : y1 ≤ 9000000) (py2 : -9000000 ≤ y2) (qy2 : y2 ≤ 9000000) (py3 : -9000000 ≤ y3) (qy3 : y3 ≤ 9000000) (w : World) :
    Calls Try.prog 140 #[.agg #[.int .i64 x0, .int .i64 x1, .int .i64 x2, .int .i64 x3], .agg #[.int .i64 y0, .int .i64 y1, .int .i64 y2, .int .i64 y3]] w fun e w' => e = .returned (.agg #[.int .i64 (x0 + y0), .int .i64 (x1 + y1), .int .i64 (x2 + y2), .int .i64 (x3 + y3)]) ∧ Below w.heap.size w w' :=
  (imPlus_any x0 x1 x2 x3 y0 y1 y2 y3 w).mono fun e w' ⟨h, hb⟩ => ⟨by rw [h, w64s (x0 + y0) (by omega) (by omega), w64s (x1 + y1) (by omega) (by omega), w64s (x2 + y2) (by omega) (by omega), w64s (x3 + y3) (by omega) (by omega)], hb⟩

theorem ag5 {a b c d e a' b' c' d' e' : Int} (h0 : a = a') (h1 : b = b') (h2 : c = c') (h3 : d = d') (h4 : e = e') : Ending.returned (.agg #[.int .i64 a, .int .i64 b, .int .i64 c, .int .i64 d, .int .i64 e]) = Ending.returned (.agg #[.int .i64 a', .int .i64 b', .int .i64 c', .int .i64 d', .int .i64 e']) := by
  rw [h0, h1, h2, h3, h4]

set_option maxRecDepth 100000 in
set_option maxHeartbeats 1600000 in
theorem straightP (x0 x1 x2 x3 h : Int) (h0 : 0 ≤ h) (h7 : h ≤ 7) (px0 : -1000000 ≤ x0) (qx0 : x0 ≤ 1000000) (px1 : -1000000 ≤ x1) (qx1 : x1 ≤ 1000000) (px2 : -1000000 ≤ x2) (qx2 : x2 ≤ 1000000) (px3 : -1000000 ≤ x3) (qx3 : x3 ≤ 1000000) (w : World) :
    Calls Try.prog 133 #[.agg #[.int .i64 x0, .int .i64 x1, .int .i64 x2, .int .i64 x3, .int .i64 h]] w fun e w' => e = .returned (.agg #[.int .i64 (x0 + tu0 h 1 0 0 0), .int .i64 (x1 + tu1 h 1 0 0 0), .int .i64 (x2 + tu2 h 1 0 0 0), .int .i64 (x3 + tu3 h 1 0 0 0), .int .i64 h]) ∧ Below w.heap.size w w' := by
  obtain ⟨t0, t0'⟩ := tu_bd0 h h0 h7
  obtain ⟨t1, t1'⟩ := tu_bd1 h h0 h7
  obtain ⟨t2, t2'⟩ := tu_bd2 h h0 h7
  obtain ⟨t3, t3'⟩ := tu_bd3 h h0 h7
  have hS0 : ((w.alloc (.cells #[.int .i64 x0, .int .i64 x1, .int .i64 x2, .int .i64 x3, .int .i64 h] 63)).alloc (.cells #[.int .i64 0, .int .i64 0, .int .i64 0, .int .i64 0, .int .i64 0] 63)).cell? ⟨w.heap.size, 0, none⟩ = some (.int .i64 x0) ∧ ((w.alloc (.cells #[.int .i64 x0, .int .i64 x1, .int .i64 x2, .int .i64 x3, .int .i64 h] 63)).alloc (.cells #[.int .i64 0, .int .i64 0, .int .i64 0, .int .i64 0, .int .i64 0] 63)).cell? ⟨w.heap.size, 1, none⟩ = some (.int .i64 x1) ∧ ((w.alloc (.cells #[.int .i64 x0, .int .i64 x1, .int .i64 x2, .int .i64 x3, .int .i64 h] 63)).alloc (.cells #[.int .i64 0, .int .i64 0, .int .i64 0, .int .i64 0, .int .i64 0] 63)).cell? ⟨w.heap.size, 2, none⟩ = some (.int .i64 x2) ∧ ((w.alloc (.cells #[.int .i64 x0, .int .i64 x1, .int .i64 x2, .int .i64 x3, .int .i64 h] 63)).alloc (.cells #[.int .i64 0, .int .i64 0, .int .i64 0, .int .i64 0, .int .i64 0] 63)).cell? ⟨w.heap.size, 3, none⟩ = some (.int .i64 x3) ∧ ((w.alloc (.cells #[.int .i64 x0, .int .i64 x1, .int .i64 x2, .int .i64 x3, .int .i64 h] 63)).alloc (.cells #[.int .i64 0, .int .i64 0, .int .i64 0, .int .i64 0, .int .i64 0] 63)).cell? ⟨w.heap.size, 4, none⟩ = some (.int .i64 h) := by refine ⟨?_, ?_, ?_, ?_, ?_⟩ <;> go_simp
  have hR : ((w.alloc (.cells #[.int .i64 x0, .int .i64 x1, .int .i64 x2, .int .i64 x3, .int .i64 h] 63)).alloc (.cells #[.int .i64 0, .int .i64 0, .int .i64 0, .int .i64 0, .int .i64 0] 63)).cell? ⟨w.heap.size + 1, 0, none⟩ = some (.int .i64 0) ∧ ((w.alloc (.cells #[.int .i64 x0, .int .i64 x1, .int .i64 x2, .int .i64 x3, .int .i64 h] 63)).alloc (.cells #[.int .i64 0, .int .i64 0, .int .i64 0, .int .i64 0, .int .i64 0] 63)).cell? ⟨w.heap.size + 1, 1, none⟩ = some (.int .i64 0) ∧ ((w.alloc (.cells #[.int .i64 x0, .int .i64 x1, .int .i64 x2, .int .i64 x3, .int .i64 h] 63)).alloc (.cells #[.int .i64 0, .int .i64 0, .int .i64 0, .int .i64 0, .int .i64 0] 63)).cell? ⟨w.heap.size + 1, 2, none⟩ = some (.int .i64 0) ∧ ((w.alloc (.cells #[.int .i64 x0, .int .i64 x1, .int .i64 x2, .int .i64 x3, .int .i64 h] 63)).alloc (.cells #[.int .i64 0, .int .i64 0, .int .i64 0, .int .i64 0, .int .i64 0] 63)).cell? ⟨w.heap.size + 1, 3, none⟩ = some (.int .i64 0) ∧ ((w.alloc (.cells #[.int .i64 x0, .int .i64 x1, .int .i64 x2, .int .i64 x3, .int .i64 h] 63)).alloc (.cells #[.int .i64 0, .int .i64 0, .int .i64 0, .int .i64 0, .int .i64 0] 63)).cell? ⟨w.heap.size + 1, 4, none⟩ = some (.int .i64 0) := by refine ⟨?_, ?_, ?_, ?_, ?_⟩ <;> go_simp
  go_enter Try.func133, Try.ntmps133
  go_wp2_with fail
  go_region_held3 (fun w' => w'.cell? ⟨w.heap.size, 0, none⟩ = some (.int .i64 x0) ∧ w'.cell? ⟨w.heap.size, 1, none⟩ = some (.int .i64 x1) ∧ w'.cell? ⟨w.heap.size, 2, none⟩ = some (.int .i64 x2) ∧ w'.cell? ⟨w.heap.size, 3, none⟩ = some (.int .i64 x3) ∧ w'.cell? ⟨w.heap.size, 4, none⟩ = some (.int .i64 h))
    (first | (with_reducible assumption) | (with_reducible exact st_drew hS0) | (with_reducible exact st_drew (st_alloc hS0 _)) | (with_reducible exact st_alloc (st_drew hS0) _) | (with_reducible refine st_drew ?_; with_reducible assumption) | (with_reducible refine st_alloc ?_ _; with_reducible assumption) | (with_reducible refine st_re (by with_reducible assumption) ?_ _; (focus first | (with_reducible assumption) | omega | (simp; done) | (simp; omega))) | (with_reducible refine st_below ?_ ?_ h1; (focus first | (with_reducible assumption) | (with_reducible refine st_undrew ?_; with_reducible assumption)); (focus first | (with_reducible assumption) | omega | (simp; done) | (simp; omega))) | ((repeat (with_reducible refine st_set ?_ _ _ ?_; rotate_left 1; (focus first | (with_reducible assumption) | omega | (simp; done) | (simp; omega)))); with_reducible assumption))
    (first | (go_at_call 101; (with_reducible refine (power_any h h0 h7 _).mono ?_); rintro e wC ⟨rfl, h1⟩; (try with_reducible replace h1 := undrew h1); have hB : Below w.heap.size w wC := ba (by go_grown) h1; obtain ⟨hcwC, hfwC⟩ := bcell h1; have hqwC := h1.size; (try simp at hqwC); (try have hz0wC : w.heap.size < wC.heap.size := (by omega)); (try have he0wC : w.heap.size ≤ wC.heap.size := (by omega)); (try have hz1wC : w.heap.size + 1 < wC.heap.size := (by omega)); (try have he1wC : w.heap.size + 1 ≤ wC.heap.size := (by omega)); have hR := st_below hR (by first | omega | (simp; done) | (simp; omega)) h1) | (go_at_call 140; (with_reducible refine (plP x0 x1 x2 x3 (tu0 h 1 0 0 0) (tu1 h 1 0 0 0) (tu2 h 1 0 0 0) (tu3 h 1 0 0 0) (by omega) (by omega) (by omega) (by omega) (by omega) (by omega) (by omega) (by omega) (by omega) (by omega) (by omega) (by omega) (by omega) (by omega) (by omega) (by omega) _).mono ?_); rintro e wD ⟨rfl, h1⟩; (try with_reducible replace h1 := undrew h1); have hB : Below w.heap.size w wD := ba (by go_grown) h1; obtain ⟨hcwD, hfwD⟩ := bcell h1; have hqwD := h1.size; (try simp at hqwD); (try have hz0wD : w.heap.size < wD.heap.size := (by omega)); (try have he0wD : w.heap.size ≤ wD.heap.size := (by omega)); (try have hz1wD : w.heap.size + 1 < wD.heap.size := (by omega)); (try have he1wD : w.heap.size + 1 ≤ wD.heap.size := (by omega)); have hR := st_below hR (by first | omega | (simp; done) | (simp; omega)) h1))
  go_wp2_with fail
  refine bodyPost_ret (by simp [results, Try.results133, go_sem, *]; try rfl) rfl ?_
  exact ⟨rfl, by go_grown⟩

set_option maxRecDepth 100000 in
set_option maxHeartbeats 3200000 in
theorem curveLeftP (x0 x1 x2 x3 h : Int) (h0 : 0 ≤ h) (h7 : h ≤ 7) (px0 : -1000000 ≤ x0) (qx0 : x0 ≤ 1000000) (px1 : -1000000 ≤ x1) (qx1 : x1 ≤ 1000000) (px2 : -1000000 ≤ x2) (qx2 : x2 ≤ 1000000) (px3 : -1000000 ≤ x3) (qx3 : x3 ≤ 1000000) (w : World) :
    Calls Try.prog 141 #[.agg #[.int .i64 x0, .int .i64 x1, .int .i64 x2, .int .i64 x3, .int .i64 h], .int .i64 1] w fun e w' => e = .returned (.agg #[.int .i64 (x0 + (tu0 ((h + 7) % 8) 1 0 0 0 - tu0 ((h + 6) % 8) 1 0 0 0)), .int .i64 (x1 + (tu1 ((h + 7) % 8) 1 0 0 0 - tu1 ((h + 6) % 8) 1 0 0 0)), .int .i64 (x2 + (tu2 ((h + 7) % 8) 1 0 0 0 - tu2 ((h + 6) % 8) 1 0 0 0)), .int .i64 (x3 + (tu3 ((h + 7) % 8) 1 0 0 0 - tu3 ((h + 6) % 8) 1 0 0 0)), .int .i64 ((h + 1) % 8)]) ∧ Below w.heap.size w w' := by
  have g0 : 0 ≤ ((h + 7) % 8) := by omega
  have g7 : ((h + 7) % 8) ≤ 7 := by omega
  have j0 : 0 ≤ ((h + 6) % 8) := by omega
  have j7 : ((h + 6) % 8) ≤ 7 := by omega
  obtain ⟨a0, a0'⟩ := tu_bd0 ((h + 7) % 8) (by omega) (by omega)
  obtain ⟨a1, a1'⟩ := tu_bd1 ((h + 7) % 8) (by omega) (by omega)
  obtain ⟨a2, a2'⟩ := tu_bd2 ((h + 7) % 8) (by omega) (by omega)
  obtain ⟨a3, a3'⟩ := tu_bd3 ((h + 7) % 8) (by omega) (by omega)
  obtain ⟨b0, b0'⟩ := tu_bd0 ((h + 6) % 8) (by omega) (by omega)
  obtain ⟨b1, b1'⟩ := tu_bd1 ((h + 6) % 8) (by omega) (by omega)
  obtain ⟨b2, b2'⟩ := tu_bd2 ((h + 6) % 8) (by omega) (by omega)
  obtain ⟨b3, b3'⟩ := tu_bd3 ((h + 6) % 8) (by omega) (by omega)
  go_enter Try.func141, Try.ntmps141
  go_wp2_with (go_at_call 98; refine (tm1_any h h0 h7 _).mono ?_; rintro e w' ⟨rfl, rfl⟩)
  (go_at_call 101; (with_reducible refine (power_any ((h + 7) % 8) g0 g7 _).mono ?_); rintro e wB ⟨rfl, h1⟩; (try with_reducible replace h1 := undrew h1); have hB : Below w.heap.size w wB := ba (by go_grown) h1; obtain ⟨hcwB, hfwB⟩ := bcell h1; have hqwB := h1.size; (try simp at hqwB); (try have hz0wB : w.heap.size < wB.heap.size := (by omega)); (try have he0wB : w.heap.size ≤ wB.heap.size := (by omega)); (try have hz1wB : w.heap.size + 1 < wB.heap.size := (by omega)); (try have he1wB : w.heap.size + 1 ≤ wB.heap.size := (by omega)))
  go_wp2_with (go_at_call 98; refine (tm2_any h h0 h7 _).mono ?_; rintro e w' ⟨rfl, rfl⟩)
  (go_at_call 101; (with_reducible refine (power_any ((h + 6) % 8) j0 j7 _).mono ?_); rintro e wC ⟨rfl, h1⟩; (try with_reducible replace h1 := undrew h1); have hB : Below w.heap.size w wC := ba (by go_grown) h1; obtain ⟨hcwC, hfwC⟩ := bcell h1; have hqwC := h1.size; (try simp at hqwC); (try have hz0wC : w.heap.size < wC.heap.size := (by omega)); (try have he0wC : w.heap.size ≤ wC.heap.size := (by omega)); (try have hz1wC : w.heap.size + 1 < wC.heap.size := (by omega)); (try have he1wC : w.heap.size + 1 ≤ wC.heap.size := (by omega)); (try have hz2wC : wB.heap.size < wC.heap.size := (by omega)); (try have he2wC : wB.heap.size ≤ wC.heap.size := (by omega)))
  go_wp2_with fail
  (go_at_call 99; (with_reducible refine (scN (tu0 ((h + 6) % 8) 1 0 0 0) (tu1 ((h + 6) % 8) 1 0 0 0) (tu2 ((h + 6) % 8) 1 0 0 0) (tu3 ((h + 6) % 8) 1 0 0 0) b0 b0' b1 b1' b2 b2' b3 b3' _).mono ?_); rintro e wD ⟨rfl, h1⟩; (try with_reducible replace h1 := undrew h1); have hB : Below w.heap.size w wD := ba (by go_grown) h1; obtain ⟨hcwD, hfwD⟩ := bcell h1; have hqwD := h1.size; (try simp at hqwD); (try have hz0wD : w.heap.size < wD.heap.size := (by omega)); (try have he0wD : w.heap.size ≤ wD.heap.size := (by omega)); (try have hz1wD : w.heap.size + 1 < wD.heap.size := (by omega)); (try have he1wD : w.heap.size + 1 ≤ wD.heap.size := (by omega)); (try have hz2wD : wB.heap.size < wD.heap.size := (by omega)); (try have he2wD : wB.heap.size ≤ wD.heap.size := (by omega)))
  go_wp2_with fail
  have hS0 : (wD.alloc (.cells #[.int .i64 (-(tu0 ((h + 6) % 8) 1 0 0 0)), .int .i64 (-(tu1 ((h + 6) % 8) 1 0 0 0)), .int .i64 (-(tu2 ((h + 6) % 8) 1 0 0 0)), .int .i64 (-(tu3 ((h + 6) % 8) 1 0 0 0))] 60)).cell? ⟨w.heap.size, 0, none⟩ = some (.int .i64 x0) ∧ (wD.alloc (.cells #[.int .i64 (-(tu0 ((h + 6) % 8) 1 0 0 0)), .int .i64 (-(tu1 ((h + 6) % 8) 1 0 0 0)), .int .i64 (-(tu2 ((h + 6) % 8) 1 0 0 0)), .int .i64 (-(tu3 ((h + 6) % 8) 1 0 0 0))] 60)).cell? ⟨w.heap.size, 1, none⟩ = some (.int .i64 x1) ∧ (wD.alloc (.cells #[.int .i64 (-(tu0 ((h + 6) % 8) 1 0 0 0)), .int .i64 (-(tu1 ((h + 6) % 8) 1 0 0 0)), .int .i64 (-(tu2 ((h + 6) % 8) 1 0 0 0)), .int .i64 (-(tu3 ((h + 6) % 8) 1 0 0 0))] 60)).cell? ⟨w.heap.size, 2, none⟩ = some (.int .i64 x2) ∧ (wD.alloc (.cells #[.int .i64 (-(tu0 ((h + 6) % 8) 1 0 0 0)), .int .i64 (-(tu1 ((h + 6) % 8) 1 0 0 0)), .int .i64 (-(tu2 ((h + 6) % 8) 1 0 0 0)), .int .i64 (-(tu3 ((h + 6) % 8) 1 0 0 0))] 60)).cell? ⟨w.heap.size, 3, none⟩ = some (.int .i64 x3) ∧ (wD.alloc (.cells #[.int .i64 (-(tu0 ((h + 6) % 8) 1 0 0 0)), .int .i64 (-(tu1 ((h + 6) % 8) 1 0 0 0)), .int .i64 (-(tu2 ((h + 6) % 8) 1 0 0 0)), .int .i64 (-(tu3 ((h + 6) % 8) 1 0 0 0))] 60)).cell? ⟨w.heap.size, 4, none⟩ = some (.int .i64 h) ∧ (wD.alloc (.cells #[.int .i64 (-(tu0 ((h + 6) % 8) 1 0 0 0)), .int .i64 (-(tu1 ((h + 6) % 8) 1 0 0 0)), .int .i64 (-(tu2 ((h + 6) % 8) 1 0 0 0)), .int .i64 (-(tu3 ((h + 6) % 8) 1 0 0 0))] 60)).cell? ⟨wB.heap.size, 0, none⟩ = some (.int .i64 (tu0 ((h + 7) % 8) 1 0 0 0)) ∧ (wD.alloc (.cells #[.int .i64 (-(tu0 ((h + 6) % 8) 1 0 0 0)), .int .i64 (-(tu1 ((h + 6) % 8) 1 0 0 0)), .int .i64 (-(tu2 ((h + 6) % 8) 1 0 0 0)), .int .i64 (-(tu3 ((h + 6) % 8) 1 0 0 0))] 60)).cell? ⟨wB.heap.size, 1, none⟩ = some (.int .i64 (tu1 ((h + 7) % 8) 1 0 0 0)) ∧ (wD.alloc (.cells #[.int .i64 (-(tu0 ((h + 6) % 8) 1 0 0 0)), .int .i64 (-(tu1 ((h + 6) % 8) 1 0 0 0)), .int .i64 (-(tu2 ((h + 6) % 8) 1 0 0 0)), .int .i64 (-(tu3 ((h + 6) % 8) 1 0 0 0))] 60)).cell? ⟨wB.heap.size, 2, none⟩ = some (.int .i64 (tu2 ((h + 7) % 8) 1 0 0 0)) ∧ (wD.alloc (.cells #[.int .i64 (-(tu0 ((h + 6) % 8) 1 0 0 0)), .int .i64 (-(tu1 ((h + 6) % 8) 1 0 0 0)), .int .i64 (-(tu2 ((h + 6) % 8) 1 0 0 0)), .int .i64 (-(tu3 ((h + 6) % 8) 1 0 0 0))] 60)).cell? ⟨wB.heap.size, 3, none⟩ = some (.int .i64 (tu3 ((h + 7) % 8) 1 0 0 0)) ∧ (wD.alloc (.cells #[.int .i64 (-(tu0 ((h + 6) % 8) 1 0 0 0)), .int .i64 (-(tu1 ((h + 6) % 8) 1 0 0 0)), .int .i64 (-(tu2 ((h + 6) % 8) 1 0 0 0)), .int .i64 (-(tu3 ((h + 6) % 8) 1 0 0 0))] 60)).cell? ⟨wD.heap.size, 0, none⟩ = some (.int .i64 (-(tu0 ((h + 6) % 8) 1 0 0 0))) ∧ (wD.alloc (.cells #[.int .i64 (-(tu0 ((h + 6) % 8) 1 0 0 0)), .int .i64 (-(tu1 ((h + 6) % 8) 1 0 0 0)), .int .i64 (-(tu2 ((h + 6) % 8) 1 0 0 0)), .int .i64 (-(tu3 ((h + 6) % 8) 1 0 0 0))] 60)).cell? ⟨wD.heap.size, 1, none⟩ = some (.int .i64 (-(tu1 ((h + 6) % 8) 1 0 0 0))) ∧ (wD.alloc (.cells #[.int .i64 (-(tu0 ((h + 6) % 8) 1 0 0 0)), .int .i64 (-(tu1 ((h + 6) % 8) 1 0 0 0)), .int .i64 (-(tu2 ((h + 6) % 8) 1 0 0 0)), .int .i64 (-(tu3 ((h + 6) % 8) 1 0 0 0))] 60)).cell? ⟨wD.heap.size, 2, none⟩ = some (.int .i64 (-(tu2 ((h + 6) % 8) 1 0 0 0))) ∧ (wD.alloc (.cells #[.int .i64 (-(tu0 ((h + 6) % 8) 1 0 0 0)), .int .i64 (-(tu1 ((h + 6) % 8) 1 0 0 0)), .int .i64 (-(tu2 ((h + 6) % 8) 1 0 0 0)), .int .i64 (-(tu3 ((h + 6) % 8) 1 0 0 0))] 60)).cell? ⟨wD.heap.size, 3, none⟩ = some (.int .i64 (-(tu3 ((h + 6) % 8) 1 0 0 0))) := by refine ⟨?_, ?_, ?_, ?_, ?_, ?_, ?_, ?_, ?_, ?_, ?_, ?_, ?_⟩ <;> go_simp
  have hR : (wD.alloc (.cells #[.int .i64 (-(tu0 ((h + 6) % 8) 1 0 0 0)), .int .i64 (-(tu1 ((h + 6) % 8) 1 0 0 0)), .int .i64 (-(tu2 ((h + 6) % 8) 1 0 0 0)), .int .i64 (-(tu3 ((h + 6) % 8) 1 0 0 0))] 60)).cell? ⟨w.heap.size + 1, 0, none⟩ = some (.int .i64 0) ∧ (wD.alloc (.cells #[.int .i64 (-(tu0 ((h + 6) % 8) 1 0 0 0)), .int .i64 (-(tu1 ((h + 6) % 8) 1 0 0 0)), .int .i64 (-(tu2 ((h + 6) % 8) 1 0 0 0)), .int .i64 (-(tu3 ((h + 6) % 8) 1 0 0 0))] 60)).cell? ⟨w.heap.size + 1, 1, none⟩ = some (.int .i64 0) ∧ (wD.alloc (.cells #[.int .i64 (-(tu0 ((h + 6) % 8) 1 0 0 0)), .int .i64 (-(tu1 ((h + 6) % 8) 1 0 0 0)), .int .i64 (-(tu2 ((h + 6) % 8) 1 0 0 0)), .int .i64 (-(tu3 ((h + 6) % 8) 1 0 0 0))] 60)).cell? ⟨w.heap.size + 1, 2, none⟩ = some (.int .i64 0) ∧ (wD.alloc (.cells #[.int .i64 (-(tu0 ((h + 6) % 8) 1 0 0 0)), .int .i64 (-(tu1 ((h + 6) % 8) 1 0 0 0)), .int .i64 (-(tu2 ((h + 6) % 8) 1 0 0 0)), .int .i64 (-(tu3 ((h + 6) % 8) 1 0 0 0))] 60)).cell? ⟨w.heap.size + 1, 3, none⟩ = some (.int .i64 0) ∧ (wD.alloc (.cells #[.int .i64 (-(tu0 ((h + 6) % 8) 1 0 0 0)), .int .i64 (-(tu1 ((h + 6) % 8) 1 0 0 0)), .int .i64 (-(tu2 ((h + 6) % 8) 1 0 0 0)), .int .i64 (-(tu3 ((h + 6) % 8) 1 0 0 0))] 60)).cell? ⟨w.heap.size + 1, 4, none⟩ = some (.int .i64 0) := by refine ⟨?_, ?_, ?_, ?_, ?_⟩ <;> go_simp
  go_region_held3 (fun w' => w'.cell? ⟨w.heap.size, 0, none⟩ = some (.int .i64 x0) ∧ w'.cell? ⟨w.heap.size, 1, none⟩ = some (.int .i64 x1) ∧ w'.cell? ⟨w.heap.size, 2, none⟩ = some (.int .i64 x2) ∧ w'.cell? ⟨w.heap.size, 3, none⟩ = some (.int .i64 x3) ∧ w'.cell? ⟨w.heap.size, 4, none⟩ = some (.int .i64 h) ∧ w'.cell? ⟨wB.heap.size, 0, none⟩ = some (.int .i64 (tu0 ((h + 7) % 8) 1 0 0 0)) ∧ w'.cell? ⟨wB.heap.size, 1, none⟩ = some (.int .i64 (tu1 ((h + 7) % 8) 1 0 0 0)) ∧ w'.cell? ⟨wB.heap.size, 2, none⟩ = some (.int .i64 (tu2 ((h + 7) % 8) 1 0 0 0)) ∧ w'.cell? ⟨wB.heap.size, 3, none⟩ = some (.int .i64 (tu3 ((h + 7) % 8) 1 0 0 0)) ∧ w'.cell? ⟨wD.heap.size, 0, none⟩ = some (.int .i64 (-(tu0 ((h + 6) % 8) 1 0 0 0))) ∧ w'.cell? ⟨wD.heap.size, 1, none⟩ = some (.int .i64 (-(tu1 ((h + 6) % 8) 1 0 0 0))) ∧ w'.cell? ⟨wD.heap.size, 2, none⟩ = some (.int .i64 (-(tu2 ((h + 6) % 8) 1 0 0 0))) ∧ w'.cell? ⟨wD.heap.size, 3, none⟩ = some (.int .i64 (-(tu3 ((h + 6) % 8) 1 0 0 0))))
    (first | (with_reducible assumption) | (with_reducible exact stpp_drew hS0) | (with_reducible exact stpp_drew (stpp_alloc hS0 _)) | (with_reducible exact stpp_alloc (stpp_drew hS0) _) | (with_reducible refine stpp_drew ?_; with_reducible assumption) | (with_reducible refine stpp_alloc ?_ _; with_reducible assumption) | (with_reducible refine stpp_re (by with_reducible assumption) ?_ ?_ ?_ _; (focus first | (with_reducible assumption) | omega | (simp; done) | (simp; omega)); (focus first | (with_reducible assumption) | omega | (simp; done) | (simp; omega)); (focus first | (with_reducible assumption) | omega | (simp; done) | (simp; omega))) | (with_reducible refine stpp_below ?_ ?_ ?_ ?_ h1; (focus first | (with_reducible assumption) | (with_reducible refine stpp_undrew ?_; with_reducible assumption)); (focus first | (with_reducible assumption) | omega | (simp; done) | (simp; omega)); (focus first | (with_reducible assumption) | omega | (simp; done) | (simp; omega)); (focus first | (with_reducible assumption) | omega | (simp; done) | (simp; omega))) | ((repeat (with_reducible refine stpp_set ?_ _ _ ?_ ?_ ?_; rotate_left 1; (focus first | (with_reducible assumption) | omega | (simp; done) | (simp; omega)); (focus first | (with_reducible assumption) | omega | (simp; done) | (simp; omega)); (focus first | (with_reducible assumption) | omega | (simp; done) | (simp; omega)))); with_reducible assumption))
    (first | (go_at_call 140; (with_reducible refine (plP x0 x1 x2 x3 (tu0 ((h + 7) % 8) 1 0 0 0) (tu1 ((h + 7) % 8) 1 0 0 0) (tu2 ((h + 7) % 8) 1 0 0 0) (tu3 ((h + 7) % 8) 1 0 0 0) (by omega) (by omega) (by omega) (by omega) (by omega) (by omega) (by omega) (by omega) (by omega) (by omega) (by omega) (by omega) (by omega) (by omega) (by omega) (by omega) _).mono ?_); rintro e wE ⟨rfl, h1⟩; (try with_reducible replace h1 := undrew h1); have hB : Below w.heap.size w wE := ba (by go_grown) h1; obtain ⟨hcwE, hfwE⟩ := bcell h1; have hqwE := h1.size; (try simp at hqwE); (try have hz0wE : w.heap.size < wE.heap.size := (by omega)); (try have he0wE : w.heap.size ≤ wE.heap.size := (by omega)); (try have hz1wE : w.heap.size + 1 < wE.heap.size := (by omega)); (try have he1wE : w.heap.size + 1 ≤ wE.heap.size := (by omega)); (try have hz2wE : wB.heap.size < wE.heap.size := (by omega)); (try have he2wE : wB.heap.size ≤ wE.heap.size := (by omega)); (try have hz3wE : wD.heap.size < wE.heap.size := (by omega)); (try have he3wE : wD.heap.size ≤ wE.heap.size := (by omega)); have hR := st_below hR (by first | omega | (simp; done) | (simp; omega)) h1) | (go_at_call 140; (with_reducible refine (plP (x0 + (tu0 ((h + 7) % 8) 1 0 0 0)) (x1 + (tu1 ((h + 7) % 8) 1 0 0 0)) (x2 + (tu2 ((h + 7) % 8) 1 0 0 0)) (x3 + (tu3 ((h + 7) % 8) 1 0 0 0)) (-(tu0 ((h + 6) % 8) 1 0 0 0)) (-(tu1 ((h + 6) % 8) 1 0 0 0)) (-(tu2 ((h + 6) % 8) 1 0 0 0)) (-(tu3 ((h + 6) % 8) 1 0 0 0)) (by omega) (by omega) (by omega) (by omega) (by omega) (by omega) (by omega) (by omega) (by omega) (by omega) (by omega) (by omega) (by omega) (by omega) (by omega) (by omega) _).mono ?_); rintro e wF ⟨rfl, h1⟩; (try with_reducible replace h1 := undrew h1); have hB : Below w.heap.size w wF := ba (by go_grown) h1; obtain ⟨hcwF, hfwF⟩ := bcell h1; have hqwF := h1.size; (try simp at hqwF); (try have hz0wF : w.heap.size < wF.heap.size := (by omega)); (try have he0wF : w.heap.size ≤ wF.heap.size := (by omega)); (try have hz1wF : w.heap.size + 1 < wF.heap.size := (by omega)); (try have he1wF : w.heap.size + 1 ≤ wF.heap.size := (by omega)); (try have hz2wF : wB.heap.size < wF.heap.size := (by omega)); (try have he2wF : wB.heap.size ≤ wF.heap.size := (by omega)); (try have hz3wF : wD.heap.size < wF.heap.size := (by omega)); (try have he3wF : wD.heap.size ≤ wF.heap.size := (by omega)); have hR := st_below hR (by first | omega | (simp; done) | (simp; omega)) h1) | (go_at_call 98; refine (tp1_any h h0 h7 _).mono ?_; rintro e w' ⟨rfl, rfl⟩))
  all_goals
    go_wp2_with fail
    refine bodyPost_ret (by simp [results, Try.results141, go_sem, *]; try rfl) rfl ?_
    exact ⟨ag5 (by omega) (by omega) (by omega) (by omega) rfl, by go_grown⟩

set_option maxRecDepth 100000 in
theorem leftP (x0 x1 x2 x3 h : Int) (h0 : 0 ≤ h) (h7 : h ≤ 7) (px0 : -1000000 ≤ x0) (qx0 : x0 ≤ 1000000) (px1 : -1000000 ≤ x1) (qx1 : x1 ≤ 1000000) (px2 : -1000000 ≤ x2) (qx2 : x2 ≤ 1000000) (px3 : -1000000 ≤ x3) (qx3 : x3 ≤ 1000000) (w : World) :
    Calls Try.prog 134 #[.agg #[.int .i64 x0, .int .i64 x1, .int .i64 x2, .int .i64 x3, .int .i64 h]] w fun e w' => e = .returned (.agg #[.int .i64 (x0 + (tu0 ((h + 7) % 8) 1 0 0 0 - tu0 ((h + 6) % 8) 1 0 0 0)), .int .i64 (x1 + (tu1 ((h + 7) % 8) 1 0 0 0 - tu1 ((h + 6) % 8) 1 0 0 0)), .int .i64 (x2 + (tu2 ((h + 7) % 8) 1 0 0 0 - tu2 ((h + 6) % 8) 1 0 0 0)), .int .i64 (x3 + (tu3 ((h + 7) % 8) 1 0 0 0 - tu3 ((h + 6) % 8) 1 0 0 0)), .int .i64 ((h + 1) % 8)]) ∧ Below w.heap.size w w' := by
  go_enter Try.func134, Try.ntmps134
  go_wp2_with (go_at_call 141; refine (curveLeftP x0 x1 x2 x3 h h0 h7 px0 qx0 px1 qx1 px2 qx2 px3 qx3 _).mono ?_; rintro e w1 ⟨rfl, h1⟩; have hB : Below w.heap.size w w1 := ba (by go_grown) h1; obtain ⟨hc1, hf1⟩ := bcell h1; have hq := h1.size; (try simp at hq); have hz0 : w.heap.size < w1.heap.size := (by omega); have hz1 : w.heap.size + 1 < w1.heap.size := (by omega); have HK1 := Lib.hid h1; clear h1 hq)
  refine bodyPost_ret (by simp [results, Try.results134, go_sem, *]; try rfl) rfl ?_
  exact ⟨rfl, by go_grown⟩

set_option maxRecDepth 100000 in
set_option maxHeartbeats 3200000 in
theorem curveRightP (x0 x1 x2 x3 h : Int) (h0 : 0 ≤ h) (h7 : h ≤ 7) (px0 : -1000000 ≤ x0) (qx0 : x0 ≤ 1000000) (px1 : -1000000 ≤ x1) (qx1 : x1 ≤ 1000000) (px2 : -1000000 ≤ x2) (qx2 : x2 ≤ 1000000) (px3 : -1000000 ≤ x3) (qx3 : x3 ≤ 1000000) (w : World) :
    Calls Try.prog 141 #[.agg #[.int .i64 x0, .int .i64 x1, .int .i64 x2, .int .i64 x3, .int .i64 h], .int .i64 (-1)] w fun e w' => e = .returned (.agg #[.int .i64 (x0 + (tu0 ((h + 1) % 8) 1 0 0 0 - tu0 ((h + 2) % 8) 1 0 0 0)), .int .i64 (x1 + (tu1 ((h + 1) % 8) 1 0 0 0 - tu1 ((h + 2) % 8) 1 0 0 0)), .int .i64 (x2 + (tu2 ((h + 1) % 8) 1 0 0 0 - tu2 ((h + 2) % 8) 1 0 0 0)), .int .i64 (x3 + (tu3 ((h + 1) % 8) 1 0 0 0 - tu3 ((h + 2) % 8) 1 0 0 0)), .int .i64 ((h + 7) % 8)]) ∧ Below w.heap.size w w' := by
  have g0 : 0 ≤ ((h + 1) % 8) := by omega
  have g7 : ((h + 1) % 8) ≤ 7 := by omega
  have j0 : 0 ≤ ((h + 2) % 8) := by omega
  have j7 : ((h + 2) % 8) ≤ 7 := by omega
  obtain ⟨a0, a0'⟩ := tu_bd0 ((h + 1) % 8) (by omega) (by omega)
  obtain ⟨a1, a1'⟩ := tu_bd1 ((h + 1) % 8) (by omega) (by omega)
  obtain ⟨a2, a2'⟩ := tu_bd2 ((h + 1) % 8) (by omega) (by omega)
  obtain ⟨a3, a3'⟩ := tu_bd3 ((h + 1) % 8) (by omega) (by omega)
  obtain ⟨b0, b0'⟩ := tu_bd0 ((h + 2) % 8) (by omega) (by omega)
  obtain ⟨b1, b1'⟩ := tu_bd1 ((h + 2) % 8) (by omega) (by omega)
  obtain ⟨b2, b2'⟩ := tu_bd2 ((h + 2) % 8) (by omega) (by omega)
  obtain ⟨b3, b3'⟩ := tu_bd3 ((h + 2) % 8) (by omega) (by omega)
  go_enter Try.func141, Try.ntmps141
  go_wp2_with (go_at_call 98; refine (tp1_any h h0 h7 _).mono ?_; rintro e w' ⟨rfl, rfl⟩)
  (go_at_call 101; (with_reducible refine (power_any ((h + 1) % 8) g0 g7 _).mono ?_); rintro e wB ⟨rfl, h1⟩; (try with_reducible replace h1 := undrew h1); have hB : Below w.heap.size w wB := ba (by go_grown) h1; obtain ⟨hcwB, hfwB⟩ := bcell h1; have hqwB := h1.size; (try simp at hqwB); (try have hz0wB : w.heap.size < wB.heap.size := (by omega)); (try have he0wB : w.heap.size ≤ wB.heap.size := (by omega)); (try have hz1wB : w.heap.size + 1 < wB.heap.size := (by omega)); (try have he1wB : w.heap.size + 1 ≤ wB.heap.size := (by omega)))
  go_wp2_with (go_at_call 98; refine (tp2_any h h0 h7 _).mono ?_; rintro e w' ⟨rfl, rfl⟩)
  (go_at_call 101; (with_reducible refine (power_any ((h + 2) % 8) j0 j7 _).mono ?_); rintro e wC ⟨rfl, h1⟩; (try with_reducible replace h1 := undrew h1); have hB : Below w.heap.size w wC := ba (by go_grown) h1; obtain ⟨hcwC, hfwC⟩ := bcell h1; have hqwC := h1.size; (try simp at hqwC); (try have hz0wC : w.heap.size < wC.heap.size := (by omega)); (try have he0wC : w.heap.size ≤ wC.heap.size := (by omega)); (try have hz1wC : w.heap.size + 1 < wC.heap.size := (by omega)); (try have he1wC : w.heap.size + 1 ≤ wC.heap.size := (by omega)); (try have hz2wC : wB.heap.size < wC.heap.size := (by omega)); (try have he2wC : wB.heap.size ≤ wC.heap.size := (by omega)))
  go_wp2_with fail
  (go_at_call 99; (with_reducible refine (scN (tu0 ((h + 2) % 8) 1 0 0 0) (tu1 ((h + 2) % 8) 1 0 0 0) (tu2 ((h + 2) % 8) 1 0 0 0) (tu3 ((h + 2) % 8) 1 0 0 0) b0 b0' b1 b1' b2 b2' b3 b3' _).mono ?_); rintro e wD ⟨rfl, h1⟩; (try with_reducible replace h1 := undrew h1); have hB : Below w.heap.size w wD := ba (by go_grown) h1; obtain ⟨hcwD, hfwD⟩ := bcell h1; have hqwD := h1.size; (try simp at hqwD); (try have hz0wD : w.heap.size < wD.heap.size := (by omega)); (try have he0wD : w.heap.size ≤ wD.heap.size := (by omega)); (try have hz1wD : w.heap.size + 1 < wD.heap.size := (by omega)); (try have he1wD : w.heap.size + 1 ≤ wD.heap.size := (by omega)); (try have hz2wD : wB.heap.size < wD.heap.size := (by omega)); (try have he2wD : wB.heap.size ≤ wD.heap.size := (by omega)))
  go_wp2_with fail
  have hS0 : (wD.alloc (.cells #[.int .i64 (-(tu0 ((h + 2) % 8) 1 0 0 0)), .int .i64 (-(tu1 ((h + 2) % 8) 1 0 0 0)), .int .i64 (-(tu2 ((h + 2) % 8) 1 0 0 0)), .int .i64 (-(tu3 ((h + 2) % 8) 1 0 0 0))] 60)).cell? ⟨w.heap.size, 0, none⟩ = some (.int .i64 x0) ∧ (wD.alloc (.cells #[.int .i64 (-(tu0 ((h + 2) % 8) 1 0 0 0)), .int .i64 (-(tu1 ((h + 2) % 8) 1 0 0 0)), .int .i64 (-(tu2 ((h + 2) % 8) 1 0 0 0)), .int .i64 (-(tu3 ((h + 2) % 8) 1 0 0 0))] 60)).cell? ⟨w.heap.size, 1, none⟩ = some (.int .i64 x1) ∧ (wD.alloc (.cells #[.int .i64 (-(tu0 ((h + 2) % 8) 1 0 0 0)), .int .i64 (-(tu1 ((h + 2) % 8) 1 0 0 0)), .int .i64 (-(tu2 ((h + 2) % 8) 1 0 0 0)), .int .i64 (-(tu3 ((h + 2) % 8) 1 0 0 0))] 60)).cell? ⟨w.heap.size, 2, none⟩ = some (.int .i64 x2) ∧ (wD.alloc (.cells #[.int .i64 (-(tu0 ((h + 2) % 8) 1 0 0 0)), .int .i64 (-(tu1 ((h + 2) % 8) 1 0 0 0)), .int .i64 (-(tu2 ((h + 2) % 8) 1 0 0 0)), .int .i64 (-(tu3 ((h + 2) % 8) 1 0 0 0))] 60)).cell? ⟨w.heap.size, 3, none⟩ = some (.int .i64 x3) ∧ (wD.alloc (.cells #[.int .i64 (-(tu0 ((h + 2) % 8) 1 0 0 0)), .int .i64 (-(tu1 ((h + 2) % 8) 1 0 0 0)), .int .i64 (-(tu2 ((h + 2) % 8) 1 0 0 0)), .int .i64 (-(tu3 ((h + 2) % 8) 1 0 0 0))] 60)).cell? ⟨w.heap.size, 4, none⟩ = some (.int .i64 h) ∧ (wD.alloc (.cells #[.int .i64 (-(tu0 ((h + 2) % 8) 1 0 0 0)), .int .i64 (-(tu1 ((h + 2) % 8) 1 0 0 0)), .int .i64 (-(tu2 ((h + 2) % 8) 1 0 0 0)), .int .i64 (-(tu3 ((h + 2) % 8) 1 0 0 0))] 60)).cell? ⟨wB.heap.size, 0, none⟩ = some (.int .i64 (tu0 ((h + 1) % 8) 1 0 0 0)) ∧ (wD.alloc (.cells #[.int .i64 (-(tu0 ((h + 2) % 8) 1 0 0 0)), .int .i64 (-(tu1 ((h + 2) % 8) 1 0 0 0)), .int .i64 (-(tu2 ((h + 2) % 8) 1 0 0 0)), .int .i64 (-(tu3 ((h + 2) % 8) 1 0 0 0))] 60)).cell? ⟨wB.heap.size, 1, none⟩ = some (.int .i64 (tu1 ((h + 1) % 8) 1 0 0 0)) ∧ (wD.alloc (.cells #[.int .i64 (-(tu0 ((h + 2) % 8) 1 0 0 0)), .int .i64 (-(tu1 ((h + 2) % 8) 1 0 0 0)), .int .i64 (-(tu2 ((h + 2) % 8) 1 0 0 0)), .int .i64 (-(tu3 ((h + 2) % 8) 1 0 0 0))] 60)).cell? ⟨wB.heap.size, 2, none⟩ = some (.int .i64 (tu2 ((h + 1) % 8) 1 0 0 0)) ∧ (wD.alloc (.cells #[.int .i64 (-(tu0 ((h + 2) % 8) 1 0 0 0)), .int .i64 (-(tu1 ((h + 2) % 8) 1 0 0 0)), .int .i64 (-(tu2 ((h + 2) % 8) 1 0 0 0)), .int .i64 (-(tu3 ((h + 2) % 8) 1 0 0 0))] 60)).cell? ⟨wB.heap.size, 3, none⟩ = some (.int .i64 (tu3 ((h + 1) % 8) 1 0 0 0)) ∧ (wD.alloc (.cells #[.int .i64 (-(tu0 ((h + 2) % 8) 1 0 0 0)), .int .i64 (-(tu1 ((h + 2) % 8) 1 0 0 0)), .int .i64 (-(tu2 ((h + 2) % 8) 1 0 0 0)), .int .i64 (-(tu3 ((h + 2) % 8) 1 0 0 0))] 60)).cell? ⟨wD.heap.size, 0, none⟩ = some (.int .i64 (-(tu0 ((h + 2) % 8) 1 0 0 0))) ∧ (wD.alloc (.cells #[.int .i64 (-(tu0 ((h + 2) % 8) 1 0 0 0)), .int .i64 (-(tu1 ((h + 2) % 8) 1 0 0 0)), .int .i64 (-(tu2 ((h + 2) % 8) 1 0 0 0)), .int .i64 (-(tu3 ((h + 2) % 8) 1 0 0 0))] 60)).cell? ⟨wD.heap.size, 1, none⟩ = some (.int .i64 (-(tu1 ((h + 2) % 8) 1 0 0 0))) ∧ (wD.alloc (.cells #[.int .i64 (-(tu0 ((h + 2) % 8) 1 0 0 0)), .int .i64 (-(tu1 ((h + 2) % 8) 1 0 0 0)), .int .i64 (-(tu2 ((h + 2) % 8) 1 0 0 0)), .int .i64 (-(tu3 ((h + 2) % 8) 1 0 0 0))] 60)).cell? ⟨wD.heap.size, 2, none⟩ = some (.int .i64 (-(tu2 ((h + 2) % 8) 1 0 0 0))) ∧ (wD.alloc (.cells #[.int .i64 (-(tu0 ((h + 2) % 8) 1 0 0 0)), .int .i64 (-(tu1 ((h + 2) % 8) 1 0 0 0)), .int .i64 (-(tu2 ((h + 2) % 8) 1 0 0 0)), .int .i64 (-(tu3 ((h + 2) % 8) 1 0 0 0))] 60)).cell? ⟨wD.heap.size, 3, none⟩ = some (.int .i64 (-(tu3 ((h + 2) % 8) 1 0 0 0))) := by refine ⟨?_, ?_, ?_, ?_, ?_, ?_, ?_, ?_, ?_, ?_, ?_, ?_, ?_⟩ <;> go_simp
  have hR : (wD.alloc (.cells #[.int .i64 (-(tu0 ((h + 2) % 8) 1 0 0 0)), .int .i64 (-(tu1 ((h + 2) % 8) 1 0 0 0)), .int .i64 (-(tu2 ((h + 2) % 8) 1 0 0 0)), .int .i64 (-(tu3 ((h + 2) % 8) 1 0 0 0))] 60)).cell? ⟨w.heap.size + 1, 0, none⟩ = some (.int .i64 0) ∧ (wD.alloc (.cells #[.int .i64 (-(tu0 ((h + 2) % 8) 1 0 0 0)), .int .i64 (-(tu1 ((h + 2) % 8) 1 0 0 0)), .int .i64 (-(tu2 ((h + 2) % 8) 1 0 0 0)), .int .i64 (-(tu3 ((h + 2) % 8) 1 0 0 0))] 60)).cell? ⟨w.heap.size + 1, 1, none⟩ = some (.int .i64 0) ∧ (wD.alloc (.cells #[.int .i64 (-(tu0 ((h + 2) % 8) 1 0 0 0)), .int .i64 (-(tu1 ((h + 2) % 8) 1 0 0 0)), .int .i64 (-(tu2 ((h + 2) % 8) 1 0 0 0)), .int .i64 (-(tu3 ((h + 2) % 8) 1 0 0 0))] 60)).cell? ⟨w.heap.size + 1, 2, none⟩ = some (.int .i64 0) ∧ (wD.alloc (.cells #[.int .i64 (-(tu0 ((h + 2) % 8) 1 0 0 0)), .int .i64 (-(tu1 ((h + 2) % 8) 1 0 0 0)), .int .i64 (-(tu2 ((h + 2) % 8) 1 0 0 0)), .int .i64 (-(tu3 ((h + 2) % 8) 1 0 0 0))] 60)).cell? ⟨w.heap.size + 1, 3, none⟩ = some (.int .i64 0) ∧ (wD.alloc (.cells #[.int .i64 (-(tu0 ((h + 2) % 8) 1 0 0 0)), .int .i64 (-(tu1 ((h + 2) % 8) 1 0 0 0)), .int .i64 (-(tu2 ((h + 2) % 8) 1 0 0 0)), .int .i64 (-(tu3 ((h + 2) % 8) 1 0 0 0))] 60)).cell? ⟨w.heap.size + 1, 4, none⟩ = some (.int .i64 0) := by refine ⟨?_, ?_, ?_, ?_, ?_⟩ <;> go_simp
  go_region_held3 (fun w' => w'.cell? ⟨w.heap.size, 0, none⟩ = some (.int .i64 x0) ∧ w'.cell? ⟨w.heap.size, 1, none⟩ = some (.int .i64 x1) ∧ w'.cell? ⟨w.heap.size, 2, none⟩ = some (.int .i64 x2) ∧ w'.cell? ⟨w.heap.size, 3, none⟩ = some (.int .i64 x3) ∧ w'.cell? ⟨w.heap.size, 4, none⟩ = some (.int .i64 h) ∧ w'.cell? ⟨wB.heap.size, 0, none⟩ = some (.int .i64 (tu0 ((h + 1) % 8) 1 0 0 0)) ∧ w'.cell? ⟨wB.heap.size, 1, none⟩ = some (.int .i64 (tu1 ((h + 1) % 8) 1 0 0 0)) ∧ w'.cell? ⟨wB.heap.size, 2, none⟩ = some (.int .i64 (tu2 ((h + 1) % 8) 1 0 0 0)) ∧ w'.cell? ⟨wB.heap.size, 3, none⟩ = some (.int .i64 (tu3 ((h + 1) % 8) 1 0 0 0)) ∧ w'.cell? ⟨wD.heap.size, 0, none⟩ = some (.int .i64 (-(tu0 ((h + 2) % 8) 1 0 0 0))) ∧ w'.cell? ⟨wD.heap.size, 1, none⟩ = some (.int .i64 (-(tu1 ((h + 2) % 8) 1 0 0 0))) ∧ w'.cell? ⟨wD.heap.size, 2, none⟩ = some (.int .i64 (-(tu2 ((h + 2) % 8) 1 0 0 0))) ∧ w'.cell? ⟨wD.heap.size, 3, none⟩ = some (.int .i64 (-(tu3 ((h + 2) % 8) 1 0 0 0))))
    (first | (with_reducible assumption) | (with_reducible exact stpp_drew hS0) | (with_reducible exact stpp_drew (stpp_alloc hS0 _)) | (with_reducible exact stpp_alloc (stpp_drew hS0) _) | (with_reducible refine stpp_drew ?_; with_reducible assumption) | (with_reducible refine stpp_alloc ?_ _; with_reducible assumption) | (with_reducible refine stpp_re (by with_reducible assumption) ?_ ?_ ?_ _; (focus first | (with_reducible assumption) | omega | (simp; done) | (simp; omega)); (focus first | (with_reducible assumption) | omega | (simp; done) | (simp; omega)); (focus first | (with_reducible assumption) | omega | (simp; done) | (simp; omega))) | (with_reducible refine stpp_below ?_ ?_ ?_ ?_ h1; (focus first | (with_reducible assumption) | (with_reducible refine stpp_undrew ?_; with_reducible assumption)); (focus first | (with_reducible assumption) | omega | (simp; done) | (simp; omega)); (focus first | (with_reducible assumption) | omega | (simp; done) | (simp; omega)); (focus first | (with_reducible assumption) | omega | (simp; done) | (simp; omega))) | ((repeat (with_reducible refine stpp_set ?_ _ _ ?_ ?_ ?_; rotate_left 1; (focus first | (with_reducible assumption) | omega | (simp; done) | (simp; omega)); (focus first | (with_reducible assumption) | omega | (simp; done) | (simp; omega)); (focus first | (with_reducible assumption) | omega | (simp; done) | (simp; omega)))); with_reducible assumption))
    (first | (go_at_call 140; (with_reducible refine (plP x0 x1 x2 x3 (tu0 ((h + 1) % 8) 1 0 0 0) (tu1 ((h + 1) % 8) 1 0 0 0) (tu2 ((h + 1) % 8) 1 0 0 0) (tu3 ((h + 1) % 8) 1 0 0 0) (by omega) (by omega) (by omega) (by omega) (by omega) (by omega) (by omega) (by omega) (by omega) (by omega) (by omega) (by omega) (by omega) (by omega) (by omega) (by omega) _).mono ?_); rintro e wE ⟨rfl, h1⟩; (try with_reducible replace h1 := undrew h1); have hB : Below w.heap.size w wE := ba (by go_grown) h1; obtain ⟨hcwE, hfwE⟩ := bcell h1; have hqwE := h1.size; (try simp at hqwE); (try have hz0wE : w.heap.size < wE.heap.size := (by omega)); (try have he0wE : w.heap.size ≤ wE.heap.size := (by omega)); (try have hz1wE : w.heap.size + 1 < wE.heap.size := (by omega)); (try have he1wE : w.heap.size + 1 ≤ wE.heap.size := (by omega)); (try have hz2wE : wB.heap.size < wE.heap.size := (by omega)); (try have he2wE : wB.heap.size ≤ wE.heap.size := (by omega)); (try have hz3wE : wD.heap.size < wE.heap.size := (by omega)); (try have he3wE : wD.heap.size ≤ wE.heap.size := (by omega)); have hR := st_below hR (by first | omega | (simp; done) | (simp; omega)) h1) | (go_at_call 140; (with_reducible refine (plP (x0 + (tu0 ((h + 1) % 8) 1 0 0 0)) (x1 + (tu1 ((h + 1) % 8) 1 0 0 0)) (x2 + (tu2 ((h + 1) % 8) 1 0 0 0)) (x3 + (tu3 ((h + 1) % 8) 1 0 0 0)) (-(tu0 ((h + 2) % 8) 1 0 0 0)) (-(tu1 ((h + 2) % 8) 1 0 0 0)) (-(tu2 ((h + 2) % 8) 1 0 0 0)) (-(tu3 ((h + 2) % 8) 1 0 0 0)) (by omega) (by omega) (by omega) (by omega) (by omega) (by omega) (by omega) (by omega) (by omega) (by omega) (by omega) (by omega) (by omega) (by omega) (by omega) (by omega) _).mono ?_); rintro e wF ⟨rfl, h1⟩; (try with_reducible replace h1 := undrew h1); have hB : Below w.heap.size w wF := ba (by go_grown) h1; obtain ⟨hcwF, hfwF⟩ := bcell h1; have hqwF := h1.size; (try simp at hqwF); (try have hz0wF : w.heap.size < wF.heap.size := (by omega)); (try have he0wF : w.heap.size ≤ wF.heap.size := (by omega)); (try have hz1wF : w.heap.size + 1 < wF.heap.size := (by omega)); (try have he1wF : w.heap.size + 1 ≤ wF.heap.size := (by omega)); (try have hz2wF : wB.heap.size < wF.heap.size := (by omega)); (try have he2wF : wB.heap.size ≤ wF.heap.size := (by omega)); (try have hz3wF : wD.heap.size < wF.heap.size := (by omega)); (try have he3wF : wD.heap.size ≤ wF.heap.size := (by omega)); have hR := st_below hR (by first | omega | (simp; done) | (simp; omega)) h1) | (go_at_call 98; refine (tm1_any h h0 h7 _).mono ?_; rintro e w' ⟨rfl, rfl⟩))
  all_goals
    go_wp2_with fail
    refine bodyPost_ret (by simp [results, Try.results141, go_sem, *]; try rfl) rfl ?_
    exact ⟨ag5 (by omega) (by omega) (by omega) (by omega) rfl, by go_grown⟩

set_option maxRecDepth 100000 in
theorem rightP (x0 x1 x2 x3 h : Int) (h0 : 0 ≤ h) (h7 : h ≤ 7) (px0 : -1000000 ≤ x0) (qx0 : x0 ≤ 1000000) (px1 : -1000000 ≤ x1) (qx1 : x1 ≤ 1000000) (px2 : -1000000 ≤ x2) (qx2 : x2 ≤ 1000000) (px3 : -1000000 ≤ x3) (qx3 : x3 ≤ 1000000) (w : World) :
    Calls Try.prog 135 #[.agg #[.int .i64 x0, .int .i64 x1, .int .i64 x2, .int .i64 x3, .int .i64 h]] w fun e w' => e = .returned (.agg #[.int .i64 (x0 + (tu0 ((h + 1) % 8) 1 0 0 0 - tu0 ((h + 2) % 8) 1 0 0 0)), .int .i64 (x1 + (tu1 ((h + 1) % 8) 1 0 0 0 - tu1 ((h + 2) % 8) 1 0 0 0)), .int .i64 (x2 + (tu2 ((h + 1) % 8) 1 0 0 0 - tu2 ((h + 2) % 8) 1 0 0 0)), .int .i64 (x3 + (tu3 ((h + 1) % 8) 1 0 0 0 - tu3 ((h + 2) % 8) 1 0 0 0)), .int .i64 ((h + 7) % 8)]) ∧ Below w.heap.size w w' := by
  go_enter Try.func135, Try.ntmps135
  go_wp2_with (go_at_call 141; refine (curveRightP x0 x1 x2 x3 h h0 h7 px0 qx0 px1 qx1 px2 qx2 px3 qx3 _).mono ?_; rintro e w1 ⟨rfl, h1⟩; have hB : Below w.heap.size w w1 := ba (by go_grown) h1; obtain ⟨hc1, hf1⟩ := bcell h1; have hq := h1.size; (try simp at hq); have hz0 : w.heap.size < w1.heap.size := (by omega); have hz1 : w.heap.size + 1 < w1.heap.size := (by omega); have HK1 := Lib.hid h1; clear h1 hq)
  refine bodyPost_ret (by simp [results, Try.results135, go_sem, *]; try rfl) rfl ?_
  exact ⟨rfl, by go_grown⟩

end Go.Proofs.Ythiimllafcfieaa
