/- Contracts and facts, put together (part 5). Conditions: each says its own. -/
import Derived.Test.YtppbbcckijcckaaQ4
import Derived.Lib.Hide
import Derived.Laws.AppendOwn
import Derived.Laws.OwnMore
import Derived.Deep.AppendLies

/- Contracts: TurnPoint and HeadingPoint, in the model and in the program; a product of two points in the program. -/
namespace Go.Proofs.Ytppbbcckijcckaa
open Go.ChangeShapes Go.WideShapes Go.ChangeAt Go.RowKit

theorem mul_bd (a b : Int) (h0 : -999999 ≤ a) (h1 : a ≤ 999999) (k0 : -999999 ≤ b) (k1 : b ≤ 999999) : -999998000001 ≤ a * b ∧ a * b ≤ 999998000001 := by
  have ha : a.natAbs ≤ 999999 := by omega
  have hb : b.natAbs ≤ 999999 := by omega
  have hm : (a * b).natAbs ≤ 999998000001 := by rw [Int.natAbs_mul]; exact Nat.mul_le_mul ha hb
  omega

def tm0 (a0 a1 a2 a3 : Int) (b0 b1 b2 b3 : Int) : Int := a0 * b0 - a1 * b3 - a2 * b2 - a3 * b1

def tm1 (a0 a1 a2 a3 : Int) (b0 b1 b2 b3 : Int) : Int := a0 * b1 + a1 * b0 - a2 * b3 - a3 * b2

def tm2 (a0 a1 a2 a3 : Int) (b0 b1 b2 b3 : Int) : Int := a0 * b2 + a1 * b1 + a2 * b0 - a3 * b3

def tm3 (a0 a1 a2 a3 : Int) (b0 b1 b2 b3 : Int) : Int := a0 * b3 + a1 * b2 + a2 * b1 + a3 * b0

set_option maxRecDepth 100000 in
set_option maxHeartbeats 3200000 in
theorem imTimes_any (a0 a1 a2 a3 : Int) (b0 b1 b2 b3 : Int) (pa0 : -999999 ≤ a0) (qa0 : a0 ≤ 999999) (pa1 : -999999 ≤ a1) (qa1 : a1 ≤ 999999) (pa2 : -999999 ≤ a2) (qa2 : a2 ≤ 999999) (pa3 : -999999 ≤ a3) (qa3 : a3 ≤ 999999) (pb0 : -999999 ≤ b0) (qb0 : b0 ≤ 999999) (pb1 : -999999 ≤ b1) (qb1 : b1 ≤ 999999) (pb2 : -999999 ≤ b2) (qb2 : b2 ≤ 999999) (pb3 : -999999 ≤ b3) (qb3 : b3 ≤ 999999) (w : World) :
    Calls Try.prog 141 #[.agg #[.int .i64 a0, .int .i64 a1, .int .i64 a2, .int .i64 a3], .agg #[.int .i64 b0, .int .i64 b1, .int .i64 b2, .int .i64 b3]] w fun e w' => e = .returned (.agg #[.int .i64 (tm0 a0 a1 a2 a3 b0 b1 b2 b3), .int .i64 (tm1 a0 a1 a2 a3 b0 b1 b2 b3), .int .i64 (tm2 a0 a1 a2 a3 b0 b1 b2 b3), .int .i64 (tm3 a0 a1 a2 a3 b0 b1 b2 b3)]) ∧ Below w.heap.size w w' := by
  obtain ⟨l00, u00⟩ := mul_bd a0 b0 pa0 qa0 pb0 qb0
  obtain ⟨l01, u01⟩ := mul_bd a0 b1 pa0 qa0 pb1 qb1
  obtain ⟨l02, u02⟩ := mul_bd a0 b2 pa0 qa0 pb2 qb2
  obtain ⟨l03, u03⟩ := mul_bd a0 b3 pa0 qa0 pb3 qb3
  obtain ⟨l10, u10⟩ := mul_bd a1 b0 pa1 qa1 pb0 qb0
  obtain ⟨l11, u11⟩ := mul_bd a1 b1 pa1 qa1 pb1 qb1
  obtain ⟨l12, u12⟩ := mul_bd a1 b2 pa1 qa1 pb2 qb2
  obtain ⟨l13, u13⟩ := mul_bd a1 b3 pa1 qa1 pb3 qb3
  obtain ⟨l20, u20⟩ := mul_bd a2 b0 pa2 qa2 pb0 qb0
  obtain ⟨l21, u21⟩ := mul_bd a2 b1 pa2 qa2 pb1 qb1
  obtain ⟨l22, u22⟩ := mul_bd a2 b2 pa2 qa2 pb2 qb2
  obtain ⟨l23, u23⟩ := mul_bd a2 b3 pa2 qa2 pb3 qb3
  obtain ⟨l30, u30⟩ := mul_bd a3 b0 pa3 qa3 pb0 qb0
  obtain ⟨l31, u31⟩ := mul_bd a3 b1 pa3 qa3 pb1 qb1
  obtain ⟨l32, u32⟩ := mul_bd a3 b2 pa3 qa3 pb2 qb2
  obtain ⟨l33, u33⟩ := mul_bd a3 b3 pa3 qa3 pb3 qb3
  go_enter Try.func141, Try.ntmps141
  go_wp2
  go_returns
  exact ⟨rfl, by go_grown⟩

end Go.Proofs.Ytppbbcckijcckaa

/- Contracts: TurnPoint, in the model and in the program. -/
namespace Go.Proofs.Ytppbbcckijcckaa
open Go.ChangeShapes Go.WideShapes Go.ChangeAt Go.RowKit

def tuG (a0 a1 a2 a3 : Int) (k : Int) : Bool := goodB a0 a1 a2 a3 && inB k 0 7

theorem tu_bd0 (k : Int) (h0 : 0 ≤ k) (h7 : k ≤ 7) : -999999 ≤ tu0 k 1 0 0 0 ∧ tu0 k 1 0 0 0 ≤ 999999 := by
  rcases eight k h0 h7 with rfl | rfl | rfl | rfl | rfl | rfl | rfl | rfl <;> simp [tu0]

theorem tm_tu0 (a0 a1 a2 a3 : Int) (k : Int) (h0 : 0 ≤ k) (h7 : k ≤ 7) : tm0 a0 a1 a2 a3 (tu0 k 1 0 0 0) (tu1 k 1 0 0 0) (tu2 k 1 0 0 0) (tu3 k 1 0 0 0) = tu0 k a0 a1 a2 a3 := by
  rcases eight k h0 h7 with rfl | rfl | rfl | rfl | rfl | rfl | rfl | rfl <;> simp [tm0, tu0, tu1, tu2, tu3]

theorem tu_bd1 (k : Int) (h0 : 0 ≤ k) (h7 : k ≤ 7) : -999999 ≤ tu1 k 1 0 0 0 ∧ tu1 k 1 0 0 0 ≤ 999999 := by
  rcases eight k h0 h7 with rfl | rfl | rfl | rfl | rfl | rfl | rfl | rfl <;> simp [tu1]

theorem tm_tu1 (a0 a1 a2 a3 : Int) (k : Int) (h0 : 0 ≤ k) (h7 : k ≤ 7) : tm1 a0 a1 a2 a3 (tu0 k 1 0 0 0) (tu1 k 1 0 0 0) (tu2 k 1 0 0 0) (tu3 k 1 0 0 0) = tu1 k a0 a1 a2 a3 := by
  rcases eight k h0 h7 with rfl | rfl | rfl | rfl | rfl | rfl | rfl | rfl <;> simp [tm1, tu0, tu1, tu2, tu3]

theorem tu_bd2 (k : Int) (h0 : 0 ≤ k) (h7 : k ≤ 7) : -999999 ≤ tu2 k 1 0 0 0 ∧ tu2 k 1 0 0 0 ≤ 999999 := by
  rcases eight k h0 h7 with rfl | rfl | rfl | rfl | rfl | rfl | rfl | rfl <;> simp [tu2]

theorem tm_tu2 (a0 a1 a2 a3 : Int) (k : Int) (h0 : 0 ≤ k) (h7 : k ≤ 7) : tm2 a0 a1 a2 a3 (tu0 k 1 0 0 0) (tu1 k 1 0 0 0) (tu2 k 1 0 0 0) (tu3 k 1 0 0 0) = tu2 k a0 a1 a2 a3 := by
  rcases eight k h0 h7 with rfl | rfl | rfl | rfl | rfl | rfl | rfl | rfl <;> simp [tm2, tu0, tu1, tu2, tu3]

theorem tu_bd3 (k : Int) (h0 : 0 ≤ k) (h7 : k ≤ 7) : -999999 ≤ tu3 k 1 0 0 0 ∧ tu3 k 1 0 0 0 ≤ 999999 := by
  rcases eight k h0 h7 with rfl | rfl | rfl | rfl | rfl | rfl | rfl | rfl <;> simp [tu3]

theorem tm_tu3 (a0 a1 a2 a3 : Int) (k : Int) (h0 : 0 ≤ k) (h7 : k ≤ 7) : tm3 a0 a1 a2 a3 (tu0 k 1 0 0 0) (tu1 k 1 0 0 0) (tu2 k 1 0 0 0) (tu3 k 1 0 0 0) = tu3 k a0 a1 a2 a3 := by
  rcases eight k h0 h7 with rfl | rfl | rfl | rfl | rfl | rfl | rfl | rfl <;> simp [tm3, tu0, tu1, tu2, tu3]

end Go.Proofs.Ytppbbcckijcckaa

/- Steps along a track: where each piece leads. -/
namespace Go.Proofs.Ytppbbcckijcckaa

structure Sp where
  x0 : Int
  x1 : Int
  x2 : Int
  x3 : Int
  h : Int

def Sp.cells (s : Sp) : List Value := [.int .i64 s.x0, .int .i64 s.x1, .int .i64 s.x2, .int .i64 s.x3, .int .i64 s.h]

def Sp.ptc (s : Sp) : List Value := [.int .i64 s.x0, .int .i64 s.x1, .int .i64 s.x2, .int .i64 s.x3]

theorem Sp.cells_length (s : Sp) : s.cells.length = 5 := rfl

theorem Sp.ptc_length (s : Sp) : s.ptc.length = 4 := rfl

def dd0 (c : UInt8) (h : Int) : Int := if c == 76 then tu0 ((h + 7) % 8) 1 0 0 0 - tu0 ((h + 6) % 8) 1 0 0 0 else if c == 82 then tu0 ((h + 1) % 8) 1 0 0 0 - tu0 ((h + 2) % 8) 1 0 0 0 else tu0 h 1 0 0 0

def dd1 (c : UInt8) (h : Int) : Int := if c == 76 then tu1 ((h + 7) % 8) 1 0 0 0 - tu1 ((h + 6) % 8) 1 0 0 0 else if c == 82 then tu1 ((h + 1) % 8) 1 0 0 0 - tu1 ((h + 2) % 8) 1 0 0 0 else tu1 h 1 0 0 0

def dd2 (c : UInt8) (h : Int) : Int := if c == 76 then tu2 ((h + 7) % 8) 1 0 0 0 - tu2 ((h + 6) % 8) 1 0 0 0 else if c == 82 then tu2 ((h + 1) % 8) 1 0 0 0 - tu2 ((h + 2) % 8) 1 0 0 0 else tu2 h 1 0 0 0

def dd3 (c : UInt8) (h : Int) : Int := if c == 76 then tu3 ((h + 7) % 8) 1 0 0 0 - tu3 ((h + 6) % 8) 1 0 0 0 else if c == 82 then tu3 ((h + 1) % 8) 1 0 0 0 - tu3 ((h + 2) % 8) 1 0 0 0 else tu3 h 1 0 0 0

def nh (c : UInt8) (h : Int) : Int := if c == 76 then (h + 1) % 8 else if c == 82 then (h + 7) % 8 else h

def Sp.next (s : Sp) (c : UInt8) : Sp := ⟨s.x0 + dd0 c s.h, s.x1 + dd1 c s.h, s.x2 + dd2 c s.h, s.x3 + dd3 c s.h, nh c s.h⟩

/-- The last step behind the pieces l. -/
def fin (s : Sp) (l : List UInt8) : Sp := l.foldl Sp.next s

/-- The steps before and behind each piece. -/
def lays : Sp → List UInt8 → List Sp
  | s, [] => [s]
  | s, c :: l => s :: lays (s.next c) l

theorem fin_snoc (s : Sp) (l : List UInt8) (c : UInt8) : fin s (l ++ [c]) = (fin s l).next c := by simp [fin, List.foldl_append]

theorem lays_snoc (s : Sp) (l : List UInt8) (c : UInt8) : lays s (l ++ [c]) = lays s l ++ [(fin s l).next c] := by
  induction l generalizing s with
  | nil => rfl
  | cons d l ih => simp [lays, ih, fin]

theorem lays_length (s : Sp) (l : List UInt8) : (lays s l).length = l.length + 1 := by
  induction l generalizing s with
  | nil => rfl
  | cons d l ih => simp [lays, ih]

theorem lays_last (s : Sp) (l : List UInt8) : (lays s l)[l.length]? = some (fin s l) := by
  induction l generalizing s with
  | nil => rfl
  | cons d l ih => simp [lays, ih, fin]

theorem tu_one0 (k : Int) : -1 ≤ tu0 k 1 0 0 0 ∧ tu0 k 1 0 0 0 ≤ 1 := by unfold tu0; repeat' split <;> omega

theorem tu_one1 (k : Int) : -1 ≤ tu1 k 1 0 0 0 ∧ tu1 k 1 0 0 0 ≤ 1 := by unfold tu1; repeat' split <;> omega

theorem tu_one2 (k : Int) : -1 ≤ tu2 k 1 0 0 0 ∧ tu2 k 1 0 0 0 ≤ 1 := by unfold tu2; repeat' split <;> omega

theorem tu_one3 (k : Int) : -1 ≤ tu3 k 1 0 0 0 ∧ tu3 k 1 0 0 0 ≤ 1 := by unfold tu3; repeat' split <;> omega

theorem dd_bd0 (c : UInt8) (h : Int) : -2 ≤ dd0 c h ∧ dd0 c h ≤ 2 := by
  have a := tu_one0 ((h + 7) % 8); have b := tu_one0 ((h + 6) % 8); have d := tu_one0 ((h + 1) % 8); have e := tu_one0 ((h + 2) % 8); have f := tu_one0 h
  unfold dd0; repeat' split <;> omega

theorem dd_bd1 (c : UInt8) (h : Int) : -2 ≤ dd1 c h ∧ dd1 c h ≤ 2 := by
  have a := tu_one1 ((h + 7) % 8); have b := tu_one1 ((h + 6) % 8); have d := tu_one1 ((h + 1) % 8); have e := tu_one1 ((h + 2) % 8); have f := tu_one1 h
  unfold dd1; repeat' split <;> omega

theorem dd_bd2 (c : UInt8) (h : Int) : -2 ≤ dd2 c h ∧ dd2 c h ≤ 2 := by
  have a := tu_one2 ((h + 7) % 8); have b := tu_one2 ((h + 6) % 8); have d := tu_one2 ((h + 1) % 8); have e := tu_one2 ((h + 2) % 8); have f := tu_one2 h
  unfold dd2; repeat' split <;> omega

theorem dd_bd3 (c : UInt8) (h : Int) : -2 ≤ dd3 c h ∧ dd3 c h ≤ 2 := by
  have a := tu_one3 ((h + 7) % 8); have b := tu_one3 ((h + 6) % 8); have d := tu_one3 ((h + 1) % 8); have e := tu_one3 ((h + 2) % 8); have f := tu_one3 h
  unfold dd3; repeat' split <;> omega

theorem nh_bd (c : UInt8) (h : Int) (h0 : 0 ≤ h) (h7 : h ≤ 7) : 0 ≤ nh c h ∧ nh c h ≤ 7 := by unfold nh; repeat' split <;> omega

/-- A step whose numbers are no more than n in size, with a heading. -/
def Sp.okB (s : Sp) (n : Int) : Prop := (-n ≤ s.x0 ∧ s.x0 ≤ n) ∧ (-n ≤ s.x1 ∧ s.x1 ≤ n) ∧ (-n ≤ s.x2 ∧ s.x2 ≤ n) ∧ (-n ≤ s.x3 ∧ s.x3 ≤ n) ∧ 0 ≤ s.h ∧ s.h ≤ 7

theorem Sp.okB.next {s : Sp} {n : Int} (h : s.okB n) (c : UInt8) : (s.next c).okB (n + 2) := by
  obtain ⟨h0, h1, h2, h3, h4, h5⟩ := h
  have d0 := dd_bd0 c s.h; have d1 := dd_bd1 c s.h; have d2 := dd_bd2 c s.h; have d3 := dd_bd3 c s.h
  have d4 := nh_bd c s.h h4 h5
  simp only [Sp.okB, Sp.next]
  omega

theorem Sp.okB.mono {s : Sp} {n m : Int} (h : s.okB n) (hm : n ≤ m) : s.okB m := by
  obtain ⟨h0, h1, h2, h3, h4, h5⟩ := h
  simp only [Sp.okB]
  omega

theorem fin_ok {s : Sp} {n : Int} (h : s.okB n) (l : List UInt8) : (fin s l).okB (n + 2 * l.length) := by
  induction l generalizing s n with
  | nil => simpa [fin] using h
  | cons c l ih =>
    have := ih (h.next c)
    simp only [fin, List.foldl_cons, List.length_cons] at this ⊢
    exact this.mono (by omega)

def sp0 : Sp := ⟨0, 0, 0, 0, 0⟩

theorem sp0_ok : sp0.okB 0 := by simp [Sp.okB, sp0]

/-- All cells of a list of steps, one after the other. -/
def spCells (l : List Sp) : List Value := (l.map Sp.cells).flatten

def ptCells (l : List Sp) : List Value := (l.map Sp.ptc).flatten

theorem spCells_length (l : List Sp) : (spCells l).length = 5 * l.length := by
  induction l with
  | nil => rfl
  | cons a l ih => simp only [spCells, List.map_cons, List.flatten_cons, List.length_append, Sp.cells_length, List.length_cons] at ih ⊢; omega

theorem ptCells_length (l : List Sp) : (ptCells l).length = 4 * l.length := by
  induction l with
  | nil => rfl
  | cons a l ih => simp only [ptCells, List.map_cons, List.flatten_cons, List.length_append, Sp.ptc_length, List.length_cons] at ih ⊢; omega

theorem spCells_append (l m : List Sp) : spCells (l ++ m) = spCells l ++ spCells m := by simp [spCells]

theorem ptCells_append (l m : List Sp) : ptCells (l ++ m) = ptCells l ++ ptCells m := by simp [ptCells]

theorem spCells_at (l : List Sp) {i : Nat} {s : Sp} (h : l[i]? = some s) (j : Nat) (hj : j < 5) : (spCells l)[5 * i + j]? = s.cells[j]? := by
  induction l generalizing i with
  | nil => simp at h
  | cons a l ih =>
    have e : spCells (a :: l) = a.cells ++ spCells l := by simp [spCells]
    rw [e]
    cases i with
    | zero =>
      simp at h; subst h
      rw [List.getElem?_append_left (by rw [Sp.cells_length]; omega)]
      simp
    | succ i =>
      simp at h
      rw [List.getElem?_append_right (by rw [Sp.cells_length]; omega), Sp.cells_length, ← ih h]
      congr 1
      omega

theorem ptCells_at (l : List Sp) {i : Nat} {s : Sp} (h : l[i]? = some s) (j : Nat) (hj : j < 4) : (ptCells l)[4 * i + j]? = s.ptc[j]? := by
  induction l generalizing i with
  | nil => simp at h
  | cons a l ih =>
    have e : ptCells (a :: l) = a.ptc ++ ptCells l := by simp [ptCells]
    rw [e]
    cases i with
    | zero =>
      simp at h; subst h
      rw [List.getElem?_append_left (by rw [Sp.ptc_length]; omega)]
      simp
    | succ i =>
      simp at h
      rw [List.getElem?_append_right (by rw [Sp.ptc_length]; omega), Sp.ptc_length, ← ih h]
      congr 1
      omega

theorem spCells_one (l : List Sp) : ∀ u ∈ spCells l, u.oneCell' = true := by
  intro u hu
  simp only [spCells, List.mem_flatten, List.mem_map] at hu
  obtain ⟨_, ⟨s, _, rfl⟩, hu⟩ := hu
  simp only [Sp.cells, List.mem_cons, List.not_mem_nil, or_false] at hu
  rcases hu with rfl | rfl | rfl | rfl | rfl <;> rfl

theorem ptCells_one (l : List Sp) : ∀ u ∈ ptCells l, u.oneCell' = true := by
  intro u hu
  simp only [ptCells, List.mem_flatten, List.mem_map] at hu
  obtain ⟨_, ⟨s, _, rfl⟩, hu⟩ := hu
  simp only [Sp.ptc, List.mem_cons, List.not_mem_nil, or_false] at hu
  rcases hu with rfl | rfl | rfl | rfl <;> rfl

end Go.Proofs.Ytppbbcckijcckaa

/- Contracts: the difference of two points, in the model and in the program. -/
namespace Go.Proofs.Ytppbbcckijcckaa
open Go.ChangeShapes Go.WideShapes Go.ChangeAt Go.RowKit

def lsd (a b : Int) : Int := wrap64 (a + wrap64 (-1 * b))

set_option maxRecDepth 100000 in
set_option maxHeartbeats 400000 in
theorem spLess_any (a0 a1 a2 a3 : Int) (b0 b1 b2 b3 : Int) (w : World) :
    Calls Try.prog 96 #[.agg #[.int .i64 a0, .int .i64 a1, .int .i64 a2, .int .i64 a3], .agg #[.int .i64 b0, .int .i64 b1, .int .i64 b2, .int .i64 b3]] w fun e w' => e = .returned (.agg #[.int .i64 (lsd a0 b0), .int .i64 (lsd a1 b1), .int .i64 (lsd a2 b2), .int .i64 (lsd a3 b3)]) ∧ Below w.heap.size w w' := by
  have hS0 := pp_start a0 a1 a2 a3 b0 b1 b2 b3 w 26 26
  go_enter Try.func96, Try.ntmps96
  go_wp2_with fail
  go_region_held3 (fun w' => w'.cell? ⟨w.heap.size, 0, none⟩ = some (.int .i64 a0) ∧ w'.cell? ⟨w.heap.size, 1, none⟩ = some (.int .i64 a1) ∧ w'.cell? ⟨w.heap.size, 2, none⟩ = some (.int .i64 a2) ∧ w'.cell? ⟨w.heap.size, 3, none⟩ = some (.int .i64 a3) ∧ w'.cell? ⟨w.heap.size + 1, 0, none⟩ = some (.int .i64 b0) ∧ w'.cell? ⟨w.heap.size + 1, 1, none⟩ = some (.int .i64 b1) ∧ w'.cell? ⟨w.heap.size + 1, 2, none⟩ = some (.int .i64 b2) ∧ w'.cell? ⟨w.heap.size + 1, 3, none⟩ = some (.int .i64 b3))
    (first | (with_reducible assumption) | (with_reducible exact pp_drew hS0) | (with_reducible exact pp_drew (pp_alloc hS0 _)) | (with_reducible exact pp_alloc (pp_drew hS0) _) | (with_reducible refine pp_drew ?_; with_reducible assumption) | (with_reducible refine pp_alloc ?_ _; with_reducible assumption) | (with_reducible refine pp_re (by with_reducible assumption) ?_ ?_ _; (focus first | (with_reducible assumption) | omega | (simp; done) | (simp; omega)); (focus first | (with_reducible assumption) | omega | (simp; done) | (simp; omega))) | (with_reducible refine pp_below ?_ ?_ ?_ h1; (focus first | (with_reducible assumption) | (with_reducible refine pp_undrew ?_; with_reducible assumption)); (focus first | (with_reducible assumption) | omega | (simp; done) | (simp; omega)); (focus first | (with_reducible assumption) | omega | (simp; done) | (simp; omega))) | ((repeat (with_reducible refine pp_set ?_ _ _ ?_ ?_; rotate_left 1; (focus first | (with_reducible assumption) | omega | (simp; done) | (simp; omega)); (focus first | (with_reducible assumption) | omega | (simp; done) | (simp; omega)))); with_reducible assumption))
    (first | (go_at_call 133; (with_reducible refine (spScale_any b0 b1 b2 b3 (-1) _).mono ?_); rintro e wA ⟨rfl, h1⟩; (try with_reducible replace h1 := undrew h1); have hB : Below w.heap.size w wA := ba (by go_grown) h1; obtain ⟨hcwA, hfwA⟩ := bcell h1; have hqwA := h1.size; (try simp at hqwA); (try have hz0wA : w.heap.size < wA.heap.size := (by omega)); (try have he0wA : w.heap.size ≤ wA.heap.size := (by omega)); (try have hz1wA : w.heap.size + 1 < wA.heap.size := (by omega)); (try have he1wA : w.heap.size + 1 ≤ wA.heap.size := (by omega)); (try have hz2wA : w.heap.size + 1 + 1 < wA.heap.size := (by omega)); (try have he2wA : w.heap.size + 1 + 1 ≤ wA.heap.size := (by omega))) | (go_at_call 132; (with_reducible refine (spAdd_any _ _ _ _ _ _ _ _ _).mono ?_); rintro e wB ⟨rfl, h1⟩; (try with_reducible replace h1 := undrew h1); have hB : Below w.heap.size w wB := ba (by go_grown) h1; obtain ⟨hcwB, hfwB⟩ := bcell h1; have hqwB := h1.size; (try simp at hqwB); (try have hz0wB : w.heap.size < wB.heap.size := (by omega)); (try have he0wB : w.heap.size ≤ wB.heap.size := (by omega)); (try have hz1wB : w.heap.size + 1 < wB.heap.size := (by omega)); (try have he1wB : w.heap.size + 1 ≤ wB.heap.size := (by omega)); (try have hz2wB : w.heap.size + 1 + 1 < wB.heap.size := (by omega)); (try have he2wB : w.heap.size + 1 + 1 ≤ wB.heap.size := (by omega))))
  go_wp2_with fail
  refine bodyPost_ret (by simp [results, Try.results96, go_sem, *]; try rfl) rfl ?_
  exact ⟨by simp [lsd], by go_grown⟩

def lessG (a0 a1 a2 a3 : Int) (b0 b1 b2 b3 : Int) : Bool := goodB a0 a1 a2 a3 && (goodB b0 b1 b2 b3 && goodB (lsd a0 b0) (lsd a1 b1) (lsd a2 b2) (lsd a3 b3))

set_option maxRecDepth 100000 in
theorem imLess_any (a0 a1 a2 a3 : Int) (b0 b1 b2 b3 : Int) (w : World) :
    Calls Try.prog 110 #[.agg #[.int .i64 a0, .int .i64 a1, .int .i64 a2, .int .i64 a3], .agg #[.int .i64 b0, .int .i64 b1, .int .i64 b2, .int .i64 b3]] w fun e w' => e = .returned (.agg #[.int .i64 (lsd a0 b0), .int .i64 (lsd a1 b1), .int .i64 (lsd a2 b2), .int .i64 (lsd a3 b3)]) ∧ Below w.heap.size w w' := by
  have hS0 := pp_start a0 a1 a2 a3 b0 b1 b2 b3 w 26 26
  go_enter Try.func110, Try.ntmps110
  go_wp2_with fail
  go_region_held3 (fun w' => w'.cell? ⟨w.heap.size, 0, none⟩ = some (.int .i64 a0) ∧ w'.cell? ⟨w.heap.size, 1, none⟩ = some (.int .i64 a1) ∧ w'.cell? ⟨w.heap.size, 2, none⟩ = some (.int .i64 a2) ∧ w'.cell? ⟨w.heap.size, 3, none⟩ = some (.int .i64 a3) ∧ w'.cell? ⟨w.heap.size + 1, 0, none⟩ = some (.int .i64 b0) ∧ w'.cell? ⟨w.heap.size + 1, 1, none⟩ = some (.int .i64 b1) ∧ w'.cell? ⟨w.heap.size + 1, 2, none⟩ = some (.int .i64 b2) ∧ w'.cell? ⟨w.heap.size + 1, 3, none⟩ = some (.int .i64 b3))
    (first | (with_reducible assumption) | (with_reducible exact pp_drew hS0) | (with_reducible exact pp_drew (pp_alloc hS0 _)) | (with_reducible exact pp_alloc (pp_drew hS0) _) | (with_reducible refine pp_drew ?_; with_reducible assumption) | (with_reducible refine pp_alloc ?_ _; with_reducible assumption) | (with_reducible refine pp_re (by with_reducible assumption) ?_ ?_ _; (focus first | (with_reducible assumption) | omega | (simp; done) | (simp; omega)); (focus first | (with_reducible assumption) | omega | (simp; done) | (simp; omega))) | (with_reducible refine pp_below ?_ ?_ ?_ h1; (focus first | (with_reducible assumption) | (with_reducible refine pp_undrew ?_; with_reducible assumption)); (focus first | (with_reducible assumption) | omega | (simp; done) | (simp; omega)); (focus first | (with_reducible assumption) | omega | (simp; done) | (simp; omega))) | ((repeat (with_reducible refine pp_set ?_ _ _ ?_ ?_; rotate_left 1; (focus first | (with_reducible assumption) | omega | (simp; done) | (simp; omega)); (focus first | (with_reducible assumption) | omega | (simp; done) | (simp; omega)))); with_reducible assumption))
    (first | (go_at_call 143; (with_reducible refine (imScaled_any b0 b1 b2 b3 (-1) _).mono ?_); rintro e wA ⟨rfl, h1⟩; (try with_reducible replace h1 := undrew h1); have hB : Below w.heap.size w wA := ba (by go_grown) h1; obtain ⟨hcwA, hfwA⟩ := bcell h1; have hqwA := h1.size; (try simp at hqwA); (try have hz0wA : w.heap.size < wA.heap.size := (by omega)); (try have he0wA : w.heap.size ≤ wA.heap.size := (by omega)); (try have hz1wA : w.heap.size + 1 < wA.heap.size := (by omega)); (try have he1wA : w.heap.size + 1 ≤ wA.heap.size := (by omega)); (try have hz2wA : w.heap.size + 1 + 1 < wA.heap.size := (by omega)); (try have he2wA : w.heap.size + 1 + 1 ≤ wA.heap.size := (by omega))) | (go_at_call 142; (with_reducible refine (imPlus_any _ _ _ _ _ _ _ _ _).mono ?_); rintro e wB ⟨rfl, h1⟩; (try with_reducible replace h1 := undrew h1); have hB : Below w.heap.size w wB := ba (by go_grown) h1; obtain ⟨hcwB, hfwB⟩ := bcell h1; have hqwB := h1.size; (try simp at hqwB); (try have hz0wB : w.heap.size < wB.heap.size := (by omega)); (try have he0wB : w.heap.size ≤ wB.heap.size := (by omega)); (try have hz1wB : w.heap.size + 1 < wB.heap.size := (by omega)); (try have he1wB : w.heap.size + 1 ≤ wB.heap.size := (by omega)); (try have hz2wB : w.heap.size + 1 + 1 < wB.heap.size := (by omega)); (try have he2wB : w.heap.size + 1 + 1 ≤ wB.heap.size := (by omega))))
  go_wp2_with fail
  refine bodyPost_ret (by simp [results, Try.results110, go_sem, *]; try rfl) rfl ?_
  exact ⟨by simp [lsd], by go_grown⟩

end Go.Proofs.Ytppbbcckijcckaa

/- Cells of steps and points, handed on in bundles. -/
namespace Go.Proofs.Ytppbbcckijcckaa
open Go.ChangeShapes Go.WideShapes Go.ChangeAt Go.RowKit

section
variable {B0 : Nat} {v00 v01 v02 v03 v04 : Value} {W w1 : World}
theorem st_below (h : W.cell? ⟨B0, 0, none⟩ = some v00 ∧ W.cell? ⟨B0, 1, none⟩ = some v01 ∧ W.cell? ⟨B0, 2, none⟩ = some v02 ∧ W.cell? ⟨B0, 3, none⟩ = some v03 ∧ W.cell? ⟨B0, 4, none⟩ = some v04) (h0 : B0 < W.heap.size) (hb : Below W.heap.size W w1) : w1.cell? ⟨B0, 0, none⟩ = some v00 ∧ w1.cell? ⟨B0, 1, none⟩ = some v01 ∧ w1.cell? ⟨B0, 2, none⟩ = some v02 ∧ w1.cell? ⟨B0, 3, none⟩ = some v03 ∧ w1.cell? ⟨B0, 4, none⟩ = some v04 :=
  let ⟨k0, k1, k2, k3, k4⟩ := h
  ⟨cl_below k0 h0 hb, cl_below k1 h0 hb, cl_below k2 h0 hb, cl_below k3 h0 hb, cl_below k4 h0 hb⟩

theorem st_alloc (h : W.cell? ⟨B0, 0, none⟩ = some v00 ∧ W.cell? ⟨B0, 1, none⟩ = some v01 ∧ W.cell? ⟨B0, 2, none⟩ = some v02 ∧ W.cell? ⟨B0, 3, none⟩ = some v03 ∧ W.cell? ⟨B0, 4, none⟩ = some v04) (o : Obj) : (W.alloc o).cell? ⟨B0, 0, none⟩ = some v00 ∧ (W.alloc o).cell? ⟨B0, 1, none⟩ = some v01 ∧ (W.alloc o).cell? ⟨B0, 2, none⟩ = some v02 ∧ (W.alloc o).cell? ⟨B0, 3, none⟩ = some v03 ∧ (W.alloc o).cell? ⟨B0, 4, none⟩ = some v04 :=
  let ⟨k0, k1, k2, k3, k4⟩ := h
  ⟨cl_alloc k0 o, cl_alloc k1 o, cl_alloc k2 o, cl_alloc k3 o, cl_alloc k4 o⟩

theorem st_re {o : Obj} (h : (W.alloc o).cell? ⟨B0, 0, none⟩ = some v00 ∧ (W.alloc o).cell? ⟨B0, 1, none⟩ = some v01 ∧ (W.alloc o).cell? ⟨B0, 2, none⟩ = some v02 ∧ (W.alloc o).cell? ⟨B0, 3, none⟩ = some v03 ∧ (W.alloc o).cell? ⟨B0, 4, none⟩ = some v04) (h0 : B0 < W.heap.size) (o2 : Obj) : (W.alloc o2).cell? ⟨B0, 0, none⟩ = some v00 ∧ (W.alloc o2).cell? ⟨B0, 1, none⟩ = some v01 ∧ (W.alloc o2).cell? ⟨B0, 2, none⟩ = some v02 ∧ (W.alloc o2).cell? ⟨B0, 3, none⟩ = some v03 ∧ (W.alloc o2).cell? ⟨B0, 4, none⟩ = some v04 :=
  let ⟨k0, k1, k2, k3, k4⟩ := h
  ⟨cl_re k0 h0 o2, cl_re k1 h0 o2, cl_re k2 h0 o2, cl_re k3 h0 o2, cl_re k4 h0 o2⟩

theorem st_drew (h : W.cell? ⟨B0, 0, none⟩ = some v00 ∧ W.cell? ⟨B0, 1, none⟩ = some v01 ∧ W.cell? ⟨B0, 2, none⟩ = some v02 ∧ W.cell? ⟨B0, 3, none⟩ = some v03 ∧ W.cell? ⟨B0, 4, none⟩ = some v04) : W.drew.cell? ⟨B0, 0, none⟩ = some v00 ∧ W.drew.cell? ⟨B0, 1, none⟩ = some v01 ∧ W.drew.cell? ⟨B0, 2, none⟩ = some v02 ∧ W.drew.cell? ⟨B0, 3, none⟩ = some v03 ∧ W.drew.cell? ⟨B0, 4, none⟩ = some v04 := h

theorem st_undrew (h : W.drew.cell? ⟨B0, 0, none⟩ = some v00 ∧ W.drew.cell? ⟨B0, 1, none⟩ = some v01 ∧ W.drew.cell? ⟨B0, 2, none⟩ = some v02 ∧ W.drew.cell? ⟨B0, 3, none⟩ = some v03 ∧ W.drew.cell? ⟨B0, 4, none⟩ = some v04) : W.cell? ⟨B0, 0, none⟩ = some v00 ∧ W.cell? ⟨B0, 1, none⟩ = some v01 ∧ W.cell? ⟨B0, 2, none⟩ = some v02 ∧ W.cell? ⟨B0, 3, none⟩ = some v03 ∧ W.cell? ⟨B0, 4, none⟩ = some v04 := h

theorem st_set (h : W.cell? ⟨B0, 0, none⟩ = some v00 ∧ W.cell? ⟨B0, 1, none⟩ = some v01 ∧ W.cell? ⟨B0, 2, none⟩ = some v02 ∧ W.cell? ⟨B0, 3, none⟩ = some v03 ∧ W.cell? ⟨B0, 4, none⟩ = some v04) (p : Addr) (u : Value) (h0 : p.block ≠ B0) : (W.setCell p u).cell? ⟨B0, 0, none⟩ = some v00 ∧ (W.setCell p u).cell? ⟨B0, 1, none⟩ = some v01 ∧ (W.setCell p u).cell? ⟨B0, 2, none⟩ = some v02 ∧ (W.setCell p u).cell? ⟨B0, 3, none⟩ = some v03 ∧ (W.setCell p u).cell? ⟨B0, 4, none⟩ = some v04 :=
  let ⟨k0, k1, k2, k3, k4⟩ := h
  ⟨cl_set k0 p u h0, cl_set k1 p u h0, cl_set k2 p u h0, cl_set k3 p u h0, cl_set k4 p u h0⟩
end

section
variable {B0 B1 B2 : Nat} {v00 v01 v02 v03 v04 v10 v11 v12 v13 v20 v21 v22 v23 : Value} {W w1 : World}
theorem stpp_below (h : W.cell? ⟨B0, 0, none⟩ = some v00 ∧ W.cell? ⟨B0, 1, none⟩ = some v01 ∧ W.cell? ⟨B0, 2, none⟩ = some v02 ∧ W.cell? ⟨B0, 3, none⟩ = some v03 ∧ W.cell? ⟨B0, 4, none⟩ = some v04 ∧ W.cell? ⟨B1, 0, none⟩ = some v10 ∧ W.cell? ⟨B1, 1, none⟩ = some v11 ∧ W.cell? ⟨B1, 2, none⟩ = some v12 ∧ W.cell? ⟨B1, 3, none⟩ = some v13 ∧ W.cell? ⟨B2, 0, none⟩ = some v20 ∧ W.cell? ⟨B2, 1, none⟩ = some v21 ∧ W.cell? ⟨B2, 2, none⟩ = some v22 ∧ W.cell? ⟨B2, 3, none⟩ = some v23) (h0 : B0 < W.heap.size) (h1 : B1 < W.heap.size) (h2 : B2 < W.heap.size) (hb : Below W.heap.size W w1) : w1.cell? ⟨B0, 0, none⟩ = some v00 ∧ w1.cell? ⟨B0, 1, none⟩ = some v01 ∧ w1.cell? ⟨B0, 2, none⟩ = some v02 ∧ w1.cell? ⟨B0, 3, none⟩ = some v03 ∧ w1.cell? ⟨B0, 4, none⟩ = some v04 ∧ w1.cell? ⟨B1, 0, none⟩ = some v10 ∧ w1.cell? ⟨B1, 1, none⟩ = some v11 ∧ w1.cell? ⟨B1, 2, none⟩ = some v12 ∧ w1.cell? ⟨B1, 3, none⟩ = some v13 ∧ w1.cell? ⟨B2, 0, none⟩ = some v20 ∧ w1.cell? ⟨B2, 1, none⟩ = some v21 ∧ w1.cell? ⟨B2, 2, none⟩ = some v22 ∧ w1.cell? ⟨B2, 3, none⟩ = some v23 :=
  let ⟨k0, k1, k2, k3, k4, k5, k6, k7, k8, k9, k10, k11, k12⟩ := h
  ⟨cl_below k0 h0 hb, cl_below k1 h0 hb, cl_below k2 h0 hb, cl_below k3 h0 hb, cl_below k4 h0 hb, cl_below k5 h1 hb, cl_below k6 h1 hb, cl_below k7 h1 hb, cl_below k8 h1 hb, cl_below k9 h2 hb, cl_below k10 h2 hb, cl_below k11 h2 hb, cl_below k12 h2 hb⟩

theorem stpp_alloc (h : W.cell? ⟨B0, 0, none⟩ = some v00 ∧ W.cell? ⟨B0, 1, none⟩ = some v01 ∧ W.cell? ⟨B0, 2, none⟩ = some v02 ∧ W.cell? ⟨B0, 3, none⟩ = some v03 ∧ W.cell? ⟨B0, 4, none⟩ = some v04 ∧ W.cell? ⟨B1, 0, none⟩ = some v10 ∧ W.cell? ⟨B1, 1, none⟩ = some v11 ∧ W.cell? ⟨B1, 2, none⟩ = some v12 ∧ W.cell? ⟨B1, 3, none⟩ = some v13 ∧ W.cell? ⟨B2, 0, none⟩ = some v20 ∧ W.cell? ⟨B2, 1, none⟩ = some v21 ∧ W.cell? ⟨B2, 2, none⟩ = some v22 ∧ W.cell? ⟨B2, 3, none⟩ = some v23) (o : Obj) : (W.alloc o).cell? ⟨B0, 0, none⟩ = some v00 ∧ (W.alloc o).cell? ⟨B0, 1, none⟩ = some v01 ∧ (W.alloc o).cell? ⟨B0, 2, none⟩ = some v02 ∧ (W.alloc o).cell? ⟨B0, 3, none⟩ = some v03 ∧ (W.alloc o).cell? ⟨B0, 4, none⟩ = some v04 ∧ (W.alloc o).cell? ⟨B1, 0, none⟩ = some v10 ∧ (W.alloc o).cell? ⟨B1, 1, none⟩ = some v11 ∧ (W.alloc o).cell? ⟨B1, 2, none⟩ = some v12 ∧ (W.alloc o).cell? ⟨B1, 3, none⟩ = some v13 ∧ (W.alloc o).cell? ⟨B2, 0, none⟩ = some v20 ∧ (W.alloc o).cell? ⟨B2, 1, none⟩ = some v21 ∧ (W.alloc o).cell? ⟨B2, 2, none⟩ = some v22 ∧ (W.alloc o).cell? ⟨B2, 3, none⟩ = some v23 :=
  let ⟨k0, k1, k2, k3, k4, k5, k6, k7, k8, k9, k10, k11, k12⟩ := h
  ⟨cl_alloc k0 o, cl_alloc k1 o, cl_alloc k2 o, cl_alloc k3 o, cl_alloc k4 o, cl_alloc k5 o, cl_alloc k6 o, cl_alloc k7 o, cl_alloc k8 o, cl_alloc k9 o, cl_alloc k10 o, cl_alloc k11 o, cl_alloc k12 o⟩

theorem stpp_re {o : Obj} (h : (W.alloc o).cell? ⟨B0, 0, none⟩ = some v00 ∧ (W.alloc o).cell? ⟨B0, 1, none⟩ = some v01 ∧ (W.alloc o).cell? ⟨B0, 2, none⟩ = some v02 ∧ (W.alloc o).cell? ⟨B0, 3, none⟩ = some v03 ∧ (W.alloc o).cell? ⟨B0, 4, none⟩ = some v04 ∧ (W.alloc o).cell? ⟨B1, 0, none⟩ = some v10 ∧ (W.alloc o).cell? ⟨B1, 1, none⟩ = some v11 ∧ (W.alloc o).cell? ⟨B1, 2, none⟩ = some v12 ∧ (W.alloc o).cell? ⟨B1, 3, none⟩ = some v13 ∧ (W.alloc o).cell? ⟨B2, 0, none⟩ = some v20 ∧ (W.alloc o).cell? ⟨B2, 1, none⟩ = some v21 ∧ (W.alloc o).cell? ⟨B2, 2, none⟩ = some v22 ∧ (W.alloc o).cell? ⟨B2, 3, none⟩ = some v23) (h0 : B0 < W.heap.size) (h1 : B1 < W.heap.size) (h2 : B2 < W.heap.size) (o2 : Obj) : (W.alloc o2).cell? ⟨B0, 0, none⟩ = some v00 ∧ (W.alloc o2).cell? ⟨B0, 1, none⟩ = some v01 ∧ (W.alloc o2).cell? ⟨B0, 2, none⟩ = some v02 ∧ (W.alloc o2).cell? ⟨B0, 3, none⟩ = some v03 ∧ (W.alloc o2).cell? ⟨B0, 4, none⟩ = some v04 ∧ (W.alloc o2).cell? ⟨B1, 0, none⟩ = some v10 ∧ (W.alloc o2).cell? ⟨B1, 1, none⟩ = some v11 ∧ (W.alloc o2).cell? ⟨B1, 2, none⟩ = some v12 ∧ (W.alloc o2).cell? ⟨B1, 3, none⟩ = some v13 ∧ (W.alloc o2).cell? ⟨B2, 0, none⟩ = some v20 ∧ (W.alloc o2).cell? ⟨B2, 1, none⟩ = some v21 ∧ (W.alloc o2).cell? ⟨B2, 2, none⟩ = some v22 ∧ (W.alloc o2).cell? ⟨B2, 3, none⟩ = some v23 :=
  let ⟨k0, k1, k2, k3, k4, k5, k6, k7, k8, k9, k10, k11, k12⟩ := h
  ⟨cl_re k0 h0 o2, cl_re k1 h0 o2, cl_re k2 h0 o2, cl_re k3 h0 o2, cl_re k4 h0 o2, cl_re k5 h1 o2, cl_re k6 h1 o2, cl_re k7 h1 o2, cl_re k8 h1 o2, cl_re k9 h2 o2, cl_re k10 h2 o2, cl_re k11 h2 o2, cl_re k12 h2 o2⟩

theorem stpp_drew (h : W.cell? ⟨B0, 0, none⟩ = some v00 ∧ W.cell? ⟨B0, 1, none⟩ = some v01 ∧ W.cell? ⟨B0, 2, none⟩ = some v02 ∧ W.cell? ⟨B0, 3, none⟩ = some v03 ∧ W.cell? ⟨B0, 4, none⟩ = some v04 ∧ W.cell? ⟨B1, 0, none⟩ = some v10 ∧ W.cell? ⟨B1, 1, none⟩ = some v11 ∧ W.cell? ⟨B1, 2, none⟩ = some v12 ∧ W.cell? ⟨B1, 3, none⟩ = some v13 ∧ W.cell? ⟨B2, 0, none⟩ = some v20 ∧ W.cell? ⟨B2, 1, none⟩ = some v21 ∧ W.cell? ⟨B2, 2, none⟩ = some v22 ∧ W.cell? ⟨B2, 3, none⟩ = some v23) : W.drew.cell? ⟨B0, 0, none⟩ = some v00 ∧ W.drew.cell? ⟨B0, 1, none⟩ = some v01 ∧ W.drew.cell? ⟨B0, 2, none⟩ = some v02 ∧ W.drew.cell? ⟨B0, 3, none⟩ = some v03 ∧ W.drew.cell? ⟨B0, 4, none⟩ = some v04 ∧ W.drew.cell? ⟨B1, 0, none⟩ = some v10 ∧ W.drew.cell? ⟨B1, 1, none⟩ = some v11 ∧ W.drew.cell? ⟨B1, 2, none⟩ = some v12 ∧ W.drew.cell? ⟨B1, 3, none⟩ = some v13 ∧ W.drew.cell? ⟨B2, 0, none⟩ = some v20 ∧ W.drew.cell? ⟨B2, 1, none⟩ = some v21 ∧ W.drew.cell? ⟨B2, 2, none⟩ = some v22 ∧ W.drew.cell? ⟨B2, 3, none⟩ = some v23 := h

theorem stpp_undrew (h : W.drew.cell? ⟨B0, 0, none⟩ = some v00 ∧ W.drew.cell? ⟨B0, 1, none⟩ = some v01 ∧ W.drew.cell? ⟨B0, 2, none⟩ = some v02 ∧ W.drew.cell? ⟨B0, 3, none⟩ = some v03 ∧ W.drew.cell? ⟨B0, 4, none⟩ = some v04 ∧ W.drew.cell? ⟨B1, 0, none⟩ = some v10 ∧ W.drew.cell? ⟨B1, 1, none⟩ = some v11 ∧ W.drew.cell? ⟨B1, 2, none⟩ = some v12 ∧ W.drew.cell? ⟨B1, 3, none⟩ = some v13 ∧ W.drew.cell? ⟨B2, 0, none⟩ = some v20 ∧ W.drew.cell? ⟨B2, 1, none⟩ = some v21 ∧ W.drew.cell? ⟨B2, 2, none⟩ = some v22 ∧ W.drew.cell? ⟨B2, 3, none⟩ = some v23) : W.cell? ⟨B0, 0, none⟩ = some v00 ∧ W.cell? ⟨B0, 1, none⟩ = some v01 ∧ W.cell? ⟨B0, 2, none⟩ = some v02 ∧ W.cell? ⟨B0, 3, none⟩ = some v03 ∧ W.cell? ⟨B0, 4, none⟩ = some v04 ∧ W.cell? ⟨B1, 0, none⟩ = some v10 ∧ W.cell? ⟨B1, 1, none⟩ = some v11 ∧ W.cell? ⟨B1, 2, none⟩ = some v12 ∧ W.cell? ⟨B1, 3, none⟩ = some v13 ∧ W.cell? ⟨B2, 0, none⟩ = some v20 ∧ W.cell? ⟨B2, 1, none⟩ = some v21 ∧ W.cell? ⟨B2, 2, none⟩ = some v22 ∧ W.cell? ⟨B2, 3, none⟩ = some v23 := h

theorem stpp_set (h : W.cell? ⟨B0, 0, none⟩ = some v00 ∧ W.cell? ⟨B0, 1, none⟩ = some v01 ∧ W.cell? ⟨B0, 2, none⟩ = some v02 ∧ W.cell? ⟨B0, 3, none⟩ = some v03 ∧ W.cell? ⟨B0, 4, none⟩ = some v04 ∧ W.cell? ⟨B1, 0, none⟩ = some v10 ∧ W.cell? ⟨B1, 1, none⟩ = some v11 ∧ W.cell? ⟨B1, 2, none⟩ = some v12 ∧ W.cell? ⟨B1, 3, none⟩ = some v13 ∧ W.cell? ⟨B2, 0, none⟩ = some v20 ∧ W.cell? ⟨B2, 1, none⟩ = some v21 ∧ W.cell? ⟨B2, 2, none⟩ = some v22 ∧ W.cell? ⟨B2, 3, none⟩ = some v23) (p : Addr) (u : Value) (h0 : p.block ≠ B0) (h1 : p.block ≠ B1) (h2 : p.block ≠ B2) : (W.setCell p u).cell? ⟨B0, 0, none⟩ = some v00 ∧ (W.setCell p u).cell? ⟨B0, 1, none⟩ = some v01 ∧ (W.setCell p u).cell? ⟨B0, 2, none⟩ = some v02 ∧ (W.setCell p u).cell? ⟨B0, 3, none⟩ = some v03 ∧ (W.setCell p u).cell? ⟨B0, 4, none⟩ = some v04 ∧ (W.setCell p u).cell? ⟨B1, 0, none⟩ = some v10 ∧ (W.setCell p u).cell? ⟨B1, 1, none⟩ = some v11 ∧ (W.setCell p u).cell? ⟨B1, 2, none⟩ = some v12 ∧ (W.setCell p u).cell? ⟨B1, 3, none⟩ = some v13 ∧ (W.setCell p u).cell? ⟨B2, 0, none⟩ = some v20 ∧ (W.setCell p u).cell? ⟨B2, 1, none⟩ = some v21 ∧ (W.setCell p u).cell? ⟨B2, 2, none⟩ = some v22 ∧ (W.setCell p u).cell? ⟨B2, 3, none⟩ = some v23 :=
  let ⟨k0, k1, k2, k3, k4, k5, k6, k7, k8, k9, k10, k11, k12⟩ := h
  ⟨cl_set k0 p u h0, cl_set k1 p u h0, cl_set k2 p u h0, cl_set k3 p u h0, cl_set k4 p u h0, cl_set k5 p u h1, cl_set k6 p u h1, cl_set k7 p u h1, cl_set k8 p u h1, cl_set k9 p u h2, cl_set k10 p u h2, cl_set k11 p u h2, cl_set k12 p u h2⟩
end

theorem w64s (n : Int) (h0 : -9000000000000000000 ≤ n) (h1 : n ≤ 9000000000000000000) : wrap64 n = n := IntWalk.wrap64_in n ⟨by omega, by omega⟩

end Go.Proofs.Ytppbbcckijcckaa

/- Contracts: the steps of pieces, in the model. -/
namespace Go.Proofs.Ytppbbcckijcckaa
open Go.ChangeShapes Go.WideShapes Go.ChangeAt Go.RowKit

set_option linter.unusedVariables false
set_option linter.unusedSimpArgs false

theorem lsd_eq (x y : Int) (px : -999999 ≤ x) (qx : x ≤ 999999) (py : -999999 ≤ y) (qy : y ≤ 999999) : lsd x y = x - y := by
  unfold lsd
  rw [w64s (-1 * y) (by omega) (by omega), w64s _ (by omega) (by omega)]
  omega

theorem lsB (x0 x1 x2 x3 y0 y1 y2 y3 : Int) (px0 : -999999 ≤ x0) (qx0 : x0 ≤ 999999) (px1 : -999999 ≤ x1) (qx1 : x1 ≤ 999999) (px2 : -999999 ≤ x2) (qx2 : x2 ≤ 999999) (px3 : -999999 ≤ x3) (qx3 : x3 ≤ 999999) (py0 : -999999 ≤ y0) (qy0 : y0 ≤ 999999) (py1 : -999999 ≤ y1) (qy1 : y1 ≤ 999999) (py2 : -999999 ≤ y2) (qy2 : y2 ≤ 999999) (py3 : -999999 ≤ y3) (qy3 : y3 ≤ 999999) (w : World) :
    Calls Try.prog 96 #[.agg #[.int .i64 x0, .int .i64 x1, .int .i64 x2, .int .i64 x3], .agg #[.int .i64 y0, .int .i64 y1, .int .i64 y2, .int .i64 y3]] w fun e w' => e = .returned (.agg #[.int .i64 (x0 - y0), .int .i64 (x1 - y1), .int .i64 (x2 - y2), .int .i64 (x3 - y3)]) ∧ Below w.heap.size w w' :=
  (spLess_any x0 x1 x2 x3 y0 y1 y2 y3 w).mono fun e w' ⟨h, hb⟩ => ⟨by rw [h, lsd_eq x0 y0 px0 qx0 py0 qy0, lsd_eq x1 y1 px1 qx1 py1 qy1, lsd_eq x2 y2 px2 qx2 py2 qy2, lsd_eq x3 y3 px3 qx3 py3 qy3], hb⟩

set_option maxRecDepth 100000 in
set_option maxHeartbeats 1600000 in
theorem ptStep_L (h : Int) (h0 : 0 ≤ h) (h7 : h ≤ 7) (w : World) :
    Calls Try.prog 150 #[.int .u8 76, .int .i64 h] w fun e w' => e = .returned (.tuple #[.agg #[.int .i64 ((tu0 ((h + 7) % 8) 1 0 0 0) - (tu0 ((h + 6) % 8) 1 0 0 0)), .int .i64 ((tu1 ((h + 7) % 8) 1 0 0 0) - (tu1 ((h + 6) % 8) 1 0 0 0)), .int .i64 ((tu2 ((h + 7) % 8) 1 0 0 0) - (tu2 ((h + 6) % 8) 1 0 0 0)), .int .i64 ((tu3 ((h + 7) % 8) 1 0 0 0) - (tu3 ((h + 6) % 8) 1 0 0 0))], .int .i64 ((h + 1) % 8)]) ∧ Below w.heap.size w w' := by
  obtain ⟨a0, a0'⟩ := tu_bd0 ((h + 7) % 8) (by omega) (by omega)
  obtain ⟨a1, a1'⟩ := tu_bd1 ((h + 7) % 8) (by omega) (by omega)
  obtain ⟨a2, a2'⟩ := tu_bd2 ((h + 7) % 8) (by omega) (by omega)
  obtain ⟨a3, a3'⟩ := tu_bd3 ((h + 7) % 8) (by omega) (by omega)
  obtain ⟨b0, b0'⟩ := tu_bd0 ((h + 6) % 8) (by omega) (by omega)
  obtain ⟨b1, b1'⟩ := tu_bd1 ((h + 6) % 8) (by omega) (by omega)
  obtain ⟨b2, b2'⟩ := tu_bd2 ((h + 6) % 8) (by omega) (by omega)
  obtain ⟨b3, b3'⟩ := tu_bd3 ((h + 6) % 8) (by omega) (by omega)
  go_enter Try.func150, Try.ntmps150
  go_wp2_with fail
  (go_at_call 171; (with_reducible refine (ptHeading_any (h + 7) (by omega) (by omega) _).mono ?_); rintro e wA ⟨rfl, h1⟩; (try with_reducible replace h1 := undrew h1); have hB : Below w.heap.size w wA := ba (by go_grown) h1; obtain ⟨hcwA, hfwA⟩ := bcell h1; have hqwA := h1.size; (try simp at hqwA); (try have hz0wA : w.heap.size < wA.heap.size := (by omega)); (try have he0wA : w.heap.size ≤ wA.heap.size := (by omega)))
  go_wp2_with fail
  (go_at_call 171; (with_reducible refine (ptHeading_any (h + 6) (by omega) (by omega) _).mono ?_); rintro e wB ⟨rfl, h1⟩; (try with_reducible replace h1 := undrew h1); have hB : Below w.heap.size w wB := ba (by go_grown) h1; obtain ⟨hcwB, hfwB⟩ := bcell h1; have hqwB := h1.size; (try simp at hqwB); (try have hz0wB : w.heap.size < wB.heap.size := (by omega)); (try have he0wB : w.heap.size ≤ wB.heap.size := (by omega)))
  go_wp2_with fail
  (go_at_call 96; (with_reducible refine (lsB (tu0 ((h + 7) % 8) 1 0 0 0) (tu1 ((h + 7) % 8) 1 0 0 0) (tu2 ((h + 7) % 8) 1 0 0 0) (tu3 ((h + 7) % 8) 1 0 0 0) (tu0 ((h + 6) % 8) 1 0 0 0) (tu1 ((h + 6) % 8) 1 0 0 0) (tu2 ((h + 6) % 8) 1 0 0 0) (tu3 ((h + 6) % 8) 1 0 0 0) a0 a0' a1 a1' a2 a2' a3 a3' b0 b0' b1 b1' b2 b2' b3 b3' _).mono ?_); rintro e wC ⟨rfl, h1⟩; (try with_reducible replace h1 := undrew h1); have hB : Below w.heap.size w wC := ba (by go_grown) h1; obtain ⟨hcwC, hfwC⟩ := bcell h1; have hqwC := h1.size; (try simp at hqwC); (try have hz0wC : w.heap.size < wC.heap.size := (by omega)); (try have he0wC : w.heap.size ≤ wC.heap.size := (by omega)))
  go_wp2_with fail
  refine bodyPost_ret (by simp [results, Try.results150, go_sem, *]; try rfl) rfl ?_
  exact ⟨rfl, by go_grown⟩

set_option maxRecDepth 100000 in
set_option maxHeartbeats 1600000 in
theorem ptStep_R (h : Int) (h0 : 0 ≤ h) (h7 : h ≤ 7) (w : World) :
    Calls Try.prog 150 #[.int .u8 82, .int .i64 h] w fun e w' => e = .returned (.tuple #[.agg #[.int .i64 ((tu0 ((h + 1) % 8) 1 0 0 0) - (tu0 ((h + 2) % 8) 1 0 0 0)), .int .i64 ((tu1 ((h + 1) % 8) 1 0 0 0) - (tu1 ((h + 2) % 8) 1 0 0 0)), .int .i64 ((tu2 ((h + 1) % 8) 1 0 0 0) - (tu2 ((h + 2) % 8) 1 0 0 0)), .int .i64 ((tu3 ((h + 1) % 8) 1 0 0 0) - (tu3 ((h + 2) % 8) 1 0 0 0))], .int .i64 ((h + 7) % 8)]) ∧ Below w.heap.size w w' := by
  obtain ⟨a0, a0'⟩ := tu_bd0 ((h + 1) % 8) (by omega) (by omega)
  obtain ⟨a1, a1'⟩ := tu_bd1 ((h + 1) % 8) (by omega) (by omega)
  obtain ⟨a2, a2'⟩ := tu_bd2 ((h + 1) % 8) (by omega) (by omega)
  obtain ⟨a3, a3'⟩ := tu_bd3 ((h + 1) % 8) (by omega) (by omega)
  obtain ⟨b0, b0'⟩ := tu_bd0 ((h + 2) % 8) (by omega) (by omega)
  obtain ⟨b1, b1'⟩ := tu_bd1 ((h + 2) % 8) (by omega) (by omega)
  obtain ⟨b2, b2'⟩ := tu_bd2 ((h + 2) % 8) (by omega) (by omega)
  obtain ⟨b3, b3'⟩ := tu_bd3 ((h + 2) % 8) (by omega) (by omega)
  go_enter Try.func150, Try.ntmps150
  go_wp2_with fail
  (go_at_call 171; (with_reducible refine (ptHeading_any (h + 1) (by omega) (by omega) _).mono ?_); rintro e wA ⟨rfl, h1⟩; (try with_reducible replace h1 := undrew h1); have hB : Below w.heap.size w wA := ba (by go_grown) h1; obtain ⟨hcwA, hfwA⟩ := bcell h1; have hqwA := h1.size; (try simp at hqwA); (try have hz0wA : w.heap.size < wA.heap.size := (by omega)); (try have he0wA : w.heap.size ≤ wA.heap.size := (by omega)))
  go_wp2_with fail
  (go_at_call 171; (with_reducible refine (ptHeading_any (h + 2) (by omega) (by omega) _).mono ?_); rintro e wB ⟨rfl, h1⟩; (try with_reducible replace h1 := undrew h1); have hB : Below w.heap.size w wB := ba (by go_grown) h1; obtain ⟨hcwB, hfwB⟩ := bcell h1; have hqwB := h1.size; (try simp at hqwB); (try have hz0wB : w.heap.size < wB.heap.size := (by omega)); (try have he0wB : w.heap.size ≤ wB.heap.size := (by omega)))
  go_wp2_with fail
  (go_at_call 96; (with_reducible refine (lsB (tu0 ((h + 1) % 8) 1 0 0 0) (tu1 ((h + 1) % 8) 1 0 0 0) (tu2 ((h + 1) % 8) 1 0 0 0) (tu3 ((h + 1) % 8) 1 0 0 0) (tu0 ((h + 2) % 8) 1 0 0 0) (tu1 ((h + 2) % 8) 1 0 0 0) (tu2 ((h + 2) % 8) 1 0 0 0) (tu3 ((h + 2) % 8) 1 0 0 0) a0 a0' a1 a1' a2 a2' a3 a3' b0 b0' b1 b1' b2 b2' b3 b3' _).mono ?_); rintro e wC ⟨rfl, h1⟩; (try with_reducible replace h1 := undrew h1); have hB : Below w.heap.size w wC := ba (by go_grown) h1; obtain ⟨hcwC, hfwC⟩ := bcell h1; have hqwC := h1.size; (try simp at hqwC); (try have hz0wC : w.heap.size < wC.heap.size := (by omega)); (try have he0wC : w.heap.size ≤ wC.heap.size := (by omega)))
  go_wp2_with fail
  refine bodyPost_ret (by simp [results, Try.results150, go_sem, *]; try rfl) rfl ?_
  exact ⟨rfl, by go_grown⟩

set_option maxRecDepth 100000 in
set_option maxHeartbeats 1600000 in
theorem ptStep_S (h : Int) (h0 : 0 ≤ h) (h7 : h ≤ 7) (w : World) :
    Calls Try.prog 150 #[.int .u8 83, .int .i64 h] w fun e w' => e = .returned (.tuple #[.agg #[.int .i64 ((tu0 h 1 0 0 0)), .int .i64 ((tu1 h 1 0 0 0)), .int .i64 ((tu2 h 1 0 0 0)), .int .i64 ((tu3 h 1 0 0 0))], .int .i64 h]) ∧ Below w.heap.size w w' := by
  have hm : h % 8 = h := by omega
  have HM := Lib.hid hm
  clear hm
  go_enter Try.func150, Try.ntmps150
  go_wp2_with fail
  (go_at_call 171; (with_reducible refine (ptHeading_any h (by omega) (by omega) _).mono ?_); rintro e wA ⟨rfl, h1⟩; (try with_reducible replace h1 := undrew h1); have hB : Below w.heap.size w wA := ba (by go_grown) h1; obtain ⟨hcwA, hfwA⟩ := bcell h1; have hqwA := h1.size; (try simp at hqwA); (try have hz0wA : w.heap.size < wA.heap.size := (by omega)); (try have he0wA : w.heap.size ≤ wA.heap.size := (by omega)))
  go_wp2_with fail
  refine bodyPost_ret (by simp [results, Try.results150, go_sem, *]; try rfl) rfl ?_
  exact ⟨by rw [HM.out], by go_grown⟩

end Go.Proofs.Ytppbbcckijcckaa

/- Contract: the model's tkLay. -/
namespace Go.Proofs.Ytppbbcckijcckaa
open Go.ChangeShapes Go.WideShapes Go.ChangeAt Go.RowKit

set_option linter.unusedVariables false
set_option linter.unusedSimpArgs false

theorem ptInfo : (Try.prog.info? 26).map (fun i => (i.zero, i.size, i.bytes)) = some (some (.agg #[.int .i64 0, .int .i64 0, .int .i64 0, .int .i64 0]), 4, 32) := by kernel_rfl

theorem nmInfo : (Try.prog.info? 3).map (fun i => (i.zero, i.size, i.bytes)) = some (some (.int .i64 0), 1, 8) := by kernel_rfl

theorem own_belowL {W w1 : World} {B : Nat} {e : TypeId} {size n : Nat} {v : Value} {xs : List Value} (h : W.ownsRow B e size v n xs) (hb : Below W.heap.size W w1) : w1.ownsRow B e size v n xs :=
  h.kept (row := none) ⟨hb.os, hb.tape, hb.output, hb.size, fun k hk _ => hb.block k hk⟩ (by cases v.ownBlock <;> simp)

theorem own_setL {W : World} {B : Nat} {e : TypeId} {size n : Nat} {v : Value} {xs : List Value} (h : W.ownsRow B e size v n xs) (p : Addr) (u : Value) (hp : p.block < B) : (W.setCell p u).ownsRow B e size v n xs :=
  h.kept (row := some p.block) ⟨rfl, rfl, rfl, by simp [World.setCell], fun k _ hk => Below.heap_setCell _ _ _ _ (fun e => hk (by simp [e]))⟩ (by
    by_cases hv : v.ownBlock = some p.block
    · have := (h.lt _ hv).1; omega
    · exact .inr hv)

theorem own_ne {W : World} {B : Nat} {e e' : TypeId} {size size' n n' : Nat} {v v' : Value} {xs xs' : List Value} (h : W.ownsRow B e size v n xs) (h' : W.ownsRow B e' size' v' n' xs') (hne : e ≠ e') : v.ownBlock = none ∨ v.ownBlock ≠ v'.ownBlock := by
  rcases h.2 with ⟨rfl, _⟩ | ⟨g, cap, cur, rfl, _, hg, _⟩
  · exact .inl rfl
  · refine .inr fun he => ?_
    rcases h'.2 with ⟨rfl, _⟩ | ⟨g', cap', cur', rfl, _, hg', _⟩
    · cases he
    · simp only [Value.ownBlock, Option.some.injEq] at he
      subst he
      rw [hg] at hg'
      simp only [Option.some.injEq, Obj.cells.injEq] at hg'
      exact hne hg'.2.1

theorem blk_set {W : World} {g : Nat} {t : TypeId} {a0 a1 a2 a3 : Value} (h : W.heap[g]? = some (.cells #[a0, a1, a2, a3] t (0, 0))) (b0 b1 b2 b3 : Value) :
    ((((W.setCell ⟨g, 0, none⟩ b0).setCell ⟨g, 1, none⟩ b1).setCell ⟨g, 2, none⟩ b2).setCell ⟨g, 3, none⟩ b3).heap[g]? = some (.cells #[b0, b1, b2, b3] t (0, 0)) := by
  simp [World.setCell, Array.getElem?_modify, h]

theorem blk_cells {W : World} {g : Nat} {t : TypeId} {a0 a1 a2 a3 : Value} (h : W.heap[g]? = some (.cells #[a0, a1, a2, a3] t (0, 0))) :
    W.cell? ⟨g, 0, none⟩ = some a0 ∧ W.cell? ⟨g, 1, none⟩ = some a1 ∧ W.cell? ⟨g, 2, none⟩ = some a2 ∧ W.cell? ⟨g, 3, none⟩ = some a3 := by
  simp [World.cell?, h]

theorem blk_free {W : World} {g : Nat} {t : TypeId} {a0 a1 a2 a3 : Value} (h : W.heap[g]? = some (.cells #[a0, a1, a2, a3] t (0, 0))) :
    W.frozen? ⟨g, 0, none⟩ = false ∧ W.frozen? ⟨g, 1, none⟩ = false ∧ W.frozen? ⟨g, 2, none⟩ = false ∧ W.frozen? ⟨g, 3, none⟩ = false := by
  simp [World.frozen?, h]

theorem blk_lt {W : World} {g : Nat} {o : Obj} (h : W.heap[g]? = some o) : g < W.heap.size := (Array.getElem?_eq_some_iff.1 h).1

theorem spAddP (x0 x1 x2 x3 y0 y1 y2 y3 : Int) (px0 : -9000000 ≤ x0) (qx0 : x0 ≤ 9000000) (px1 : -9000000 ≤ x1) (qx1 : x1 ≤ 9000000) (px2 : -9000000 ≤ x2) (qx2 : x2 ≤ 9000000) (px3 : -9000000 ≤ x3) (qx3 : x3 ≤ 9000000) (py0 : -9000000 ≤ y0) (qy0 : y0 ≤ 9000000) (py1 : -9000000 ≤ y1) (qy1 : y1 ≤ 9000000) (py2 : -9000000 ≤ y2) (qy2 : y2 ≤ 9000000) (py3 : -9000000 ≤ y3) (qy3 : y3 ≤ 9000000) (w : World) :
    Calls Try.prog 132 #[.agg #[.int .i64 x0, .int .i64 x1, .int .i64 x2, .int .i64 x3], .agg #[.int .i64 y0, .int .i64 y1, .int .i64 y2, .int .i64 y3]] w fun e w' => e = .returned (.agg #[.int .i64 (x0 + y0), .int .i64 (x1 + y1), .int .i64 (x2 + y2), .int .i64 (x3 + y3)]) ∧ Below w.heap.size w w' :=
  (spAdd_any x0 x1 x2 x3 y0 y1 y2 y3 w).mono fun e w' ⟨h, hb⟩ => ⟨by rw [h, w64s (x0 + y0) (by omega) (by omega), w64s (x1 + y1) (by omega) (by omega), w64s (x2 + y2) (by omega) (by omega), w64s (x3 + y3) (by omega) (by omega)], hb⟩

def hdCells (l : List Sp) : List Value := l.map fun s => .int .i64 s.h

theorem hdCells_append (l m : List Sp) : hdCells (l ++ m) = hdCells l ++ hdCells m := by simp [hdCells]

theorem hdCells_length (l : List Sp) : (hdCells l).length = l.length := by simp [hdCells]

theorem layT (a : Sp) (s : ByteArray) (k : Nat) (hk : k < s.size) (c : UInt8) (hc : s[k] = c) : lays a (s.data.toList.take (k + 1)) = lays a (s.data.toList.take k) ++ [(fin a (s.data.toList.take k)).next c] := by
  rw [take_snoc s k hk, lays_snoc, hc]

theorem finT (a : Sp) (s : ByteArray) (k : Nat) (hk : k < s.size) (c : UInt8) (hc : s[k] = c) : fin a (s.data.toList.take (k + 1)) = (fin a (s.data.toList.take k)).next c := by
  rw [take_snoc s k hk, fin_snoc, hc]

def LayPost (a : Sp) (s : ByteArray) (w : World) (e : Ending) (w' : World) : Prop :=
  ∃ gj cj gh ch, e = .returned (.tuple #[.slice (some ⟨gj, 0, none⟩) (s.size + 1) cj, .slice (some ⟨gh, 0, none⟩) (s.size + 1) ch]) ∧
    w'.ownsRow (w.heap.size + 1) 26 4 (.slice (some ⟨gj, 0, none⟩) (s.size + 1) cj) (s.size + 1) (ptCells (lays a s.data.toList)) ∧
    w'.ownsRow (w.heap.size + 1) 3 1 (.slice (some ⟨gh, 0, none⟩) (s.size + 1) ch) (s.size + 1) (hdCells (lays a s.data.toList)) ∧ Below w.heap.size w w'

def LayRel (a : Sp) (s : ByteArray) (w : World) (h vj vh i : Value) (wr : World) : Prop :=
  ∃ (k gj cj gh ch : Nat), k ≤ s.size ∧ i = .int .i64 k ∧ h = .int .i64 (fin a (s.data.toList.take k)).h ∧ vj = .slice (some ⟨gj, 0, none⟩) (k + 1) cj ∧ vh = .slice (some ⟨gh, 0, none⟩) (k + 1) ch ∧
    wr.ownsRow (w.heap.size + 1) 26 4 (.slice (some ⟨gj, 0, none⟩) (k + 1) cj) (k + 1) (ptCells (lays a (s.data.toList.take k))) ∧
    wr.ownsRow (w.heap.size + 1) 3 1 (.slice (some ⟨gh, 0, none⟩) (k + 1) ch) (k + 1) (hdCells (lays a (s.data.toList.take k))) ∧
    wr.heap[w.heap.size]? = some (.cells #[.int .i64 (fin a (s.data.toList.take k)).x0, .int .i64 (fin a (s.data.toList.take k)).x1, .int .i64 (fin a (s.data.toList.take k)).x2, .int .i64 (fin a (s.data.toList.take k)).x3] 26 (0, 0)) ∧ Below w.heap.size w wr

theorem ptStep_any (c : UInt8) (hp : pcb c = true) (h : Int) (h0 : 0 ≤ h) (h7 : h ≤ 7) (w : World) :
    Calls Try.prog 150 #[.int .u8 ((c.toNat : Nat) : Int), .int .i64 h] w fun e w' => e = .returned (.tuple #[.agg #[.int .i64 (dd0 c h), .int .i64 (dd1 c h), .int .i64 (dd2 c h), .int .i64 (dd3 c h)], .int .i64 (nh c h)]) ∧ Below w.heap.size w w' := by
  rcases pcb_cases hp with rfl | rfl | rfl
  · exact ptStep_S h h0 h7 w
  · exact ptStep_L h h0 h7 w
  · exact ptStep_R h h0 h7 w

theorem litCells {W : World} {B n : Nat} {e : TypeId} {size : Nat} {cs : Array Value} {xs : List Value} (hn : W.heap.size = n) (hb : B ≤ n) (hs : cs.size = size) (hx : cs.toList = xs) : (W.alloc (.cells cs e)).ownsRow B e size (.slice (some ⟨n, 0, none⟩) 1 1) 1 xs := by
  subst hn hx
  exact World.ownsRow_lit W cs 1 hb (by decide) (by omega)

theorem newc {W : World} {cs : Array Value} {e : TypeId} {n : Nat} (hn : W.heap.size = n) : ∀ (j : Nat) u, cs.toList[j]? = some u → (W.alloc (.cells cs e)).cell? ((⟨n, 0, none⟩ : Addr).add j) = some u := by
  subst hn
  intro j u hu
  have h := Lib.cell_of_heap (heap_alloc_new W (.cells cs e)) j
  have ha : ((⟨W.heap.size, 0, none⟩ : Addr).add j) = ⟨W.heap.size, j, none⟩ := by by_cases e : j = 0 <;> simp [Addr.add, e]
  rw [ha, h, ← hu]
  simp

set_option maxRecDepth 100000 in
set_option maxHeartbeats 3200000 in
theorem tkLay_any (s : ByteArray) (ht : tkB s = true) (a : Sp) (hn : a.okB 1000000) (w : World) :
    Calls Try.prog 116 #[.string s, .agg #[.int .i64 a.x0, .int .i64 a.x1, .int .i64 a.x2, .int .i64 a.x3], .int .i64 a.h] w (LayPost a s w) := by
  have h40 := tkB_size ht
  have hs : s.size ≤ 1048576 := by omega
  have HT := Lib.hid (fun k hk => tkB_at ht (k := k) hk)
  have HK := Lib.hid hn
  obtain ⟨i0, hi, iz0, iz1, iz2⟩ := info_parts ptInfo
  obtain ⟨j0, ji, jz0, jz1, jz2⟩ := info_parts nmInfo
  clear hn
  go_enter Try.func116, Try.ntmps116
  go_wp2_with fail
  go_loopw [2, 8, 9, 10] (fun h vj vh i wr => LayRel a s w h vj vh i wr) (fun _ _ _ i _ => s.size - (intOf i).toNat)
  case atStart =>
    refine ⟨0, w.heap.size + 1, 1, w.heap.size + 1 + 1, 1, Nat.zero_le _, rfl, rfl, rfl, rfl, ?_, ?_, ?_, by go_grown⟩
    · exact (litCells (by simp) (Nat.le_refl _) rfl rfl).alloc _
    · exact litCells (by simp) (Nat.le_succ _) rfl rfl
    · rw [Below.heap_alloc _ _ _ (by simp; omega), Below.heap_alloc _ _ _ (by simp)]
      exact heap_alloc_new w _
  case round =>
    obtain ⟨k, gj, cj, gh, ch, hk, rfl, rfl, rfl, rfl, hJ, hH, hblk, hb⟩ := hrel
    have hz : w.heap.size ≤ wr.heap.size := hb.size
    by_cases hlt : k < s.size
    · have hp := HT.out k hlt
      have hok := fin_ok HK.out (s.data.toList.take k)
      have hl : (s.data.toList.take k).length ≤ 40 := by rw [List.length_take, size_list]; omega
      have hN := layT a s k hlt _ rfl
      have hF := finT a s k hlt _ rfl
      generalize fin a (s.data.toList.take k) = p at hN hF hok hblk
      obtain ⟨x0, x1, x2, x3, h⟩ := p
      simp only [Sp.okB] at hok
      obtain ⟨⟨b0, b0'⟩, ⟨b1, b1'⟩, ⟨b2, b2'⟩, ⟨b3, b3'⟩, b4, b5⟩ := hok
      have hstep := ptStep_any s[k] hp h b4 b5 wr
      have e0 := dd_bd0 s[k] h
      have e1 := dd_bd1 s[k] h
      have e2 := dd_bd2 s[k] h
      have e3 := dd_bd3 s[k] h
      have hnx : (Sp.mk x0 x1 x2 x3 h).next s[k] = ⟨x0 + dd0 s[k] h, x1 + dd1 s[k] h, x2 + dd2 s[k] h, x3 + dd3 s[k] h, nh s[k] h⟩ := rfl
      rw [hnx] at hN hF
      clear hnx
      generalize dd0 s[k] h = d0 at hN hF hstep e0
      generalize dd1 s[k] h = d1 at hN hF hstep e1
      generalize dd2 s[k] h = d2 at hN hF hstep e2
      generalize dd3 s[k] h = d3 at hN hF hstep e3
      generalize nh s[k] h = t at hN hF hstep
      obtain ⟨e0, e0'⟩ := e0
      obtain ⟨e1, e1'⟩ := e1
      obtain ⟨e2, e2'⟩ := e2
      obtain ⟨e3, e3'⟩ := e3
      have HST := Lib.hid hstep
      have HN := Lib.hid hN
      have HF := Lib.hid hF
      have hzl := blk_lt hblk
      have HJ := Lib.hid hJ
      have HH := Lib.hid hH
      have HB := Lib.hid hb
      have HBK := Lib.hid hblk
      clear hJ hH hb hblk hN hF hstep hp
      go_wp2_with fail
      refine HST.out.mono ?_
      rintro e w1 ⟨rfl, hb1⟩
      have hz1 : wr.heap.size ≤ w1.heap.size := hb1.size
      have hzl1 : w.heap.size < w1.heap.size := by omega
      have HJ1 := Lib.hid (own_belowL HJ.out hb1)
      have HH1 := Lib.hid (own_belowL HH.out hb1)
      have hbk1 := (hb1.block _ hzl).trans HBK.out
      have HB1 := Lib.hid (HB.out.trans (hb1.mono hz))
      obtain ⟨c0, c1, c2, c3⟩ := blk_cells hbk1
      have HBK1 := Lib.hid hbk1
      clear hbk1 hb1
      go_wp2_with fail
      refine (spAddP x0 x1 x2 x3 d0 d1 d2 d3 (by omega) (by omega) (by omega) (by omega) (by omega) (by omega) (by omega) (by omega) (by omega) (by omega) (by omega) (by omega) (by omega) (by omega) (by omega) (by omega) _).mono ?_
      rintro e w2 ⟨rfl, hb2⟩
      have hz2' : w1.heap.size + 1 ≤ w2.heap.size := by have := hb2.size; simpa using this
      have hzl2 : w.heap.size < w2.heap.size := by omega
      have HJ2 := Lib.hid (own_belowL (HJ1.out.alloc _) hb2)
      have HH2 := Lib.hid (own_belowL (HH1.out.alloc _) hb2)
      have hbk2 := (hb2.block w.heap.size (by simp; omega)).trans ((Below.heap_alloc _ _ _ hzl1).trans HBK1.out)
      have HB2 := Lib.hid ((HB1.out.alloc (by omega) _).trans (hb2.mono (by simp; omega)))
      clear c0 c1 c2 c3 hb2
      obtain ⟨c0, c1, c2, c3⟩ := blk_cells hbk2
      obtain ⟨f0, f1, f2, f3⟩ := blk_free hbk2
      have HBK2 := Lib.hid (blk_set hbk2 (.int .i64 (x0 + d0)) (.int .i64 (x1 + d1)) (.int .i64 (x2 + d2)) (.int .i64 (x3 + d3)))
      clear hbk2
      have HJ3 := Lib.hid (own_setL (own_setL (own_setL (own_setL HJ2.out ⟨w.heap.size, 0, none⟩ (.int .i64 (x0 + d0)) (by simp)) ⟨w.heap.size, 1, none⟩ (.int .i64 (x1 + d1)) (by simp)) ⟨w.heap.size, 2, none⟩ (.int .i64 (x2 + d2)) (by simp)) ⟨w.heap.size, 3, none⟩ (.int .i64 (x3 + d3)) (by simp))
      have HH3 := Lib.hid (own_setL (own_setL (own_setL (own_setL HH2.out ⟨w.heap.size, 0, none⟩ (.int .i64 (x0 + d0)) (by simp)) ⟨w.heap.size, 1, none⟩ (.int .i64 (x1 + d1)) (by simp)) ⟨w.heap.size, 2, none⟩ (.int .i64 (x2 + d2)) (by simp)) ⟨w.heap.size, 3, none⟩ (.int .i64 (x3 + d3)) (by simp))
      have HB3 := Lib.hid ((((HB2.out.setCell (p := ⟨w.heap.size, 0, none⟩) (Nat.le_refl _) (.int .i64 (x0 + d0))).setCell (p := ⟨w.heap.size, 1, none⟩) (Nat.le_refl _) (.int .i64 (x1 + d1))).setCell (p := ⟨w.heap.size, 2, none⟩) (Nat.le_refl _) (.int .i64 (x2 + d2))).setCell (p := ⟨w.heap.size, 3, none⟩) (Nat.le_refl _) (.int .i64 (x3 + d3)))
      go_wp2_with (at_builtin; refine wpList_append_own _ rfl _ _ 47 rfl (w.heap.size + 1) 26 i0 (.agg #[.int .i64 0, .int .i64 0, .int .i64 0, .int .i64 0]) 4 32 Try.underlying47 hi iz0 iz1 iz2 rfl (by decide) _ _ _ rfl (HJ3.out.alloc _) ⟨w2.heap.size, 0, none⟩ 1 1 [.int .i64 (x0 + d0), .int .i64 (x1 + d1), .int .i64 (x2 + d2), .int .i64 (x3 + d3)] rfl rfl ?c1 ?c2 ?c3 ?c4 ?c5 ?_)
      case c1 => exact newc (by simp [World.setCell])
      case c2 => intro u hu; simp at hu; rcases hu with rfl | rfl | rfl | rfl <;> rfl
      case c3 => unfold maxLen; omega
      case c4 => omega
      case c5 => simp; omega
      intro v' w3 hJ3 hg3 _
      have HJA := Lib.hid (HJ3.out.alloc (.cells #[.int .i64 (x0 + d0), .int .i64 (x1 + d1), .int .i64 (x2 + d2), .int .i64 (x3 + d3)] 26))
      have HHA := Lib.hid (HH3.out.alloc (.cells #[.int .i64 (x0 + d0), .int .i64 (x1 + d1), .int .i64 (x2 + d2), .int .i64 (x3 + d3)] 26))
      have hne : some w.heap.size ≠ (Value.slice (some ⟨gj, 0, none⟩) (k + 1) cj).ownBlock := fun e => by
        have := (HJA.out.lt _ e.symm).1
        omega
      have hz3 : w2.heap.size + 1 ≤ w3.heap.size := by have := hg3.size; simpa [World.setCell] using this
      have HH4 := Lib.hid (HHA.out.kept hg3 (own_ne HHA.out HJA.out (by decide)))
      have hbk3 := (hg3.block w.heap.size (by simp [World.setCell]; omega) hne).trans ((Below.heap_alloc _ _ _ (by simp [World.setCell]; omega)).trans HBK2.out)
      have HBK3 := Lib.hid hbk3
      have HB4 := Lib.hid ((HB3.out.alloc (by simp [World.setCell]; omega) (.cells #[.int .i64 (x0 + d0), .int .i64 (x1 + d1), .int .i64 (x2 + d2), .int .i64 (x3 + d3)] 26)).grown hg3 (by simp [World.setCell]; omega) (fun k hk => by have := (HJA.out.lt k hk).1; omega))
      obtain ⟨gj', cj', rfl, _⟩ := hJ3.form (by omega)
      have HJ4 := Lib.hid hJ3
      clear hJ3 hg3 hne hbk3 c0 c1 c2 c3 f0 f1 f2 f3
      go_wp2_with (at_builtin; refine wpList_append_own _ rfl _ _ 98 rfl (w.heap.size + 1) 3 j0 (.int .i64 0) 1 8 Try.underlying98 ji jz0 jz1 jz2 rfl (by decide) _ _ _ rfl (HH4.out.alloc _) ⟨w3.heap.size, 0, none⟩ 1 1 [.int .i64 t] rfl rfl ?c1 ?c2 ?c3 ?c4 ?c5 ?_)
      case c1 => exact newc rfl
      case c2 => intro u hu; simp at hu; subst hu; rfl
      case c3 => unfold maxLen; omega
      case c4 => omega
      case c5 => simp; omega
      intro v'' w4 hH5 hg4 _
      have HJB := Lib.hid (HJ4.out.alloc (.cells #[.int .i64 t] 3))
      have HHB := Lib.hid (HH4.out.alloc (.cells #[.int .i64 t] 3))
      have hne : some w.heap.size ≠ (Value.slice (some ⟨gh, 0, none⟩) (k + 1) ch).ownBlock := fun e => by
        have := (HHB.out.lt _ e.symm).1
        omega
      have HJ6 := Lib.hid (HJB.out.kept hg4 (own_ne HJB.out HHB.out (by decide)))
      have HBK4 := Lib.hid ((hg4.block w.heap.size (by simp; omega) hne).trans ((Below.heap_alloc _ _ _ (by omega)).trans HBK3.out))
      have HB5 := Lib.hid ((HB4.out.alloc (by omega) (.cells #[.int .i64 t] 3)).grown hg4 (by simp; omega) (fun k hk => by have := (HHB.out.lt k hk).1; omega))
      obtain ⟨gh', ch', rfl, _⟩ := hH5.form (by omega)
      have HH6 := Lib.hid hH5
      clear hH5 hg4 hne
      go_wp2_with fail
      go_roundw
      case rel => exact ⟨k + 1, gj', cj', gh', ch', by omega, by go_num, by rw [HF.out], rfl, rfl, by rw [HN.out, ptCells_append]; exact HJ6.out, by rw [HN.out, hdCells_append]; exact HH6.out, by rw [HF.out]; exact HBK4.out, HB5.out⟩
      case measure => simp [intOf]; omega
    · obtain rfl : k = s.size := by omega
      have hE := take_all s hlt
      rw [hE] at hJ hH
      have HJ := Lib.hid hJ
      have HH := Lib.hid hH
      have HB := Lib.hid hb
      clear hJ hH hb hE hblk
      go_wp2_with fail
      go_ret2
      exact ⟨gj, cj, gh, ch, rfl, HJ.out, HH.out, HB.out⟩

end Go.Proofs.Ytppbbcckijcckaa

/- Contracts: headings turned, and a point negated, in the program. -/
namespace Go.Proofs.Ytppbbcckijcckaa
open Go.ChangeShapes Go.WideShapes Go.ChangeAt Go.RowKit

set_option linter.unusedVariables false
set_option linter.unusedSimpArgs false

theorem tm1_any (h : Int) (h0 : 0 ≤ h) (h7 : h ≤ 7) (w : World) :
    Calls Try.prog 184 #[.int .i64 h, .int .i64 (-1)] w fun e w' => e = .returned (.int .i64 ((h + 7) % 8)) ∧ w = w' := by
  have hm : (h + (-1) + 8) % 8 = (h + 7) % 8 := by omega
  have HM := Lib.hid hm
  clear hm
  go_enter Try.func184, Try.ntmps184
  go_wp2
  go_ret
  exact ⟨by first | rfl | (rw [← HM.out]; rfl) | (simp; omega), rfl⟩

theorem tm2_any (h : Int) (h0 : 0 ≤ h) (h7 : h ≤ 7) (w : World) :
    Calls Try.prog 184 #[.int .i64 h, .int .i64 (-2)] w fun e w' => e = .returned (.int .i64 ((h + 6) % 8)) ∧ w = w' := by
  have hm : (h + (-2) + 8) % 8 = (h + 6) % 8 := by omega
  have HM := Lib.hid hm
  clear hm
  go_enter Try.func184, Try.ntmps184
  go_wp2
  go_ret
  exact ⟨by first | rfl | (rw [← HM.out]; rfl) | (simp; omega), rfl⟩

theorem tp1_any (h : Int) (h0 : 0 ≤ h) (h7 : h ≤ 7) (w : World) :
    Calls Try.prog 184 #[.int .i64 h, .int .i64 1] w fun e w' => e = .returned (.int .i64 ((h + 1) % 8)) ∧ w = w' := by
  have hm : (h + 1 + 8) % 8 = (h + 1) % 8 := by omega
  have HM := Lib.hid hm
  clear hm
  go_enter Try.func184, Try.ntmps184
  go_wp2
  go_ret
  exact ⟨by first | rfl | (rw [← HM.out]; rfl) | (simp; omega), rfl⟩

theorem tp2_any (h : Int) (h0 : 0 ≤ h) (h7 : h ≤ 7) (w : World) :
    Calls Try.prog 184 #[.int .i64 h, .int .i64 2] w fun e w' => e = .returned (.int .i64 ((h + 2) % 8)) ∧ w = w' := by
  have hm : (h + 2 + 8) % 8 = (h + 2) % 8 := by omega
  have HM := Lib.hid hm
  clear hm
  go_enter Try.func184, Try.ntmps184
  go_wp2
  go_ret
  exact ⟨by first | rfl | (rw [← HM.out]; rfl) | (simp; omega), rfl⟩

theorem scN (x0 x1 x2 x3 : Int) (px0 : -999999 ≤ x0) (qx0 : x0 ≤ 999999) (px1 : -999999 ≤ x1) (qx1 : x1 ≤ 999999) (px2 : -999999 ≤ x2) (qx2 : x2 ≤ 999999) (px3 : -999999 ≤ x3) (qx3 : x3 ≤ 999999) (w : World) :
    Calls Try.prog 143 #[.agg #[.int .i64 x0, .int .i64 x1, .int .i64 x2, .int .i64 x3], .int .i64 (-1)] w fun e w' => e = .returned (.agg #[.int .i64 (-x0), .int .i64 (-x1), .int .i64 (-x2), .int .i64 (-x3)]) ∧ Below w.heap.size w w' :=
  (imScaled_any x0 x1 x2 x3 (-1) w).mono fun e w' ⟨h, hb⟩ => ⟨by rw [h, w64s (-1 * x0) (by omega) (by omega), w64s (-1 * x1) (by omega) (by omega), w64s (-1 * x2) (by omega) (by omega), w64s (-1 * x3) (by omega) (by omega)]; simp, hb⟩

end Go.Proofs.Ytppbbcckijcckaa

/- Contracts: how a piece is laid from any step, in the program. -/
namespace Go.Proofs.Ytppbbcckijcckaa
open Go.ChangeShapes Go.WideShapes Go.ChangeAt Go.RowKit

set_option linter.unusedVariables false
set_option linter.unusedSimpArgs false

theorem plP (x0 x1 x2 x3 y0 y1 y2 y3 : Int) (px0 : -9000000 ≤ x0) (qx0 : x0 ≤ 9000000) (px1 : -9000000 ≤ x1) (qx1 : x1 ≤ 9000000) (px2 : -9000000 ≤ x2) (qx2 : x2 ≤ 9000000) (px3 : -9000000 ≤ x3) (qx3 : x3 ≤ 9000000) (py0 : -9000000 ≤ y0) (qy0 : y0 ≤ 9000000) (py1 : -9000000 ≤ y1) (qy1 : y1 ≤ 9000000) (py2 : -9000000 ≤ y2) (qy2 : y2 ≤ 9000000) (py3 : -9000000 ≤ y3) (qy3 : y3 ≤ 9000000) (w : World) :
    Calls Try.prog 142 #[.agg #[.int .i64 x0, .int .i64 x1, .int .i64 x2, .int .i64 x3], .agg #[.int .i64 y0, .int .i64 y1, .int .i64 y2, .int .i64 y3]] w fun e w' => e = .returned (.agg #[.int .i64 (x0 + y0), .int .i64 (x1 + y1), .int .i64 (x2 + y2), .int .i64 (x3 + y3)]) ∧ Below w.heap.size w w' :=
  (imPlus_any x0 x1 x2 x3 y0 y1 y2 y3 w).mono fun e w' ⟨h, hb⟩ => ⟨by rw [h, w64s (x0 + y0) (by omega) (by omega), w64s (x1 + y1) (by omega) (by omega), w64s (x2 + y2) (by omega) (by omega), w64s (x3 + y3) (by omega) (by omega)], hb⟩

theorem ag5 {a b c d e a' b' c' d' e' : Int} (h0 : a = a') (h1 : b = b') (h2 : c = c') (h3 : d = d') (h4 : e = e') : Ending.returned (.agg #[.int .i64 a, .int .i64 b, .int .i64 c, .int .i64 d, .int .i64 e]) = Ending.returned (.agg #[.int .i64 a', .int .i64 b', .int .i64 c', .int .i64 d', .int .i64 e']) := by
  rw [h0, h1, h2, h3, h4]

set_option maxRecDepth 100000 in
set_option maxHeartbeats 1600000 in
theorem straightP (x0 x1 x2 x3 h : Int) (h0 : 0 ≤ h) (h7 : h ≤ 7) (px0 : -1000000 ≤ x0) (qx0 : x0 ≤ 1000000) (px1 : -1000000 ≤ x1) (qx1 : x1 ≤ 1000000) (px2 : -1000000 ≤ x2) (qx2 : x2 ≤ 1000000) (px3 : -1000000 ≤ x3) (qx3 : x3 ≤ 1000000) (w : World) :
    Calls Try.prog 155 #[.agg #[.int .i64 x0, .int .i64 x1, .int .i64 x2, .int .i64 x3, .int .i64 h]] w fun e w' => e = .returned (.agg #[.int .i64 (x0 + tu0 h 1 0 0 0), .int .i64 (x1 + tu1 h 1 0 0 0), .int .i64 (x2 + tu2 h 1 0 0 0), .int .i64 (x3 + tu3 h 1 0 0 0), .int .i64 h]) ∧ Below w.heap.size w w' := by
  obtain ⟨t0, t0'⟩ := tu_bd0 h h0 h7
  obtain ⟨t1, t1'⟩ := tu_bd1 h h0 h7
  obtain ⟨t2, t2'⟩ := tu_bd2 h h0 h7
  obtain ⟨t3, t3'⟩ := tu_bd3 h h0 h7
  have hS0 : ((w.alloc (.cells #[.int .i64 x0, .int .i64 x1, .int .i64 x2, .int .i64 x3, .int .i64 h] 108)).alloc (.cells #[.int .i64 0, .int .i64 0, .int .i64 0, .int .i64 0, .int .i64 0] 108)).cell? ⟨w.heap.size, 0, none⟩ = some (.int .i64 x0) ∧ ((w.alloc (.cells #[.int .i64 x0, .int .i64 x1, .int .i64 x2, .int .i64 x3, .int .i64 h] 108)).alloc (.cells #[.int .i64 0, .int .i64 0, .int .i64 0, .int .i64 0, .int .i64 0] 108)).cell? ⟨w.heap.size, 1, none⟩ = some (.int .i64 x1) ∧ ((w.alloc (.cells #[.int .i64 x0, .int .i64 x1, .int .i64 x2, .int .i64 x3, .int .i64 h] 108)).alloc (.cells #[.int .i64 0, .int .i64 0, .int .i64 0, .int .i64 0, .int .i64 0] 108)).cell? ⟨w.heap.size, 2, none⟩ = some (.int .i64 x2) ∧ ((w.alloc (.cells #[.int .i64 x0, .int .i64 x1, .int .i64 x2, .int .i64 x3, .int .i64 h] 108)).alloc (.cells #[.int .i64 0, .int .i64 0, .int .i64 0, .int .i64 0, .int .i64 0] 108)).cell? ⟨w.heap.size, 3, none⟩ = some (.int .i64 x3) ∧ ((w.alloc (.cells #[.int .i64 x0, .int .i64 x1, .int .i64 x2, .int .i64 x3, .int .i64 h] 108)).alloc (.cells #[.int .i64 0, .int .i64 0, .int .i64 0, .int .i64 0, .int .i64 0] 108)).cell? ⟨w.heap.size, 4, none⟩ = some (.int .i64 h) := by refine ⟨?_, ?_, ?_, ?_, ?_⟩ <;> go_simp
  have hR : ((w.alloc (.cells #[.int .i64 x0, .int .i64 x1, .int .i64 x2, .int .i64 x3, .int .i64 h] 108)).alloc (.cells #[.int .i64 0, .int .i64 0, .int .i64 0, .int .i64 0, .int .i64 0] 108)).cell? ⟨w.heap.size + 1, 0, none⟩ = some (.int .i64 0) ∧ ((w.alloc (.cells #[.int .i64 x0, .int .i64 x1, .int .i64 x2, .int .i64 x3, .int .i64 h] 108)).alloc (.cells #[.int .i64 0, .int .i64 0, .int .i64 0, .int .i64 0, .int .i64 0] 108)).cell? ⟨w.heap.size + 1, 1, none⟩ = some (.int .i64 0) ∧ ((w.alloc (.cells #[.int .i64 x0, .int .i64 x1, .int .i64 x2, .int .i64 x3, .int .i64 h] 108)).alloc (.cells #[.int .i64 0, .int .i64 0, .int .i64 0, .int .i64 0, .int .i64 0] 108)).cell? ⟨w.heap.size + 1, 2, none⟩ = some (.int .i64 0) ∧ ((w.alloc (.cells #[.int .i64 x0, .int .i64 x1, .int .i64 x2, .int .i64 x3, .int .i64 h] 108)).alloc (.cells #[.int .i64 0, .int .i64 0, .int .i64 0, .int .i64 0, .int .i64 0] 108)).cell? ⟨w.heap.size + 1, 3, none⟩ = some (.int .i64 0) ∧ ((w.alloc (.cells #[.int .i64 x0, .int .i64 x1, .int .i64 x2, .int .i64 x3, .int .i64 h] 108)).alloc (.cells #[.int .i64 0, .int .i64 0, .int .i64 0, .int .i64 0, .int .i64 0] 108)).cell? ⟨w.heap.size + 1, 4, none⟩ = some (.int .i64 0) := by refine ⟨?_, ?_, ?_, ?_, ?_⟩ <;> go_simp
  go_enter Try.func155, Try.ntmps155
  go_wp2_with fail
  go_region_held3 (fun w' => w'.cell? ⟨w.heap.size, 0, none⟩ = some (.int .i64 x0) ∧ w'.cell? ⟨w.heap.size, 1, none⟩ = some (.int .i64 x1) ∧ w'.cell? ⟨w.heap.size, 2, none⟩ = some (.int .i64 x2) ∧ w'.cell? ⟨w.heap.size, 3, none⟩ = some (.int .i64 x3) ∧ w'.cell? ⟨w.heap.size, 4, none⟩ = some (.int .i64 h))
    (first | (with_reducible assumption) | (with_reducible exact st_drew hS0) | (with_reducible exact st_drew (st_alloc hS0 _)) | (with_reducible exact st_alloc (st_drew hS0) _) | (with_reducible refine st_drew ?_; with_reducible assumption) | (with_reducible refine st_alloc ?_ _; with_reducible assumption) | (with_reducible refine st_re (by with_reducible assumption) ?_ _; (focus first | (with_reducible assumption) | omega | (simp; done) | (simp; omega))) | (with_reducible refine st_below ?_ ?_ h1; (focus first | (with_reducible assumption) | (with_reducible refine st_undrew ?_; with_reducible assumption)); (focus first | (with_reducible assumption) | omega | (simp; done) | (simp; omega))) | ((repeat (with_reducible refine st_set ?_ _ _ ?_; rotate_left 1; (focus first | (with_reducible assumption) | omega | (simp; done) | (simp; omega)))); with_reducible assumption))
    (first | (go_at_call 173; (with_reducible refine (power_any h h0 h7 _).mono ?_); rintro e wC ⟨rfl, h1⟩; (try with_reducible replace h1 := undrew h1); have hB : Below w.heap.size w wC := ba (by go_grown) h1; obtain ⟨hcwC, hfwC⟩ := bcell h1; have hqwC := h1.size; (try simp at hqwC); (try have hz0wC : w.heap.size < wC.heap.size := (by omega)); (try have he0wC : w.heap.size ≤ wC.heap.size := (by omega)); (try have hz1wC : w.heap.size + 1 < wC.heap.size := (by omega)); (try have he1wC : w.heap.size + 1 ≤ wC.heap.size := (by omega)); have hR := st_below hR (by first | omega | (simp; done) | (simp; omega)) h1) | (go_at_call 142; (with_reducible refine (plP x0 x1 x2 x3 (tu0 h 1 0 0 0) (tu1 h 1 0 0 0) (tu2 h 1 0 0 0) (tu3 h 1 0 0 0) (by omega) (by omega) (by omega) (by omega) (by omega) (by omega) (by omega) (by omega) (by omega) (by omega) (by omega) (by omega) (by omega) (by omega) (by omega) (by omega) _).mono ?_); rintro e wD ⟨rfl, h1⟩; (try with_reducible replace h1 := undrew h1); have hB : Below w.heap.size w wD := ba (by go_grown) h1; obtain ⟨hcwD, hfwD⟩ := bcell h1; have hqwD := h1.size; (try simp at hqwD); (try have hz0wD : w.heap.size < wD.heap.size := (by omega)); (try have he0wD : w.heap.size ≤ wD.heap.size := (by omega)); (try have hz1wD : w.heap.size + 1 < wD.heap.size := (by omega)); (try have he1wD : w.heap.size + 1 ≤ wD.heap.size := (by omega)); have hR := st_below hR (by first | omega | (simp; done) | (simp; omega)) h1))
  go_wp2_with fail
  refine bodyPost_ret (by simp [results, Try.results155, go_sem, *]; try rfl) rfl ?_
  exact ⟨rfl, by go_grown⟩

set_option maxRecDepth 100000 in
set_option maxHeartbeats 3200000 in
theorem curveLeftP (x0 x1 x2 x3 h : Int) (h0 : 0 ≤ h) (h7 : h ≤ 7) (px0 : -1000000 ≤ x0) (qx0 : x0 ≤ 1000000) (px1 : -1000000 ≤ x1) (qx1 : x1 ≤ 1000000) (px2 : -1000000 ≤ x2) (qx2 : x2 ≤ 1000000) (px3 : -1000000 ≤ x3) (qx3 : x3 ≤ 1000000) (w : World) :
    Calls Try.prog 174 #[.agg #[.int .i64 x0, .int .i64 x1, .int .i64 x2, .int .i64 x3, .int .i64 h], .int .i64 1] w fun e w' => e = .returned (.agg #[.int .i64 (x0 + (tu0 ((h + 7) % 8) 1 0 0 0 - tu0 ((h + 6) % 8) 1 0 0 0)), .int .i64 (x1 + (tu1 ((h + 7) % 8) 1 0 0 0 - tu1 ((h + 6) % 8) 1 0 0 0)), .int .i64 (x2 + (tu2 ((h + 7) % 8) 1 0 0 0 - tu2 ((h + 6) % 8) 1 0 0 0)), .int .i64 (x3 + (tu3 ((h + 7) % 8) 1 0 0 0 - tu3 ((h + 6) % 8) 1 0 0 0)), .int .i64 ((h + 1) % 8)]) ∧ Below w.heap.size w w' := by
  have g0 : 0 ≤ ((h + 7) % 8) := by omega
  have g7 : ((h + 7) % 8) ≤ 7 := by omega
  have j0 : 0 ≤ ((h + 6) % 8) := by omega
  have j7 : ((h + 6) % 8) ≤ 7 := by omega
  obtain ⟨a0, a0'⟩ := tu_bd0 ((h + 7) % 8) (by omega) (by omega)
  obtain ⟨a1, a1'⟩ := tu_bd1 ((h + 7) % 8) (by omega) (by omega)
  obtain ⟨a2, a2'⟩ := tu_bd2 ((h + 7) % 8) (by omega) (by omega)
  obtain ⟨a3, a3'⟩ := tu_bd3 ((h + 7) % 8) (by omega) (by omega)
  obtain ⟨b0, b0'⟩ := tu_bd0 ((h + 6) % 8) (by omega) (by omega)
  obtain ⟨b1, b1'⟩ := tu_bd1 ((h + 6) % 8) (by omega) (by omega)
  obtain ⟨b2, b2'⟩ := tu_bd2 ((h + 6) % 8) (by omega) (by omega)
  obtain ⟨b3, b3'⟩ := tu_bd3 ((h + 6) % 8) (by omega) (by omega)
  go_enter Try.func174, Try.ntmps174
  go_wp2_with (go_at_call 184; refine (tm1_any h h0 h7 _).mono ?_; rintro e w' ⟨rfl, rfl⟩)
  (go_at_call 173; (with_reducible refine (power_any ((h + 7) % 8) g0 g7 _).mono ?_); rintro e wB ⟨rfl, h1⟩; (try with_reducible replace h1 := undrew h1); have hB : Below w.heap.size w wB := ba (by go_grown) h1; obtain ⟨hcwB, hfwB⟩ := bcell h1; have hqwB := h1.size; (try simp at hqwB); (try have hz0wB : w.heap.size < wB.heap.size := (by omega)); (try have he0wB : w.heap.size ≤ wB.heap.size := (by omega)); (try have hz1wB : w.heap.size + 1 < wB.heap.size := (by omega)); (try have he1wB : w.heap.size + 1 ≤ wB.heap.size := (by omega)))
  go_wp2_with (go_at_call 184; refine (tm2_any h h0 h7 _).mono ?_; rintro e w' ⟨rfl, rfl⟩)
  (go_at_call 173; (with_reducible refine (power_any ((h + 6) % 8) j0 j7 _).mono ?_); rintro e wC ⟨rfl, h1⟩; (try with_reducible replace h1 := undrew h1); have hB : Below w.heap.size w wC := ba (by go_grown) h1; obtain ⟨hcwC, hfwC⟩ := bcell h1; have hqwC := h1.size; (try simp at hqwC); (try have hz0wC : w.heap.size < wC.heap.size := (by omega)); (try have he0wC : w.heap.size ≤ wC.heap.size := (by omega)); (try have hz1wC : w.heap.size + 1 < wC.heap.size := (by omega)); (try have he1wC : w.heap.size + 1 ≤ wC.heap.size := (by omega)); (try have hz2wC : wB.heap.size < wC.heap.size := (by omega)); (try have he2wC : wB.heap.size ≤ wC.heap.size := (by omega)))
  go_wp2_with fail
  (go_at_call 143; (with_reducible refine (scN (tu0 ((h + 6) % 8) 1 0 0 0) (tu1 ((h + 6) % 8) 1 0 0 0) (tu2 ((h + 6) % 8) 1 0 0 0) (tu3 ((h + 6) % 8) 1 0 0 0) b0 b0' b1 b1' b2 b2' b3 b3' _).mono ?_); rintro e wD ⟨rfl, h1⟩; (try with_reducible replace h1 := undrew h1); have hB : Below w.heap.size w wD := ba (by go_grown) h1; obtain ⟨hcwD, hfwD⟩ := bcell h1; have hqwD := h1.size; (try simp at hqwD); (try have hz0wD : w.heap.size < wD.heap.size := (by omega)); (try have he0wD : w.heap.size ≤ wD.heap.size := (by omega)); (try have hz1wD : w.heap.size + 1 < wD.heap.size := (by omega)); (try have he1wD : w.heap.size + 1 ≤ wD.heap.size := (by omega)); (try have hz2wD : wB.heap.size < wD.heap.size := (by omega)); (try have he2wD : wB.heap.size ≤ wD.heap.size := (by omega)))
  go_wp2_with fail
  have hS0 : (wD.alloc (.cells #[.int .i64 (-(tu0 ((h + 6) % 8) 1 0 0 0)), .int .i64 (-(tu1 ((h + 6) % 8) 1 0 0 0)), .int .i64 (-(tu2 ((h + 6) % 8) 1 0 0 0)), .int .i64 (-(tu3 ((h + 6) % 8) 1 0 0 0))] 26)).cell? ⟨w.heap.size, 0, none⟩ = some (.int .i64 x0) ∧ (wD.alloc (.cells #[.int .i64 (-(tu0 ((h + 6) % 8) 1 0 0 0)), .int .i64 (-(tu1 ((h + 6) % 8) 1 0 0 0)), .int .i64 (-(tu2 ((h + 6) % 8) 1 0 0 0)), .int .i64 (-(tu3 ((h + 6) % 8) 1 0 0 0))] 26)).cell? ⟨w.heap.size, 1, none⟩ = some (.int .i64 x1) ∧ (wD.alloc (.cells #[.int .i64 (-(tu0 ((h + 6) % 8) 1 0 0 0)), .int .i64 (-(tu1 ((h + 6) % 8) 1 0 0 0)), .int .i64 (-(tu2 ((h + 6) % 8) 1 0 0 0)), .int .i64 (-(tu3 ((h + 6) % 8) 1 0 0 0))] 26)).cell? ⟨w.heap.size, 2, none⟩ = some (.int .i64 x2) ∧ (wD.alloc (.cells #[.int .i64 (-(tu0 ((h + 6) % 8) 1 0 0 0)), .int .i64 (-(tu1 ((h + 6) % 8) 1 0 0 0)), .int .i64 (-(tu2 ((h + 6) % 8) 1 0 0 0)), .int .i64 (-(tu3 ((h + 6) % 8) 1 0 0 0))] 26)).cell? ⟨w.heap.size, 3, none⟩ = some (.int .i64 x3) ∧ (wD.alloc (.cells #[.int .i64 (-(tu0 ((h + 6) % 8) 1 0 0 0)), .int .i64 (-(tu1 ((h + 6) % 8) 1 0 0 0)), .int .i64 (-(tu2 ((h + 6) % 8) 1 0 0 0)), .int .i64 (-(tu3 ((h + 6) % 8) 1 0 0 0))] 26)).cell? ⟨w.heap.size, 4, none⟩ = some (.int .i64 h) ∧ (wD.alloc (.cells #[.int .i64 (-(tu0 ((h + 6) % 8) 1 0 0 0)), .int .i64 (-(tu1 ((h + 6) % 8) 1 0 0 0)), .int .i64 (-(tu2 ((h + 6) % 8) 1 0 0 0)), .int .i64 (-(tu3 ((h + 6) % 8) 1 0 0 0))] 26)).cell? ⟨wB.heap.size, 0, none⟩ = some (.int .i64 (tu0 ((h + 7) % 8) 1 0 0 0)) ∧ (wD.alloc (.cells #[.int .i64 (-(tu0 ((h + 6) % 8) 1 0 0 0)), .int .i64 (-(tu1 ((h + 6) % 8) 1 0 0 0)), .int .i64 (-(tu2 ((h + 6) % 8) 1 0 0 0)), .int .i64 (-(tu3 ((h + 6) % 8) 1 0 0 0))] 26)).cell? ⟨wB.heap.size, 1, none⟩ = some (.int .i64 (tu1 ((h + 7) % 8) 1 0 0 0)) ∧ (wD.alloc (.cells #[.int .i64 (-(tu0 ((h + 6) % 8) 1 0 0 0)), .int .i64 (-(tu1 ((h + 6) % 8) 1 0 0 0)), .int .i64 (-(tu2 ((h + 6) % 8) 1 0 0 0)), .int .i64 (-(tu3 ((h + 6) % 8) 1 0 0 0))] 26)).cell? ⟨wB.heap.size, 2, none⟩ = some (.int .i64 (tu2 ((h + 7) % 8) 1 0 0 0)) ∧ (wD.alloc (.cells #[.int .i64 (-(tu0 ((h + 6) % 8) 1 0 0 0)), .int .i64 (-(tu1 ((h + 6) % 8) 1 0 0 0)), .int .i64 (-(tu2 ((h + 6) % 8) 1 0 0 0)), .int .i64 (-(tu3 ((h + 6) % 8) 1 0 0 0))] 26)).cell? ⟨wB.heap.size, 3, none⟩ = some (.int .i64 (tu3 ((h + 7) % 8) 1 0 0 0)) ∧ (wD.alloc (.cells #[.int .i64 (-(tu0 ((h + 6) % 8) 1 0 0 0)), .int .i64 (-(tu1 ((h + 6) % 8) 1 0 0 0)), .int .i64 (-(tu2 ((h + 6) % 8) 1 0 0 0)), .int .i64 (-(tu3 ((h + 6) % 8) 1 0 0 0))] 26)).cell? ⟨wD.heap.size, 0, none⟩ = some (.int .i64 (-(tu0 ((h + 6) % 8) 1 0 0 0))) ∧ (wD.alloc (.cells #[.int .i64 (-(tu0 ((h + 6) % 8) 1 0 0 0)), .int .i64 (-(tu1 ((h + 6) % 8) 1 0 0 0)), .int .i64 (-(tu2 ((h + 6) % 8) 1 0 0 0)), .int .i64 (-(tu3 ((h + 6) % 8) 1 0 0 0))] 26)).cell? ⟨wD.heap.size, 1, none⟩ = some (.int .i64 (-(tu1 ((h + 6) % 8) 1 0 0 0))) ∧ (wD.alloc (.cells #[.int .i64 (-(tu0 ((h + 6) % 8) 1 0 0 0)), .int .i64 (-(tu1 ((h + 6) % 8) 1 0 0 0)), .int .i64 (-(tu2 ((h + 6) % 8) 1 0 0 0)), .int .i64 (-(tu3 ((h + 6) % 8) 1 0 0 0))] 26)).cell? ⟨wD.heap.size, 2, none⟩ = some (.int .i64 (-(tu2 ((h + 6) % 8) 1 0 0 0))) ∧ (wD.alloc (.cells #[.int .i64 (-(tu0 ((h + 6) % 8) 1 0 0 0)), .int .i64 (-(tu1 ((h + 6) % 8) 1 0 0 0)), .int .i64 (-(tu2 ((h + 6) % 8) 1 0 0 0)), .int .i64 (-(tu3 ((h + 6) % 8) 1 0 0 0))] 26)).cell? ⟨wD.heap.size, 3, none⟩ = some (.int .i64 (-(tu3 ((h + 6) % 8) 1 0 0 0))) := by refine ⟨?_, ?_, ?_, ?_, ?_, ?_, ?_, ?_, ?_, ?_, ?_, ?_, ?_⟩ <;> go_simp
  have hR : (wD.alloc (.cells #[.int .i64 (-(tu0 ((h + 6) % 8) 1 0 0 0)), .int .i64 (-(tu1 ((h + 6) % 8) 1 0 0 0)), .int .i64 (-(tu2 ((h + 6) % 8) 1 0 0 0)), .int .i64 (-(tu3 ((h + 6) % 8) 1 0 0 0))] 26)).cell? ⟨w.heap.size + 1, 0, none⟩ = some (.int .i64 0) ∧ (wD.alloc (.cells #[.int .i64 (-(tu0 ((h + 6) % 8) 1 0 0 0)), .int .i64 (-(tu1 ((h + 6) % 8) 1 0 0 0)), .int .i64 (-(tu2 ((h + 6) % 8) 1 0 0 0)), .int .i64 (-(tu3 ((h + 6) % 8) 1 0 0 0))] 26)).cell? ⟨w.heap.size + 1, 1, none⟩ = some (.int .i64 0) ∧ (wD.alloc (.cells #[.int .i64 (-(tu0 ((h + 6) % 8) 1 0 0 0)), .int .i64 (-(tu1 ((h + 6) % 8) 1 0 0 0)), .int .i64 (-(tu2 ((h + 6) % 8) 1 0 0 0)), .int .i64 (-(tu3 ((h + 6) % 8) 1 0 0 0))] 26)).cell? ⟨w.heap.size + 1, 2, none⟩ = some (.int .i64 0) ∧ (wD.alloc (.cells #[.int .i64 (-(tu0 ((h + 6) % 8) 1 0 0 0)), .int .i64 (-(tu1 ((h + 6) % 8) 1 0 0 0)), .int .i64 (-(tu2 ((h + 6) % 8) 1 0 0 0)), .int .i64 (-(tu3 ((h + 6) % 8) 1 0 0 0))] 26)).cell? ⟨w.heap.size + 1, 3, none⟩ = some (.int .i64 0) ∧ (wD.alloc (.cells #[.int .i64 (-(tu0 ((h + 6) % 8) 1 0 0 0)), .int .i64 (-(tu1 ((h + 6) % 8) 1 0 0 0)), .int .i64 (-(tu2 ((h + 6) % 8) 1 0 0 0)), .int .i64 (-(tu3 ((h + 6) % 8) 1 0 0 0))] 26)).cell? ⟨w.heap.size + 1, 4, none⟩ = some (.int .i64 0) := by refine ⟨?_, ?_, ?_, ?_, ?_⟩ <;> go_simp
  go_region_held3 (fun w' => w'.cell? ⟨w.heap.size, 0, none⟩ = some (.int .i64 x0) ∧ w'.cell? ⟨w.heap.size, 1, none⟩ = some (.int .i64 x1) ∧ w'.cell? ⟨w.heap.size, 2, none⟩ = some (.int .i64 x2) ∧ w'.cell? ⟨w.heap.size, 3, none⟩ = some (.int .i64 x3) ∧ w'.cell? ⟨w.heap.size, 4, none⟩ = some (.int .i64 h) ∧ w'.cell? ⟨wB.heap.size, 0, none⟩ = some (.int .i64 (tu0 ((h + 7) % 8) 1 0 0 0)) ∧ w'.cell? ⟨wB.heap.size, 1, none⟩ = some (.int .i64 (tu1 ((h + 7) % 8) 1 0 0 0)) ∧ w'.cell? ⟨wB.heap.size, 2, none⟩ = some (.int .i64 (tu2 ((h + 7) % 8) 1 0 0 0)) ∧ w'.cell? ⟨wB.heap.size, 3, none⟩ = some (.int .i64 (tu3 ((h + 7) % 8) 1 0 0 0)) ∧ w'.cell? ⟨wD.heap.size, 0, none⟩ = some (.int .i64 (-(tu0 ((h + 6) % 8) 1 0 0 0))) ∧ w'.cell? ⟨wD.heap.size, 1, none⟩ = some (.int .i64 (-(tu1 ((h + 6) % 8) 1 0 0 0))) ∧ w'.cell? ⟨wD.heap.size, 2, none⟩ = some (.int .i64 (-(tu2 ((h + 6) % 8) 1 0 0 0))) ∧ w'.cell? ⟨wD.heap.size, 3, none⟩ = some (.int .i64 (-(tu3 ((h + 6) % 8) 1 0 0 0))))
    (first | (with_reducible assumption) | (with_reducible exact stpp_drew hS0) | (with_reducible exact stpp_drew (stpp_alloc hS0 _)) | (with_reducible exact stpp_alloc (stpp_drew hS0) _) | (with_reducible refine stpp_drew ?_; with_reducible assumption) | (with_reducible refine stpp_alloc ?_ _; with_reducible assumption) | (with_reducible refine stpp_re (by with_reducible assumption) ?_ ?_ ?_ _; (focus first | (with_reducible assumption) | omega | (simp; done) | (simp; omega)); (focus first | (with_reducible assumption) | omega | (simp; done) | (simp; omega)); (focus first | (with_reducible assumption) | omega | (simp; done) | (simp; omega))) | (with_reducible refine stpp_below ?_ ?_ ?_ ?_ h1; (focus first | (with_reducible assumption) | (with_reducible refine stpp_undrew ?_; with_reducible assumption)); (focus first | (with_reducible assumption) | omega | (simp; done) | (simp; omega)); (focus first | (with_reducible assumption) | omega | (simp; done) | (simp; omega)); (focus first | (with_reducible assumption) | omega | (simp; done) | (simp; omega))) | ((repeat (with_reducible refine stpp_set ?_ _ _ ?_ ?_ ?_; rotate_left 1; (focus first | (with_reducible assumption) | omega | (simp; done) | (simp; omega)); (focus first | (with_reducible assumption) | omega | (simp; done) | (simp; omega)); (focus first | (with_reducible assumption) | omega | (simp; done) | (simp; omega)))); with_reducible assumption))
    (first | (go_at_call 142; (with_reducible refine (plP x0 x1 x2 x3 (tu0 ((h + 7) % 8) 1 0 0 0) (tu1 ((h + 7) % 8) 1 0 0 0) (tu2 ((h + 7) % 8) 1 0 0 0) (tu3 ((h + 7) % 8) 1 0 0 0) (by omega) (by omega) (by omega) (by omega) (by omega) (by omega) (by omega) (by omega) (by omega) (by omega) (by omega) (by omega) (by omega) (by omega) (by omega) (by omega) _).mono ?_); rintro e wE ⟨rfl, h1⟩; (try with_reducible replace h1 := undrew h1); have hB : Below w.heap.size w wE := ba (by go_grown) h1; obtain ⟨hcwE, hfwE⟩ := bcell h1; have hqwE := h1.size; (try simp at hqwE); (try have hz0wE : w.heap.size < wE.heap.size := (by omega)); (try have he0wE : w.heap.size ≤ wE.heap.size := (by omega)); (try have hz1wE : w.heap.size + 1 < wE.heap.size := (by omega)); (try have he1wE : w.heap.size + 1 ≤ wE.heap.size := (by omega)); (try have hz2wE : wB.heap.size < wE.heap.size := (by omega)); (try have he2wE : wB.heap.size ≤ wE.heap.size := (by omega)); (try have hz3wE : wD.heap.size < wE.heap.size := (by omega)); (try have he3wE : wD.heap.size ≤ wE.heap.size := (by omega)); have hR := st_below hR (by first | omega | (simp; done) | (simp; omega)) h1) | (go_at_call 142; (with_reducible refine (plP (x0 + (tu0 ((h + 7) % 8) 1 0 0 0)) (x1 + (tu1 ((h + 7) % 8) 1 0 0 0)) (x2 + (tu2 ((h + 7) % 8) 1 0 0 0)) (x3 + (tu3 ((h + 7) % 8) 1 0 0 0)) (-(tu0 ((h + 6) % 8) 1 0 0 0)) (-(tu1 ((h + 6) % 8) 1 0 0 0)) (-(tu2 ((h + 6) % 8) 1 0 0 0)) (-(tu3 ((h + 6) % 8) 1 0 0 0)) (by omega) (by omega) (by omega) (by omega) (by omega) (by omega) (by omega) (by omega) (by omega) (by omega) (by omega) (by omega) (by omega) (by omega) (by omega) (by omega) _).mono ?_); rintro e wF ⟨rfl, h1⟩; (try with_reducible replace h1 := undrew h1); have hB : Below w.heap.size w wF := ba (by go_grown) h1; obtain ⟨hcwF, hfwF⟩ := bcell h1; have hqwF := h1.size; (try simp at hqwF); (try have hz0wF : w.heap.size < wF.heap.size := (by omega)); (try have he0wF : w.heap.size ≤ wF.heap.size := (by omega)); (try have hz1wF : w.heap.size + 1 < wF.heap.size := (by omega)); (try have he1wF : w.heap.size + 1 ≤ wF.heap.size := (by omega)); (try have hz2wF : wB.heap.size < wF.heap.size := (by omega)); (try have he2wF : wB.heap.size ≤ wF.heap.size := (by omega)); (try have hz3wF : wD.heap.size < wF.heap.size := (by omega)); (try have he3wF : wD.heap.size ≤ wF.heap.size := (by omega)); have hR := st_below hR (by first | omega | (simp; done) | (simp; omega)) h1) | (go_at_call 184; refine (tp1_any h h0 h7 _).mono ?_; rintro e w' ⟨rfl, rfl⟩))
  all_goals
    go_wp2_with fail
    refine bodyPost_ret (by simp [results, Try.results174, go_sem, *]; try rfl) rfl ?_
    exact ⟨ag5 (by omega) (by omega) (by omega) (by omega) rfl, by go_grown⟩

set_option maxRecDepth 100000 in
theorem leftP (x0 x1 x2 x3 h : Int) (h0 : 0 ≤ h) (h7 : h ≤ 7) (px0 : -1000000 ≤ x0) (qx0 : x0 ≤ 1000000) (px1 : -1000000 ≤ x1) (qx1 : x1 ≤ 1000000) (px2 : -1000000 ≤ x2) (qx2 : x2 ≤ 1000000) (px3 : -1000000 ≤ x3) (qx3 : x3 ≤ 1000000) (w : World) :
    Calls Try.prog 156 #[.agg #[.int .i64 x0, .int .i64 x1, .int .i64 x2, .int .i64 x3, .int .i64 h]] w fun e w' => e = .returned (.agg #[.int .i64 (x0 + (tu0 ((h + 7) % 8) 1 0 0 0 - tu0 ((h + 6) % 8) 1 0 0 0)), .int .i64 (x1 + (tu1 ((h + 7) % 8) 1 0 0 0 - tu1 ((h + 6) % 8) 1 0 0 0)), .int .i64 (x2 + (tu2 ((h + 7) % 8) 1 0 0 0 - tu2 ((h + 6) % 8) 1 0 0 0)), .int .i64 (x3 + (tu3 ((h + 7) % 8) 1 0 0 0 - tu3 ((h + 6) % 8) 1 0 0 0)), .int .i64 ((h + 1) % 8)]) ∧ Below w.heap.size w w' := by
  go_enter Try.func156, Try.ntmps156
  go_wp2_with (go_at_call 174; refine (curveLeftP x0 x1 x2 x3 h h0 h7 px0 qx0 px1 qx1 px2 qx2 px3 qx3 _).mono ?_; rintro e w1 ⟨rfl, h1⟩; have hB : Below w.heap.size w w1 := ba (by go_grown) h1; obtain ⟨hc1, hf1⟩ := bcell h1; have hq := h1.size; (try simp at hq); have hz0 : w.heap.size < w1.heap.size := (by omega); have hz1 : w.heap.size + 1 < w1.heap.size := (by omega); have HK1 := Lib.hid h1; clear h1 hq)
  refine bodyPost_ret (by simp [results, Try.results156, go_sem, *]; try rfl) rfl ?_
  exact ⟨rfl, by go_grown⟩

set_option maxRecDepth 100000 in
set_option maxHeartbeats 3200000 in
theorem curveRightP (x0 x1 x2 x3 h : Int) (h0 : 0 ≤ h) (h7 : h ≤ 7) (px0 : -1000000 ≤ x0) (qx0 : x0 ≤ 1000000) (px1 : -1000000 ≤ x1) (qx1 : x1 ≤ 1000000) (px2 : -1000000 ≤ x2) (qx2 : x2 ≤ 1000000) (px3 : -1000000 ≤ x3) (qx3 : x3 ≤ 1000000) (w : World) :
    Calls Try.prog 174 #[.agg #[.int .i64 x0, .int .i64 x1, .int .i64 x2, .int .i64 x3, .int .i64 h], .int .i64 (-1)] w fun e w' => e = .returned (.agg #[.int .i64 (x0 + (tu0 ((h + 1) % 8) 1 0 0 0 - tu0 ((h + 2) % 8) 1 0 0 0)), .int .i64 (x1 + (tu1 ((h + 1) % 8) 1 0 0 0 - tu1 ((h + 2) % 8) 1 0 0 0)), .int .i64 (x2 + (tu2 ((h + 1) % 8) 1 0 0 0 - tu2 ((h + 2) % 8) 1 0 0 0)), .int .i64 (x3 + (tu3 ((h + 1) % 8) 1 0 0 0 - tu3 ((h + 2) % 8) 1 0 0 0)), .int .i64 ((h + 7) % 8)]) ∧ Below w.heap.size w w' := by
  have g0 : 0 ≤ ((h + 1) % 8) := by omega
  have g7 : ((h + 1) % 8) ≤ 7 := by omega
  have j0 : 0 ≤ ((h + 2) % 8) := by omega
  have j7 : ((h + 2) % 8) ≤ 7 := by omega
  obtain ⟨a0, a0'⟩ := tu_bd0 ((h + 1) % 8) (by omega) (by omega)
  obtain ⟨a1, a1'⟩ := tu_bd1 ((h + 1) % 8) (by omega) (by omega)
  obtain ⟨a2, a2'⟩ := tu_bd2 ((h + 1) % 8) (by omega) (by omega)
  obtain ⟨a3, a3'⟩ := tu_bd3 ((h + 1) % 8) (by omega) (by omega)
  obtain ⟨b0, b0'⟩ := tu_bd0 ((h + 2) % 8) (by omega) (by omega)
  obtain ⟨b1, b1'⟩ := tu_bd1 ((h + 2) % 8) (by omega) (by omega)
  obtain ⟨b2, b2'⟩ := tu_bd2 ((h + 2) % 8) (by omega) (by omega)
  obtain ⟨b3, b3'⟩ := tu_bd3 ((h + 2) % 8) (by omega) (by omega)
  go_enter Try.func174, Try.ntmps174
  go_wp2_with (go_at_call 184; refine (tp1_any h h0 h7 _).mono ?_; rintro e w' ⟨rfl, rfl⟩)
  (go_at_call 173; (with_reducible refine (power_any ((h + 1) % 8) g0 g7 _).mono ?_); rintro e wB ⟨rfl, h1⟩; (try with_reducible replace h1 := undrew h1); have hB : Below w.heap.size w wB := ba (by go_grown) h1; obtain ⟨hcwB, hfwB⟩ := bcell h1; have hqwB := h1.size; (try simp at hqwB); (try have hz0wB : w.heap.size < wB.heap.size := (by omega)); (try have he0wB : w.heap.size ≤ wB.heap.size := (by omega)); (try have hz1wB : w.heap.size + 1 < wB.heap.size := (by omega)); (try have he1wB : w.heap.size + 1 ≤ wB.heap.size := (by omega)))
  go_wp2_with (go_at_call 184; refine (tp2_any h h0 h7 _).mono ?_; rintro e w' ⟨rfl, rfl⟩)
  (go_at_call 173; (with_reducible refine (power_any ((h + 2) % 8) j0 j7 _).mono ?_); rintro e wC ⟨rfl, h1⟩; (try with_reducible replace h1 := undrew h1); have hB : Below w.heap.size w wC := ba (by go_grown) h1; obtain ⟨hcwC, hfwC⟩ := bcell h1; have hqwC := h1.size; (try simp at hqwC); (try have hz0wC : w.heap.size < wC.heap.size := (by omega)); (try have he0wC : w.heap.size ≤ wC.heap.size := (by omega)); (try have hz1wC : w.heap.size + 1 < wC.heap.size := (by omega)); (try have he1wC : w.heap.size + 1 ≤ wC.heap.size := (by omega)); (try have hz2wC : wB.heap.size < wC.heap.size := (by omega)); (try have he2wC : wB.heap.size ≤ wC.heap.size := (by omega)))
  go_wp2_with fail
  (go_at_call 143; (with_reducible refine (scN (tu0 ((h + 2) % 8) 1 0 0 0) (tu1 ((h + 2) % 8) 1 0 0 0) (tu2 ((h + 2) % 8) 1 0 0 0) (tu3 ((h + 2) % 8) 1 0 0 0) b0 b0' b1 b1' b2 b2' b3 b3' _).mono ?_); rintro e wD ⟨rfl, h1⟩; (try with_reducible replace h1 := undrew h1); have hB : Below w.heap.size w wD := ba (by go_grown) h1; obtain ⟨hcwD, hfwD⟩ := bcell h1; have hqwD := h1.size; (try simp at hqwD); (try have hz0wD : w.heap.size < wD.heap.size := (by omega)); (try have he0wD : w.heap.size ≤ wD.heap.size := (by omega)); (try have hz1wD : w.heap.size + 1 < wD.heap.size := (by omega)); (try have he1wD : w.heap.size + 1 ≤ wD.heap.size := (by omega)); (try have hz2wD : wB.heap.size < wD.heap.size := (by omega)); (try have he2wD : wB.heap.size ≤ wD.heap.size := (by omega)))
  go_wp2_with fail
  have hS0 : (wD.alloc (.cells #[.int .i64 (-(tu0 ((h + 2) % 8) 1 0 0 0)), .int .i64 (-(tu1 ((h + 2) % 8) 1 0 0 0)), .int .i64 (-(tu2 ((h + 2) % 8) 1 0 0 0)), .int .i64 (-(tu3 ((h + 2) % 8) 1 0 0 0))] 26)).cell? ⟨w.heap.size, 0, none⟩ = some (.int .i64 x0) ∧ (wD.alloc (.cells #[.int .i64 (-(tu0 ((h + 2) % 8) 1 0 0 0)), .int .i64 (-(tu1 ((h + 2) % 8) 1 0 0 0)), .int .i64 (-(tu2 ((h + 2) % 8) 1 0 0 0)), .int .i64 (-(tu3 ((h + 2) % 8) 1 0 0 0))] 26)).cell? ⟨w.heap.size, 1, none⟩ = some (.int .i64 x1) ∧ (wD.alloc (.cells #[.int .i64 (-(tu0 ((h + 2) % 8) 1 0 0 0)), .int .i64 (-(tu1 ((h + 2) % 8) 1 0 0 0)), .int .i64 (-(tu2 ((h + 2) % 8) 1 0 0 0)), .int .i64 (-(tu3 ((h + 2) % 8) 1 0 0 0))] 26)).cell? ⟨w.heap.size, 2, none⟩ = some (.int .i64 x2) ∧ (wD.alloc (.cells #[.int .i64 (-(tu0 ((h + 2) % 8) 1 0 0 0)), .int .i64 (-(tu1 ((h + 2) % 8) 1 0 0 0)), .int .i64 (-(tu2 ((h + 2) % 8) 1 0 0 0)), .int .i64 (-(tu3 ((h + 2) % 8) 1 0 0 0))] 26)).cell? ⟨w.heap.size, 3, none⟩ = some (.int .i64 x3) ∧ (wD.alloc (.cells #[.int .i64 (-(tu0 ((h + 2) % 8) 1 0 0 0)), .int .i64 (-(tu1 ((h + 2) % 8) 1 0 0 0)), .int .i64 (-(tu2 ((h + 2) % 8) 1 0 0 0)), .int .i64 (-(tu3 ((h + 2) % 8) 1 0 0 0))] 26)).cell? ⟨w.heap.size, 4, none⟩ = some (.int .i64 h) ∧ (wD.alloc (.cells #[.int .i64 (-(tu0 ((h + 2) % 8) 1 0 0 0)), .int .i64 (-(tu1 ((h + 2) % 8) 1 0 0 0)), .int .i64 (-(tu2 ((h + 2) % 8) 1 0 0 0)), .int .i64 (-(tu3 ((h + 2) % 8) 1 0 0 0))] 26)).cell? ⟨wB.heap.size, 0, none⟩ = some (.int .i64 (tu0 ((h + 1) % 8) 1 0 0 0)) ∧ (wD.alloc (.cells #[.int .i64 (-(tu0 ((h + 2) % 8) 1 0 0 0)), .int .i64 (-(tu1 ((h + 2) % 8) 1 0 0 0)), .int .i64 (-(tu2 ((h + 2) % 8) 1 0 0 0)), .int .i64 (-(tu3 ((h + 2) % 8) 1 0 0 0))] 26)).cell? ⟨wB.heap.size, 1, none⟩ = some (.int .i64 (tu1 ((h + 1) % 8) 1 0 0 0)) ∧ (wD.alloc (.cells #[.int .i64 (-(tu0 ((h + 2) % 8) 1 0 0 0)), .int .i64 (-(tu1 ((h + 2) % 8) 1 0 0 0)), .int .i64 (-(tu2 ((h + 2) % 8) 1 0 0 0)), .int .i64 (-(tu3 ((h + 2) % 8) 1 0 0 0))] 26)).cell? ⟨wB.heap.size, 2, none⟩ = some (.int .i64 (tu2 ((h + 1) % 8) 1 0 0 0)) ∧ (wD.alloc (.cells #[.int .i64 (-(tu0 ((h + 2) % 8) 1 0 0 0)), .int .i64 (-(tu1 ((h + 2) % 8) 1 0 0 0)), .int .i64 (-(tu2 ((h + 2) % 8) 1 0 0 0)), .int .i64 (-(tu3 ((h + 2) % 8) 1 0 0 0))] 26)).cell? ⟨wB.heap.size, 3, none⟩ = some (.int .i64 (tu3 ((h + 1) % 8) 1 0 0 0)) ∧ (wD.alloc (.cells #[.int .i64 (-(tu0 ((h + 2) % 8) 1 0 0 0)), .int .i64 (-(tu1 ((h + 2) % 8) 1 0 0 0)), .int .i64 (-(tu2 ((h + 2) % 8) 1 0 0 0)), .int .i64 (-(tu3 ((h + 2) % 8) 1 0 0 0))] 26)).cell? ⟨wD.heap.size, 0, none⟩ = some (.int .i64 (-(tu0 ((h + 2) % 8) 1 0 0 0))) ∧ (wD.alloc (.cells #[.int .i64 (-(tu0 ((h + 2) % 8) 1 0 0 0)), .int .i64 (-(tu1 ((h + 2) % 8) 1 0 0 0)), .int .i64 (-(tu2 ((h + 2) % 8) 1 0 0 0)), .int .i64 (-(tu3 ((h + 2) % 8) 1 0 0 0))] 26)).cell? ⟨wD.heap.size, 1, none⟩ = some (.int .i64 (-(tu1 ((h + 2) % 8) 1 0 0 0))) ∧ (wD.alloc (.cells #[.int .i64 (-(tu0 ((h + 2) % 8) 1 0 0 0)), .int .i64 (-(tu1 ((h + 2) % 8) 1 0 0 0)), .int .i64 (-(tu2 ((h + 2) % 8) 1 0 0 0)), .int .i64 (-(tu3 ((h + 2) % 8) 1 0 0 0))] 26)).cell? ⟨wD.heap.size, 2, none⟩ = some (.int .i64 (-(tu2 ((h + 2) % 8) 1 0 0 0))) ∧ (wD.alloc (.cells #[.int .i64 (-(tu0 ((h + 2) % 8) 1 0 0 0)), .int .i64 (-(tu1 ((h + 2) % 8) 1 0 0 0)), .int .i64 (-(tu2 ((h + 2) % 8) 1 0 0 0)), .int .i64 (-(tu3 ((h + 2) % 8) 1 0 0 0))] 26)).cell? ⟨wD.heap.size, 3, none⟩ = some (.int .i64 (-(tu3 ((h + 2) % 8) 1 0 0 0))) := by refine ⟨?_, ?_, ?_, ?_, ?_, ?_, ?_, ?_, ?_, ?_, ?_, ?_, ?_⟩ <;> go_simp
  have hR : (wD.alloc (.cells #[.int .i64 (-(tu0 ((h + 2) % 8) 1 0 0 0)), .int .i64 (-(tu1 ((h + 2) % 8) 1 0 0 0)), .int .i64 (-(tu2 ((h + 2) % 8) 1 0 0 0)), .int .i64 (-(tu3 ((h + 2) % 8) 1 0 0 0))] 26)).cell? ⟨w.heap.size + 1, 0, none⟩ = some (.int .i64 0) ∧ (wD.alloc (.cells #[.int .i64 (-(tu0 ((h + 2) % 8) 1 0 0 0)), .int .i64 (-(tu1 ((h + 2) % 8) 1 0 0 0)), .int .i64 (-(tu2 ((h + 2) % 8) 1 0 0 0)), .int .i64 (-(tu3 ((h + 2) % 8) 1 0 0 0))] 26)).cell? ⟨w.heap.size + 1, 1, none⟩ = some (.int .i64 0) ∧ (wD.alloc (.cells #[.int .i64 (-(tu0 ((h + 2) % 8) 1 0 0 0)), .int .i64 (-(tu1 ((h + 2) % 8) 1 0 0 0)), .int .i64 (-(tu2 ((h + 2) % 8) 1 0 0 0)), .int .i64 (-(tu3 ((h + 2) % 8) 1 0 0 0))] 26)).cell? ⟨w.heap.size + 1, 2, none⟩ = some (.int .i64 0) ∧ (wD.alloc (.cells #[.int .i64 (-(tu0 ((h + 2) % 8) 1 0 0 0)), .int .i64 (-(tu1 ((h + 2) % 8) 1 0 0 0)), .int .i64 (-(tu2 ((h + 2) % 8) 1 0 0 0)), .int .i64 (-(tu3 ((h + 2) % 8) 1 0 0 0))] 26)).cell? ⟨w.heap.size + 1, 3, none⟩ = some (.int .i64 0) ∧ (wD.alloc (.cells #[.int .i64 (-(tu0 ((h + 2) % 8) 1 0 0 0)), .int .i64 (-(tu1 ((h + 2) % 8) 1 0 0 0)), .int .i64 (-(tu2 ((h + 2) % 8) 1 0 0 0)), .int .i64 (-(tu3 ((h + 2) % 8) 1 0 0 0))] 26)).cell? ⟨w.heap.size + 1, 4, none⟩ = some (.int .i64 0) := by refine ⟨?_, ?_, ?_, ?_, ?_⟩ <;> go_simp
  go_region_held3 (fun w' => w'.cell? ⟨w.heap.size, 0, none⟩ = some (.int .i64 x0) ∧ w'.cell? ⟨w.heap.size, 1, none⟩ = some (.int .i64 x1) ∧ w'.cell? ⟨w.heap.size, 2, none⟩ = some (.int .i64 x2) ∧ w'.cell? ⟨w.heap.size, 3, none⟩ = some (.int .i64 x3) ∧ w'.cell? ⟨w.heap.size, 4, none⟩ = some (.int .i64 h) ∧ w'.cell? ⟨wB.heap.size, 0, none⟩ = some (.int .i64 (tu0 ((h + 1) % 8) 1 0 0 0)) ∧ w'.cell? ⟨wB.heap.size, 1, none⟩ = some (.int .i64 (tu1 ((h + 1) % 8) 1 0 0 0)) ∧ w'.cell? ⟨wB.heap.size, 2, none⟩ = some (.int .i64 (tu2 ((h + 1) % 8) 1 0 0 0)) ∧ w'.cell? ⟨wB.heap.size, 3, none⟩ = some (.int .i64 (tu3 ((h + 1) % 8) 1 0 0 0)) ∧ w'.cell? ⟨wD.heap.size, 0, none⟩ = some (.int .i64 (-(tu0 ((h + 2) % 8) 1 0 0 0))) ∧ w'.cell? ⟨wD.heap.size, 1, none⟩ = some (.int .i64 (-(tu1 ((h + 2) % 8) 1 0 0 0))) ∧ w'.cell? ⟨wD.heap.size, 2, none⟩ = some (.int .i64 (-(tu2 ((h + 2) % 8) 1 0 0 0))) ∧ w'.cell? ⟨wD.heap.size, 3, none⟩ = some (.int .i64 (-(tu3 ((h + 2) % 8) 1 0 0 0))))
    (first | (with_reducible assumption) | (with_reducible exact stpp_drew hS0) | (with_reducible exact stpp_drew (stpp_alloc hS0 _)) | (with_reducible exact stpp_alloc (stpp_drew hS0) _) | (with_reducible refine stpp_drew ?_; with_reducible assumption) | (with_reducible refine stpp_alloc ?_ _; with_reducible assumption) | (with_reducible refine stpp_re (by with_reducible assumption) ?_ ?_ ?_ _; (focus first | (with_reducible assumption) | omega | (simp; done) | (simp; omega)); (focus first | (with_reducible assumption) | omega | (simp; done) | (simp; omega)); (focus first | (with_reducible assumption) | omega | (simp; done) | (simp; omega))) | (with_reducible refine stpp_below ?_ ?_ ?_ ?_ h1; (focus first | (with_reducible assumption) | (with_reducible refine stpp_undrew ?_; with_reducible assumption)); (focus first | (with_reducible assumption) | omega | (simp; done) | (simp; omega)); (focus first | (with_reducible assumption) | omega | (simp; done) | (simp; omega)); (focus first | (with_reducible assumption) | omega | (simp; done) | (simp; omega))) | ((repeat (with_reducible refine stpp_set ?_ _ _ ?_ ?_ ?_; rotate_left 1; (focus first | (with_reducible assumption) | omega | (simp; done) | (simp; omega)); (focus first | (with_reducible assumption) | omega | (simp; done) | (simp; omega)); (focus first | (with_reducible assumption) | omega | (simp; done) | (simp; omega)))); with_reducible assumption))
    (first | (go_at_call 142; (with_reducible refine (plP x0 x1 x2 x3 (tu0 ((h + 1) % 8) 1 0 0 0) (tu1 ((h + 1) % 8) 1 0 0 0) (tu2 ((h + 1) % 8) 1 0 0 0) (tu3 ((h + 1) % 8) 1 0 0 0) (by omega) (by omega) (by omega) (by omega) (by omega) (by omega) (by omega) (by omega) (by omega) (by omega) (by omega) (by omega) (by omega) (by omega) (by omega) (by omega) _).mono ?_); rintro e wE ⟨rfl, h1⟩; (try with_reducible replace h1 := undrew h1); have hB : Below w.heap.size w wE := ba (by go_grown) h1; obtain ⟨hcwE, hfwE⟩ := bcell h1; have hqwE := h1.size; (try simp at hqwE); (try have hz0wE : w.heap.size < wE.heap.size := (by omega)); (try have he0wE : w.heap.size ≤ wE.heap.size := (by omega)); (try have hz1wE : w.heap.size + 1 < wE.heap.size := (by omega)); (try have he1wE : w.heap.size + 1 ≤ wE.heap.size := (by omega)); (try have hz2wE : wB.heap.size < wE.heap.size := (by omega)); (try have he2wE : wB.heap.size ≤ wE.heap.size := (by omega)); (try have hz3wE : wD.heap.size < wE.heap.size := (by omega)); (try have he3wE : wD.heap.size ≤ wE.heap.size := (by omega)); have hR := st_below hR (by first | omega | (simp; done) | (simp; omega)) h1) | (go_at_call 142; (with_reducible refine (plP (x0 + (tu0 ((h + 1) % 8) 1 0 0 0)) (x1 + (tu1 ((h + 1) % 8) 1 0 0 0)) (x2 + (tu2 ((h + 1) % 8) 1 0 0 0)) (x3 + (tu3 ((h + 1) % 8) 1 0 0 0)) (-(tu0 ((h + 2) % 8) 1 0 0 0)) (-(tu1 ((h + 2) % 8) 1 0 0 0)) (-(tu2 ((h + 2) % 8) 1 0 0 0)) (-(tu3 ((h + 2) % 8) 1 0 0 0)) (by omega) (by omega) (by omega) (by omega) (by omega) (by omega) (by omega) (by omega) (by omega) (by omega) (by omega) (by omega) (by omega) (by omega) (by omega) (by omega) _).mono ?_); rintro e wF ⟨rfl, h1⟩; (try with_reducible replace h1 := undrew h1); have hB : Below w.heap.size w wF := ba (by go_grown) h1; obtain ⟨hcwF, hfwF⟩ := bcell h1; have hqwF := h1.size; (try simp at hqwF); (try have hz0wF : w.heap.size < wF.heap.size := (by omega)); (try have he0wF : w.heap.size ≤ wF.heap.size := (by omega)); (try have hz1wF : w.heap.size + 1 < wF.heap.size := (by omega)); (try have he1wF : w.heap.size + 1 ≤ wF.heap.size := (by omega)); (try have hz2wF : wB.heap.size < wF.heap.size := (by omega)); (try have he2wF : wB.heap.size ≤ wF.heap.size := (by omega)); (try have hz3wF : wD.heap.size < wF.heap.size := (by omega)); (try have he3wF : wD.heap.size ≤ wF.heap.size := (by omega)); have hR := st_below hR (by first | omega | (simp; done) | (simp; omega)) h1) | (go_at_call 184; refine (tm1_any h h0 h7 _).mono ?_; rintro e w' ⟨rfl, rfl⟩))
  all_goals
    go_wp2_with fail
    refine bodyPost_ret (by simp [results, Try.results174, go_sem, *]; try rfl) rfl ?_
    exact ⟨ag5 (by omega) (by omega) (by omega) (by omega) rfl, by go_grown⟩

set_option maxRecDepth 100000 in
theorem rightP (x0 x1 x2 x3 h : Int) (h0 : 0 ≤ h) (h7 : h ≤ 7) (px0 : -1000000 ≤ x0) (qx0 : x0 ≤ 1000000) (px1 : -1000000 ≤ x1) (qx1 : x1 ≤ 1000000) (px2 : -1000000 ≤ x2) (qx2 : x2 ≤ 1000000) (px3 : -1000000 ≤ x3) (qx3 : x3 ≤ 1000000) (w : World) :
    Calls Try.prog 157 #[.agg #[.int .i64 x0, .int .i64 x1, .int .i64 x2, .int .i64 x3, .int .i64 h]] w fun e w' => e = .returned (.agg #[.int .i64 (x0 + (tu0 ((h + 1) % 8) 1 0 0 0 - tu0 ((h + 2) % 8) 1 0 0 0)), .int .i64 (x1 + (tu1 ((h + 1) % 8) 1 0 0 0 - tu1 ((h + 2) % 8) 1 0 0 0)), .int .i64 (x2 + (tu2 ((h + 1) % 8) 1 0 0 0 - tu2 ((h + 2) % 8) 1 0 0 0)), .int .i64 (x3 + (tu3 ((h + 1) % 8) 1 0 0 0 - tu3 ((h + 2) % 8) 1 0 0 0)), .int .i64 ((h + 7) % 8)]) ∧ Below w.heap.size w w' := by
  go_enter Try.func157, Try.ntmps157
  go_wp2_with (go_at_call 174; refine (curveRightP x0 x1 x2 x3 h h0 h7 px0 qx0 px1 qx1 px2 qx2 px3 qx3 _).mono ?_; rintro e w1 ⟨rfl, h1⟩; have hB : Below w.heap.size w w1 := ba (by go_grown) h1; obtain ⟨hc1, hf1⟩ := bcell h1; have hq := h1.size; (try simp at hq); have hz0 : w.heap.size < w1.heap.size := (by omega); have hz1 : w.heap.size + 1 < w1.heap.size := (by omega); have HK1 := Lib.hid h1; clear h1 hq)
  refine bodyPost_ret (by simp [results, Try.results157, go_sem, *]; try rfl) rfl ?_
  exact ⟨rfl, by go_grown⟩

end Go.Proofs.Ytppbbcckijcckaa
