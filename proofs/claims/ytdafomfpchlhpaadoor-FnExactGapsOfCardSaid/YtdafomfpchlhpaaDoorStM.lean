/- Steps along a track: where each piece leads. -/
import Derived.Test.YtdafomfpchlhpaaDoorTkM
import Derived.Test.YtdafomfpchlhpaaDoorPtTurn3
namespace Go.Proofs.YtdafomfpchlhpaaDoor

structure Sp where
  x0 : Int
  x1 : Int
  x2 : Int
  x3 : Int
  h : Int

def Sp.cells (s : Sp) : List Value := [.int .i64 s.x0, .int .i64 s.x1, .int .i64 s.x2, .int .i64 s.x3, .int .i64 s.h]

def Sp.ptc (s : Sp) : List Value := [.int .i64 s.x0, .int .i64 s.x1, .int .i64 s.x2, .int .i64 s.x3]

theorem Sp.cells_length (s : Sp) : s.cells.length = 5 := rfl

theorem Sp.ptc_length (s : Sp) : s.ptc.length = 4 := rfl

def dd0 (c : UInt8) (h : Int) : Int := if c == 76 then tu0 ((h + 7) % 8) 1 0 0 0 - tu0 ((h + 6) % 8) 1 0 0 0 else if c == 82 then tu0 ((h + 1) % 8) 1 0 0 0 - tu0 ((h + 2) % 8) 1 0 0 0 else tu0 h 1 0 0 0

def dd1 (c : UInt8) (h : Int) : Int := if c == 76 then tu1 ((h + 7) % 8) 1 0 0 0 - tu1 ((h + 6) % 8) 1 0 0 0 else if c == 82 then tu1 ((h + 1) % 8) 1 0 0 0 - tu1 ((h + 2) % 8) 1 0 0 0 else tu1 h 1 0 0 0

def dd2 (c : UInt8) (h : Int) : Int := if c == 76 then tu2 ((h + 7) % 8) 1 0 0 0 - tu2 ((h + 6) % 8) 1 0 0 0 else if c == 82 then tu2 ((h + 1) % 8) 1 0 0 0 - tu2 ((h + 2) % 8) 1 0 0 0 else tu2 h 1 0 0 0

def dd3 (c : UInt8) (h : Int) : Int := if c == 76 then tu3 ((h + 7) % 8) 1 0 0 0 - tu3 ((h + 6) % 8) 1 0 0 0 else if c == 82 then tu3 ((h + 1) % 8) 1 0 0 0 - tu3 ((h + 2) % 8) 1 0 0 0 else tu3 h 1 0 0 0

def nh (c : UInt8) (h : Int) : Int := if c == 76 then (h + 1) % 8 else if c == 82 then (h + 7) % 8 else h

def Sp.next (s : Sp) (c : UInt8) : Sp := ⟨s.x0 + dd0 c s.h, s.x1 + dd1 c s.h, s.x2 + dd2 c s.h, s.x3 + dd3 c s.h, nh c s.h⟩

/-- The last step behind the pieces l. -/
def fin (s : Sp) (l : List UInt8) : Sp := l.foldl Sp.next s

/-- The steps before and behind each piece. -/
def lays : Sp → List UInt8 → List Sp
  | s, [] => [s]
  | s, c :: l => s :: lays (s.next c) l

theorem fin_snoc (s : Sp) (l : List UInt8) (c : UInt8) : fin s (l ++ [c]) = (fin s l).next c := by simp [fin, List.foldl_append]

theorem lays_snoc (s : Sp) (l : List UInt8) (c : UInt8) : lays s (l ++ [c]) = lays s l ++ [(fin s l).next c] := by
  induction l generalizing s with
  | nil => rfl
  | cons d l ih => simp [lays, ih, fin]

theorem lays_length (s : Sp) (l : List UInt8) : (lays s l).length = l.length + 1 := by
  induction l generalizing s with
  | nil => rfl
  | cons d l ih => simp [lays, ih]

theorem lays_last (s : Sp) (l : List UInt8) : (lays s l)[l.length]? = some (fin s l) := by
  induction l generalizing s with
  | nil => rfl
  | cons d l ih => simp [lays, ih, fin]

theorem tu_one0 (k : Int) : -1 ≤ tu0 k 1 0 0 0 ∧ tu0 k 1 0 0 0 ≤ 1 := by unfold tu0; repeat' split <;> omega

theorem tu_one1 (k : Int) : -1 ≤ tu1 k 1 0 0 0 ∧ tu1 k 1 0 0 0 ≤ 1 := by unfold tu1; repeat' split <;> omega

theorem tu_one2 (k : Int) : -1 ≤ tu2 k 1 0 0 0 ∧ tu2 k 1 0 0 0 ≤ 1 := by unfold tu2; repeat' split <;> omega

theorem tu_one3 (k : Int) : -1 ≤ tu3 k 1 0 0 0 ∧ tu3 k 1 0 0 0 ≤ 1 := by unfold tu3; repeat' split <;> omega

theorem dd_bd0 (c : UInt8) (h : Int) : -2 ≤ dd0 c h ∧ dd0 c h ≤ 2 := by
  have a := tu_one0 ((h + 7) % 8); have b := tu_one0 ((h + 6) % 8); have d := tu_one0 ((h + 1) % 8); have e := tu_one0 ((h + 2) % 8); have f := tu_one0 h
  unfold dd0; repeat' split <;> omega

theorem dd_bd1 (c : UInt8) (h : Int) : -2 ≤ dd1 c h ∧ dd1 c h ≤ 2 := by
  have a := tu_one1 ((h + 7) % 8); have b := tu_one1 ((h + 6) % 8); have d := tu_one1 ((h + 1) % 8); have e := tu_one1 ((h + 2) % 8); have f := tu_one1 h
  unfold dd1; repeat' split <;> omega

theorem dd_bd2 (c : UInt8) (h : Int) : -2 ≤ dd2 c h ∧ dd2 c h ≤ 2 := by
  have a := tu_one2 ((h + 7) % 8); have b := tu_one2 ((h + 6) % 8); have d := tu_one2 ((h + 1) % 8); have e := tu_one2 ((h + 2) % 8); have f := tu_one2 h
  unfold dd2; repeat' split <;> omega

theorem dd_bd3 (c : UInt8) (h : Int) : -2 ≤ dd3 c h ∧ dd3 c h ≤ 2 := by
  have a := tu_one3 ((h + 7) % 8); have b := tu_one3 ((h + 6) % 8); have d := tu_one3 ((h + 1) % 8); have e := tu_one3 ((h + 2) % 8); have f := tu_one3 h
  unfold dd3; repeat' split <;> omega

theorem nh_bd (c : UInt8) (h : Int) (h0 : 0 ≤ h) (h7 : h ≤ 7) : 0 ≤ nh c h ∧ nh c h ≤ 7 := by unfold nh; repeat' split <;> omega

/-- A step whose numbers are no more than n in size, with a heading. -/
def Sp.okB (s : Sp) (n : Int) : Prop := (-n ≤ s.x0 ∧ s.x0 ≤ n) ∧ (-n ≤ s.x1 ∧ s.x1 ≤ n) ∧ (-n ≤ s.x2 ∧ s.x2 ≤ n) ∧ (-n ≤ s.x3 ∧ s.x3 ≤ n) ∧ 0 ≤ s.h ∧ s.h ≤ 7

theorem Sp.okB.next {s : Sp} {n : Int} (h : s.okB n) (c : UInt8) : (s.next c).okB (n + 2) := by
  obtain ⟨h0, h1, h2, h3, h4, h5⟩ := h
  have d0 := dd_bd0 c s.h; have d1 := dd_bd1 c s.h; have d2 := dd_bd2 c s.h; have d3 := dd_bd3 c s.h
  have d4 := nh_bd c s.h h4 h5
  simp only [Sp.okB, Sp.next]
  omega

theorem Sp.okB.mono {s : Sp} {n m : Int} (h : s.okB n) (hm : n ≤ m) : s.okB m := by
  obtain ⟨h0, h1, h2, h3, h4, h5⟩ := h
  simp only [Sp.okB]
  omega

theorem fin_ok {s : Sp} {n : Int} (h : s.okB n) (l : List UInt8) : (fin s l).okB (n + 2 * l.length) := by
  induction l generalizing s n with
  | nil => simpa [fin] using h
  | cons c l ih =>
    have := ih (h.next c)
    simp only [fin, List.foldl_cons, List.length_cons] at this ⊢
    exact this.mono (by omega)

def sp0 : Sp := ⟨0, 0, 0, 0, 0⟩

theorem sp0_ok : sp0.okB 0 := by simp [Sp.okB, sp0]

/-- All cells of a list of steps, one after the other. -/
def spCells (l : List Sp) : List Value := (l.map Sp.cells).flatten

def ptCells (l : List Sp) : List Value := (l.map Sp.ptc).flatten

theorem spCells_length (l : List Sp) : (spCells l).length = 5 * l.length := by
  induction l with
  | nil => rfl
  | cons a l ih => simp only [spCells, List.map_cons, List.flatten_cons, List.length_append, Sp.cells_length, List.length_cons] at ih ⊢; omega

theorem ptCells_length (l : List Sp) : (ptCells l).length = 4 * l.length := by
  induction l with
  | nil => rfl
  | cons a l ih => simp only [ptCells, List.map_cons, List.flatten_cons, List.length_append, Sp.ptc_length, List.length_cons] at ih ⊢; omega

theorem spCells_append (l m : List Sp) : spCells (l ++ m) = spCells l ++ spCells m := by simp [spCells]

theorem ptCells_append (l m : List Sp) : ptCells (l ++ m) = ptCells l ++ ptCells m := by simp [ptCells]

theorem spCells_at (l : List Sp) {i : Nat} {s : Sp} (h : l[i]? = some s) (j : Nat) (hj : j < 5) : (spCells l)[5 * i + j]? = s.cells[j]? := by
  induction l generalizing i with
  | nil => simp at h
  | cons a l ih =>
    have e : spCells (a :: l) = a.cells ++ spCells l := by simp [spCells]
    rw [e]
    cases i with
    | zero =>
      simp at h; subst h
      rw [List.getElem?_append_left (by rw [Sp.cells_length]; omega)]
      simp
    | succ i =>
      simp at h
      rw [List.getElem?_append_right (by rw [Sp.cells_length]; omega), Sp.cells_length, ← ih h]
      congr 1
      omega

theorem ptCells_at (l : List Sp) {i : Nat} {s : Sp} (h : l[i]? = some s) (j : Nat) (hj : j < 4) : (ptCells l)[4 * i + j]? = s.ptc[j]? := by
  induction l generalizing i with
  | nil => simp at h
  | cons a l ih =>
    have e : ptCells (a :: l) = a.ptc ++ ptCells l := by simp [ptCells]
    rw [e]
    cases i with
    | zero =>
      simp at h; subst h
      rw [List.getElem?_append_left (by rw [Sp.ptc_length]; omega)]
      simp
    | succ i =>
      simp at h
      rw [List.getElem?_append_right (by rw [Sp.ptc_length]; omega), Sp.ptc_length, ← ih h]
      congr 1
      omega

theorem spCells_one (l : List Sp) : ∀ u ∈ spCells l, u.oneCell' = true := by
  intro u hu
  simp only [spCells, List.mem_flatten, List.mem_map] at hu
  obtain ⟨_, ⟨s, _, rfl⟩, hu⟩ := hu
  simp only [Sp.cells, List.mem_cons, List.not_mem_nil, or_false] at hu
  rcases hu with rfl | rfl | rfl | rfl | rfl <;> rfl

theorem ptCells_one (l : List Sp) : ∀ u ∈ ptCells l, u.oneCell' = true := by
  intro u hu
  simp only [ptCells, List.mem_flatten, List.mem_map] at hu
  obtain ⟨_, ⟨s, _, rfl⟩, hu⟩ := hu
  simp only [Sp.ptc, List.mem_cons, List.not_mem_nil, or_false] at hu
  rcases hu with rfl | rfl | rfl | rfl <;> rfl

end Go.Proofs.YtdafomfpchlhpaaDoor
