/- The first one of the tracks laid whole from a box whose end lies farthest. -/
import Derived.Test.YtkmgcmgnaeamaaaEw
import Derived.Test.YtkmgcmgnaeamaaaQ5
namespace Go.Proofs.Ytkmgcmgnaeamaaa
open Go.ChangeShapes Go.WideShapes Go.ChangeAt Go.RowKit

/-- The end of x lies farther than that of g. -/
def fgW (x g : List UInt8) : Bool := farB (fin sp0 x) (fin sp0 g)

/-- The first j texts: the first one of them that lies farthest. -/
def feO (l : List (List UInt8)) (j : Nat) : Option (List UInt8) := fgO fgW (l.take j)

theorem feO_next {l : List (List UInt8)} {j : Nat} {b : List UInt8} (h : l[j]? = some b) : feO l (j + 1) = fgS fgW (feO l j) b := by
  rw [feO, List.take_add_one, h]
  exact fgO_snoc _ _ _

theorem feO_some {l : List (List UInt8)} {j : Nat} (h0 : 0 < j) (h : j ≤ l.length) : ∃ g, feO l j = some g ∧ g ∈ l := by
  obtain ⟨g, hg⟩ := fgO_some fgW (l.take j) (fun e => by
    have h1 := congrArg List.length e
    rw [List.length_take] at h1
    have h2 : min j l.length = 0 := h1
    omega)
  exact ⟨g, hg, List.mem_of_mem_take (fgO_mem _ _ _ hg)⟩

theorem bxW_pos0 : ∀ s : Nat, 0 < (bxW s 0).length
  | 0 => by have := bxL_zero []; rw [bxW_nil] at this; rw [this]; exact Nat.one_pos
  | s + 1 => by rw [bxW_last, List.length_map]; exact bxW_pos0 s

theorem bxW_pos (s : Nat) : ∀ c : Nat, 0 < (bxW s c).length
  | 0 => bxW_pos0 s
  | c + 1 => by
    rw [bxW_curve, List.length_append, List.length_map]
    have := bxW_pos s c
    omega

/-- The farthest end's track, and its norm. -/
def feG (b : Bq) : Option (List UInt8) := cond (bxB 8 b) (feO (bxW b.x.toNat b.r.toNat) (bxW b.x.toNat b.r.toNat).length) none

def feS (o : Option (List UInt8)) : Sp := fin sp0 (o.getD [])

def feN (o : Option (List UInt8)) : Bq := ⟨(feS o).n0, (feS o).n1⟩

theorem feN_none : feN none = ⟨0, 0⟩ := by
  have h0 : nm0 0 0 0 0 = 0 := by decide +kernel
  have h1 : nm1 0 0 0 0 = 0 := by decide +kernel
  show (⟨nm0 0 0 0 0, nm1 0 0 0 0⟩ : Bq) = ⟨0, 0⟩
  rw [h0, h1]

/-- Norms' bounds at an end. -/
theorem fe_nm {s : Sp} (h : s.okB 1000) : -4000000000000 ≤ s.n0 ∧ s.n0 ≤ 4000000000000 ∧ -4000000000000 ≤ s.n1 ∧ s.n1 ≤ 4000000000000 := by
  obtain ⟨⟨b0, b0'⟩, ⟨b1, b1'⟩, ⟨b2, b2'⟩, ⟨b3, b3'⟩, b4, b5⟩ := h
  exact nm_bd s.x0 s.x1 s.x2 s.x3 (by omega) (by omega) (by omega) (by omega) (by omega) (by omega) (by omega) (by omega)

theorem fin_okW {s c : Nat} (h : s + c ≤ 8) {r : List UInt8} (hr : r ∈ bxW s c) : (fin sp0 r).okB 1000 := by
  have h1 : (fin sp0 r, r) ∈ parts sp0 (s + c) := List.mem_map.2 ⟨r, (words_iffB _ _).2 (bxW_iff.1 hr).1, rfl⟩
  exact (parts_ok sp0_ok h1).1.mono (by omega)

/-- A block that is one part, not frozen. -/
theorem PtB.set {W : World} {g : Nat} {q : Sp} {T : ByteArray} (h : PtB W g q T) (p : Sp) (U : ByteArray) :
    PtB ((((((W.setCell ⟨g, 0, none⟩ (.int .i64 p.x0)).setCell ⟨g, 1, none⟩ (.int .i64 p.x1)).setCell ⟨g, 2, none⟩ (.int .i64 p.x2)).setCell ⟨g, 3, none⟩ (.int .i64 p.x3)).setCell ⟨g, 4, none⟩ (.int .i64 p.h)).setCell ⟨g, 5, none⟩ (.string U)) g p U := by
  unfold PtB at h ⊢
  simp [World.setCell, Array.getElem?_modify, h]

theorem PtB.cells {W : World} {g : Nat} {q : Sp} {T : ByteArray} (h : PtB W g q T) :
    W.cell? ⟨g, 0, none⟩ = some (.int .i64 q.x0) ∧ W.cell? ⟨g, 1, none⟩ = some (.int .i64 q.x1) ∧ W.cell? ⟨g, 2, none⟩ = some (.int .i64 q.x2) ∧ W.cell? ⟨g, 3, none⟩ = some (.int .i64 q.x3) ∧ W.cell? ⟨g, 4, none⟩ = some (.int .i64 q.h) ∧ W.cell? ⟨g, 5, none⟩ = some (.string T) := blk6 h

theorem PtB.free {W : World} {g : Nat} {q : Sp} {T : ByteArray} (h : PtB W g q T) (i : Nat) : W.frozen? ⟨g, i, none⟩ = false := by
  unfold PtB at h
  simp [World.frozen?, h]

theorem PtB.lt {W : World} {g : Nat} {q : Sp} {T : ByteArray} (h : PtB W g q T) : g < W.heap.size := (Array.getElem?_eq_some_iff.1 h).1

theorem PtB.other {W : World} {g : Nat} {q : Sp} {T : ByteArray} (h : PtB W g q T) {a : Addr} (ha : g ≠ a.block) (v : Value) : PtB (W.setCell a v) g q T := by
  unfold PtB at h ⊢
  have : ¬ a.block = g := fun e => ha e.symm
  simp [World.setCell, Array.getElem?_modify, h, this]

theorem PtB.new (W : World) (q : Sp) (T : ByteArray) : PtB (W.alloc (.cells #[.int .i64 q.x0, .int .i64 q.x1, .int .i64 q.x2, .int .i64 q.x3, .int .i64 q.h, .string T] 93)) W.heap.size q T := heap_alloc_new _ _

end Go.Proofs.Ytkmgcmgnaeamaaa
