/- Contracts: the ends of tracks in the model, and ends compared. -/
import Derived.Test.YtppbbcckijcckabLy
import Derived.Test.YtppbbcckijcckabEn
namespace Go.Proofs.Ytppbbcckijcckab
open Go.ChangeShapes Go.WideShapes Go.ChangeAt Go.RowKit

theorem own_pt {W : World} {B n g cap i : Nat} {e : TypeId} {l : List Sp} {s : Sp} (h : W.ownsRow B e 4 (.slice (some ⟨g, 0, none⟩) n cap) n (ptCells l)) (hn : l.length = n) (hs : l[i]? = some s) :
    W.cell? ⟨g, i * 4, none⟩ = some (.int .i64 s.x0) ∧ W.cell? ⟨g, i * 4 + 1, none⟩ = some (.int .i64 s.x1) ∧ W.cell? ⟨g, i * 4 + 2, none⟩ = some (.int .i64 s.x2) ∧ W.cell? ⟨g, i * 4 + 3, none⟩ = some (.int .i64 s.x3) := by
  have hi : i < n := by rw [← hn]; exact (List.getElem?_eq_some_iff.1 hs).1
  have a := fun j (hj : j < 4) => (h.cellAt (i * 4 + j) (by omega)).trans ((by rw [Nat.mul_comm]) : _ = (ptCells l)[4 * i + j]?) |>.trans (ptCells_at l hs j hj)
  exact ⟨a 0 (by omega), a 1 (by omega), a 2 (by omega), a 3 (by omega)⟩

theorem own_hd {W : World} {B n g cap i : Nat} {e : TypeId} {l : List Sp} {s : Sp} (h : W.ownsRow B e 1 (.slice (some ⟨g, 0, none⟩) n cap) n (hdCells l)) (hn : l.length = n) (hs : l[i]? = some s) :
    W.cell? ⟨g, i, none⟩ = some (.int .i64 s.h) := by
  have hi : i < n := by rw [← hn]; exact (List.getElem?_eq_some_iff.1 hs).1
  rw [h.cellAt i (by omega)]
  simp [hdCells, hs]

theorem lays_lenA (a : Sp) (s : ByteArray) : (lays a s.data.toList).length = s.size + 1 := by rw [lays_length, size_list]

theorem lays_atA (a : Sp) (s : ByteArray) : (lays a s.data.toList)[s.size]? = some (fin a s.data.toList) := by
  have h := lays_last a s.data.toList
  rwa [size_list] at h

/-- '==' on two steps. -/
@[go_sem high] theorem eqSt (a0 a1 a2 a3 a4 b0 b1 b2 b3 b4 : Int) (w : World) : (binOp .eql 77 (.agg #[.int .i64 a0, .int .i64 a1, .int .i64 a2, .int .i64 a3, .int .i64 a4]) (.agg #[.int .i64 b0, .int .i64 b1, .int .i64 b2, .int .i64 b3, .int .i64 b4])).run Try.prog w = .ok (.bool ((a0 == b0 && (a1 == b1 && (a2 == b2 && a3 == b3))) && a4 == b4)) w := by
  have hS : Try.prog.underlying 77 = some (.struct (Try.prog.fieldsOf 77)) := by kernel_rfl
  have hp : Try.prog.stoodInHeld 77 = false := by kernel_rfl
  rw [run_eql_struct, show (10000 : Nat) = 9999 + 1 from rfl, run_equalIn_agg w 9999 77 _ _ hS hp]
  simp only [Program.fieldsOf, Try.underlying77]
  go_simp
  by_cases h0 : a0 = b0 <;> by_cases h1 : a1 = b1 <;> by_cases h2 : a2 = b2 <;> by_cases h3 : a3 = b3 <;> by_cases h4 : a4 = b4 <;> simp [h0, h1, h2, h3, h4]

end Go.Proofs.Ytppbbcckijcckab
