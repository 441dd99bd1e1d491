/- Contract: the program's stepsOf. -/
import Derived.Test.YtadlkmfgjmcgeabTkL
import Derived.Test.YtadlkmfgjmcgeabStM
import Derived.Test.YtadlkmfgjmcgeabSt
import Derived.Laws.AppendOwn
import Derived.Laws.OwnMore
import Derived.Deep.AppendLies
namespace Go.Proofs.Ytadlkmfgjmcgeab
open Go.ChangeShapes Go.WideShapes Go.ChangeAt Go.RowKit

theorem stInfo : (Try.prog.info? 40).map (fun i => (i.zero, i.size, i.bytes)) = some (some (.agg #[.int .i64 0, .int .i64 0, .int .i64 0, .int .i64 0, .int .i64 0]), 5, 40) := by kernel_rfl

theorem own_below {W w1 : World} {B : Nat} {e : TypeId} {size n : Nat} {v : Value} {xs : List Value} (h : W.ownsRow B e size v n xs) (hb : Below W.heap.size W w1) : w1.ownsRow B e size v n xs :=
  h.kept (row := none) ⟨hb.os, hb.tape, hb.output, hb.size, fun k hk _ => hb.block k hk⟩ (by cases v.ownBlock <;> simp)

theorem own_sp {W : World} {B n g cap i : Nat} {e : TypeId} {l : List Sp} {s : Sp} (h : W.ownsRow B e 5 (.slice (some ⟨g, 0, none⟩) n cap) n (spCells l)) (hn : l.length = n) (hs : l[i]? = some s) :
    W.cell? ⟨g, i * 5, none⟩ = some (.int .i64 s.x0) ∧ W.cell? ⟨g, i * 5 + 1, none⟩ = some (.int .i64 s.x1) ∧ W.cell? ⟨g, i * 5 + 2, none⟩ = some (.int .i64 s.x2) ∧ W.cell? ⟨g, i * 5 + 3, none⟩ = some (.int .i64 s.x3) ∧ W.cell? ⟨g, i * 5 + 4, none⟩ = some (.int .i64 s.h) := by
  have hi : i < n := by rw [← hn]; exact (List.getElem?_eq_some_iff.1 hs).1
  have a := fun j (hj : j < 5) => (h.cellAt (i * 5 + j) (by omega)).trans ((by rw [Nat.mul_comm]) : _ = (spCells l)[5 * i + j]?) |>.trans (spCells_at l hs j hj)
  exact ⟨a 0 (by omega), a 1 (by omega), a 2 (by omega), a 3 (by omega), a 4 (by omega)⟩

def StepsPost (s : ByteArray) (w : World) (e : Ending) (w' : World) : Prop :=
  ∃ g cap, e = .returned (.tuple #[.slice (some ⟨g, 0, none⟩) (s.size + 1) cap, .bool true]) ∧ w'.ownsRow w.heap.size 40 5 (.slice (some ⟨g, 0, none⟩) (s.size + 1) cap) (s.size + 1) (spCells (lays sp0 s.data.toList)) ∧ Below w.heap.size w w'

theorem lays_take (s : ByteArray) (k : Nat) (hk : k < s.size) (c : UInt8) (hc : s[k] = c) : lays sp0 (s.data.toList.take (k + 1)) = lays sp0 (s.data.toList.take k) ++ [(fin sp0 (s.data.toList.take k)).next c] := by
  rw [take_snoc s k hk, lays_snoc, hc]
theorem lays_at (s : ByteArray) (k : Nat) (hk : k ≤ s.size) : (lays sp0 (s.data.toList.take k))[k]? = some (fin sp0 (s.data.toList.take k)) := by
  have h := lays_last sp0 (s.data.toList.take k)
  rwa [List.length_take, size_list, Nat.min_eq_left hk] at h
theorem lays_len (s : ByteArray) (k : Nat) (hk : k ≤ s.size) : (lays sp0 (s.data.toList.take k)).length = k + 1 := by
  rw [lays_length, List.length_take, size_list, Nat.min_eq_left hk]

end Go.Proofs.Ytadlkmfgjmcgeab
