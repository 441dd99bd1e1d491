/- Blocks of bytes that a call has made. -/
import Derived.Test.YtogimjbjdgccnaaBa
import Derived.Test.YtogimjbjdgccnaaTkM
import Derived.Laws.IdiomStrings
import Derived.Lib.Builder
namespace Go.Proofs.Ytogimjbjdgccnaa
open Go.ChangeShapes Go.WideShapes Go.ChangeAt Go.RowKit

/-- Block B holds the bytes l, none of them frozen. -/
def Bys (w : World) (B : Nat) (l : List UInt8) : Prop :=
  (∀ j (hj : j < l.length), w.cell? ⟨B, j, none⟩ = some (.int .u8 (l[j].toNat : Int))) ∧ ∀ j, j < l.length → w.frozen? ⟨B, j, none⟩ = false

theorem Bys.new (w : World) (s : ByteArray) (cap : Nat) (e : TypeId) :
    Bys (w.alloc (.cells (bytesRow s cap) e ((bytesRow s cap).size, (bytesRow s cap).size + 1))) w.heap.size s.data.toList := by
  have hsz : s.size ≤ (bytesRow s cap).size := by
    simp only [bytesRow, Array.size_append, Array.size_map]
    exact Nat.le_add_right _ _
  have hat := bytesRow_at s cap
  generalize bytesRow s cap = cs at hsz hat ⊢
  have hb := heap_alloc_new w (.cells cs e (cs.size, cs.size + 1))
  generalize w.alloc (.cells cs e (cs.size, cs.size + 1)) = W at hb ⊢
  refine ⟨fun j hj => ?_, fun j hj => ?_⟩
  · rw [Lib.cell_of_heap hb]
    have hj' : j < s.data.size := by simpa using hj
    rw [hat j hj']
    simp
  · have hj' : j < s.size := by simpa using hj
    have ho : decide (cs.size ≤ j) = false := by simp; omega
    simp [World.frozen?, hb, ho]

theorem Bys.set {w : World} {B : Nat} {l : List UInt8} (h : Bys w B l) {k : Nat} (hk : k < l.length) (c : UInt8) (v : Value) (hv : v = .int .u8 (c.toNat : Int)) : Bys (w.setCell ⟨B, k, none⟩ v) B (l.set k c) := by
  subst hv
  refine ⟨fun j hj => ?_, fun j hj => ?_⟩
  · have hj' : j < l.length := by simpa using hj
    by_cases e : k = j
    · subst e
      rw [World.cell?_setCell_same (h := h.1 k hk)]
      simp
    · rw [World.cell?_setCell_other (h := fun h => e (by injection h)), h.1 j hj']
      simp [e]
  · rw [World.frozen?_setCell]
    exact h.2 j (by simpa using hj)

theorem Bys.below {w w' : World} {B n : Nat} {l : List UInt8} (h : Bys w B l) (hB : B < n) (hb : Below n w w') : Bys w' B l :=
  ⟨fun j hj => by rw [hb.cell (p := ⟨B, j, none⟩) hB]; exact h.1 j hj, fun j hj => by rw [hb.frozen (p := ⟨B, j, none⟩) hB]; exact h.2 j hj⟩

theorem back_any (w : World) (B cap n : Nat) (l : List UInt8) (hn : l.length = n) (h : Bys w B l) :
    (convert 29 9 (.slice (some ⟨B, 0, none⟩) n cap)).run Try.prog w = .ok (.string (ofL l)) w := by
  subst hn
  refine run_convert_bytes_back w 29 9 5 ⟨B, 0, none⟩ cap l Try.underlying29 Try.underlying5 Try.underlying9 (fun j hj => ?_)
  rw [← h.1 j hj]
  by_cases e : j = 0 <;> simp [Addr.add, e]

end Go.Proofs.Ytogimjbjdgccnaa
