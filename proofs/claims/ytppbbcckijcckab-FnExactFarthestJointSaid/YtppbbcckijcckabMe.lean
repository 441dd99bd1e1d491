/- Contract: the program's 'meetings'. -/
import Derived.Test.YtppbbcckijcckabSm
namespace Go.Proofs.Ytppbbcckijcckab
open Go.ChangeShapes Go.WideShapes Go.ChangeAt Go.RowKit

set_option linter.unusedVariables false

theorem own_blk {W : World} {B : Nat} {e t : TypeId} {size n : Nat} {v : Value} {xs : List Value} {g : Nat} {cs : Array Value} {fz : Nat × Nat} (h : W.ownsRow B e size v n xs) (hg : W.heap[g]? = some (.cells cs t fz)) (hne : e ≠ t) : some g ≠ v.ownBlock := by
  rcases h.2 with ⟨rfl, _⟩ | ⟨g', cap, cur, rfl, _, hg', _⟩
  · simp [Value.ownBlock]
  · intro he
    simp only [Value.ownBlock, Option.some.injEq] at he
    subst he
    rw [hg] at hg'
    simp only [Option.some.injEq, Obj.cells.injEq] at hg'
    exact hne hg'.2.1.symm

/-- Joints at their place, in a block that was there. -/
def JtAt (w : World) (g : Nat) (l : List Sp) : Prop :=
  ∀ i p, l[i]? = some p → w.cell? ⟨g, i * 4, none⟩ = some (.int .i64 p.x0) ∧ w.cell? ⟨g, i * 4 + 1, none⟩ = some (.int .i64 p.x1) ∧ w.cell? ⟨g, i * 4 + 2, none⟩ = some (.int .i64 p.x2) ∧ w.cell? ⟨g, i * 4 + 3, none⟩ = some (.int .i64 p.x3)

theorem JtAt.below {w w' : World} {g n : Nat} {l : List Sp} (h : JtAt w g l) (hg : g < n) (hb : Below n w w') : JtAt w' g l := by
  intro i p hp
  obtain ⟨a, b, c, d⟩ := h i p hp
  refine ⟨?_, ?_, ?_, ?_⟩
  · rw [hb.cell (p := ⟨g, i * 4, none⟩) hg]; exact a
  · rw [hb.cell (p := ⟨g, i * 4 + 1, none⟩) hg]; exact b
  · rw [hb.cell (p := ⟨g, i * 4 + 2, none⟩) hg]; exact c
  · rw [hb.cell (p := ⟨g, i * 4 + 3, none⟩) hg]; exact d

end Go.Proofs.Ytppbbcckijcckab
