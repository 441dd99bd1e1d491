/- Contracts: lists of numbers compared, marked and looked at again. -/
import Derived.Test.YtadlkmfgjmcgeaaBa
import Derived.LoopTactic
import Derived.Outline
import Derived.Deep.QuietTactic
import Derived.BigQuiet
import Derived.Laws.AppendOwn
import Derived.Laws.OwnMore
import Derived.Deep.AppendLies
namespace Go.Proofs.Ytadlkmfgjmcgeaa
open Go.ChangeShapes Go.WideShapes Go.ChangeAt Go.RowKit

set_option linter.unusedVariables false

/-- Block g holds the numbers xs from its beginning on. -/
def RowI (w : World) (g : Nat) (xs : List Int) : Prop := ∀ (j : Nat) x, xs[j]? = some x → w.cell? ⟨g, j, none⟩ = some (.int .i64 x)
/-- .. the first n are the numbers from k on. -/
def RowK (w : World) (g n : Nat) (k : Int) : Prop := ∀ j : Nat, j < n → w.cell? ⟨g, j, none⟩ = some (.int .i64 (k + j))
def FreeR (w : World) (g n : Nat) : Prop := ∀ j : Nat, j < n → w.frozen? ⟨g, j, none⟩ = false

theorem RowI.below {w w' : World} {g m : Nat} {xs : List Int} (h : RowI w g xs) (hg : g < m) (hb : Below m w w') : RowI w' g xs := fun j x hx => by
  rw [hb.cell (p := ⟨g, j, none⟩) hg]; exact h j x hx
theorem RowK.below {w w' : World} {g n m : Nat} {k : Int} (h : RowK w g n k) (hg : g < m) (hb : Below m w w') : RowK w' g n k := fun j hj => by
  rw [hb.cell (p := ⟨g, j, none⟩) hg]; exact h j hj
theorem RowI.grown {w w' : World} {g : Nat} {row : Option Nat} {xs : List Int} (h : RowI w g xs) (hg : w.grownBy w' row) (hne : some g ≠ row) : RowI w' g xs := fun j x hx =>
  hg.cell (h j x hx) hne

theorem below_drawn {w : World} (n m : Nat) : Below m w (w.drewN n) := ⟨rfl, rfl, rfl, Nat.le_refl _, fun _ _ => rfl⟩

theorem set_grown {w wr : World} {g : Nat} (h : w.grownBy wr (some g)) (j : Nat) (v : Value) : w.grownBy (wr.setCell ⟨g, j, none⟩ v) (some g) :=
  ⟨h.os, h.tape, h.output, by simpa [World.setCell] using h.size, fun k hk hne => by rw [Below.heap_setCell _ _ _ _ (fun e => hne (by simp [e]))]; exact h.block k hk hne⟩

end Go.Proofs.Ytadlkmfgjmcgeaa
