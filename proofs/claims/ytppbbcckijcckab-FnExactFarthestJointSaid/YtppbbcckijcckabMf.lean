/- Contracts: meetings in the program: the first one, and how many. -/
import Derived.Test.YtppbbcckijcckabMe
import Derived.Test.YtppbbcckijcckabSn
namespace Go.Proofs.Ytppbbcckijcckab
open Go.ChangeShapes Go.WideShapes Go.ChangeAt Go.RowKit

set_option linter.unusedVariables false

theorem jt_of {W : World} {B n g cap : Nat} {e : TypeId} {l : List Sp} (h : W.ownsRow B e 4 (.slice (some ⟨g, 0, none⟩) n cap) n (ptCells l)) (hn : l.length = n) : JtAt W g l := fun i p hp => own_pt h hn hp

theorem own_cap {W : World} {B n g cap size : Nat} {e : TypeId} {xs : List Value} (h : W.ownsRow B e size (.slice (some ⟨g, 0, none⟩) n cap) n xs) : n ≤ cap ∧ cap ≤ maxLen := by
  rcases h.2 with ⟨h, _⟩ | ⟨g', cap', cur, h, _, _, h1, h2, _⟩
  · cases h
  · injection h with _ _ h3
    subst h3
    exact ⟨h1, h2⟩

theorem own_form {W : World} {B n size : Nat} {e : TypeId} {v : Value} {xs : List Value} (h : W.ownsRow B e size v n xs) : ∃ av cv, v = .slice av n cv := by
  rcases h.2 with ⟨h, h0⟩ | ⟨g, cap, cur, h, _⟩
  · exact ⟨none, 0, by rw [h, h0]⟩
  · exact ⟨_, _, h⟩

end Go.Proofs.Ytppbbcckijcckab
