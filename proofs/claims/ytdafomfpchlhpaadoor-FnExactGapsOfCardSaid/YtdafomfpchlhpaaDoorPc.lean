/- Contract: which bytes are pieces, in the model. -/
import Derived.Test.YtdafomfpchlhpaaDoorProg
import Derived.WalkKit
import Derived.ProofKit
import Derived.Handy
namespace Go.Proofs.YtdafomfpchlhpaaDoor
open Go.ChangeShapes Go.WideShapes Go.ChangeAt Go.RowKit

def pcB (c : Int) : Bool := decide (c = 83 ∨ c = 76 ∨ c = 82)

theorem ptPiece_any (c : Int) (w : World) :
    Calls Tryd.prog 71 #[.int .u8 c] w fun e w' => e = .returned (.bool (pcB c)) ∧ w = w' := by
  by_cases h1 : c = 83
  · subst h1
    go_enter Tryd.func71, Tryd.ntmps71
    go_wp2
    go_ret
    exact ⟨rfl, rfl⟩
  by_cases h2 : c = 76
  · subst h2
    go_enter Tryd.func71, Tryd.ntmps71
    go_wp2
    go_ret
    exact ⟨rfl, rfl⟩
  have b1 : (c == 83) = false := by simpa using h1
  have b2 : (c == 76) = false := by simpa using h2
  go_enter Tryd.func71, Tryd.ntmps71
  go_wp2
  all_goals go_ret
  all_goals exact ⟨by by_cases h3 : c = 82 <;> simp [pcB, h1, h2, h3], rfl⟩

end Go.Proofs.YtdafomfpchlhpaaDoor
