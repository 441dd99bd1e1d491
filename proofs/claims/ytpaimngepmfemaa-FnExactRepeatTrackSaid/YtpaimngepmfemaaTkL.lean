/- Contracts: IsTrack of the model and of the program, as the laws ask for them. -/
import Derived.Test.YtpaimngepmfemaaTk
import Derived.Test.YtpaimngepmfemaaBa
namespace Go.Proofs.Ytpaimngepmfemaa
open Go.ChangeShapes Go.WideShapes Go.ChangeAt Go.RowKit

theorem spIsTrack (s : ByteArray) (hs : s.size ≤ 1048576) (w : World) :
    Calls Try.prog 11 #[.string s] w fun e w' => e = .returned (.bool (tkB s)) ∧ Below w.heap.size w w' := by
  go_enter Try.func11, Try.ntmps11
  go_wp2_with (go_at_call 27; refine (tkGood_any s hs _).mono ?_; rintro e w' ⟨rfl, rfl⟩)
  go_ret
  exact ⟨rfl, Below.refl _ _⟩

theorem imIsTrack (s : ByteArray) (hs : s.size ≤ 1048576) (w : World) :
    Calls Try.prog 12 #[.string s] w fun e w' => e = .returned (.bool (tkB s)) ∧ Below w.heap.size w w' := grownOf (imIsTrack_any s hs w)

end Go.Proofs.Ytpaimngepmfemaa
