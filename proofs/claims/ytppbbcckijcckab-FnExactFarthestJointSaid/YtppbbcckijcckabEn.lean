/- Contracts: the program's stepsOf at what is no track, endOf and EndOf. -/
import Derived.Test.YtppbbcckijcckabSo
namespace Go.Proofs.Ytppbbcckijcckab
open Go.ChangeShapes Go.WideShapes Go.ChangeAt Go.RowKit

theorem stepsOf_no (s : ByteArray) (hs : s.size ≤ 1048576) (ht : tkB s = false) (w : World) :
    Calls Try.prog 68 #[.string s] w fun e w' => e = .returned (.tuple #[.slice none 0 0, .bool false]) ∧ w = w' := by
  go_enter Try.func68, Try.ntmps68
  go_wp2_with (go_at_call 78; refine (imIsTrack_any s hs _).mono ?_; rintro e w' ⟨rfl, rfl⟩)
  go_ret2
  exact ⟨rfl, rfl⟩

/-- The end of a track, the step at 0 for what is none. -/
def enS (s : ByteArray) : Sp := cond (tkB s) (fin sp0 s.data.toList) sp0

theorem enS_yes {s : ByteArray} (h : tkB s = true) : enS s = fin sp0 s.data.toList := by simp [enS, h]

theorem enS_no {s : ByteArray} (h : tkB s = false) : enS s = sp0 := by simp [enS, h]

end Go.Proofs.Ytppbbcckijcckab
