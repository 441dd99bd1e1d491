/- Contracts: how a piece is laid: the function that the program picks. -/
import Derived.Test.YtkmgcmgnaeamaaaProg
import Derived.WalkKit
import Derived.ProofKit
import Derived.Handy
import Derived.WalkSpells
namespace Go.Proofs.Ytkmgcmgnaeamaaa
open Go.ChangeShapes Go.WideShapes Go.ChangeAt Go.RowKit

@[go_sem high] theorem fneq_L (w : World) : (binOp .eql 105 (.func (Fn.func 103) #[] #[]) .nilFunc).run Try.prog w = .ok (.bool false) w := by kernel_rfl

@[go_sem high] theorem fneq_R (w : World) : (binOp .eql 105 (.func (Fn.func 104) #[] #[]) .nilFunc).run Try.prog w = .ok (.bool false) w := by kernel_rfl

@[go_sem high] theorem fneq_S (w : World) : (binOp .eql 105 (.func (Fn.func 102) #[] #[]) .nilFunc).run Try.prog w = .ok (.bool false) w := by kernel_rfl

@[go_sem high] theorem fneq_no (w : World) : (binOp .eql 105 .nilFunc .nilFunc).run Try.prog w = .ok (.bool true) w := by kernel_rfl

theorem lay_L (w : World) :
    Calls Try.prog 91 #[.string ⟨#[76]⟩] w fun e w' => e = .returned (.func (Fn.func 103) #[] #[]) ∧ w = w' := by
  go_enter Try.func91, Try.ntmps91
  go_wp2
  go_ret
  exact ⟨rfl, rfl⟩

theorem lay_R (w : World) :
    Calls Try.prog 91 #[.string ⟨#[82]⟩] w fun e w' => e = .returned (.func (Fn.func 104) #[] #[]) ∧ w = w' := by
  go_enter Try.func91, Try.ntmps91
  go_wp2
  go_ret
  exact ⟨rfl, rfl⟩

theorem lay_S (w : World) :
    Calls Try.prog 91 #[.string ⟨#[83]⟩] w fun e w' => e = .returned (.func (Fn.func 102) #[] #[]) ∧ w = w' := by
  go_enter Try.func91, Try.ntmps91
  go_wp2
  go_ret
  exact ⟨rfl, rfl⟩

theorem lay_no (s : ByteArray) (n1 : (s.toList == [83]) = false) (n2 : (s.toList == [76]) = false) (n3 : (s.toList == [82]) = false) (w : World) :
    Calls Try.prog 91 #[.string s] w fun e w' => e = .returned .nilFunc ∧ w = w' := by
  go_enter Try.func91, Try.ntmps91
  go_wp2
  go_ret
  exact ⟨rfl, rfl⟩

end Go.Proofs.Ytkmgcmgnaeamaaa
