/- Contracts: how a piece is laid: the function that the program picks. -/
import Derived.Test.YtdafomfpchlhpaaDoorProg
import Derived.WalkKit
import Derived.ProofKit
import Derived.Handy
import Derived.WalkSpells
namespace Go.Proofs.YtdafomfpchlhpaaDoor
open Go.ChangeShapes Go.WideShapes Go.ChangeAt Go.RowKit

@[go_sem high] theorem fneq_L (w : World) : (binOp .eql 71 (.func (Fn.func 98) #[] #[]) .nilFunc).run Tryd.prog w = .ok (.bool false) w := by kernel_rfl

@[go_sem high] theorem fneq_R (w : World) : (binOp .eql 71 (.func (Fn.func 99) #[] #[]) .nilFunc).run Tryd.prog w = .ok (.bool false) w := by kernel_rfl

@[go_sem high] theorem fneq_S (w : World) : (binOp .eql 71 (.func (Fn.func 97) #[] #[]) .nilFunc).run Tryd.prog w = .ok (.bool false) w := by kernel_rfl

@[go_sem high] theorem fneq_no (w : World) : (binOp .eql 71 .nilFunc .nilFunc).run Tryd.prog w = .ok (.bool true) w := by kernel_rfl

theorem lay_L (w : World) :
    Calls Tryd.prog 73 #[.string ⟨#[76]⟩] w fun e w' => e = .returned (.func (Fn.func 98) #[] #[]) ∧ w = w' := by
  go_enter Tryd.func73, Tryd.ntmps73
  go_wp2
  go_ret
  exact ⟨rfl, rfl⟩

theorem lay_R (w : World) :
    Calls Tryd.prog 73 #[.string ⟨#[82]⟩] w fun e w' => e = .returned (.func (Fn.func 99) #[] #[]) ∧ w = w' := by
  go_enter Tryd.func73, Tryd.ntmps73
  go_wp2
  go_ret
  exact ⟨rfl, rfl⟩

theorem lay_S (w : World) :
    Calls Tryd.prog 73 #[.string ⟨#[83]⟩] w fun e w' => e = .returned (.func (Fn.func 97) #[] #[]) ∧ w = w' := by
  go_enter Tryd.func73, Tryd.ntmps73
  go_wp2
  go_ret
  exact ⟨rfl, rfl⟩

theorem lay_no (s : ByteArray) (n1 : (s.toList == [83]) = false) (n2 : (s.toList == [76]) = false) (n3 : (s.toList == [82]) = false) (w : World) :
    Calls Tryd.prog 73 #[.string s] w fun e w' => e = .returned .nilFunc ∧ w = w' := by
  go_enter Tryd.func73, Tryd.ntmps73
  go_wp2
  go_ret
  exact ⟨rfl, rfl⟩

end Go.Proofs.YtdafomfpchlhpaaDoor
