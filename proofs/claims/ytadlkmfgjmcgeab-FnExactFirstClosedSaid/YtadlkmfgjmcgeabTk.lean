/- Contracts: which texts are tracks, in the model and in the program. -/
import Derived.Test.YtadlkmfgjmcgeabTkM
import Derived.Test.YtadlkmfgjmcgeabPc
import Derived.Test.YtadlkmfgjmcgeabLa
import Derived.WalkKit
import Derived.ProofKit
import Derived.Handy
import Derived.LoopTactic
import Derived.Lib.Hide
import Derived.Outline
import Derived.WalkSpells
namespace Go.Proofs.Ytadlkmfgjmcgeab
open Go.ChangeShapes Go.WideShapes Go.ChangeAt Go.RowKit

theorem pcB_pcb (c : UInt8) : pcB ((c.toNat : Nat) : Int) = pcb c := by
  rw [Bool.eq_iff_iff]
  simp only [pcB, pcb, decide_eq_true_eq, Bool.or_eq_true, beq_iff_eq, ← UInt8.toNat_inj]
  constructor <;> (intro h; simp at h ⊢; omega)

theorem lay_L' (x : ByteArray) (hx : x = ⟨#[76]⟩) (w : World) :
    Calls Try.prog 41 #[.string x] w fun e w' => e = .returned (.func (Fn.func 54) #[] #[]) ∧ w = w' := by subst hx; exact lay_L w
theorem lay_R' (x : ByteArray) (hx : x = ⟨#[82]⟩) (w : World) :
    Calls Try.prog 41 #[.string x] w fun e w' => e = .returned (.func (Fn.func 55) #[] #[]) ∧ w = w' := by subst hx; exact lay_R w
theorem lay_S' (x : ByteArray) (hx : x = ⟨#[83]⟩) (w : World) :
    Calls Try.prog 41 #[.string x] w fun e w' => e = .returned (.func (Fn.func 53) #[] #[]) ∧ w = w' := by subst hx; exact lay_S w
theorem lay_N' (x : ByteArray) (c : UInt8) (hx : x = ⟨#[c]⟩) (hp : pcb c = false) (w : World) :
    Calls Try.prog 41 #[.string x] w fun e w' => e = .returned .nilFunc ∧ w = w' := by
  subst hx
  simp only [pcb, Bool.or_eq_false_iff, beq_eq_false_iff_ne] at hp
  obtain ⟨p1, p2, p3⟩ := hp
  exact lay_no _ (by simp [ByteArray.toList_eq, p1]) (by simp [ByteArray.toList_eq, p2]) (by simp [ByteArray.toList_eq, p3]) w

theorem lay_cases {x : ByteArray} {c : UInt8} (hx : x = ⟨#[c]⟩) (hp : pcb c = true) (w : World) :
    ∃ g : FuncId, (g = 53 ∨ g = 54 ∨ g = 55) ∧ Calls Try.prog 41 #[.string x] w fun e w' => e = .returned (.func (Fn.func g) #[] #[]) ∧ w = w' := by
  rcases pcb_cases hp with rfl | rfl | rfl
  · exact ⟨_, .inl rfl, lay_S' x hx w⟩
  · exact ⟨_, .inr (.inl rfl), lay_L' x hx w⟩
  · exact ⟨_, .inr (.inr rfl), lay_R' x hx w⟩

end Go.Proofs.Ytadlkmfgjmcgeab
