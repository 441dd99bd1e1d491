/- What a list of texts and whether there is one are, behind a call. -/
import Derived.Test.YtadlkmfgjmcgeaaMs
namespace Go.Proofs.Ytadlkmfgjmcgeaa
open Go.ChangeShapes Go.WideShapes Go.ChangeAt Go.RowKit

def STPost (l : List (List UInt8)) (b : Bool) (w : World) (e : Ending) (w' : World) : Prop :=
  ∃ v, e = .returned (.tuple #[v, .bool b]) ∧ w'.ownsRow w.heap.size 9 1 v l.length (strV l) ∧ Below w.heap.size w w'

theorem stNo {w w' : World} (h : Below w.heap.size w w') : STPost [] false w (.returned (.tuple #[.slice none 0 0, .bool false])) w' := ⟨_, rfl, World.ownsRow_nil _ _ _ _, h⟩

theorem strV_own {W : World} {B : Nat} {v : Value} {l : List (List UInt8)} (h : W.ownsRow B 9 1 v l.length (strV l)) : StrV W v l := by
  have h0 := h
  rcases h.2 with ⟨rfl, h2⟩ | ⟨g, cap, cur, rfl, _⟩
  · exact ⟨none, 0, by rw [h2], .inl (List.eq_nil_of_length_eq_zero h2)⟩
  · exact ⟨_, cap, rfl, .inr ⟨g, rfl, (h0.lt g rfl).2, str_of h0 rfl⟩⟩
theorem StrV.below {w w' : World} {v : Value} {l : List (List UInt8)} (h : StrV w v l) (hb : Below w.heap.size w w') : StrV w' v l := by
  obtain ⟨av, cap, rfl, h⟩ := h
  refine ⟨av, cap, rfl, h.imp id ?_⟩
  rintro ⟨g, rfl, hg, hs⟩
  exact ⟨g, rfl, Nat.lt_of_lt_of_le hg hb.size, hs.below hg hb⟩
theorem StrV.grown {w w' : World} {v : Value} {l : List (List UInt8)} {row : Option Nat} (h : StrV w v l) (hg : w.grownBy w' row) (hne : v.ownBlock = none ∨ v.ownBlock ≠ row) : StrV w' v l := by
  obtain ⟨av, cap, rfl, h⟩ := h
  refine ⟨av, cap, rfl, h.imp id ?_⟩
  rintro ⟨g, rfl, hlt, hs⟩
  refine ⟨g, rfl, Nat.lt_of_lt_of_le hlt hg.size, fun i u hu => hg.cell (hs i u hu) ?_⟩
  rcases hne with h | h
  · cases h
  · exact h
theorem free_own {W : World} {B : Nat} {v : Value} {l : List (List UInt8)} (h : W.ownsRow B 9 1 v l.length (strV l)) : ∀ g, v.ownBlock = some g → FreeR W g l.length := by
  intro g hg j hj
  rcases h.2 with ⟨rfl, _⟩ | ⟨g', cap, cur, rfl, _⟩
  · cases hg
  · simp only [Value.ownBlock, Option.some.injEq] at hg
    subst hg
    exact h.frozenAt j
theorem own_apart {W W' : World} {B B' : Nat} {e e' size size' n n' : Nat} {v v' : Value} {xs xs' : List Value} (h : W.ownsRow B e size v n xs) (h' : W'.ownsRow B' e' size' v' n' xs') (hB : W.heap.size ≤ B') : v.ownBlock = none ∨ v.ownBlock ≠ v'.ownBlock := by
  cases hv : v.ownBlock with
  | none => exact .inl rfl
  | some k =>
    refine .inr fun e => ?_
    have h1 := (h.lt k hv).2
    have h2 := (h'.lt k e.symm).1
    omega

end Go.Proofs.Ytadlkmfgjmcgeaa
