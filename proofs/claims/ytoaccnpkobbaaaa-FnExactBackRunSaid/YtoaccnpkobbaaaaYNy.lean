/- Contract: a step, in the program. -/
import Derived.Test.YtoaccnpkobbaaaaYNx
namespace Go.Proofs.Ytoaccnpkobbaaaa
open Go.ChangeShapes Go.WideShapes Go.ChangeAt Go.RowKit
open Yd

set_option linter.unusedVariables false

/-- What is there behind the store of the switch's state. -/
structure NxB (w wc : World) (g' d m : Nat) (a : Int) (L : List Int) : Prop where
  size : w.heap.size + 1 + 1 < wc.heap.size
  below : Below w.heap.size w wc
  y1 : wc.cell? ⟨w.heap.size, 1, none⟩ = some (.slice (some ⟨g', 0, none⟩) m d)
  s0 : wc.cell? ⟨w.heap.size + 1, 0, none⟩ = some (.int .i64 a)
  sk : ∀ (k : Nat) s, L[k]? = some s → wc.cell? ⟨w.heap.size + 1, 1 + k, none⟩ = some (.int .i64 s)
  z : ∀ k : Nat, k < 7 → wc.cell? ⟨w.heap.size + 1 + 1, k, none⟩ = some (.int .i64 0)
  fs : ∀ k : Nat, wc.frozen? ⟨w.heap.size + 1, k, none⟩ = false
  fz : ∀ k : Nat, wc.frozen? ⟨w.heap.size + 1 + 1, k, none⟩ = false

theorem NxAt.store {w w5 wB : World} {g c g' d n m : Nat} {a x0 x1 x2 x3 x4 x5 : Int} (N : NxAt w w5 g c g' d n m a x0 x1 x2 x3 x4 x5) (hb : Below w5.heap.size w5 wB) (k : Nat) (s v : Int) (hk : [x0, x1, x2, x3, x4, x5][k]? = some s) :
    NxB w (wB.setCell ⟨w.heap.size + 1, 1 + k, none⟩ (.int .i64 v)) g' d m a ([x0, x1, x2, x3, x4, x5].set k v) := by
  have e := N.size
  have hz := hb.size
  refine ⟨by simp; omega, ((N.below.trans (hb.mono (by omega))).setCell (by simp) _), ?_, ?_, fun j y hj => ?_, fun j hj => ?_, fun j => ?_, fun j => ?_⟩
  · exact cl_set (cl_below N.y1 (by omega) hb) _ _ (by simp)
  · rw [World.cell?_setCell_other (h := fun q => by injection q with _ q _; omega)]
    exact cl_below N.s0 (by omega) hb
  · by_cases ej : k = j
    · subst ej
      rw [World.cell?_setCell_same (h := cl_below (N.sk k s hk) (by omega) hb)]
      have hkl := (List.getElem?_eq_some_iff.1 hk).1
      rw [List.getElem?_set, if_pos rfl, if_pos hkl] at hj
      injection hj with hj
      rw [hj]
    · rw [World.cell?_setCell_other (h := fun q => ej (by injection q with _ q _; omega))]
      rw [List.getElem?_set, if_neg ej] at hj
      exact cl_below (N.sk j y hj) (by omega) hb
  · exact cl_set (cl_below (N.z j hj) (by omega) hb) _ _ (by simp)
  · rw [World.frozen?_setCell, hb.frozen (p := ⟨w.heap.size + 1, j, none⟩) (by show w.heap.size + 1 < _; omega)]
    exact N.fs j
  · rw [World.frozen?_setCell, hb.frozen (p := ⟨w.heap.size + 1 + 1, j, none⟩) (by show w.heap.size + 1 + 1 < _; omega)]
    exact N.fz j

end Go.Proofs.Ytoaccnpkobbaaaa
