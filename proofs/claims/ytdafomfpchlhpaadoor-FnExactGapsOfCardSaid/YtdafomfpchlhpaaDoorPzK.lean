/- An argument that is a puzzle, opened to its parts; puzzles measured, copied and compared in the laws. -/
import Derived.Test.YtdafomfpchlhpaaDoorKit
import Derived.Test.YtdafomfpchlhpaaDoorPzM
import Derived.ChangeMaps5
import Derived.Lib.SmallJoins
namespace Go.Proofs.YtdafomfpchlhpaaDoor
open Go.ChangeShapes Go.WideShapes Go.ChangeAt Go.RowKit Go.Joins

set_option linter.unusedVariables false

set_option maxRecDepth 100000 in
theorem open_puzzle {H : Type} {enc : TypeId × Value → H} {W : World} {base : Nat} {spare : Nat → Bool} {held : Bool} {r : Reach} {b0 : Nat} {v : Value} {d : DataW H} {p : List MemPlace}
    (hv : Value.okWide Tryd.prog W r b0 23 v) (h : DataW.Trod enc Tryd.prog W base spare held 23 v d p) : ∃ q : Pz, v = pv q ∧ q.t.size ≤ maxLen := by
  obtain ⟨c0, c1, c2, y0, y1, y2, m, rfl, _, _, hy0, hy1, hy2⟩ := open_agg3 Tryd.underlying23 (by kernel_rfl) (by kernel_rfl) hv h
  obtain ⟨t, e0, _, ht⟩ := DataW.trod_string Tryd.underlying9 hy0
  obtain ⟨s1, e1, _, _⟩ := DataW.trod_int Tryd.underlying3 hy1
  obtain ⟨s2, e2, _, _⟩ := DataW.trod_int Tryd.underlying3 hy2
  simp at e0 e1 e2
  subst e0 e1 e2
  exact ⟨⟨t, s1, s2⟩, rfl, ht⟩

set_option maxRecDepth 100000 in
theorem szPuzzle_any (p : Pz) (hp : p.t.size ≤ maxLen) (w : World) :
    Calls Tryd.prog 18 #[pv p, .int .i64 1048576] w fun e w' => e = .returned (.int .i64 (if 1048576 < p.t.size then -1 else 1048576 - (p.t.size : Int))) ∧ Below w.heap.size w w' := by
  obtain ⟨t, s, c⟩ := p
  simp only at hp ⊢
  unfold maxLen at hp
  by_cases h : 1048576 < t.size
  · have h1 : (1048576 : Int) - (t.size : Int) < 0 := by omega
    rw [if_pos h]
    go_enter Tryd.func18, Tryd.ntmps18
    go_wp2_with fail
    go_returns
    exact ⟨rfl, by go_grown⟩
  · have h1 : ¬ (1048576 : Int) - (t.size : Int) < 0 := by omega
    rw [if_neg h]
    go_enter Tryd.func18, Tryd.ntmps18
    go_wp2_with fail
    go_returns
    exact ⟨rfl, by go_grown⟩

set_option maxRecDepth 100000 in
set_option maxHeartbeats 400000 in
theorem toPuzzle_any (p : Pz) (w : World) :
    Calls Tryd.prog 20 #[pv p] w fun e w' => e = .returned (pv p) ∧ Below w.heap.size w w' := by
  obtain ⟨t, s, c⟩ := p
  go_enter Tryd.func20, Tryd.ntmps20
  go_wp2
  go_returns
  exact ⟨rfl, by go_grown⟩

set_option maxRecDepth 100000 in
set_option maxHeartbeats 400000 in
theorem eqPuzzle_same (p : Pz) (w : World) :
    Calls Tryd.prog 41 #[pv p, pv p] w fun e w' => e = .returned (.bool true) ∧ Below w.heap.size w w' := by
  obtain ⟨t, s, c⟩ := p
  go_enter Tryd.func41, Tryd.ntmps41
  go_wp2
  go_returns
  exact ⟨rfl, by go_grown⟩

end Go.Proofs.YtdafomfpchlhpaaDoor
