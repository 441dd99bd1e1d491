/- Contracts: how many gaps a puzzle has, in the model and in the program. -/
import Derived.Test.YtdafomfpchlhpaaDoorPzG
namespace Go.Proofs.YtdafomfpchlhpaaDoor
open Go.ChangeShapes Go.WideShapes Go.ChangeAt Go.RowKit

set_option linter.unusedVariables false
set_option linter.unusedSimpArgs false

/-- The number of gaps, none if there is no puzzle. -/
def gaN (p : Pz) : Int := if pzB p then ((gps p.t.data.toList : Nat) : Int) else 0

theorem gaN_no {p : Pz} (h : pzB p = false) : gaN p = 0 := by simp [gaN, h]

theorem gaN_yes {p : Pz} (h : pzB p = true) : gaN p = ((gps p.t.data.toList : Nat) : Int) := by simp [gaN, h]

set_option maxRecDepth 100000 in
theorem spGapsOf (p : Pz) (hs : p.t.size ≤ 1048576) (w : World) : Calls Tryd.prog 22 #[pv p] w fun e w' => e = .returned (.tuple #[.int .i64 (gaN p), .bool (pzB p)]) ∧ Below w.heap.size w w' := by
  have P := Lib.hid (pzGood_any p hs)
  cases hb : pzB p
  · rw [gaN_no hb]
    rw [hb] at P
    clear hb
    obtain ⟨t, s, c⟩ := p
    go_enter Tryd.func22, Tryd.ntmps22
    go_wp2_with (go_at_call 54; (with_reducible refine (P.out _).mono ?_); rintro e wA ⟨rfl, h1⟩; (try with_reducible replace h1 := undrew h1); have hB : Below w.heap.size w wA := ba (by go_grown) h1; obtain ⟨hcwA, hfwA⟩ := bcell h1; have hqwA := h1.size; (try simp at hqwA); (try have hz0wA : w.heap.size < wA.heap.size := (by omega)); (try have he0wA : w.heap.size ≤ wA.heap.size := (by omega)))
    go_ret2
    exact ⟨rfl, by go_grown⟩
  · rw [gaN_yes hb]
    obtain ⟨_, _, _, k3, k4, k5, k6⟩ := pzB_ok hb
    rw [hb] at P
    clear hb
    generalize gps p.t.data.toList = G at *
    obtain ⟨t, s, c⟩ := p
    simp only at k3 k4 k5 k6
    have e1 : wrap64 (s + c) = (G : Int) := by rw [IntWalk.wrap64_in _ ⟨by omega, by omega⟩, k6]
    clear k3 k4 k5 k6
    go_enter Tryd.func22, Tryd.ntmps22
    go_wp2_with (go_at_call 54; (with_reducible refine (P.out _).mono ?_); rintro e wA ⟨rfl, h1⟩; (try with_reducible replace h1 := undrew h1); have hB : Below w.heap.size w wA := ba (by go_grown) h1; obtain ⟨hcwA, hfwA⟩ := bcell h1; have hqwA := h1.size; (try simp at hqwA); (try have hz0wA : w.heap.size < wA.heap.size := (by omega)); (try have he0wA : w.heap.size ≤ wA.heap.size := (by omega)))
    go_ret2
    exact ⟨congrArg (fun x => Ending.returned (.tuple #[.int .i64 x, .bool true])) e1, by go_grown⟩

set_option maxRecDepth 100000 in
theorem imGapsOf (p : Pz) (hs : p.t.size ≤ 1048576) (w : World) (hM : MxL w) : Calls Tryd.prog 23 #[pv p] w fun e w' => e = .returned (.tuple #[.int .i64 (gaN p), .bool (pzB p)]) ∧ Below w.heap.size w w' := by
  have P0 : ∀ W, Below w.heap.size w W → Calls Tryd.prog 21 #[pv p] W fun e w' => e = .returned (.bool (pzB p)) ∧ Below W.heap.size W w' := fun W hb => imIsPuzzle p hs W (hM.below hb)
  clear hM
  have P := Lib.hid P0
  clear P0
  have PG := Lib.hid (gaps_any p)
  cases hb : pzB p
  · rw [gaN_no hb]
    rw [hb] at P
    clear hb
    obtain ⟨t, s, c⟩ := p
    go_enter Tryd.func23, Tryd.ntmps23
    go_wp2_with (go_at_call 21; (with_reducible refine Calls.mono (P.out _ ?_) ?_); (focus (go_grown; done)); rintro e wA ⟨rfl, h1⟩; (try with_reducible replace h1 := undrew h1); have hB : Below w.heap.size w wA := ba (by go_grown) h1; obtain ⟨hcwA, hfwA⟩ := bcell h1; have hqwA := h1.size; (try simp at hqwA); (try have hz0wA : w.heap.size < wA.heap.size := (by omega)); (try have he0wA : w.heap.size ≤ wA.heap.size := (by omega)))
    go_ret2
    exact ⟨rfl, by go_grown⟩
  · rw [gaN_yes hb]
    rw [hb] at P
    clear hb
    generalize gps p.t.data.toList = G at *
    obtain ⟨t, s, c⟩ := p
    go_enter Tryd.func23, Tryd.ntmps23
    go_wp2_with (first | (go_at_call 21; (with_reducible refine Calls.mono (P.out _ ?_) ?_); (focus (go_grown; done)); rintro e wA ⟨rfl, h1⟩; (try with_reducible replace h1 := undrew h1); have hB : Below w.heap.size w wA := ba (by go_grown) h1; obtain ⟨hcwA, hfwA⟩ := bcell h1; have hqwA := h1.size; (try simp at hqwA); (try have hz0wA : w.heap.size < wA.heap.size := (by omega)); (try have he0wA : w.heap.size ≤ wA.heap.size := (by omega))) | (go_at_call 55; (with_reducible refine (PG.out _).mono ?_); rintro e wB ⟨rfl, h1⟩; (try with_reducible replace h1 := undrew h1); have hB : Below w.heap.size w wB := ba (by go_grown) h1; obtain ⟨hcwB, hfwB⟩ := bcell h1; have hqwB := h1.size; (try simp at hqwB); (try have hz0wB : w.heap.size < wB.heap.size := (by omega)); (try have he0wB : w.heap.size ≤ wB.heap.size := (by omega)); (try have hz1wB : wA.heap.size < wB.heap.size := (by omega)); (try have he1wB : wA.heap.size ≤ wB.heap.size := (by omega))))
    go_ret2
    exact ⟨rfl, by go_grown⟩

end Go.Proofs.YtdafomfpchlhpaaDoor
