/- Contracts: the model's texts of numbers and points. -/
import Derived.Test.YtoaccnpkobbaaaaDoorNuM
import Derived.Test.YtoaccnpkobbaaaaDoorRuA
import Derived.Test.YtoaccnpkobbaaaaDoorPt2
import Derived.Test.YtoaccnpkobbaaaaDoorCl
namespace Go.Proofs.YtoaccnpkobbaaaaDoor
open Go.ChangeShapes Go.WideShapes Go.ChangeAt Go.RowKit

set_option linter.unusedVariables false

set_option maxRecDepth 100000 in
set_option maxHeartbeats 1600000 in
theorem num_step (n : Nat) (h : ¬ n < 10) (h2 : n < 10000000) (hi : ∀ w : World, Calls Tryd.prog 35 #[.int .i64 ((n / 10 : Nat) : Int)] w fun e w' => e = .returned (.string (ofL (Lib.decDigits (n / 10)))) ∧ Below w.heap.size w w') (w : World) :
    Calls Tryd.prog 35 #[.int .i64 (n : Nat)] w fun e w' => e = .returned (.string (ofL (Lib.decDigits n))) ∧ Below w.heap.size w w' := by
  have hlen : (Lib.decDigits (n / 10)).length ≤ 7 := dd_len7 (by omega)
  obtain ⟨a, ha⟩ : ∃ a : Nat, n / 10 = a := ⟨_, rfl⟩
  obtain ⟨b, hb⟩ : ∃ b : Nat, n % 10 = b := ⟨_, rfl⟩
  rw [ha] at hi hlen
  have i2 : b < 10 := by omega
  have j1 : (0 : Int) ≤ (b : Int) := by omega
  have j2 : (b : Int) < 10 := by omega
  have hA : IntKind.i64.wrap ((n : Int) / 10) = (a : Int) := by rw [IntKind.wrap_i64]; omega
  have hB : (n : Int).tmod 10 = (b : Int) := by rw [Int.tmod_eq_emod_of_nonneg (by omega)]; omega
  have hC : IntKind.i64.wrap (48 + (b : Int)) = 48 + (b : Int) := by rw [IntKind.wrap_i64]; omega
  have hD : IntKind.u8.wrap (48 + (b : Int)) = 48 + (b : Int) := by rw [IntKind.wrap_u8]; omega
  have e1 : ofL (Lib.decDigits a) ++ oneD b = ofL (Lib.decDigits n) := by
    rw [dd_big h, ha, hb, oneD, ofL_append]
  have E := Lib.hid e1
  have hsz : (ofL (Lib.decDigits a)).size ≤ 7 := hlen
  have hsz2 : (oneD b).size ≤ 1 := Nat.le_refl _
  have NC := Lib.hid hi
  have hq : ∀ (B cap : Nat) (w : World), w.cell? ⟨B, 0, none⟩ = some (.int .u8 (48 + (b : Int))) → (convert 65 9 (.slice (some ⟨B, 0, none⟩) 1 cap)).run Tryd.prog w = .ok (.string (oneD b)) w := fun B cap w h => one_str b B cap i2 w h
  have i3 : ¬ n ≤ 9 := by omega
  clear e1 ha hb hi hlen
  go_enter Tryd.func35, Tryd.ntmps35
  go_wp2_with fail
  go_region_with (first | (go_at_call 35; (with_reducible refine (NC.out _).mono ?_); rintro e wA ⟨rfl, h1⟩; (try with_reducible replace h1 := undrew h1); have hB : Below w.heap.size w wA := ba (by go_grown) h1; obtain ⟨hcwA, hfwA⟩ := bcell h1; have hqwA := h1.size; (try simp at hqwA); (try have hz0wA : w.heap.size < wA.heap.size := (by omega)); (try have he0wA : w.heap.size ≤ wA.heap.size := (by omega))))
  all_goals go_wp2_with fail
  all_goals go_ret
  all_goals exact ⟨by rw [E.out]; simp [Act.put], by go_grown⟩

theorem num_all (n : Nat) (h2 : n < 10000000) : ∀ w : World,
    Calls Tryd.prog 35 #[.int .i64 (n : Nat)] w fun e w' => e = .returned (.string (ofL (Lib.decDigits n))) ∧ Below w.heap.size w w' := by
  induction n using Nat.strongRecOn with
  | _ n ih =>
    intro w
    by_cases h : n < 10
    · exact num_one n h w
    · exact num_step n h h2 (ih (n / 10) (by omega) (by omega)) w

end Go.Proofs.YtoaccnpkobbaaaaDoor
