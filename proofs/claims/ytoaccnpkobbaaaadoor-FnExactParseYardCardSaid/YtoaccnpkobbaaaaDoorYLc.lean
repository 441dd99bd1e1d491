/- Contracts: yards and runs compared, marked and looked at again, in the laws. -/
import Derived.Test.YtoaccnpkobbaaaaDoorYLa
namespace Go.Proofs.YtoaccnpkobbaaaaDoor
open Go.ChangeShapes Go.WideShapes Go.ChangeAt Go.RowKit

set_option linter.unusedVariables false

set_option maxRecDepth 100000 in
set_option maxHeartbeats 800000 in
theorem eqIntS_all (g c g' c' n : Nat) (xs : List Int) (hn : xs.length = n) (hb : n ≤ 2000000) (w : World) (h1 : RL w g n xs) (h2 : RL w g' n xs) :
    Calls Tryd.prog 23 #[.slice (some ⟨g, 0, none⟩) n c, .slice (some ⟨g', 0, none⟩) n c'] w fun e w' => e = .returned (.bool true) ∧ Below w.heap.size w w' := by
  have HN := Lib.hid hn
  have H1 := Lib.hid h1
  have H2 := Lib.hid h2
  clear hn h1 h2
  go_enter Tryd.func23, Tryd.ntmps23
  go_wp2_with fail
  go_loopw [5] (fun i wr => ∃ k : Nat, k ≤ n ∧ i = .int .i64 k ∧ RL wr g n xs ∧ RL wr g' n xs ∧ Below w.heap.size w wr) (fun i _ => n - (intOf i).toNat)
  case atStart => exact ⟨0, Nat.zero_le _, rfl, H1.out, H2.out, Below.refl _ _⟩
  case round =>
    obtain ⟨k, hk, rfl, r1, r2, hB⟩ := hrel
    have R1 := Lib.hid r1
    have R2 := Lib.hid r2
    have HB := Lib.hid hB
    clear hB
    by_cases hlt : k < n
    · obtain ⟨x, hx⟩ : ∃ x, xs[k]? = some x := ⟨_, List.getElem?_eq_getElem (by rw [HN.out]; exact hlt)⟩
      have c0 := r1.get hlt hx
      have d0 := r2.get hlt hx
      have i1 : (0 : Int) ≤ (k : Int) := by omega
      have i2 : (k : Int) < (n : Int) := by omega
      clear r1 r2 hx
      go_wp2_with fail
      go_quiet (fail)
      go_wp2_with fail
      go_roundw
      case rel => exact ⟨k + 1, by omega, by go_num, R1.out, R2.out, HB.out.trans (below_drawn _ _)⟩
      case measure => simp [intOf]; omega
    · clear r1 r2
      go_wp2_with fail
      go_ret
      exact ⟨rfl, HB.out⟩

/-- The numbers from k on, n of them. -/
def mkL (k : Int) (n : Nat) : List Int := (List.range n).map fun (j : Nat) => k + (j : Int)

theorem mkL_len (k : Int) (n : Nat) : (mkL k n).length = n := by simp [mkL]

theorem mkL_get (k : Int) {n j : Nat} (h : j < n) : (mkL k n)[j]? = some (k + j) := by simp [mkL, h]

set_option maxRecDepth 100000 in
set_option maxHeartbeats 800000 in
theorem markIntS_at (g c n : Nat) (k0 : Int) (xs : List Int) (hn : xs.length = n) (hb : n ≤ 2000000) (b0 : 0 ≤ k0) (b1 : k0 ≤ 100000000) (w : World) (h1 : RL w g n xs) :
    Calls Tryd.prog 30 #[.slice (some ⟨g, 0, none⟩) n c, .int .i64 k0] w fun e w' => e = .returned (.int .i64 (k0 + (n : Int))) ∧ RL w' g n (mkL k0 n) ∧ w.grownBy w' (some g) := by
  have HN := Lib.hid hn
  have H1 := Lib.hid h1
  clear hn h1
  go_enter Tryd.func30, Tryd.ntmps30
  go_wp2_with fail
  go_loopw [1, 5] (fun t i wr => ∃ k : Nat, k ≤ n ∧ i = .int .i64 k ∧ t = .int .i64 (k0 + (k : Int)) ∧ RL wr g n (mkL k0 k ++ xs.drop k) ∧ w.grownBy wr (some g)) (fun _ i _ => n - (intOf i).toNat)
  case atStart => exact ⟨0, Nat.zero_le _, rfl, by simp, by simpa [mkL] using H1.out, World.grownBy.refl _ _⟩
  case round =>
    obtain ⟨k, hk, rfl, rfl, r1, hG⟩ := hrel
    have R1 := Lib.hid r1
    have HG := Lib.hid hG
    clear r1 hG
    by_cases hlt : k < n
    · obtain ⟨x, hx⟩ : ∃ x, xs[k]? = some x := ⟨_, List.getElem?_eq_getElem (by rw [HN.out]; exact hlt)⟩
      obtain ⟨y, c0⟩ : ∃ y, wr.cell? ⟨g, k, none⟩ = some (.int .i64 y) := ⟨_, R1.out.cell hlt⟩
      have f0 := R1.out.free k hlt
      have HS := Lib.hid (R1.out.set k (by rw [List.length_append, mkL_len, List.length_drop, HN.out]; omega) (k0 + (k : Int)))
      rw [show (mkL k0 k ++ xs.drop k).set k (k0 + (k : Int)) = mkL k0 (k + 1) ++ xs.drop (k + 1) by
        rw [List.set_append_right _ _ (by rw [mkL_len]; exact Nat.le_refl _), mkL_len, Nat.sub_self, List.drop_eq_getElem_cons (by rw [HN.out]; exact hlt), List.set_cons_zero]
        simp [mkL, List.range_succ]] at HS
      have i1 : (0 : Int) ≤ (k : Int) := by omega
      have i2 : (k : Int) < (n : Int) := by omega
      clear hx
      go_wp2_with fail
      go_roundw
      case rel => exact ⟨k + 1, by omega, by go_num, by congr 1; omega, HS.out, set_grown HG.out k _⟩
      case measure => simp [intOf]; omega
    · obtain rfl : k = n := by omega
      rw [show mkL k0 k ++ xs.drop k = mkL k0 k by rw [List.drop_of_length_le (by rw [HN.out]; exact Nat.le_refl _), List.append_nil]] at R1
      go_wp2_with fail
      go_ret
      exact ⟨rfl, R1.out, HG.out⟩

set_option maxRecDepth 100000 in
set_option maxHeartbeats 800000 in
theorem heldIntS_at (g c n : Nat) (k0 : Int) (hb : n ≤ 2000000) (b0 : 0 ≤ k0) (b1 : k0 ≤ 100000000) (w : World) (h1 : RL w g n (mkL k0 n)) :
    Calls Tryd.prog 31 #[.slice (some ⟨g, 0, none⟩) n c, .int .i64 k0] w fun e w' => e = .returned (.int .i64 (k0 + (n : Int))) ∧ w = w' := by
  have H1 := Lib.hid h1
  clear h1
  go_enter Tryd.func31, Tryd.ntmps31
  go_wp2_with fail
  go_loopw [1, 5] (fun t i wr => ∃ k : Nat, k ≤ n ∧ i = .int .i64 k ∧ t = .int .i64 (k0 + (k : Int)) ∧ w = wr) (fun _ i _ => n - (intOf i).toNat)
  case atStart => exact ⟨0, Nat.zero_le _, rfl, by simp, rfl⟩
  case round =>
    obtain ⟨k, hk, rfl, rfl, rfl⟩ := hrel
    by_cases hlt : k < n
    · have c0 := H1.out.get hlt (mkL_get k0 hlt)
      have i1 : (0 : Int) ≤ (k : Int) := by omega
      have i2 : (k : Int) < (n : Int) := by omega
      go_wp2_with fail
      go_roundw
      case rel => exact ⟨k + 1, by omega, by go_num, by congr 1; omega, trivial⟩
      case measure => simp [intOf]; omega
    · obtain rfl : k = n := by omega
      go_wp2_with fail
      go_ret
      exact ⟨rfl, rfl⟩

end Go.Proofs.YtoaccnpkobbaaaaDoor
