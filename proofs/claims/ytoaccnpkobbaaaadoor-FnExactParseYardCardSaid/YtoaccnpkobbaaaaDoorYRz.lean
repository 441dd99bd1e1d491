/- Contracts: yards held, the yard that is none, lists copied. -/
import Derived.Test.YtoaccnpkobbaaaaDoorYLd
import Derived.Test.YtoaccnpkobbaaaaDoorIs3
namespace Go.Proofs.YtoaccnpkobbaaaaDoor
open Go.ChangeShapes Go.WideShapes Go.ChangeAt Go.RowKit

set_option linter.unusedVariables false

theorem toIntS_ex (a : Option Addr) (n c : Nat) (xs : List Int) (hn : xs.length = n) (hb : n ≤ 2000000) (w : World) (N : Nat) (hN : N ≤ w.heap.size) (h : RdA N w a xs) :
    Calls Tryd.prog 17 #[.slice a n c] w fun e w' => ∃ g : Nat, e = .returned (.slice (some ⟨g, 0, none⟩) n n) ∧ w.heap.size ≤ g ∧ RL w' g n xs ∧ Below w.heap.size w w' :=
  (toIntS_any a n c xs hn hb w N hN h).mono fun e w' ⟨h1, h2, h3⟩ => ⟨_, h1, Nat.le_refl _, h2, h3⟩

set_option maxRecDepth 100000 in
set_option maxHeartbeats 800000 in
theorem heldYard_at (g c h d n m : Nat) (k0 : Int) (hb : n ≤ 2000000) (hb' : m ≤ 2000000) (b0 : 0 ≤ k0) (b1 : k0 ≤ 10000000) (w : World)
    (h1 : RL w g n (mkL k0 n)) (h2 : RL w h m (mkL (k0 + n) m)) :
    Calls Tryd.prog 13 #[.agg #[.slice (some ⟨g, 0, none⟩) n c, .slice (some ⟨h, 0, none⟩) m d], .int .i64 k0] w fun e w' => e = .returned (.int .i64 (k0 + n + m)) ∧ Below w.heap.size w w' := by
  have hq1 := h1.lt
  have hq2 := h2.lt
  have H1 := Lib.hid h1
  have H2 := Lib.hid h2
  clear h1 h2
  have i1 : ¬ k0 + (n : Int) < 0 := by omega
  have i2 : ¬ k0 + (n : Int) + (m : Int) < 0 := by omega
  go_enter Tryd.func13, Tryd.ntmps13
  go_wp2_with fail
  refine (heldIntS_at g c n k0 hb b0 (by omega) _ (H1.out.keep (by go_grown))).mono ?_
  rintro e w1 ⟨rfl, rfl⟩
  go_wp2_with fail
  refine (heldIntS_at h d m (k0 + n) hb' (by omega) (by omega) _ (H2.out.keep (by go_grown))).mono ?_
  rintro e w2 ⟨rfl, rfl⟩
  go_wp2_with fail
  go_ret
  exact ⟨rfl, by go_grown⟩

set_option maxRecDepth 100000 in
theorem eqYard_zero (w : World) : Calls Tryd.prog 9 #[.agg #[.slice none 0 0, .slice none 0 0], .agg #[.slice none 0 0, .slice none 0 0]] w fun e w' => e = .returned (.bool true) ∧ Below w.heap.size w w' := by
  go_enter Tryd.func9, Tryd.ntmps9
  go_wp2_with fail
  refine (eqIntS_zero _ _ _ _ _).mono ?_
  rintro e w1 ⟨rfl, rfl⟩
  go_wp2_with fail
  refine (eqIntS_zero _ _ _ _ _).mono ?_
  rintro e w1 ⟨rfl, rfl⟩
  go_wp2_with fail
  go_ret
  exact ⟨rfl, by go_grown⟩

set_option maxRecDepth 100000 in
theorem markYard_zero (w : World) : Calls Tryd.prog 12 #[.agg #[.slice none 0 0, .slice none 0 0], .int .i64 1] w fun e w' => e = .returned (.int .i64 1) ∧ Below w.heap.size w w' := by
  go_enter Tryd.func12, Tryd.ntmps12
  go_wp2_with fail
  refine (markIntS_zero _ _ _).mono ?_
  rintro e w1 ⟨rfl, rfl⟩
  go_wp2_with fail
  refine (markIntS_zero _ _ _).mono ?_
  rintro e w1 ⟨rfl, rfl⟩
  go_wp2_with fail
  go_ret
  exact ⟨rfl, by go_grown⟩

set_option maxRecDepth 100000 in
theorem heldYard_zero (w : World) : Calls Tryd.prog 13 #[.agg #[.slice none 0 0, .slice none 0 0], .int .i64 1] w fun e w' => e = .returned (.int .i64 1) ∧ Below w.heap.size w w' := by
  go_enter Tryd.func13, Tryd.ntmps13
  go_wp2_with fail
  refine (heldIntS_zero _ _ _).mono ?_
  rintro e w1 ⟨rfl, rfl⟩
  go_wp2_with fail
  refine (heldIntS_zero _ _ _).mono ?_
  rintro e w1 ⟨rfl, rfl⟩
  go_wp2_with fail
  go_ret
  exact ⟨rfl, by go_grown⟩

end Go.Proofs.YtoaccnpkobbaaaaDoor
