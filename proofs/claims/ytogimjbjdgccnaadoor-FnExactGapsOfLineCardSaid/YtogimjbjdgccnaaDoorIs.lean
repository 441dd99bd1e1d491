/- Contracts: lists of numbers compared, marked and looked at again. -/
import Derived.Test.YtogimjbjdgccnaaDoorBa
import Derived.LoopTactic
import Derived.Outline
import Derived.Deep.QuietTactic
import Derived.BigQuiet
import Derived.Laws.AppendOwn
import Derived.Laws.OwnMore
import Derived.Deep.AppendLies
namespace Go.Proofs.YtogimjbjdgccnaaDoor
open Go.ChangeShapes Go.WideShapes Go.ChangeAt Go.RowKit

set_option linter.unusedVariables false

/-- Block g holds the numbers xs from its beginning on. -/
def RowI (w : World) (g : Nat) (xs : List Int) : Prop := ∀ (j : Nat) x, xs[j]? = some x → w.cell? ⟨g, j, none⟩ = some (.int .i64 x)

/-- .. the first n are the numbers from k on. -/
def RowK (w : World) (g n : Nat) (k : Int) : Prop := ∀ j : Nat, j < n → w.cell? ⟨g, j, none⟩ = some (.int .i64 (k + j))

def FreeR (w : World) (g n : Nat) : Prop := ∀ j : Nat, j < n → w.frozen? ⟨g, j, none⟩ = false

theorem RowI.below {w w' : World} {g m : Nat} {xs : List Int} (h : RowI w g xs) (hg : g < m) (hb : Below m w w') : RowI w' g xs := fun j x hx => by
  rw [hb.cell (p := ⟨g, j, none⟩) hg]; exact h j x hx

theorem RowK.below {w w' : World} {g n m : Nat} {k : Int} (h : RowK w g n k) (hg : g < m) (hb : Below m w w') : RowK w' g n k := fun j hj => by
  rw [hb.cell (p := ⟨g, j, none⟩) hg]; exact h j hj

theorem RowI.grown {w w' : World} {g : Nat} {row : Option Nat} {xs : List Int} (h : RowI w g xs) (hg : w.grownBy w' row) (hne : some g ≠ row) : RowI w' g xs := fun j x hx =>
  hg.cell (h j x hx) hne

theorem below_drawn {w : World} (n m : Nat) : Below m w (w.drewN n) := ⟨rfl, rfl, rfl, Nat.le_refl _, fun _ _ => rfl⟩

set_option maxRecDepth 100000 in
set_option maxHeartbeats 800000 in
theorem eqIntS_same (g c g' c' n : Nat) (xs : List Int) (hn : xs.length = n) (hb : n ≤ 1000000) (w : World) (h1 : RowI w g xs) (h2 : RowI w g' xs) :
    Calls Tryd.prog 34 #[.slice (some ⟨g, 0, none⟩) n c, .slice (some ⟨g', 0, none⟩) n c'] w fun e w' => e = .returned (.bool true) ∧ Below w.heap.size w w' := by
  have HN := Lib.hid hn
  have H1 := Lib.hid h1
  have H2 := Lib.hid h2
  clear hn h1 h2
  go_enter Tryd.func34, Tryd.ntmps34
  go_wp2_with fail
  go_loopw [5] (fun i wr => ∃ k : Nat, k ≤ n ∧ i = .int .i64 k ∧ RowI wr g xs ∧ RowI wr g' xs ∧ Below w.heap.size w wr) (fun i _ => n - (intOf i).toNat)
  case atStart => exact ⟨0, Nat.zero_le _, rfl, H1.out, H2.out, Below.refl _ _⟩
  case round =>
    obtain ⟨k, hk, rfl, r1, r2, hB⟩ := hrel
    have R1 := Lib.hid r1
    have R2 := Lib.hid r2
    have HB := Lib.hid hB
    clear hB
    by_cases hlt : k < n
    · obtain ⟨x, hx⟩ : ∃ x, xs[k]? = some x := ⟨_, List.getElem?_eq_getElem (by rw [HN.out]; exact hlt)⟩
      have c0 := r1 k x hx
      have d0 := r2 k x hx
      have i1 : (0 : Int) ≤ (k : Int) := by omega
      have i2 : (k : Int) < (n : Int) := by omega
      clear r1 r2 hx
      go_wp2_with fail
      go_quiet (fail)
      go_wp2_with fail
      go_roundw
      case rel => exact ⟨k + 1, by omega, by go_num, R1.out, R2.out, HB.out.trans (below_drawn _ _)⟩
      case measure => simp [intOf]; omega
    · clear r1 r2
      go_wp2_with fail
      go_ret
      exact ⟨rfl, HB.out⟩

theorem set_grown {w wr : World} {g : Nat} (h : w.grownBy wr (some g)) (j : Nat) (v : Value) : w.grownBy (wr.setCell ⟨g, j, none⟩ v) (some g) :=
  ⟨h.os, h.tape, h.output, by simpa [World.setCell] using h.size, fun k hk hne => by rw [Below.heap_setCell _ _ _ _ (fun e => hne (by simp [e]))]; exact h.block k hk hne⟩

set_option maxRecDepth 100000 in
set_option maxHeartbeats 800000 in
theorem markIntS_any (g c n : Nat) (xs : List Int) (hn : xs.length = n) (hb : n ≤ 1000000) (w : World) (h1 : RowI w g xs) (hf : FreeR w g n) :
    Calls Tryd.prog 35 #[.slice (some ⟨g, 0, none⟩) n c, .int .i64 1] w fun e w' => e = .returned (.int .i64 (1 + (n : Int))) ∧ RowK w' g n 1 ∧ w.grownBy w' (some g) := by
  have HN := Lib.hid hn
  have H1 := Lib.hid h1
  have HF := Lib.hid hf
  clear hn h1 hf
  go_enter Tryd.func35, Tryd.ntmps35
  go_wp2_with fail
  go_loopw [1, 5] (fun t i wr => ∃ k : Nat, k ≤ n ∧ i = .int .i64 k ∧ t = .int .i64 (1 + (k : Int)) ∧ RowK wr g k 1 ∧ (∀ j : Nat, k ≤ j → wr.cell? ⟨g, j, none⟩ = w.cell? ⟨g, j, none⟩) ∧ FreeR wr g n ∧ w.grownBy wr (some g)) (fun _ i _ => n - (intOf i).toNat)
  case atStart => exact ⟨0, Nat.zero_le _, rfl, rfl, fun j hj => absurd hj (by omega), fun _ _ => rfl, HF.out, World.grownBy.refl _ _⟩
  case round =>
    obtain ⟨k, hk, rfl, rfl, r1, r2, r3, hG⟩ := hrel
    have R1 := Lib.hid r1
    have R2 := Lib.hid r2
    have R3 := Lib.hid r3
    have HG := Lib.hid hG
    clear r1 r2 r3 hG
    by_cases hlt : k < n
    · obtain ⟨x, hx⟩ : ∃ x, xs[k]? = some x := ⟨_, List.getElem?_eq_getElem (by rw [HN.out]; exact hlt)⟩
      have c0 := (R2.out k (Nat.le_refl _)).trans (H1.out k x hx)
      have f0 := R3.out k hlt
      have C0 := Lib.hid c0
      clear hx
      go_wp2_with fail
      go_roundw
      case rel =>
        refine ⟨k + 1, by omega, by go_num, by congr 1, fun j hj => ?_, fun j hj => ?_, fun j hj => ?_, set_grown HG.out k _⟩
        · by_cases e : k = j
          · subst e
            rw [World.cell?_setCell_same (h := C0.out)]
          · rw [World.cell?_setCell_other (h := fun h => e (by injection h))]
            exact R1.out j (by omega)
        · rw [World.cell?_setCell_other (h := fun h => absurd (by injection h) (show ¬ k = j by omega))]
          exact R2.out j (by omega)
        · rw [World.frozen?_setCell]
          exact R3.out j hj
      case measure => simp [intOf]; omega
    · obtain rfl : k = n := by omega
      go_wp2_with fail
      go_ret
      exact ⟨rfl, R1.out, HG.out⟩

set_option maxRecDepth 100000 in
set_option maxHeartbeats 800000 in
theorem heldIntS_any (g c n : Nat) (hb : n ≤ 1000000) (w : World) (h1 : RowK w g n 1) :
    Calls Tryd.prog 36 #[.slice (some ⟨g, 0, none⟩) n c, .int .i64 1] w fun e w' => e = .returned (.int .i64 (1 + (n : Int))) ∧ w = w' := by
  have H1 := Lib.hid h1
  clear h1
  go_enter Tryd.func36, Tryd.ntmps36
  go_wp2_with fail
  go_loop [1, 5] (fun t i => ∃ k : Nat, k ≤ n ∧ i = .int .i64 k ∧ t = .int .i64 (1 + (k : Int))) (fun _ i => n - (intOf i).toNat)
  case atStart => exact ⟨0, Nat.zero_le _, rfl, rfl⟩
  case round =>
    obtain ⟨k, hk, rfl, rfl⟩ := hrel
    by_cases hlt : k < n
    · have c0 := H1.out k hlt
      go_wp2_with fail
      go_round
      case rel => exact ⟨k + 1, by omega, by go_num, by congr 1⟩
      case measure => simp [intOf]; omega
    · obtain rfl : k = n := by omega
      go_wp2_with fail
      go_ret
      exact ⟨rfl, rfl⟩

end Go.Proofs.YtogimjbjdgccnaaDoor
