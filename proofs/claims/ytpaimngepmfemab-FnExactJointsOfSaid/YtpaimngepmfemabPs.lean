/- Contracts: lists of points compared, marked and looked at again. -/
import Derived.Test.YtpaimngepmfemabIs2
import Derived.Test.YtpaimngepmfemabMf
import Derived.Test.YtpaimngepmfemabClK
namespace Go.Proofs.Ytpaimngepmfemab
open Go.ChangeShapes Go.WideShapes Go.ChangeAt Go.RowKit

set_option linter.unusedVariables false
set_option linter.unusedSimpArgs false

set_option maxRecDepth 100000 in
set_option maxHeartbeats 1600000 in
theorem eqPointS_same (g c g' c' n : Nat) (l : List Sp) (hn : l.length = n) (hb : n ≤ 1000000) (w : World) (hg : g < w.heap.size) (hg' : g' < w.heap.size) (h1 : JtAt w g l) (h2 : JtAt w g' l) :
    Calls Try.prog 14 #[.slice (some ⟨g, 0, none⟩) n c, .slice (some ⟨g', 0, none⟩) n c'] w fun e w' => e = .returned (.bool true) ∧ Below w.heap.size w w' := by
  have HN := Lib.hid hn
  have H1 := Lib.hid h1
  have H2 := Lib.hid h2
  clear hn h1 h2
  go_enter Try.func14, Try.ntmps14
  go_wp2_with fail
  go_loopw [5] (fun i wr => ∃ k : Nat, k ≤ n ∧ i = .int .i64 k ∧ Below w.heap.size w wr) (fun i _ => n - (intOf i).toNat)
  case atStart => exact ⟨0, Nat.zero_le _, rfl, Below.refl _ _⟩
  case round =>
    obtain ⟨k, hk, rfl, hB⟩ := hrel
    by_cases hlt : k < n
    · obtain ⟨p, hp⟩ : ∃ p, l[k]? = some p := ⟨_, List.getElem?_eq_getElem (by rw [HN.out]; exact hlt)⟩
      obtain ⟨c0, c1, c2, c3⟩ := (H1.out.below hg hB) k p hp
      obtain ⟨d0, d1, d2, d3⟩ := (H2.out.below hg' hB) k p hp
      obtain ⟨x0, x1, x2, x3, x4⟩ := p
      simp only at c0 c1 c2 c3 d0 d1 d2 d3
      have hS0 : wr.cell? ⟨g, k * 4, none⟩ = some (.int .i64 x0) ∧ wr.cell? ⟨g, k * 4 + 1, none⟩ = some (.int .i64 x1) ∧ wr.cell? ⟨g, k * 4 + 2, none⟩ = some (.int .i64 x2) ∧ wr.cell? ⟨g, k * 4 + 3, none⟩ = some (.int .i64 x3) ∧ wr.cell? ⟨g', k * 4, none⟩ = some (.int .i64 x0) ∧ wr.cell? ⟨g', k * 4 + 1, none⟩ = some (.int .i64 x1) ∧ wr.cell? ⟨g', k * 4 + 2, none⟩ = some (.int .i64 x2) ∧ wr.cell? ⟨g', k * 4 + 3, none⟩ = some (.int .i64 x3) := ⟨c0, c1, c2, c3, d0, d1, d2, d3⟩
      have hz := hB.size
      have hgr : g < wr.heap.size := by omega
      have hgr' : g' < wr.heap.size := by omega
      have j1 : (0 : Int) ≤ (k : Int) := by omega
      have j2 : (k : Int) < (n : Int) := by omega
      clear hp c0 c1 c2 c3 d0 d1 d2 d3
      go_wp2_with fail
      go_region_held3 (fun w' => w'.cell? ⟨g, k * 4, none⟩ = some (.int .i64 x0) ∧ w'.cell? ⟨g, k * 4 + 1, none⟩ = some (.int .i64 x1) ∧ w'.cell? ⟨g, k * 4 + 2, none⟩ = some (.int .i64 x2) ∧ w'.cell? ⟨g, k * 4 + 3, none⟩ = some (.int .i64 x3) ∧ w'.cell? ⟨g', k * 4, none⟩ = some (.int .i64 x0) ∧ w'.cell? ⟨g', k * 4 + 1, none⟩ = some (.int .i64 x1) ∧ w'.cell? ⟨g', k * 4 + 2, none⟩ = some (.int .i64 x2) ∧ w'.cell? ⟨g', k * 4 + 3, none⟩ = some (.int .i64 x3))
        (first | (with_reducible assumption) | (with_reducible exact jj_drew hS0) | (with_reducible exact jj_drew (jj_alloc hS0 _)) | (with_reducible exact jj_alloc (jj_drew hS0) _) | (with_reducible refine jj_drew ?_; with_reducible assumption) | (with_reducible refine jj_alloc ?_ _; with_reducible assumption) | (with_reducible refine jj_re (by with_reducible assumption) ?_ ?_ _; (focus first | (with_reducible assumption) | omega | (simp; done) | (simp; omega)); (focus first | (with_reducible assumption) | omega | (simp; done) | (simp; omega))) | (with_reducible refine jj_below ?_ ?_ ?_ h1; (focus first | (with_reducible assumption) | (with_reducible refine jj_undrew ?_; with_reducible assumption)); (focus first | (with_reducible assumption) | omega | (simp; done) | (simp; omega)); (focus first | (with_reducible assumption) | omega | (simp; done) | (simp; omega))) | ((repeat (with_reducible refine jj_set ?_ _ _ ?_ ?_; rotate_left 1; (focus first | (with_reducible assumption) | omega | (simp; done) | (simp; omega)); (focus first | (with_reducible assumption) | omega | (simp; done) | (simp; omega)))); with_reducible assumption))
        ((go_at_call 24; (with_reducible refine (eqPoint_same x0 x1 x2 x3 _).mono ?_); rintro e wA ⟨rfl, h1⟩; (try with_reducible replace h1 := undrew h1); have hB : Below w.heap.size w wA := ba (by go_grown) h1; obtain ⟨hcwA, hfwA⟩ := bcell h1; have hqwA := h1.size; (try simp at hqwA); (try have hz0wA : g < wA.heap.size := (by omega)); (try have he0wA : g ≤ wA.heap.size := (by omega)); (try have hz1wA : g' < wA.heap.size := (by omega)); (try have he1wA : g' ≤ wA.heap.size := (by omega))))
      all_goals
        go_wp2_with fail
        go_roundw
        case rel => exact ⟨k + 1, by omega, by go_num, by go_grown⟩
        case measure => simp [intOf]; omega
    · go_wp2_with fail
      go_ret
      exact ⟨rfl, hB⟩

theorem eqPointS_nil (w : World) : Calls Try.prog 14 #[.slice none 0 0, .slice none 0 0] w fun e w' => e = .returned (.bool true) ∧ w = w' := by
  go_enter Try.func14, Try.ntmps14
  go_wp2_with fail
  refine wp_loop_rounds 1 ?_
  rw [rounds_succ]
  go_wp2_with fail
  go_ret
  exact ⟨rfl, rfl⟩
theorem markPointS_nil (w : World) : Calls Try.prog 15 #[.slice none 0 0, .int .i64 1] w fun e w' => e = .returned (.int .i64 1) ∧ w = w' := by
  go_enter Try.func15, Try.ntmps15
  go_wp2_with fail
  refine wp_loop_rounds 1 ?_
  rw [rounds_succ]
  go_wp2_with fail
  go_ret
  exact ⟨rfl, rfl⟩
theorem heldPointS_nil (w : World) : Calls Try.prog 16 #[.slice none 0 0, .int .i64 1] w fun e w' => e = .returned (.int .i64 1) ∧ w = w' := by
  go_enter Try.func16, Try.ntmps16
  go_wp2_with fail
  refine wp_loop_rounds 1 ?_
  rw [rounds_succ]
  go_wp2_with fail
  go_ret
  exact ⟨rfl, rfl⟩

theorem rowK_set {wr : World} {g m : Nat} (h : RowK wr g m 1) {v : Value} (hv : wr.cell? ⟨g, m, none⟩ = some v) : RowK (wr.setCell ⟨g, m, none⟩ (.int .i64 (1 + (m : Int)))) g (m + 1) 1 := fun j hj => by
  by_cases e : m = j
  · subst e
    rw [World.cell?_setCell_same (h := hv)]
  · rw [World.cell?_setCell_other (h := fun h => e (by injection h))]
    exact h j (by omega)
theorem cell_set {wr : World} {g m j : Nat} {v u : Value} (h : wr.cell? ⟨g, j, none⟩ = some v) (hne : m ≠ j) : (wr.setCell ⟨g, m, none⟩ u).cell? ⟨g, j, none⟩ = some v := by
  rw [World.cell?_setCell_other (h := fun h => hne (by injection h))]; exact h
theorem rowK_set4 {wr : World} {g k : Nat} (h : RowK wr g (k * 4) 1) {v0 v1 v2 v3 : Value} (h0 : wr.cell? ⟨g, k * 4, none⟩ = some v0) (h1 : wr.cell? ⟨g, k * 4 + 1, none⟩ = some v1) (h2 : wr.cell? ⟨g, k * 4 + 2, none⟩ = some v2) (h3 : wr.cell? ⟨g, k * 4 + 3, none⟩ = some v3)
    {a b c d : Int} (ea : a = 1 + 4 * (k : Int)) (eb : b = 1 + 4 * (k : Int) + 1) (ec : c = 1 + 4 * (k : Int) + 1 + 1) (ed : d = 1 + 4 * (k : Int) + 1 + 1 + 1) :
    RowK ((((wr.setCell ⟨g, k * 4, none⟩ (.int .i64 a)).setCell ⟨g, k * 4 + 1, none⟩ (.int .i64 b)).setCell ⟨g, k * 4 + 2, none⟩ (.int .i64 c)).setCell ⟨g, k * 4 + 3, none⟩ (.int .i64 d)) g ((k + 1) * 4) 1 := by
  obtain rfl : a = 1 + ((k * 4 : Nat) : Int) := by omega
  obtain rfl : b = 1 + ((k * 4 + 1 : Nat) : Int) := by omega
  obtain rfl : c = 1 + ((k * 4 + 2 : Nat) : Int) := by omega
  obtain rfl : d = 1 + ((k * 4 + 3 : Nat) : Int) := by omega
  have r0 := rowK_set h h0
  have r1 := rowK_set r0 (cell_set h1 (by omega))
  have r2 := rowK_set r1 (cell_set (cell_set h2 (by omega)) (by omega))
  have r3 := rowK_set r2 (cell_set (cell_set (cell_set h3 (by omega)) (by omega)) (by omega))
  rw [show (k + 1) * 4 = k * 4 + 3 + 1 by omega]
  exact r3

theorem jt_cells {w : World} {g : Nat} {l : List Sp} (h : JtAt w g l) {k : Nat} (hk : k < l.length) : ∃ v0 v1 v2 v3, w.cell? ⟨g, k * 4, none⟩ = some v0 ∧ w.cell? ⟨g, k * 4 + 1, none⟩ = some v1 ∧ w.cell? ⟨g, k * 4 + 2, none⟩ = some v2 ∧ w.cell? ⟨g, k * 4 + 3, none⟩ = some v3 := by
  obtain ⟨a, b, c, d⟩ := h k _ (List.getElem?_eq_getElem hk)
  exact ⟨_, _, _, _, a, b, c, d⟩

set_option maxRecDepth 100000 in
set_option maxHeartbeats 1600000 in
theorem markPointS_any (g c n : Nat) (l : List Sp) (hn : l.length = n) (hb : n ≤ 1000000) (w : World) (h1 : JtAt w g l) (hf : FreeR w g (n * 4)) :
    Calls Try.prog 15 #[.slice (some ⟨g, 0, none⟩) n c, .int .i64 1] w fun e w' => e = .returned (.int .i64 (1 + 4 * (n : Int))) ∧ RowK w' g (n * 4) 1 ∧ w.grownBy w' (some g) := by
  have HN := Lib.hid hn
  have H1 := Lib.hid h1
  have HF := Lib.hid hf
  clear hn h1 hf
  go_enter Try.func15, Try.ntmps15
  go_wp2_with fail
  go_loopw [1, 5] (fun t i wr => ∃ k : Nat, k ≤ n ∧ i = .int .i64 k ∧ t = .int .i64 (1 + 4 * (k : Int)) ∧ RowK wr g (k * 4) 1 ∧ (∀ j : Nat, k * 4 ≤ j → wr.cell? ⟨g, j, none⟩ = w.cell? ⟨g, j, none⟩) ∧ FreeR wr g (n * 4) ∧ w.grownBy wr (some g)) (fun _ i _ => n - (intOf i).toNat)
  case atStart => exact ⟨0, Nat.zero_le _, rfl, rfl, fun j hj => absurd hj (by omega), fun _ _ => rfl, HF.out, World.grownBy.refl _ _⟩
  case round =>
    obtain ⟨k, hk, rfl, rfl, r1, r2, r3, hG⟩ := hrel
    have R1 := Lib.hid r1
    have R2 := Lib.hid r2
    have R3 := Lib.hid r3
    have HG := Lib.hid hG
    clear r1 r2 r3 hG
    by_cases hlt : k < n
    · obtain ⟨v0, v1, v2, v3, e0, e1, e2, e3⟩ := jt_cells H1.out (k := k) (by rw [HN.out]; exact hlt)
      have c0 := (R2.out (k * 4) (by omega)).trans e0
      have c1 := (R2.out (k * 4 + 1) (by omega)).trans e1
      have c2 := (R2.out (k * 4 + 2) (by omega)).trans e2
      have c3 := (R2.out (k * 4 + 3) (by omega)).trans e3
      have f0 := R3.out (k * 4) (by omega)
      have f1 := R3.out (k * 4 + 1) (by omega)
      have f2 := R3.out (k * 4 + 2) (by omega)
      have f3 := R3.out (k * 4 + 3) (by omega)
      have C := Lib.hid (And.intro c0 (And.intro c1 (And.intro c2 c3)))
      clear e0 e1 e2 e3
      go_wp2_with fail
      go_roundw
      case rel =>
        refine ⟨k + 1, by omega, by go_num, by congr 1, rowK_set4 R1.out C.out.1 C.out.2.1 C.out.2.2.1 C.out.2.2.2 rfl rfl rfl rfl, fun j hj => ?_, fun j hj => ?_, set_grown (set_grown (set_grown (set_grown HG.out _ _) _ _) _ _) _ _⟩
        · rw [World.cell?_setCell_other (h := fun h => absurd (by injection h) (show ¬ k * 4 + 3 = j by omega)), World.cell?_setCell_other (h := fun h => absurd (by injection h) (show ¬ k * 4 + 2 = j by omega)), World.cell?_setCell_other (h := fun h => absurd (by injection h) (show ¬ k * 4 + 1 = j by omega)), World.cell?_setCell_other (h := fun h => absurd (by injection h) (show ¬ k * 4 = j by omega))]
          exact R2.out j (by omega)
        · rw [World.frozen?_setCell, World.frozen?_setCell, World.frozen?_setCell, World.frozen?_setCell]
          exact R3.out j hj
      case measure => simp [intOf]; omega
    · obtain rfl : k = n := by omega
      go_wp2_with fail
      go_ret
      exact ⟨rfl, R1.out, HG.out⟩

set_option maxRecDepth 100000 in
set_option maxHeartbeats 800000 in
theorem heldPointS_any (g c n : Nat) (hb : n ≤ 1000000) (w : World) (h1 : RowK w g (n * 4) 1) :
    Calls Try.prog 16 #[.slice (some ⟨g, 0, none⟩) n c, .int .i64 1] w fun e w' => e = .returned (.int .i64 (1 + 4 * (n : Int))) ∧ w = w' := by
  have H1 := Lib.hid h1
  clear h1
  go_enter Try.func16, Try.ntmps16
  go_wp2_with fail
  go_loop [1, 5] (fun t i => ∃ k : Nat, k ≤ n ∧ i = .int .i64 k ∧ t = .int .i64 (1 + 4 * (k : Int))) (fun _ i => n - (intOf i).toNat)
  case atStart => exact ⟨0, Nat.zero_le _, rfl, rfl⟩
  case round =>
    obtain ⟨k, hk, rfl, rfl⟩ := hrel
    by_cases hlt : k < n
    · have c0 : w.cell? ⟨g, k * 4, none⟩ = some (.int .i64 (1 + 4 * (k : Int))) := by rw [H1.out (k * 4) (by omega)]; congr 2; omega
      have c1 : w.cell? ⟨g, k * 4 + 1, none⟩ = some (.int .i64 (1 + 4 * (k : Int) + 1)) := by rw [H1.out (k * 4 + 1) (by omega)]; congr 2; omega
      have c2 : w.cell? ⟨g, k * 4 + 2, none⟩ = some (.int .i64 (1 + 4 * (k : Int) + 1 + 1)) := by rw [H1.out (k * 4 + 2) (by omega)]; congr 2; omega
      have c3 : w.cell? ⟨g, k * 4 + 3, none⟩ = some (.int .i64 (1 + 4 * (k : Int) + 1 + 1 + 1)) := by rw [H1.out (k * 4 + 3) (by omega)]; congr 2; omega
      go_wp2_with fail
      go_round
      case rel => exact ⟨k + 1, by omega, by go_num, by congr 1⟩
      case measure => simp [intOf]; omega
    · obtain rfl : k = n := by omega
      go_wp2_with fail
      go_ret
      exact ⟨rfl, rfl⟩

end Go.Proofs.Ytpaimngepmfemab
