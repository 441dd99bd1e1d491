/- Contracts and facts, put together (part 8). Conditions: each says its own. -/
import Derived.Test.YthiimllafcfieaaQ7
import Derived.Maps.Views

/- What a list of numbers is, behind a call; the lists' contracts at nil. -/
namespace Go.Proofs.Ythiimllafcfieaa
open Go.ChangeShapes Go.WideShapes Go.ChangeAt Go.RowKit

def NumPost (xs : List Int) (n : Nat) (w : World) (e : Ending) (w' : World) : Prop :=
  ∃ g cap, e = .returned (.tuple #[.slice (some ⟨g, 0, none⟩) n cap, .bool true]) ∧ w'.ownsRow w.heap.size 3 1 (.slice (some ⟨g, 0, none⟩) n cap) n (xs.map (Value.int .i64)) ∧ Below w.heap.size w w'

theorem rowI_of {w : World} {B g n cap : Nat} {e : TypeId} {xs : List Int} (h : w.ownsRow B e 1 (.slice (some ⟨g, 0, none⟩) n cap) n (xs.map (Value.int .i64))) (hn : xs.length = n) : RowI w g xs := fun j x hx => by
  have hj : j < n := by rw [← hn]; exact (List.getElem?_eq_some_iff.1 hx).1
  rw [h.cellAt j (by omega)]
  simp [hx]

theorem freeR_of {w : World} {B g n cap : Nat} {e : TypeId} {xs : List Value} (h : w.ownsRow B e 1 (.slice (some ⟨g, 0, none⟩) n cap) n xs) : FreeR w g n := fun j _ => h.frozenAt j

theorem freeR_below {w w' : World} {g n m : Nat} (h : FreeR w g n) (hg : g < m) (hb : Below m w w') : FreeR w' g n := fun j hj => by
  rw [hb.frozen (p := ⟨g, j, none⟩) hg]; exact h j hj

end Go.Proofs.Ythiimllafcfieaa

/- Contracts: lists of boxes compared, marked and looked at again, in the laws. -/
namespace Go.Proofs.Ythiimllafcfieaa
open Go.ChangeShapes Go.WideShapes Go.ChangeAt Go.RowKit Go.Sort

set_option linter.unusedVariables false
set_option linter.unusedSimpArgs false

set_option maxRecDepth 100000 in
set_option maxHeartbeats 1600000 in
theorem eqBoxS_same (g c g' c' n : Nat) (l : List Bq) (hn : l.length = n) (hb : n ≤ 2000000) (w : World) (hg : g < w.heap.size) (hg' : g' < w.heap.size) (h1 : BoxAt w g l) (h2 : BoxAt w g' l) :
    Calls Try.prog 37 #[.slice (some ⟨g, 0, none⟩) n c, .slice (some ⟨g', 0, none⟩) n c'] w fun e w' => e = .returned (.bool true) ∧ Below w.heap.size w w' := by
  have HN := Lib.hid hn
  have H1 := Lib.hid h1
  have H2 := Lib.hid h2
  clear hn h1 h2
  go_enter Try.func37, Try.ntmps37
  go_wp2_with fail
  go_loopw [5] (fun i wr => ∃ k : Nat, k ≤ n ∧ i = .int .i64 k ∧ Below w.heap.size w wr) (fun i _ => n - (intOf i).toNat)
  case atStart => exact ⟨0, Nat.zero_le _, rfl, Below.refl _ _⟩
  case round =>
    obtain ⟨k, hk, rfl, hB⟩ := hrel
    by_cases hlt : k < n
    · obtain ⟨p, hp⟩ : ∃ p, l[k]? = some p := ⟨_, List.getElem?_eq_getElem (by rw [HN.out]; exact hlt)⟩
      obtain ⟨c0, c1⟩ := (H1.out.below hg hB) k p hp
      obtain ⟨d0, d1⟩ := (H2.out.below hg' hB) k p hp
      obtain ⟨x0, x1⟩ := p
      simp only at c0 c1 d0 d1
      have hS0 : wr.cell? ⟨g, k * 2, none⟩ = some (.int .i64 x0) ∧ wr.cell? ⟨g, k * 2 + 1, none⟩ = some (.int .i64 x1) ∧ wr.cell? ⟨g', k * 2, none⟩ = some (.int .i64 x0) ∧ wr.cell? ⟨g', k * 2 + 1, none⟩ = some (.int .i64 x1) := ⟨c0, c1, d0, d1⟩
      have hz := hB.size
      have hgr : g < wr.heap.size := by omega
      have hgr' : g' < wr.heap.size := by omega
      have j1 : (0 : Int) ≤ (k : Int) := by omega
      have j2 : (k : Int) < (n : Int) := by omega
      clear hp c0 c1 d0 d1
      have j3 : k < n := hlt
      go_wp2_with fail
      refine absWB (F := fun X => ((X.cell? ⟨g, k * 2, none⟩ = some (.int .i64 x0) ∧ X.cell? ⟨g, k * 2 + 1, none⟩ = some (.int .i64 x1)) ∧ (X.cell? ⟨g', k * 2, none⟩ = some (.int .i64 x0) ∧ X.cell? ⟨g', k * 2 + 1, none⟩ = some (.int .i64 x1))) ∧ Below w.heap.size w X) ⟨⟨⟨hS0.1, hS0.2.1⟩, ⟨hS0.2.2.1, hS0.2.2.2⟩⟩, hB⟩ ?_
      rintro X ⟨⟨⟨c0, c1⟩, ⟨d0, d1⟩⟩, HB⟩
      have k0 := fun d os => cell_regrown c0 d os
      have k1 := fun d os => cell_regrown c1 d os
      have k2 := fun d os => cell_regrown d0 d os
      have k3 := fun d os => cell_regrown d1 d os
      refine wp_region_quiet_below (by kernel_rfl) (by kernel_rfl) ?_
      repeat (quiet_step (first | (go_at_call 47; with_reducible exact Calls.regrown_of (eqBox_same x0 x1 _))))
      refine wpQuiet_nil ?_
      rintro _ ⟨⟨dq, osq⟩, rfl⟩
      have hbwz := below_regrown X dq osq
      generalize grow (redrawn X dq) osq = wz at hbwz ⊢
      obtain ⟨hcwz, hfwz⟩ := bcell hbwz
      have hlwz := hbwz.size
      replace HB := ba HB hbwz
      clear k0 k1 k2 k3 c0 c1 d0 d1 hcwz hfwz hB hS0
      have hB := HB
      clear HB
      go_wp2_with fail
      go_roundw
      case rel => exact ⟨k + 1, by omega, by go_num, hB⟩
      case measure => simp [intOf]; omega
    · go_wp2_with fail
      go_ret
      exact ⟨rfl, hB⟩

theorem eqBoxS_nil (w : World) : Calls Try.prog 37 #[.slice none 0 0, .slice none 0 0] w fun e w' => e = .returned (.bool true) ∧ w = w' := by
  go_enter Try.func37, Try.ntmps37
  go_wp2_with fail
  refine wp_loop_rounds 1 ?_
  rw [rounds_succ]
  go_wp2_with fail
  go_ret
  exact ⟨rfl, rfl⟩

theorem markBoxS_nil (w : World) : Calls Try.prog 38 #[.slice none 0 0, .int .i64 1] w fun e w' => e = .returned (.int .i64 1) ∧ w = w' := by
  go_enter Try.func38, Try.ntmps38
  go_wp2_with fail
  refine wp_loop_rounds 1 ?_
  rw [rounds_succ]
  go_wp2_with fail
  go_ret
  exact ⟨rfl, rfl⟩

theorem heldBoxS_nil (w : World) : Calls Try.prog 39 #[.slice none 0 0, .int .i64 1] w fun e w' => e = .returned (.int .i64 1) ∧ w = w' := by
  go_enter Try.func39, Try.ntmps39
  go_wp2_with fail
  refine wp_loop_rounds 1 ?_
  rw [rounds_succ]
  go_wp2_with fail
  go_ret
  exact ⟨rfl, rfl⟩

theorem rowK_set {wr : World} {g m : Nat} (h : RowK wr g m 1) {v : Value} (hv : wr.cell? ⟨g, m, none⟩ = some v) : RowK (wr.setCell ⟨g, m, none⟩ (.int .i64 (1 + (m : Int)))) g (m + 1) 1 := fun j hj => by
  by_cases e : m = j
  · subst e
    rw [World.cell?_setCell_same (h := hv)]
  · rw [World.cell?_setCell_other (h := fun h => e (by injection h))]
    exact h j (by omega)

theorem cell_set {wr : World} {g m j : Nat} {v u : Value} (h : wr.cell? ⟨g, j, none⟩ = some v) (hne : m ≠ j) : (wr.setCell ⟨g, m, none⟩ u).cell? ⟨g, j, none⟩ = some v := by
  rw [World.cell?_setCell_other (h := fun h => hne (by injection h))]; exact h

theorem rowK_set2 {wr : World} {g k : Nat} (h : RowK wr g (k * 2) 1) {v0 v1 : Value} (h0 : wr.cell? ⟨g, k * 2, none⟩ = some v0) (h1 : wr.cell? ⟨g, k * 2 + 1, none⟩ = some v1)
    {a b : Int} (ea : a = 1 + 2 * (k : Int)) (eb : b = 1 + 2 * (k : Int) + 1) :
    RowK ((wr.setCell ⟨g, k * 2, none⟩ (.int .i64 a)).setCell ⟨g, k * 2 + 1, none⟩ (.int .i64 b)) g ((k + 1) * 2) 1 := by
  obtain rfl : a = 1 + ((k * 2 : Nat) : Int) := by omega
  obtain rfl : b = 1 + ((k * 2 + 1 : Nat) : Int) := by omega
  have r0 := rowK_set h h0
  have r1 := rowK_set r0 (cell_set h1 (by omega))
  rw [show (k + 1) * 2 = k * 2 + 1 + 1 by omega]
  exact r1

theorem jt_cells {w : World} {g : Nat} {l : List Bq} (h : BoxAt w g l) {k : Nat} (hk : k < l.length) : ∃ v0 v1, w.cell? ⟨g, k * 2, none⟩ = some v0 ∧ w.cell? ⟨g, k * 2 + 1, none⟩ = some v1 := by
  obtain ⟨a, b⟩ := h k _ (List.getElem?_eq_getElem hk)
  exact ⟨_, _, a, b⟩

set_option maxRecDepth 100000 in
set_option maxHeartbeats 1600000 in
theorem markBoxS_any (g c n : Nat) (l : List Bq) (hn : l.length = n) (hb : n ≤ 2000000) (w : World) (h1 : BoxAt w g l) (hf : FreeR w g (n * 2)) :
    Calls Try.prog 38 #[.slice (some ⟨g, 0, none⟩) n c, .int .i64 1] w fun e w' => e = .returned (.int .i64 (1 + 2 * (n : Int))) ∧ RowK w' g (n * 2) 1 ∧ w.grownBy w' (some g) := by
  have HN := Lib.hid hn
  have H1 := Lib.hid h1
  have HF := Lib.hid hf
  clear hn h1 hf
  go_enter Try.func38, Try.ntmps38
  go_wp2_with fail
  go_loopw [1, 5] (fun t i wr => ∃ k : Nat, k ≤ n ∧ i = .int .i64 k ∧ t = .int .i64 (1 + 2 * (k : Int)) ∧ RowK wr g (k * 2) 1 ∧ (∀ j : Nat, k * 2 ≤ j → wr.cell? ⟨g, j, none⟩ = w.cell? ⟨g, j, none⟩) ∧ FreeR wr g (n * 2) ∧ w.grownBy wr (some g)) (fun _ i _ => n - (intOf i).toNat)
  case atStart => exact ⟨0, Nat.zero_le _, rfl, rfl, fun j hj => absurd hj (by omega), fun _ _ => rfl, HF.out, World.grownBy.refl _ _⟩
  case round =>
    obtain ⟨k, hk, rfl, rfl, r1, r2, r3, hG⟩ := hrel
    have R1 := Lib.hid r1
    have R2 := Lib.hid r2
    have R3 := Lib.hid r3
    have HG := Lib.hid hG
    clear r1 r2 r3 hG
    by_cases hlt : k < n
    · obtain ⟨v0, v1, e0, e1⟩ := jt_cells H1.out (k := k) (by rw [HN.out]; exact hlt)
      have c0 := (R2.out (k * 2) (by omega)).trans e0
      have c1 := (R2.out (k * 2 + 1) (by omega)).trans e1
      have f0 := R3.out (k * 2) (by omega)
      have f1 := R3.out (k * 2 + 1) (by omega)
      have C := Lib.hid (And.intro c0 c1)
      clear e0 e1
      go_wp2_with fail
      go_roundw
      case rel =>
        refine ⟨k + 1, by omega, by go_num, by congr 1, rowK_set2 R1.out C.out.1 C.out.2 rfl rfl, fun j hj => ?_, fun j hj => ?_, set_grown (set_grown HG.out _ _) _ _⟩
        · rw [World.cell?_setCell_other (h := fun h => absurd (by injection h) (show ¬ k * 2 + 1 = j by omega)), World.cell?_setCell_other (h := fun h => absurd (by injection h) (show ¬ k * 2 = j by omega))]
          exact R2.out j (by omega)
        · rw [World.frozen?_setCell, World.frozen?_setCell]
          exact R3.out j hj
      case measure => simp [intOf]; omega
    · obtain rfl : k = n := by omega
      go_wp2_with fail
      go_ret
      exact ⟨rfl, R1.out, HG.out⟩

set_option maxRecDepth 100000 in
set_option maxHeartbeats 800000 in
theorem heldBoxS_any (g c n : Nat) (hb : n ≤ 2000000) (w : World) (h1 : RowK w g (n * 2) 1) :
    Calls Try.prog 39 #[.slice (some ⟨g, 0, none⟩) n c, .int .i64 1] w fun e w' => e = .returned (.int .i64 (1 + 2 * (n : Int))) ∧ w = w' := by
  have H1 := Lib.hid h1
  clear h1
  go_enter Try.func39, Try.ntmps39
  go_wp2_with fail
  go_loop [1, 5] (fun t i => ∃ k : Nat, k ≤ n ∧ i = .int .i64 k ∧ t = .int .i64 (1 + 2 * (k : Int))) (fun _ i => n - (intOf i).toNat)
  case atStart => exact ⟨0, Nat.zero_le _, rfl, rfl⟩
  case round =>
    obtain ⟨k, hk, rfl, rfl⟩ := hrel
    by_cases hlt : k < n
    · have c0 : w.cell? ⟨g, k * 2, none⟩ = some (.int .i64 (1 + 2 * (k : Int))) := by rw [H1.out (k * 2) (by omega)]; congr 2; omega
      have c1 : w.cell? ⟨g, k * 2 + 1, none⟩ = some (.int .i64 (1 + 2 * (k : Int) + 1)) := by rw [H1.out (k * 2 + 1) (by omega)]; congr 2; omega
      go_wp2_with fail
      go_round
      case rel => exact ⟨k + 1, by omega, by go_num, by congr 1⟩
      case measure => simp [intOf]; omega
    · obtain rfl : k = n := by omega
      go_wp2_with fail
      go_ret
      exact ⟨rfl, rfl⟩

end Go.Proofs.Ythiimllafcfieaa

/- Contracts: lists of boxes that a call has handed back, perhaps empty: compared, marked and looked at again. -/
namespace Go.Proofs.Ythiimllafcfieaa
open Go.ChangeShapes Go.WideShapes Go.ChangeAt Go.RowKit Go.Sort

set_option linter.unusedVariables false
set_option linter.unusedSimpArgs false

/-- A list of boxes that a call has handed back. -/
def BoxV (w : World) (v : Value) (l : List Bq) : Prop := ∃ av cap, v = .slice av l.length cap ∧ (l = [] ∨ ∃ g, av = some ⟨g, 0, none⟩ ∧ g < w.heap.size ∧ BoxAt w g l)

theorem boxV_own {W : World} {B : Nat} {v : Value} {l : List Bq} (h : W.ownsRow B 40 2 v l.length (bxCells l)) : BoxV W v l := by
  have h0 := h
  rcases h.2 with ⟨rfl, h2⟩ | ⟨g, cap, cur, rfl, _⟩
  · exact ⟨none, 0, by rw [h2], .inl (List.eq_nil_of_length_eq_zero h2)⟩
  · exact ⟨_, cap, rfl, .inr ⟨g, rfl, (h0.lt g rfl).2, box_of h0 rfl⟩⟩

theorem BoxV.below {w w' : World} {v : Value} {l : List Bq} (h : BoxV w v l) (hb : Below w.heap.size w w') : BoxV w' v l := by
  obtain ⟨av, cap, rfl, h⟩ := h
  refine ⟨av, cap, rfl, h.imp id ?_⟩
  rintro ⟨g, rfl, hg, hs⟩
  exact ⟨g, rfl, Nat.lt_of_lt_of_le hg hb.size, hs.below hg hb⟩

theorem BoxV.grown {w w' : World} {v : Value} {l : List Bq} {row : Option Nat} (h : BoxV w v l) (hg : w.grownBy w' row) (hne : v.ownBlock = none ∨ v.ownBlock ≠ row) : BoxV w' v l := by
  obtain ⟨av, cap, rfl, h⟩ := h
  refine ⟨av, cap, rfl, h.imp id ?_⟩
  rintro ⟨g, rfl, hlt, hs⟩
  have hne' : some g ≠ row := by
    rcases hne with h | h
    · cases h
    · exact h
  exact ⟨g, rfl, Nat.lt_of_lt_of_le hlt hg.size, fun i u hu => ⟨hg.cell (hs i u hu).1 hne', hg.cell (hs i u hu).2 hne'⟩⟩

theorem freeB_own {W : World} {B : Nat} {v : Value} {l : List Bq} (h : W.ownsRow B 40 2 v l.length (bxCells l)) : ∀ g, v.ownBlock = some g → FreeR W g (l.length * 2) := by
  intro g hg j hj
  rcases h.2 with ⟨rfl, _⟩ | ⟨g', cap, cur, rfl, _⟩
  · cases hg
  · simp only [Value.ownBlock, Option.some.injEq] at hg
    subst hg
    exact h.frozenAt j

set_option maxRecDepth 100000 in
theorem eqBoxV_same (v v' : Value) (l : List Bq) (hb : l.length ≤ 1000000) (w : World) (h1 : BoxV w v l) (h2 : BoxV w v' l) :
    Calls Try.prog 37 #[v, v'] w fun e w' => e = .returned (.bool true) ∧ Below w.heap.size w w' := by
  obtain ⟨av, cap, rfl, h1⟩ := h1
  obtain ⟨av', cap', rfl, h2⟩ := h2
  obtain ⟨n, hn⟩ : ∃ n, l.length = n := ⟨_, rfl⟩
  rw [hn] at hb ⊢
  by_cases h0 : n = 0
  · subst h0
    go_enter Try.func37, Try.ntmps37
    go_wp2_with fail
    refine wp_loop_rounds 1 ?_
    rw [rounds_succ]
    go_wp2_with fail
    go_ret
    exact ⟨rfl, Below.refl _ _⟩
  · have hne : l ≠ [] := fun h => h0 (by rw [← hn, h]; rfl)
    obtain ⟨g, rfl, hg, s1⟩ := h1.resolve_left hne
    obtain ⟨g', rfl, hg', s2⟩ := h2.resolve_left hne
    exact eqBoxS_same g cap g' cap' n l hn (by omega) w hg hg' s1 s2

set_option maxRecDepth 100000 in
theorem markBoxV (v : Value) (l : List Bq) (hb : l.length ≤ 900000) (w : World) (h1 : BoxV w v l) (hf : ∀ g, v.ownBlock = some g → FreeR w g (l.length * 2)) :
    Calls Try.prog 38 #[v, .int .i64 1] w fun e w' => e = .returned (.int .i64 (1 + 2 * (l.length : Int))) ∧ (∀ g, v.ownBlock = some g → RowK w' g (l.length * 2) 1) ∧ w.grownBy w' v.ownBlock := by
  obtain ⟨av, cap, rfl, h1⟩ := h1
  obtain ⟨n, hn⟩ : ∃ n, l.length = n := ⟨_, rfl⟩
  rw [hn] at hb hf ⊢
  by_cases h0 : n = 0
  · subst h0
    go_enter Try.func38, Try.ntmps38
    go_wp2_with fail
    refine wp_loop_rounds 1 ?_
    rw [rounds_succ]
    go_wp2_with fail
    go_ret
    exact ⟨rfl, fun _ _ j hj => absurd hj (by omega), World.grownBy.refl _ _⟩
  · have hne : l ≠ [] := fun h => h0 (by rw [← hn, h]; rfl)
    obtain ⟨g, rfl, hg, s1⟩ := h1.resolve_left hne
    refine (markBoxS_any g cap n l hn (by omega) w s1 (hf g rfl)).mono ?_
    rintro e w' ⟨he, hk, hg2⟩
    exact ⟨he, fun g' h => by simp only [Value.ownBlock, Option.some.injEq] at h; subst h; exact hk, hg2⟩

set_option maxRecDepth 100000 in
theorem heldBoxV (av : Option Addr) (n cap : Nat) (hb : n ≤ 900000) (w : World) (h1 : n = 0 ∨ ∃ g, av = some ⟨g, 0, none⟩ ∧ g < w.heap.size ∧ RowK w g (n * 2) 1) :
    Calls Try.prog 39 #[.slice av n cap, .int .i64 1] w fun e w' => e = .returned (.int .i64 (1 + 2 * (n : Int))) ∧ Below w.heap.size w w' := by
  by_cases h0 : n = 0
  · subst h0
    go_enter Try.func39, Try.ntmps39
    go_wp2_with fail
    refine wp_loop_rounds 1 ?_
    rw [rounds_succ]
    go_wp2_with fail
    go_ret
    exact ⟨rfl, Below.refl _ _⟩
  · obtain ⟨g, rfl, hg, s1⟩ := h1.resolve_left h0
    refine (heldBoxS_any g cap n (by omega) w s1).mono ?_
    rintro e w' ⟨he, rfl⟩
    exact ⟨he, Below.refl _ _⟩

end Go.Proofs.Ythiimllafcfieaa

/- A map of ends that have been met: how many different ones it holds. -/
namespace Go.Proofs.Ythiimllafcfieaa
open Go Go.ChangeMaps Go.MapKept Go.ChangeShapes Go.WideShapes Go.RowKit
open Go.WideMaps (KeyLaw)
open Go.Maps (Keyed)

/-- Block b is a map that holds true at the ends T, all of them different. -/
def EdAt (w : World) (b m : Nat) (T : List Sp) : Prop :=
  ∃ D : DataW Unit, w.ownsMap Try.prog 63 (plainElem Try.prog 4) b m D ∧ Maps.size D = T.length ∧ ∀ s, wfS s → Maps.has D (klS s) = T.any fun y => spE y s

theorem EdAt_start (w : World) : EdAt (w.alloc (.map #[] 0)) w.heap.size 0 [] :=
  ⟨.map [], World.ownsMap_made _ _ _ _, rfl, fun s _ => by simp [Maps.has_eq]⟩

theorem EdAt.kept {w w' : World} {b m : Nat} {T : List Sp} {row : Option Nat} (h : EdAt w b m T) (hg : w.grownBy w' row) (hb : some b ≠ row) : EdAt w' b m T := by
  obtain ⟨D, hM, hD⟩ := h
  exact ⟨D, hM.kept hg hb, hD⟩

theorem EdAt.lt {w : World} {b m : Nat} {T : List Sp} (h : EdAt w b m T) : b < w.heap.size := by
  obtain ⟨D, hM, hD⟩ := h
  exact hM.lt

theorem EdAt.below {w w' : World} {b m : Nat} {T : List Sp} (h : EdAt w b m T) (hb : Below w.heap.size w w') : EdAt w' b m T := by
  obtain ⟨D, hM, hD⟩ := h
  exact ⟨D, hM.kept (row := none) ⟨hb.os, hb.tape, hb.output, hb.size, fun k hk _ => hb.block k hk⟩ (by simp), hD⟩

set_option maxRecDepth 100000 in
theorem EdAt.len {w : World} {b m : Nat} {T : List Sp} (h : EdAt w b m T) (ty : TypeId) : (Builtin.len_ #[91] ty #[.map (some b)]).run Try.prog w = .ok (.int .i64 (T.length : Nat)) w := by
  obtain ⟨D, hM, hs, hD⟩ := h
  have := hM.len Try.underlying91 ty
  rw [hs] at this
  exact this

set_option maxRecDepth 100000 in
theorem EdAt.put {w : World} {b m : Nat} {T : List Sp} (h : EdAt w b m T) (hm : m < maxLen) (s : Sp) (hs : wfS s) :
    ∃ w', (Instr.mapUpdate 91 (.map (some b)) (spV s) (.bool true)).run Try.prog w = .ok () w' ∧ EdAt w' b (m + 1) (ddS T s) ∧ w.grownBy w' (some b) := by
  obtain ⟨D, hM, hz, hD⟩ := h
  obtain ⟨w', hrun, h2, h3⟩ := hM.update (Keyed.of_law stLaw) Try.underlying91 hm (klS_key hs) (plainElem_bool Try.underlying4 true)
  refine ⟨w', hrun, ⟨D.put (klS s) (.lit (.bool true)), h2, ?_, fun y hy => ?_⟩, h3⟩
  · rw [Maps.size_put (hM.tidy (Keyed.of_law stLaw)), hD s hs, hz, ddS]
    cases T.any (fun y => spE y s) <;> simp
  · by_cases e : s = y
    · subst e
      rw [Maps.has_put_same hM.isMap (klS_lit hs), ddS]
      cases hc : T.any (fun y => spE y s)
      · simp [spE_self]
      · rw [if_pos rfl, hc]
    · rw [Maps.has_put_other (fun h => e (klS_inj hs hy h.symm)), hD y hy, ddS]
      split
      · rfl
      · simp [spE_ne e]

end Go.Proofs.Ythiimllafcfieaa

/- Contract: the tracks laid whole from a box, with their ends, in the program. -/
namespace Go.Proofs.Ythiimllafcfieaa
open Go.ChangeShapes Go.WideShapes Go.ChangeAt Go.RowKit Go.Joins Go.Sort

set_option linter.unusedVariables false
set_option linter.unusedSimpArgs false

/-- Those of the first j parts that have s straights. -/
def wtU (s : Nat) (R : List (Sp × List UInt8)) (j : Nat) : List (Sp × List UInt8) := (R.take j).filter fun p => cnt 83 p.2 == s

theorem wtU_next {s : Nat} {R : List (Sp × List UInt8)} {j : Nat} {p : Sp × List UInt8} (h : R[j]? = some p) : wtU s R (j + 1) = if cnt 83 p.2 = s then wtU s R j ++ [p] else wtU s R j := by
  simp only [wtU, List.take_add_one, h, Option.toList_some, List.filter_append, List.filter_cons, List.filter_nil, beq_iff_eq]
  split <;> simp

theorem wtU_le (s : Nat) (R : List (Sp × List UInt8)) (j : Nat) : (wtU s R j).length ≤ j := Nat.le_trans (List.length_filter_le _ _) (List.length_take_le _ _)

/-- The tracks laid whole from a box, with their ends. -/
def wtP (s c : Nat) : List (Sp × List UInt8) := (bxW s c).map fun w => (fin sp0 w, w)

theorem wtU_end (s c : Nat) : wtU s (parts sp0 (s + c)) (parts sp0 (s + c)).length = wtP s c := by
  rw [wtU, List.take_length, wtP, bxW, parts, List.filter_map]
  rfl

theorem wt_ok {n : Nat} (hn : n ≤ 40) {p : Sp × List UInt8} (h : p ∈ parts sp0 n) : tkB (ofL p.2) = true ∧ stN (ofL p.2) = cnt 83 p.2 ∧ cvN (ofL p.2) = n - cnt 83 p.2 ∧ cnt 83 p.2 ≤ n := by
  obtain ⟨r, hr, rfl⟩ := List.mem_map.1 h
  have h1 := (words_iffB n r).1 hr
  have e : (ofL r).data.toList = r := by simp [ofL]
  have := cnt_le 83 r
  exact ⟨tkB_ltr (show r.length ≤ 40 by omega) h1.2, by rw [stN, e], by rw [cvN, e, ofL_size, h1.1], by show cnt 83 r ≤ n; omega⟩

theorem parts8 {n : Nat} (h : n ≤ 8) : 3 ^ n ≤ 6561 := Nat.le_trans (Nat.pow_le_pow_right (by decide) h) (by decide)

set_option maxRecDepth 100000 in
theorem pieces_anyW (s c n : Nat) (hn : s + c = n) (h : n ≤ 40) (w : World) : Calls Try.prog 67 #[bv ⟨(s : Int), (c : Int)⟩] w fun e w' => e = .returned (.int .i64 (n : Int)) ∧ Below w.heap.size w w' := by
  have e : (s : Int) + (c : Int) = (n : Int) := by omega
  have e2 := w64N n (by omega)
  clear hn
  go_enter Try.func67, Try.ntmps67
  go_wp2_with fail
  go_returns
  exact ⟨rfl, by go_grown⟩

/-- A block that is one part. -/
def PtB (W : World) (g : Nat) (q : Sp) (T : ByteArray) : Prop := W.heap[g]? = some (.cells #[.int .i64 q.x0, .int .i64 q.x1, .int .i64 q.x2, .int .i64 q.x3, .int .i64 q.h, .string T] 73 (0, 0))

theorem PtB.below {W W' : World} {g m : Nat} {q : Sp} {T : ByteArray} (h : PtB W g q T) (hg : g < m) (hb : Below m W W') : PtB W' g q T := (hb.block g hg).trans h

def WtPost (s c : Nat) (w : World) (e : Ending) (w' : World) : Prop :=
  ∃ v, e = .returned v ∧ w'.ownsRow w.heap.size 73 6 v (wtP s c).length (prtCells (wtP s c)) ∧ Below w.heap.size w w'

set_option maxRecDepth 100000 in
set_option maxHeartbeats 1600000 in
theorem wholeTracks_any (s c : Nat) (h : s + c ≤ 8) (w : World) : Calls Try.prog 76 #[bv ⟨(s : Int), (c : Int)⟩] w (WtPost s c w) := by
  obtain ⟨i0, hi, iz0, iz1, iz2⟩ := info_parts ptInfoP
  obtain ⟨n, hn⟩ : ∃ n, s + c = n := ⟨_, rfl⟩
  have PP := Lib.hid (pieces_anyW s c n hn (by omega))
  have PF0 : ∀ w, Calls Try.prog 60 #[.agg #[.int .i64 0, .int .i64 0, .int .i64 0, .int .i64 0, .int .i64 0], .int .i64 (n : Nat)] w (PrtPost sp0 n w) := fun w => partsFrom_any sp0 (sp0_ok.mono (by decide)) n (by omega) w
  unfold PrtPost at PF0
  have HOK := Lib.hid (fun p (hp : p ∈ parts sp0 n) => wt_ok (by omega) hp)
  have hE := wtU_end s c
  rw [hn] at hE
  have hN := parts_len sp0 n
  have hN2 : 3 ^ n ≤ 6561 := parts8 (by omega)
  rw [hN] at hE
  unfold WtPost
  have SB := Lib.hid (boxSupply_any ⟨(s : Int), (c : Int)⟩)
  generalize wtP s c = RF at *
  generalize parts sp0 n = R at *
  generalize 3 ^ n = N at *
  have PF := Lib.hid PF0
  have HE := Lib.hid hE
  have HN := Lib.hid hN
  have HNC := Lib.hid hn
  clear hE hN hn h PF0
  go_enter Try.func76, Try.ntmps76
  go_wp2_with fail
  (go_at_call 67; (with_reducible refine (PP.out _).mono ?_); rintro e wB ⟨rfl, h1⟩; (try with_reducible replace h1 := undrew h1); have hB : Below w.heap.size w wB := ba (by go_grown) h1; obtain ⟨hcwB, hfwB⟩ := bcell h1; have hqwB := h1.size; (try simp at hqwB); (try have hz0wB : w.heap.size < wB.heap.size := (by omega)); (try have he0wB : w.heap.size ≤ wB.heap.size := (by omega)))
  go_wp2_with fail
  (with_reducible refine Calls.mono (PF.out _) ?_)
  rintro e w1 ⟨g, cap, rfl, hO, hb1⟩
  have c0 : wB.cell? ⟨w.heap.size, 0, none⟩ = some (.int .i64 (s : Int)) := by go_simp
  have c1 : wB.cell? ⟨w.heap.size, 1, none⟩ = some (.int .i64 (c : Int)) := by go_simp
  have hwB : w.heap.size < wB.heap.size := by omega
  have HC := Lib.hid (And.intro (show w1.cell? ⟨w.heap.size, 0, none⟩ = some (.int .i64 (s : Int)) by rw [hb1.cell (p := ⟨w.heap.size, 0, none⟩) hwB]; exact c0) (show w1.cell? ⟨w.heap.size, 1, none⟩ = some (.int .i64 (c : Int)) by rw [hb1.cell (p := ⟨w.heap.size, 1, none⟩) hwB]; exact c1))
  have HB1 := Lib.hid (ba hB hb1 : Below w.heap.size w w1)
  have hw1 : w.heap.size < w1.heap.size := by have := hb1.size; omega
  have HO := Lib.hid hO
  have HP := Lib.hid (prt_of hO HN.out)
  have hg1 : g < w1.heap.size := (hO.lt g rfl).2
  clear hb1 hO hB h1 hcwB hfwB c0 c1
  go_wp2_with fail
  go_loopw [3, 11] (fun t i wr => ∃ (j : Nat) (v : Value), j ≤ N ∧ i = .int .i64 j ∧ v = t ∧ wr.ownsRow w1.heap.size 73 6 v (wtU s R j).length (prtCells (wtU s R j)) ∧ Below w1.heap.size w1 wr) (fun _ i _ => N - (intOf i).toNat)
  case atStart => exact ⟨0, _, Nat.zero_le _, rfl, rfl, World.ownsRow_nil _ _ _ _, Below.refl _ _⟩
  case round =>
    obtain ⟨j, u, hj, rfl, rfl, hU, hb⟩ := hrel
    have hz : w1.heap.size ≤ wr.heap.size := hb.size
    have hle := wtU_le s R j
    have HU := Lib.hid hU
    have HBi := Lib.hid hb
    obtain ⟨wi, rfl⟩ : ∃ wi : World, wi = wr := ⟨_, rfl⟩
    by_cases hlt : j < N
    · obtain ⟨p, hp⟩ : ∃ p, R[j]? = some p := ⟨_, List.getElem?_eq_getElem (by rw [HN.out]; exact hlt)⟩
      obtain ⟨t1, t2, t3, t4⟩ := HOK.out p (List.mem_of_getElem? hp)
      obtain ⟨c0, c1, c2, c3, c4, c5⟩ := (HP.out.below hg1 hb) j p hp
      have b0 : wi.cell? ⟨w.heap.size, 0, none⟩ = some (.int .i64 (s : Int)) := by rw [hb.cell (p := ⟨w.heap.size, 0, none⟩) hw1]; exact HC.out.1
      have b1 : wi.cell? ⟨w.heap.size, 1, none⟩ = some (.int .i64 (c : Int)) := by rw [hb.cell (p := ⟨w.heap.size, 1, none⟩) hw1]; exact HC.out.2
      have NO := needsOf_any (ofL p.2) t1
      rw [t2, t3] at NO
      have HNX := Lib.hid (wtU_next (s := s) hp)
      have hBw : Below w.heap.size w wi := HB1.out.trans (hb.mono HB1.out.size)
      have hwi : w.heap.size < wi.heap.size := by omega
      obtain ⟨q, r⟩ := p
      simp only at c0 c1 c2 c3 c4 c5 t1 t2 t3 t4 NO HNX
      obtain ⟨T, hT⟩ : ∃ T, ofL r = T := ⟨_, rfl⟩
      have HT := Lib.hid hT
      rw [hT] at NO c5
      have hkX : PtB (wi.alloc (.cells #[.int .i64 q.x0, .int .i64 q.x1, .int .i64 q.x2, .int .i64 q.x3, .int .i64 q.h, .string T] 73)) wi.heap.size q T := heap_alloc_new _ _
      have HKX := Lib.hid hkX
      clear hkX
      by_cases hc : cnt 83 r = s
      · have hcc : n - cnt 83 r = c := by have := HNC.out; omega
        have NO2 : ∀ w, Calls Try.prog 70 #[.string T] w fun e w' => e = .returned (bv ⟨(s : Int), (c : Int)⟩) ∧ Below w.heap.size w w' := fun w => by
          have := NO w
          rw [hc, show n - s = c by have := HNC.out; omega] at this
          exact this
        have NOH := Lib.hid NO2
        have HN2 := Lib.hid (show wtU s R (j + 1) = wtU s R j ++ [(q, r)] by rw [HNX.out, if_pos hc])
        clear hU hb hp NO NO2 t1 t2 t3 t4 hc hcc hT
        go_wp2_with fail
        refine absWB (F := fun X => (X.cell? ⟨w.heap.size, 0, none⟩ = some (.int .i64 (s : Int))) ∧ (X.cell? ⟨w.heap.size, 1, none⟩ = some (.int .i64 (c : Int))) ∧ (X.cell? ⟨wi.heap.size, 5, none⟩ = some (.string T)) ∧ (Below wi.heap.size wi X) ∧ (PtB X wi.heap.size q T) ∧ (wi.heap.size < X.heap.size) ∧ Below w.heap.size w X) ⟨by go_simp, by go_simp, by go_simp, (Below.refl _ wi).alloc (Nat.le_refl _) _, HKX.out, by simp, by go_grown⟩ ?_
        rintro X ⟨ca_0, cb_1, cd_5, hqX, hkX, hzX, HB⟩
        have ka_0 := fun d os => cell_regrown ca_0 d os
        have kb_1 := fun d os => cell_regrown cb_1 d os
        have kd_5 := fun d os => cell_regrown cd_5 d os
        refine wp_region_quiet_below (by kernel_rfl) (by kernel_rfl) ?_
        repeat (quiet_step (first | (go_at_call 70; with_reducible exact Calls.regrown_of (NOH.out _)) | (go_at_call 68; with_reducible exact Calls.regrown_of (SB.out _))))
        refine wpQuiet_nil ?_
        rintro _ ⟨⟨dq, osq⟩, rfl⟩
        have hbwz := below_regrown X dq osq
        generalize grow (redrawn X dq) osq = wz at hbwz ⊢
        obtain ⟨hcwz, hfwz⟩ := bcell hbwz
        have hlwz := hbwz.size
        replace HB := ba HB hbwz
        have hqz := ba hqX hbwz
        have hzz := hqz.size
        have hzz1 := hbwz.size
        obtain ⟨d0, d1, d2, d3, d4, d5⟩ := blk6 (hkX.below hzX hbwz)
        have HBA := Lib.hid ((HBi.out.trans (hqz.mono hz)).alloc (by omega) (.cells #[.int .i64 q.x0, .int .i64 q.x1, .int .i64 q.x2, .int .i64 q.x3, .int .i64 q.h, .string T] 73))
        have HOA := Lib.hid ((HU.out.kept (below_grown hqz) (by cases u.ownBlock <;> simp)).alloc (.cells #[.int .i64 q.x0, .int .i64 q.x1, .int .i64 q.x2, .int .i64 q.x3, .int .i64 q.h, .string T] 73))
        clear hqX hbwz hcwz hfwz hqz c0 c1 c2 c3 c4 c5 b0 b1 hBw hkX
        go_wp2_with (at_builtin; refine wpList_append_own_at _ rfl _ _ 70 rfl w1.heap.size 73 i0 (.agg #[.int .i64 0, .int .i64 0, .int .i64 0, .int .i64 0, .int .i64 0, .string ByteArray.empty]) 6 56 Try.underlying70 hi iz0 iz1 iz2 rfl (by decide) u _ _ rfl HOA.out ⟨wz.heap.size, 0, none⟩ 1 1 [.int .i64 q.x0, .int .i64 q.x1, .int .i64 q.x2, .int .i64 q.x3, .int .i64 q.h, .string T] rfl rfl (World.news_of_block (heap_alloc_new _ _)) (by intro x hx; simp at hx; rcases hx with rfl | rfl | rfl | rfl | rfl | rfl <;> rfl) (by unfold maxLen; omega) (by omega) (by simp; omega) ?_; intro v' w4 hown' hgrow hnil hloc)
        have hlt' := HOA.out.lt
        have HB8 := Lib.hid (HBA.out.grown hgrow (by simp; omega) (fun k hk => (hlt' k hk).1))
        have HO8 := Lib.hid hown'
        clear hlt' hgrow hown' hnil hloc d0 d1 d2 d3 d4 d5
        go_roundw
        case rel => exact ⟨j + 1, v', by omega, by go_num, rfl, by rw [HN2.out, prtCells_append, List.length_append]; simp only [prtCells, prtC, List.map_cons, List.map_nil, List.flatten_cons, List.flatten_nil, List.append_nil, HT.out]; exact HO8.out, HB8.out⟩
        case measure => simp [intOf]; omega
      · have HN2 := Lib.hid (show wtU s R (j + 1) = wtU s R j by rw [HNX.out, if_neg hc])
        have hab : ((cnt 83 r : Int) == (s : Int)) = false := by simp; omega
        have NOH := Lib.hid NO
        generalize n - cnt 83 r = d at *
        generalize cnt 83 r = a at *
        clear hU hb hp NO t1 t2 t3 t4 hc hT
        go_wp2_with fail
        refine absWB (F := fun X => (X.cell? ⟨w.heap.size, 0, none⟩ = some (.int .i64 (s : Int))) ∧ (X.cell? ⟨w.heap.size, 1, none⟩ = some (.int .i64 (c : Int))) ∧ (X.cell? ⟨wi.heap.size, 5, none⟩ = some (.string T)) ∧ (Below wi.heap.size wi X) ∧ Below w.heap.size w X) ⟨by go_simp, by go_simp, by go_simp, (Below.refl _ wi).alloc (Nat.le_refl _) _, by go_grown⟩ ?_
        rintro X ⟨ca_0, cb_1, cd_5, hqX, HB⟩
        have ka_0 := fun d os => cell_regrown ca_0 d os
        have kb_1 := fun d os => cell_regrown cb_1 d os
        have kd_5 := fun d os => cell_regrown cd_5 d os
        refine wp_region_quiet_below (by kernel_rfl) (by kernel_rfl) ?_
        repeat (quiet_step (first | (go_at_call 70; with_reducible exact Calls.regrown_of (NOH.out _)) | (go_at_call 68; with_reducible exact Calls.regrown_of (SB.out _))))
        refine wpQuiet_nil ?_
        rintro _ ⟨⟨dq, osq⟩, rfl⟩
        have hbwz := below_regrown X dq osq
        generalize grow (redrawn X dq) osq = wz at hbwz ⊢
        obtain ⟨hcwz, hfwz⟩ := bcell hbwz
        have hlwz := hbwz.size
        replace HB := ba HB hbwz
        have hqz := ba hqX hbwz
        have HBA := Lib.hid (HBi.out.trans (hqz.mono hz))
        have HOA := Lib.hid (HU.out.kept (below_grown hqz) (by cases u.ownBlock <;> simp))
        clear hqX hbwz hcwz hfwz hqz c0 c1 c2 c3 c4 c5 b0 b1 hBw
        go_wp2_with fail
        go_roundw
        case rel => exact ⟨j + 1, u, by omega, by go_num, rfl, by rw [HN2.out]; exact HOA.out, HBA.out⟩
        case measure => simp [intOf]; omega
    · obtain rfl : j = N := by omega
      rw [HE.out] at hU
      have HO2 := Lib.hid (own_lessP hU HB1.out.size)
      have HBF := Lib.hid (HB1.out.trans (hb.mono HB1.out.size))
      clear hU hb
      go_wp2_with fail
      go_ret
      exact ⟨_, rfl, HO2.out, HBF.out⟩

end Go.Proofs.Ythiimllafcfieaa

/- Contracts: CountEnds, in the program and in the model. -/
namespace Go.Proofs.Ythiimllafcfieaa
open Go.ChangeShapes Go.WideShapes Go.ChangeAt Go.RowKit Go.Joins Go.Sort

set_option linter.unusedVariables false
set_option linter.unusedSimpArgs false

/-- The different ends of the first j texts, in the order in which they come. -/
def edT (R : List (List UInt8)) (j : Nat) : List Sp := ddL ((R.take j).map (fin sp0))

theorem edT_next {R : List (List UInt8)} {j : Nat} {r : List UInt8} (h : R[j]? = some r) : edT R (j + 1) = ddS (edT R j) (fin sp0 r) := by
  rw [edT, List.take_add_one, h, Option.toList_some, List.map_append, List.map_cons, List.map_nil, ddL_snoc]
  rfl

theorem edT_le (R : List (List UInt8)) (j : Nat) : (edT R j).length ≤ j := by
  refine Nat.le_trans (ddL_le _) ?_
  rw [List.length_map]
  exact List.length_take_le _ _

def ceN (b : Bq) : Nat := cond (bxB 8 b) (edT (bxW b.x.toNat b.r.toNat) (bxW b.x.toNat b.r.toNat).length).length 0

theorem bxW8 {s c : Nat} (h : s + c ≤ 8) : (bxW s c).length ≤ 6561 := Nat.le_trans (bxW_le s c) (parts8 h)

theorem wtP_len (s c : Nat) : (wtP s c).length = (bxW s c).length := by rw [wtP, List.length_map]

theorem wtP_at {s c j : Nat} {r : List UInt8} (h : (bxW s c)[j]? = some r) : (wtP s c)[j]? = some (fin sp0 r, r) := by rw [wtP, List.getElem?_map, h]; rfl

theorem fin_okE {s c : Nat} (h : s + c ≤ 8) {r : List UInt8} (hr : r ∈ bxW s c) : (fin sp0 r).okB 1000 := by
  have h1 : (fin sp0 r, r) ∈ parts sp0 (s + c) := List.mem_map.2 ⟨r, (words_iffB _ _).2 (bxW_iff.1 hr).1, rfl⟩
  exact (parts_ok sp0_ok h1).1.mono (by omega)

set_option maxRecDepth 100000 in
set_option maxHeartbeats 1600000 in
theorem imCountEnds (b : Bq) (w : World) : Calls Try.prog 41 #[bv b] w fun e w' => e = .returned (.tuple #[.int .i64 (ceN b : Nat), .bool (bxB 8 b)]) ∧ Below w.heap.size w w' := by
  have PS := Lib.hid (isWithinB_any b 8 (by decide) (by decide))
  unfold ceN
  cases hb : bxB 8 b
  · rw [hb] at PS
    clear hb
    go_enter Try.func41, Try.ntmps41
    go_wp2_with (go_at_call 66; refine (PS.out _).mono ?_; rintro e w1 ⟨rfl, h1⟩; have hB : Below w.heap.size w w1 := ba (by go_grown) h1; obtain ⟨hc1, hf1⟩ := bcell h1; have hq := h1.size; (try simp at hq); have hz0 : w.heap.size < w1.heap.size := (by omega); have HK1 := Lib.hid h1; clear h1 hq)
    go_returns
    exact ⟨rfl, by go_grown⟩
  · rw [hb] at PS
    obtain ⟨s, c, rfl, hsc⟩ := bxB_nat (m := 8) hb
    simp only [Int.toNat_natCast, cond_true]
    have WT := Lib.hid (wholeTracks_any s c hsc)
    unfold WtPost at WT
    rw [wtP_len] at WT
    have hlen := bxW8 hsc
    have HAT := Lib.hid (fun (j : Nat) (r : List UInt8) (h : (bxW s c)[j]? = some r) => wtP_at h)
    have HOK := Lib.hid (fun (r : List UInt8) (h : r ∈ bxW s c) => fin_okE hsc h)
    have hwl := wtP_len s c
    have hmm := @run_makeMap Try.prog
    generalize wtP s c = P at *
    generalize bxW s c = R at *
    obtain ⟨N, hN⟩ : ∃ N, R.length = N := ⟨_, rfl⟩
    rw [hN] at WT hlen hwl
    have HN := Lib.hid hN
    have HWL := Lib.hid hwl
    rw [hN]
    clear hN hb hwl hsc
    go_enter Try.func41, Try.ntmps41
    go_wp2_with fail
    (go_at_call 66; (with_reducible refine (PS.out _).mono ?_); rintro e wA ⟨rfl, h1⟩; (try with_reducible replace h1 := undrew h1); have hB : Below w.heap.size w wA := ba (by go_grown) h1; obtain ⟨hcwA, hfwA⟩ := bcell h1; have hqwA := h1.size; (try simp at hqwA); (try have hz0wA : w.heap.size < wA.heap.size := (by omega)); (try have he0wA : w.heap.size ≤ wA.heap.size := (by omega)))
    go_wp2_with fail
    (with_reducible refine Calls.mono (WT.out _) ?_)
    rintro e w1 ⟨v, rfl, hO, hb1⟩
    obtain ⟨av, cv, rfl⟩ := own_formC hO
    have HE0 := Lib.hid ((EdAt_start wA).below hb1)
    have hzA : w.heap.size < wA.heap.size := by omega
    have HB1 := Lib.hid ((hB.alloc hB.size (.map #[] 0)).trans (hb1.mono (by simp; omega)))
    have HO := Lib.hid hO
    have hz1 := hb1.size
    simp only [World.size_alloc] at hz1
    clear hO hb1 hB h1 hcwA hfwA
    go_wp2_with fail
    go_loopw [14] (fun i wr => ∃ j : Nat, j ≤ N ∧ i = .int .i64 j ∧ EdAt wr wA.heap.size j (edT R j) ∧ w1.grownBy wr (some wA.heap.size)) (fun i _ => N - (intOf i).toNat)
    case atStart => exact ⟨0, Nat.zero_le _, rfl, HE0.out, World.grownBy.refl _ _⟩
    case round =>
      obtain ⟨j, hj, rfl, hE, hgr⟩ := hrel
      by_cases hlt : j < N
      · obtain ⟨r, hr⟩ : ∃ r, R[j]? = some r := ⟨_, List.getElem?_eq_getElem (by rw [HN.out]; exact hlt)⟩
        obtain ⟨g, rfl⟩ : ∃ g, av = some ⟨g, 0, none⟩ := by
          rcases HO.out.2 with ⟨h, h0⟩ | ⟨g, cap, _, h, _⟩
          · omega
          · injection h with h; exact ⟨g, h⟩
        have hgl := (HO.out.lt g rfl).1
        simp only [World.size_alloc] at hgl
        have hne : some g ≠ some wA.heap.size := fun e => by injection e with e; omega
        obtain ⟨c0, c1, c2, c3, c4, c5⟩ := ((prt_of HO.out HWL.out).grown hgr hne) j _ (HAT.out j r hr)
        have hpo := HOK.out r (List.mem_of_getElem? hr)
        have hwf := wf_of hpo (by decide)
        have HNX := Lib.hid (edT_next hr)
        have hml : j < maxLen := by unfold maxLen; omega
        simp only at c0 c1 c2 c3 c4 c5
        generalize fin sp0 r = q at *
        generalize ofL r = T at *
        have hEA := hE.kept (World.grownBy_alloc wr (.cells #[.int .i64 q.x0, .int .i64 q.x1, .int .i64 q.x2, .int .i64 q.x3, .int .i64 q.h, .string T] 73) none) (by simp)
        obtain ⟨W1, rE, hE1, gE⟩ := hEA.put hml q hwf
        simp only [spV] at rE
        have h2 := grown_row hgr (World.grownBy_alloc wr (.cells #[.int .i64 q.x0, .int .i64 q.x1, .int .i64 q.x2, .int .i64 q.x3, .int .i64 q.h, .string T] 73) none) (by simp)
        have H3 := Lib.hid (grown_row h2 gE (fun k hk => .inr hk))
        have HE1 := Lib.hid (show EdAt W1 wA.heap.size (j + 1) (edT R (j + 1)) by rw [HNX.out]; exact hE1)
        clear hr hpo hwf hE hgr hEA hE1 gE h2 hml hgl hne
        go_wp2_with fail
        go_roundw
        case rel => exact ⟨j + 1, by omega, by go_num, HE1.out, H3.out⟩
        case measure => simp [intOf]; omega
      · obtain rfl : j = N := by omega
        have LN := fun ty => hE.len ty
        have HB2 := Lib.hid (show Below w.heap.size w wr from HB1.out.grown hgr (by omega) (fun k hk => by injection hk with hk; omega))
        clear hE hgr
        go_wp2_with fail
        go_ret2
        exact ⟨rfl, HB2.out⟩

end Go.Proofs.Ythiimllafcfieaa

/- Contract of the model: CountEnds. -/
namespace Go.Proofs.Ythiimllafcfieaa
open Go.ChangeShapes Go.WideShapes Go.ChangeAt Go.RowKit Go.Joins Go.Sort

set_option linter.unusedVariables false
set_option linter.unusedSimpArgs false

theorem any_takeE {T : List Sp} {k : Nat} {p : Sp} (x : Sp) (h : T[k]? = some p) : (T.take (k + 1)).any (fun y => spE y x) = ((T.take k).any (fun y => spE y x) || spE p x) := by
  rw [List.take_add_one, h, Option.toList_some, List.any_append]
  simp

theorem en_okE {s c : Nat} (h : s + c ≤ 8) {r : List UInt8} (hr : r ∈ bxW s c) : tkB (ofL r) = true ∧ enS (ofL r) = fin sp0 r := by
  have h1 := (bxW_tk (s := s) (c := c) (by omega) hr).1
  exact ⟨h1, by rw [enS_yes h1]; simp [ofL]⟩

set_option maxRecDepth 100000 in
set_option maxHeartbeats 3200000 in
theorem spCountEnds (b : Bq) (w : World) : Calls Try.prog 40 #[bv b] w fun e w' => e = .returned (.tuple #[.int .i64 (ceN b : Nat), .bool (bxB 8 b)]) ∧ Below w.heap.size w w' := by
  obtain ⟨i0, hi, iz0, iz1, iz2⟩ := info_parts ptInfo
  obtain ⟨j0, ji, jz0, jz1, jz2⟩ := info_parts nmInfo
  have PS := Lib.hid (spSmB_any b 8 (by decide))
  unfold ceN
  cases hb : bxB 8 b
  · rw [hb] at PS
    clear hb
    go_enter Try.func40, Try.ntmps40
    go_wp2_with (go_at_call 62; refine (PS.out _).mono ?_; rintro e w1 ⟨rfl, h1⟩; have hB : Below w.heap.size w w1 := ba (by go_grown) h1; obtain ⟨hc1, hf1⟩ := bcell h1; have hq := h1.size; (try simp at hq); have hz0 : w.heap.size < w1.heap.size := (by omega); have HK1 := Lib.hid h1; clear h1 hq)
    go_returns
    exact ⟨rfl, by go_grown⟩
  · rw [hb] at PS
    obtain ⟨s, c, rfl, hsc⟩ := bxB_nat (m := 8) hb
    simp only [Int.toNat_natCast, cond_true]
    have PA := Lib.hid (spAll_any s c (by omega))
    unfold AllPost at PA
    have hlen := bxW8 hsc
    have HTK := Lib.hid (fun r (hr : r ∈ bxW s c) => en_okE hsc hr)
    generalize bxW s c = R at *
    obtain ⟨N, hN⟩ : ∃ N, R.length = N := ⟨_, rfl⟩
    have HN := Lib.hid hN
    rw [hN] at hlen
    rw [hN]
    clear hb hN hsc
    go_enter Try.func40, Try.ntmps40
    go_wp2_with fail
    (go_at_call 62; (with_reducible refine (PS.out _).mono ?_); rintro e wA ⟨rfl, h1⟩; (try with_reducible replace h1 := undrew h1); have hB : Below w.heap.size w wA := ba (by go_grown) h1; obtain ⟨hcwA, hfwA⟩ := bcell h1; have hqwA := h1.size; (try simp at hqwA); (try have hz0wA : w.heap.size < wA.heap.size := (by omega)); (try have he0wA : w.heap.size ≤ wA.heap.size := (by omega)))
    go_wp2_with fail
    (with_reducible refine Calls.mono (PA.out _) ?_)
    rintro e w1 ⟨v, rfl, hO, hb1⟩
    rw [HN.out] at hO
    have HB1 := Lib.hid (hB.trans (hb1.mono hB.size))
    obtain ⟨av, cv, rfl⟩ := own_formC hO
    have HO := Lib.hid hO
    clear hb1 hO hB hcwA hfwA h1
    go_wp2_with fail
    go_loopw [4, 5, 19] (fun P H i wr => ∃ (j : Nat) (u v : Value), j ≤ N ∧ i = .int .i64 j ∧ u = P ∧ v = H ∧ wr.ownsRow w1.heap.size 60 4 u (edT R j).length (ptCells (edT R j)) ∧ wr.ownsRow w1.heap.size 3 1 v (edT R j).length (hdCells (edT R j)) ∧ Below w1.heap.size w1 wr) (fun _ _ i _ => N - (intOf i).toNat)
    case atStart => exact ⟨0, _, _, Nat.zero_le _, rfl, rfl, rfl, World.ownsRow_nil _ _ _ _, World.ownsRow_nil _ _ _ _, Below.refl _ _⟩
    case round =>
      obtain ⟨j, u, v, hj, rfl, rfl, rfl, hP, hH, hb⟩ := hrel
      have hle := edT_le R j
      have hzr := hb.size
      obtain ⟨wi, rfl⟩ : ∃ wi : World, wi = wr := ⟨_, rfl⟩
      by_cases hlt : j < N
      · obtain ⟨r, hr⟩ : ∃ r, R[j]? = some r := ⟨_, List.getElem?_eq_getElem (by rw [HN.out]; exact hlt)⟩
        obtain ⟨g, rfl⟩ : ∃ g, av = some ⟨g, 0, none⟩ := by
          rcases HO.out.2 with ⟨h, h0⟩ | ⟨g, cap, _, h, _⟩
          · omega
          · injection h with h; exact ⟨g, h⟩
        obtain ⟨t1, t2⟩ := HTK.out r (List.mem_of_getElem? hr)
        have cr := (str_of HO.out HN.out).below (HO.out.lt g rfl).2 hb j r hr
        have TE := tkEnd_yes (ofL r) t1
        rw [t2] at TE
        have HNX := Lib.hid (edT_next hr)
        generalize fin sp0 r = x at *
        generalize edT R j = T at *
        generalize ofL r = U at *
        obtain ⟨K, hK⟩ : ∃ K, T.length = K := ⟨_, rfl⟩
        rw [hK] at hP hH hle
        have HK := Lib.hid hK
        obtain ⟨au, cu, rfl⟩ := own_formC hP
        obtain ⟨ah, ch, rfl⟩ := own_formC hH
        have TEH := Lib.hid TE
        have HP := Lib.hid hP
        have HH := Lib.hid hH
        have HB := Lib.hid hb
        have hB : Below w.heap.size w wi := HB1.out.trans (hb.mono HB1.out.size)
        clear hr t1 t2 TE hP hH hb hK
        go_wp2_with fail
        (go_at_call 75; (with_reducible refine (TEH.out _).mono ?_); rintro e wT ⟨rfl, h1⟩; (try with_reducible replace h1 := undrew h1); have hB : Below w.heap.size w wT := ba (by go_grown) h1; obtain ⟨hcwT, hfwT⟩ := bcell h1; have hqwT := h1.size; (try simp at hqwT); )
        have hzT := h1.size
        have HBT := Lib.hid h1
        clear h1 hcwT hfwT cr hB
        go_wp2_with fail
        go_loopw [10, 30] (fun f i wk => ∃ k : Nat, k ≤ K ∧ i = .int .i64 k ∧ f = .bool ((T.take k).any fun y => spE y x) ∧ wk.heap[wT.heap.size]? = some (.cells #[.int .i64 x.x0, .int .i64 x.x1, .int .i64 x.x2, .int .i64 x.x3] 60 (0, 0)) ∧ Below wT.heap.size wT wk) (fun _ i _ => K - (intOf i).toNat)
        case atStart => exact ⟨0, Nat.zero_le _, rfl, rfl, heap_alloc_new _ _, (Below.refl _ _).alloc (Nat.le_refl _) _⟩
        case round =>
          obtain ⟨k, hk, rfl, rfl, hq, hbk⟩ := hrel
          have hzk := hbk.size
          have hqlt := (Array.getElem?_eq_some_iff.1 hq).1
          have HQ := Lib.hid hq
          have HBK := Lib.hid hbk
          obtain ⟨wm, rfl⟩ : ∃ wm : World, wm = wr := ⟨_, rfl⟩
          obtain ⟨e0, e1, e2, e3⟩ := blk_cells hq
          by_cases hlk : k < K
          · obtain ⟨p, hp⟩ : ∃ p, T[k]? = some p := ⟨_, List.getElem?_eq_getElem (by rw [HK.out]; exact hlk)⟩
            obtain ⟨gu, rfl⟩ : ∃ gu, au = some ⟨gu, 0, none⟩ := by
              rcases HP.out.2 with ⟨h, h0⟩ | ⟨g, cap, _, h, _⟩
              · omega
              · injection h with h; exact ⟨g, h⟩
            obtain ⟨gh, rfl⟩ : ∃ gh, ah = some ⟨gh, 0, none⟩ := by
              rcases HH.out.2 with ⟨h, h0⟩ | ⟨g, cap, _, h, _⟩
              · omega
              · injection h with h; exact ⟨g, h⟩
            have hghm : gh < wm.heap.size := by have := (HH.out.lt gh rfl).2; omega
            have hbw : Below wi.heap.size wi wm := HBT.out.trans (hbk.mono hzT)
            have hq2 := own_pt (own_belowL HP.out hbw) HK.out hp
            obtain ⟨c0, c1, c2, c3⟩ := hq2
            have c4 := own_hd (own_belowL HH.out hbw) HK.out hp
            have hany := any_takeE x hp
            have hsp : spE p x = ((p.x0 == x.x0 && (p.x1 == x.x1 && (p.x2 == x.x2 && p.x3 == x.x3))) && p.h == x.h) := rfl
            clear hq hbk hp hbw
            cases hf : (T.take k).any fun y => spE y x
            · rw [hf, Bool.false_or, hsp] at hany
              cases hqq : (p.x0 == x.x0 && (p.x1 == x.x1 && (p.x2 == x.x2 && p.x3 == x.x3)))
              · rw [hqq, Bool.false_and] at hany
                have HF2 := Lib.hid hany
                clear hany hsp hf
                have HB8 := Lib.hid (HBK.out.alloc hzk (.cells #[.int .i64 p.x0, .int .i64 p.x1, .int .i64 p.x2, .int .i64 p.x3] 60))
                have HQ8 := Lib.hid ((Below.heap_alloc wm (.cells #[.int .i64 p.x0, .int .i64 p.x1, .int .i64 p.x2, .int .i64 p.x3] 60) _ hqlt).trans HQ.out)
                go_wp2_with fail
                go_roundw
                case rel => exact ⟨k + 1, by omega, by go_num, by rw [HF2.out], HQ8.out, HB8.out⟩
                case measure => simp [intOf]; omega
              · rw [hqq, Bool.true_and] at hany
                have HF2 := Lib.hid hany
                clear hany hsp hf
                have HB8 := Lib.hid (HBK.out.alloc hzk (.cells #[.int .i64 p.x0, .int .i64 p.x1, .int .i64 p.x2, .int .i64 p.x3] 60))
                have HQ8 := Lib.hid ((Below.heap_alloc wm (.cells #[.int .i64 p.x0, .int .i64 p.x1, .int .i64 p.x2, .int .i64 p.x3] 60) _ hqlt).trans HQ.out)
                go_wp2_with fail
                go_roundw
                case rel => exact ⟨k + 1, by omega, by go_num, by rw [HF2.out], HQ8.out, HB8.out⟩
                case measure => simp [intOf]; omega
            · rw [hf, Bool.true_or] at hany
              have HF2 := Lib.hid hany
              clear hany hsp hf
              have HB8 := Lib.hid (HBK.out.alloc hzk (.cells #[.int .i64 p.x0, .int .i64 p.x1, .int .i64 p.x2, .int .i64 p.x3] 60))
              have HQ8 := Lib.hid ((Below.heap_alloc wm (.cells #[.int .i64 p.x0, .int .i64 p.x1, .int .i64 p.x2, .int .i64 p.x3] 60) _ hqlt).trans HQ.out)
              go_wp2_with fail
              go_roundw
              case rel => exact ⟨k + 1, by omega, by go_num, by rw [HF2.out], HQ8.out, HB8.out⟩
              case measure => simp [intOf]; omega
          · obtain rfl : k = K := by omega
            have hta : T.take k = T := List.take_of_length_le (by rw [HK.out]; exact Nat.le_refl _)
            rw [hta]
            have hds : ddS T x = if T.any (fun y => spE y x) then T else T ++ [x] := rfl
            have hbw : Below wi.heap.size wi wm := HBT.out.trans (hbk.mono hzT)
            have HBW := Lib.hid (HB.out.trans (hbw.mono hzr))
            have HPW := Lib.hid (own_belowL HP.out hbw)
            have HHW := Lib.hid (own_belowL HH.out hbw)
            have hzw := HBW.out.size
            clear hq hbk hbw hta
            cases hf : T.any fun y => spE y x
            · have HN2 := Lib.hid (show edT R (j + 1) = T ++ [x] by rw [HNX.out, hds, hf]; rfl)
              have HKN := Lib.hid (show (T ++ [x]).length = k + 1 by rw [List.length_append, HK.out]; rfl)
              have HPA := Lib.hid (HPW.out.alloc (.cells #[.int .i64 x.x0, .int .i64 x.x1, .int .i64 x.x2, .int .i64 x.x3] 60))
              have HHA := Lib.hid (HHW.out.alloc (.cells #[.int .i64 x.x0, .int .i64 x.x1, .int .i64 x.x2, .int .i64 x.x3] 60))
              have HBA := Lib.hid (HBW.out.alloc hzw (.cells #[.int .i64 x.x0, .int .i64 x.x1, .int .i64 x.x2, .int .i64 x.x3] 60))
              clear hds hf hlk
              go_wp2_with (at_builtin; refine wpList_append_own_at _ rfl _ _ 87 rfl w1.heap.size 60 i0 (.agg #[.int .i64 0, .int .i64 0, .int .i64 0, .int .i64 0]) 4 32 Try.underlying87 hi iz0 iz1 iz2 rfl (by decide) (.slice au k cu) _ _ rfl HPA.out ⟨wm.heap.size, 0, none⟩ 1 1 [.int .i64 x.x0, .int .i64 x.x1, .int .i64 x.x2, .int .i64 x.x3] rfl rfl (World.news_of_block (heap_alloc_new _ _)) (by intro x hx; simp at hx; rcases hx with rfl | rfl | rfl | rfl <;> rfl) (by unfold maxLen; omega) (by omega) ?c5 ?_)
              case c5 => simp; omega
              intro v' w4 hown' hgrow hnil hloc
              have hlt1 := HPA.out.lt
              have HH4 := Lib.hid ((HHA.out.kept hgrow (own_ne HHA.out HPA.out (by decide))).alloc (.cells #[.int .i64 x.h] 3))
              have HP4 := Lib.hid (hown'.alloc (.cells #[.int .i64 x.h] 3))
              have hb4 : Below w1.heap.size w1 w4 := HBA.out.grown hgrow (by simp; omega) (fun k hk => (hlt1 k hk).1)
              have hz4 := hb4.size
              have HB4 := Lib.hid (hb4.alloc hz4 (.cells #[.int .i64 x.h] 3))
              clear hlt1 hgrow hown' hnil hloc hb4 e0 e1 e2 e3
              go_wp2_with (at_builtin; refine wpList_append_own_at _ rfl _ _ 88 rfl w1.heap.size 3 j0 (.int .i64 0) 1 8 Try.underlying88 ji jz0 jz1 jz2 rfl (by decide) (.slice ah k ch) _ _ rfl HH4.out ⟨w4.heap.size, 0, none⟩ 1 1 [.int .i64 x.h] rfl rfl (World.news_of_block (heap_alloc_new _ _)) (by intro x hx; simp at hx; subst hx; rfl) (by unfold maxLen; omega) (by omega) (by simp; omega) ?_; intro v'' w5 hown' hgrow hnil hloc)
              have hlt2 := HH4.out.lt
              have HP5 := Lib.hid (HP4.out.kept hgrow (own_ne HP4.out HH4.out (by decide)))
              have HB5 := Lib.hid (HB4.out.grown hgrow (by simp; omega) (fun k hk => (hlt2 k hk).1))
              have HH5 := Lib.hid hown'
              clear hlt2 hgrow hown' hnil hloc
              go_wp2_with fail
              go_roundw
              case rel => exact ⟨j + 1, v', v'', by omega, by go_num, rfl, rfl, by rw [HN2.out, HKN.out, ptCells_append]; exact HP5.out, by rw [HN2.out, HKN.out, hdCells_append]; exact HH5.out, HB5.out⟩
              case measure => simp [intOf]; omega
            · have HN2 := Lib.hid (show edT R (j + 1) = T by rw [HNX.out, hds, hf]; rfl)
              clear hds hf hlk
              go_wp2_with fail
              go_roundw
              case rel => exact ⟨j + 1, _, _, by omega, by go_num, rfl, rfl, by rw [HN2.out, HK.out]; exact HPW.out, by rw [HN2.out, HK.out]; exact HHW.out, HBW.out⟩
              case measure => simp [intOf]; omega
      · obtain rfl : j = N := by omega
        have HB2 := Lib.hid (HB1.out.trans (hb.mono HB1.out.size))
        obtain ⟨au, cu, rfl⟩ := own_formC hP
        clear hP hH hb
        go_wp2_with fail
        go_ret2
        exact ⟨rfl, HB2.out⟩

end Go.Proofs.Ythiimllafcfieaa

/- The first one of the tracks laid whole from a box whose end lies farthest. -/
namespace Go.Proofs.Ythiimllafcfieaa
open Go.ChangeShapes Go.WideShapes Go.ChangeAt Go.RowKit

/-- The end of x lies farther than that of g. -/
def fgW (x g : List UInt8) : Bool := farB (fin sp0 x) (fin sp0 g)

/-- The first j texts: the first one of them that lies farthest. -/
def feO (l : List (List UInt8)) (j : Nat) : Option (List UInt8) := fgO fgW (l.take j)

theorem feO_next {l : List (List UInt8)} {j : Nat} {b : List UInt8} (h : l[j]? = some b) : feO l (j + 1) = fgS fgW (feO l j) b := by
  rw [feO, List.take_add_one, h]
  exact fgO_snoc _ _ _

theorem feO_some {l : List (List UInt8)} {j : Nat} (h0 : 0 < j) (h : j ≤ l.length) : ∃ g, feO l j = some g ∧ g ∈ l := by
  obtain ⟨g, hg⟩ := fgO_some fgW (l.take j) (fun e => by
    have h1 := congrArg List.length e
    rw [List.length_take] at h1
    have h2 : min j l.length = 0 := h1
    omega)
  exact ⟨g, hg, List.mem_of_mem_take (fgO_mem _ _ _ hg)⟩

theorem bxW_pos0 : ∀ s : Nat, 0 < (bxW s 0).length
  | 0 => by have := bxL_zero []; rw [bxW_nil] at this; rw [this]; exact Nat.one_pos
  | s + 1 => by rw [bxW_last, List.length_map]; exact bxW_pos0 s

theorem bxW_pos (s : Nat) : ∀ c : Nat, 0 < (bxW s c).length
  | 0 => bxW_pos0 s
  | c + 1 => by
    rw [bxW_curve, List.length_append, List.length_map]
    have := bxW_pos s c
    omega

/-- The farthest end's track, and its norm. -/
def feG (b : Bq) : Option (List UInt8) := cond (bxB 8 b) (feO (bxW b.x.toNat b.r.toNat) (bxW b.x.toNat b.r.toNat).length) none

def feS (o : Option (List UInt8)) : Sp := fin sp0 (o.getD [])

def feN (o : Option (List UInt8)) : Bq := ⟨(feS o).n0, (feS o).n1⟩

theorem feN_none : feN none = ⟨0, 0⟩ := by
  have h0 : nm0 0 0 0 0 = 0 := by decide +kernel
  have h1 : nm1 0 0 0 0 = 0 := by decide +kernel
  show (⟨nm0 0 0 0 0, nm1 0 0 0 0⟩ : Bq) = ⟨0, 0⟩
  rw [h0, h1]

/-- Norms' bounds at an end. -/
theorem fe_nm {s : Sp} (h : s.okB 1000) : -4000000000000 ≤ s.n0 ∧ s.n0 ≤ 4000000000000 ∧ -4000000000000 ≤ s.n1 ∧ s.n1 ≤ 4000000000000 := by
  obtain ⟨⟨b0, b0'⟩, ⟨b1, b1'⟩, ⟨b2, b2'⟩, ⟨b3, b3'⟩, b4, b5⟩ := h
  exact nm_bd s.x0 s.x1 s.x2 s.x3 (by omega) (by omega) (by omega) (by omega) (by omega) (by omega) (by omega) (by omega)

theorem fin_okW {s c : Nat} (h : s + c ≤ 8) {r : List UInt8} (hr : r ∈ bxW s c) : (fin sp0 r).okB 1000 := by
  have h1 : (fin sp0 r, r) ∈ parts sp0 (s + c) := List.mem_map.2 ⟨r, (words_iffB _ _).2 (bxW_iff.1 hr).1, rfl⟩
  exact (parts_ok sp0_ok h1).1.mono (by omega)

/-- A block that is one part, not frozen. -/
theorem PtB.set {W : World} {g : Nat} {q : Sp} {T : ByteArray} (h : PtB W g q T) (p : Sp) (U : ByteArray) :
    PtB ((((((W.setCell ⟨g, 0, none⟩ (.int .i64 p.x0)).setCell ⟨g, 1, none⟩ (.int .i64 p.x1)).setCell ⟨g, 2, none⟩ (.int .i64 p.x2)).setCell ⟨g, 3, none⟩ (.int .i64 p.x3)).setCell ⟨g, 4, none⟩ (.int .i64 p.h)).setCell ⟨g, 5, none⟩ (.string U)) g p U := by
  unfold PtB at h ⊢
  simp [World.setCell, Array.getElem?_modify, h]

theorem PtB.cells {W : World} {g : Nat} {q : Sp} {T : ByteArray} (h : PtB W g q T) :
    W.cell? ⟨g, 0, none⟩ = some (.int .i64 q.x0) ∧ W.cell? ⟨g, 1, none⟩ = some (.int .i64 q.x1) ∧ W.cell? ⟨g, 2, none⟩ = some (.int .i64 q.x2) ∧ W.cell? ⟨g, 3, none⟩ = some (.int .i64 q.x3) ∧ W.cell? ⟨g, 4, none⟩ = some (.int .i64 q.h) ∧ W.cell? ⟨g, 5, none⟩ = some (.string T) := blk6 h

theorem PtB.free {W : World} {g : Nat} {q : Sp} {T : ByteArray} (h : PtB W g q T) (i : Nat) : W.frozen? ⟨g, i, none⟩ = false := by
  unfold PtB at h
  simp [World.frozen?, h]

theorem PtB.lt {W : World} {g : Nat} {q : Sp} {T : ByteArray} (h : PtB W g q T) : g < W.heap.size := (Array.getElem?_eq_some_iff.1 h).1

theorem PtB.other {W : World} {g : Nat} {q : Sp} {T : ByteArray} (h : PtB W g q T) {a : Addr} (ha : g ≠ a.block) (v : Value) : PtB (W.setCell a v) g q T := by
  unfold PtB at h ⊢
  have : ¬ a.block = g := fun e => ha e.symm
  simp [World.setCell, Array.getElem?_modify, h, this]

theorem PtB.new (W : World) (q : Sp) (T : ByteArray) : PtB (W.alloc (.cells #[.int .i64 q.x0, .int .i64 q.x1, .int .i64 q.x2, .int .i64 q.x3, .int .i64 q.h, .string T] 73)) W.heap.size q T := heap_alloc_new _ _

end Go.Proofs.Ythiimllafcfieaa

/- Contracts: FarthestEnd, in the program. -/
namespace Go.Proofs.Ythiimllafcfieaa
open Go.ChangeShapes Go.WideShapes Go.ChangeAt Go.RowKit Go.Joins Go.Sort

set_option linter.unusedVariables false
set_option linter.unusedSimpArgs false

set_option maxRecDepth 100000 in
theorem partCmp_any (p q : Sp) (X Y : ByteArray) (hp : p.okB 1000) (hq : q.okB 1000) (w : World) :
    Calls Try.prog 80 #[.agg #[.int .i64 p.x0, .int .i64 p.x1, .int .i64 p.x2, .int .i64 p.x3, .int .i64 p.h, .string X], .agg #[.int .i64 q.x0, .int .i64 q.x1, .int .i64 q.x2, .int .i64 q.x3, .int .i64 q.h, .string Y]] w fun e w' => e = .returned (.int .i64 (sgn2 (p.n0 - q.n0) (p.n1 - q.n1))) ∧ Below w.heap.size w w' := by
  have PA := Lib.hid (imNorm_any p.x0 p.x1 p.x2 p.x3)
  have PB := Lib.hid (imNorm_any q.x0 q.x1 q.x2 q.x3)
  obtain ⟨a0, a1, a2, a3⟩ := fe_nm hp
  obtain ⟨b0, b1, b2, b3⟩ := fe_nm hq
  have PC := Lib.hid (imCompare_any p.n0 p.n1 q.n0 q.n1 (by omega) (by omega) (by omega) (by omega) (by omega) (by omega) (by omega) (by omega))
  simp only [Sp.n0, Sp.n1] at PC ⊢
  clear hp hq a0 a1 a2 a3 b0 b1 b2 b3
  obtain ⟨x0, x1, x2, x3, x4⟩ := p
  obtain ⟨y0, y1, y2, y3, y4⟩ := q
  simp only at PA PB PC ⊢
  generalize nm0 x0 x1 x2 x3 = m0 at *
  generalize nm1 x0 x1 x2 x3 = m1 at *
  generalize nm0 y0 y1 y2 y3 = l0 at *
  generalize nm1 y0 y1 y2 y3 = l1 at *
  generalize sgn2 (m0 - l0) (m1 - l1) = z at *
  go_enter Try.func80, Try.ntmps80
  go_wp2_with fail
  refine absWB (F := fun W => (W.cell? ⟨w.heap.size, 0, none⟩ = some (.int .i64 x0)) ∧ (W.cell? ⟨w.heap.size, 1, none⟩ = some (.int .i64 x1)) ∧ (W.cell? ⟨w.heap.size, 2, none⟩ = some (.int .i64 x2)) ∧ (W.cell? ⟨w.heap.size, 3, none⟩ = some (.int .i64 x3)) ∧ (W.cell? ⟨w.heap.size + 1, 0, none⟩ = some (.int .i64 y0)) ∧ (W.cell? ⟨w.heap.size + 1, 1, none⟩ = some (.int .i64 y1)) ∧ (W.cell? ⟨w.heap.size + 1, 2, none⟩ = some (.int .i64 y2)) ∧ (W.cell? ⟨w.heap.size + 1, 3, none⟩ = some (.int .i64 y3)) ∧ Below w.heap.size w W ∧ W.heap.size = w.heap.size + 1 + 1) ⟨by go_simp, by go_simp, by go_simp, by go_simp, by go_simp, by go_simp, by go_simp, by go_simp, by go_grown, by first | (simp; done) | (simp; omega)⟩ ?_
  rintro W ⟨cp0_0, cp1_1, cp2_2, cp3_3, cq0_0, cq1_1, cq2_2, cq3_3, HB, hz⟩
  have kp0_0 := fun d os => cell_regrown cp0_0 d os
  have kp1_1 := fun d os => cell_regrown cp1_1 d os
  have kp2_2 := fun d os => cell_regrown cp2_2 d os
  have kp3_3 := fun d os => cell_regrown cp3_3 d os
  have kq0_0 := fun d os => cell_regrown cq0_0 d os
  have kq1_1 := fun d os => cell_regrown cq1_1 d os
  have kq2_2 := fun d os => cell_regrown cq2_2 d os
  have kq3_3 := fun d os => cell_regrown cq3_3 d os
  refine wp_region_quiet_below (by kernel_rfl) (by kernel_rfl) ?_
  repeat (quiet_step (first | (go_at_call 81; with_reducible exact Calls.regrown_of (PA.out _)) | (go_at_call 81; with_reducible exact Calls.regrown_of (PB.out _)) | (go_at_call 82; with_reducible exact Calls.regrown_of (PC.out _))))
  refine wpQuiet_nil ?_
  rintro _ ⟨⟨dq, osq⟩, rfl⟩
  have hbw1 := below_regrown W dq osq
  generalize grow (redrawn W dq) osq = w1 at hbw1 ⊢
  obtain ⟨hcw1, hfw1⟩ := bcell hbw1
  have hlw1 := hbw1.size
  replace HB := ba HB hbw1
  go_wp2_with fail
  go_returns
  exact ⟨rfl, by go_grown⟩

def FpPost (N : Nat) (o : Option (List UInt8)) (w : World) (e : Ending) (w' : World) : Prop :=
  e = .returned (.tuple #[.agg #[.int .i64 (feS o).x0, .int .i64 (feS o).x1, .int .i64 (feS o).x2, .int .i64 (feS o).x3, .int .i64 (feS o).h, .string (oT o)], .bool (decide (0 < N))]) ∧ Below w.heap.size w w'

set_option maxRecDepth 100000 in
set_option maxHeartbeats 3200000 in
theorem fgPart_any (g cap : Nat) (R : List (List UInt8)) (P : List (Sp × List UInt8)) (hP : ∀ (j : Nat) (r : List UInt8), R[j]? = some r → P[j]? = some (fin sp0 r, r)) (hl : R.length ≤ 6561) (hok : ∀ r ∈ R, (fin sp0 r).okB 1000) (w : World) (hg : g < w.heap.size) (hA : PrtAt w g P) :
    Calls Try.prog 79 #[.slice (some ⟨g, 0, none⟩) R.length cap, .func (.func 80) #[] #[]] w (FpPost R.length (feO R R.length) w) := by
  unfold FpPost
  obtain ⟨N, hN⟩ : ∃ N, R.length = N := ⟨_, rfl⟩
  have HN := Lib.hid hN
  have HPJ := Lib.hid hP
  have HPA := Lib.hid hA
  have HOK := Lib.hid hok
  rw [hN] at hl ⊢
  have T0 := Lib.hid (PtB.new w sp0 ByteArray.empty)
  have T1 := Lib.hid (PtB.new (w.alloc (.cells #[.int .i64 0, .int .i64 0, .int .i64 0, .int .i64 0, .int .i64 0, .string ByteArray.empty] 73)) sp0 ByteArray.empty)
  clear hN hP hA hok
  go_enter Try.func79, Try.ntmps79
  go_wp2_with fail
  go_loopw [11] (fun i wr => ∃ j : Nat, j ≤ N ∧ i = .int .i64 j ∧ PtB wr w.heap.size sp0 ByteArray.empty ∧ PtB wr (w.heap.size + 1) (feS (feO R j)) (oT (feO R j)) ∧ Below w.heap.size w wr) (fun i _ => N - (intOf i).toNat)
  case atStart =>
    refine ⟨0, Nat.zero_le _, rfl, ?_, ?_, by go_grown⟩
    · exact T0.out.below (by simp) (Below.alloc (Below.refl _ _) (Nat.le_refl _) _)
    · have := T1.out
      rw [show (w.alloc (.cells #[.int .i64 0, .int .i64 0, .int .i64 0, .int .i64 0, .int .i64 0, .string ByteArray.empty] 73)).heap.size = w.heap.size + 1 by simp] at this
      exact this
  case round =>
    obtain ⟨j, hj, rfl, t0, t1, hb⟩ := hrel
    have hz := t1.lt
    have A0 := Lib.hid t0
    have A1 := Lib.hid t1
    have HB := Lib.hid hb
    obtain ⟨wi, rfl⟩ : ∃ wi : World, wi = wr := ⟨_, rfl⟩
    have hzw : w.heap.size ≤ wi.heap.size := hb.size
    by_cases hlt : j < N
    · obtain ⟨r, hr⟩ : ∃ r, R[j]? = some r := ⟨_, List.getElem?_eq_getElem (by rw [HN.out]; exact hlt)⟩
      have hrok := HOK.out r (List.mem_of_getElem? hr)
      have HNX := Lib.hid (feO_next hr)
      obtain ⟨d0, d1, d2, d3, d4, d5⟩ := (HPA.out.below hg hb) j _ (HPJ.out j r hr)
      simp only at d0 d1 d2 d3 d4 d5
      by_cases hj0 : j = 0
      · subst hj0
        have hN2 : feS (feO R (0 + 1)) = fin sp0 r ∧ oT (feO R (0 + 1)) = ofL r := by rw [HNX.out]; exact ⟨rfl, rfl⟩
        generalize fin sp0 r = x at *
        generalize ofL r = X at *
        have HN2 := Lib.hid hN2
        have HP := Lib.hid ((A1.out.set x X).below (by simp [World.setCell]; omega) (Below.alloc (Below.refl _ _) (Nat.le_refl _) (.cells #[.int .i64 x.x0, .int .i64 x.x1, .int .i64 x.x2, .int .i64 x.x3, .int .i64 x.h, .string X] 73)))
        have H0 := Lib.hid (((((((A0.out.other (a := ⟨w.heap.size + 1, 0, none⟩) (by simp) (.int .i64 x.x0)).other (a := ⟨w.heap.size + 1, 1, none⟩) (by simp) (.int .i64 x.x1)).other (a := ⟨w.heap.size + 1, 2, none⟩) (by simp) (.int .i64 x.x2)).other (a := ⟨w.heap.size + 1, 3, none⟩) (by simp) (.int .i64 x.x3)).other (a := ⟨w.heap.size + 1, 4, none⟩) (by simp) (.int .i64 x.h)).other (a := ⟨w.heap.size + 1, 5, none⟩) (by simp) (.string X)).below (by simp [World.setCell]; omega) (Below.alloc (Below.refl _ _) (Nat.le_refl _) (.cells #[.int .i64 x.x0, .int .i64 x.x1, .int .i64 x.x2, .int .i64 x.x3, .int .i64 x.h, .string X] 73)))
        obtain ⟨x0, x1, x2, x3, x4, x5⟩ := A1.out.cells
        have f0 := A1.out.free 0
        have f1 := A1.out.free 1
        have f2 := A1.out.free 2
        have f3 := A1.out.free 3
        have f4 := A1.out.free 4
        have f5 := A1.out.free 5
        clear t0 t1 hr hN2
        go_wp2_with fail
        go_roundw
        case rel => exact ⟨1, by omega, by go_num, H0.out, by rw [HN2.out.1, HN2.out.2]; exact HP.out, by go_grown⟩
        case measure => simp [intOf]; omega
      · obtain ⟨y, hy, hym⟩ := feO_some (Nat.pos_of_ne_zero hj0) (show j ≤ R.length by rw [HN.out]; exact hj)
        have hyok := HOK.out y hym
        have hnx : feO R (j + 1) = some (if fgW r y then r else y) := by have := HNX.out; rw [hy] at this; exact this
        have hcg : fgW r y = decide (0 < sgn2 ((fin sp0 r).n0 - (fin sp0 y).n0) ((fin sp0 r).n1 - (fin sp0 y).n1)) := rfl
        have CP := Lib.hid (partCmp_any (fin sp0 r) (fin sp0 y) (ofL r) (ofL y) hrok hyok)
        have A1' : PtB wi (w.heap.size + 1) (fin sp0 y) (ofL y) := by have := A1.out; rw [hy] at this; exact this
        have hji : ((j : Int) == 0) = false := by simp; omega
        have hjn : ¬ (j : Int) = 0 := by omega
        have hE1 : fgW r y = true → feS (feO R (j + 1)) = fin sp0 r ∧ oT (feO R (j + 1)) = ofL r := fun h => by rw [hnx, h]; exact ⟨rfl, rfl⟩
        have hE0 : fgW r y = false → feS (feO R (j + 1)) = fin sp0 y ∧ oT (feO R (j + 1)) = ofL y := fun h => by rw [hnx, h]; exact ⟨rfl, rfl⟩
        generalize sgn2 ((fin sp0 r).n0 - (fin sp0 y).n0) ((fin sp0 r).n1 - (fin sp0 y).n1) = z at *
        generalize fgW r y = B at *
        generalize fin sp0 r = x at *
        generalize ofL r = X at *
        generalize fin sp0 y = q at *
        generalize ofL y = Y at *
        have HA1 := Lib.hid A1'
        obtain ⟨x0, x1, x2, x3, x4, x5⟩ := A1'.cells
        clear t0 t1 hr hy hym hrok hyok A1 A1' hnx HNX
        cases B
        · have hz0 : ¬ 0 < z := by simpa using hcg
          have HN2 := Lib.hid (hE0 rfl)
          clear hcg hE0 hE1
          go_wp2_with fail
          have hBA : Below w.heap.size w (wi.alloc (.cells #[.int .i64 x.x0, .int .i64 x.x1, .int .i64 x.x2, .int .i64 x.x3, .int .i64 x.h, .string X] 73)) := by go_grown
          (with_reducible refine Calls.mono (CP.out _) ?_)
          rintro e w1 ⟨rfl, h1⟩
          have hz2 := h1.size
          simp only [World.size_alloc] at hz2
          have hbw := Below.alloc (Below.refl wi.heap.size wi) (Nat.le_refl _) (.cells #[.int .i64 x.x0, .int .i64 x.x1, .int .i64 x.x2, .int .i64 x.x3, .int .i64 x.h, .string X] 73)
          have F1 := Lib.hid ((HA1.out.below hz hbw).below (by simp; omega) h1)
          have F0 := Lib.hid ((A0.out.below (by omega) hbw).below (by simp; omega) h1)
          have FB := Lib.hid (ba hBA h1)
          clear h1 hbw hBA
          go_wp2_with fail
          go_roundw
          case rel => exact ⟨j + 1, by omega, by go_num, F0.out, by rw [HN2.out.1, HN2.out.2]; exact F1.out, FB.out⟩
          case measure => simp [intOf]; omega
        · have hz0 : 0 < z := by simpa using hcg
          have HN2 := Lib.hid (hE1 rfl)
          clear hcg hE0 hE1
          go_wp2_with fail
          have hBA : Below w.heap.size w (wi.alloc (.cells #[.int .i64 x.x0, .int .i64 x.x1, .int .i64 x.x2, .int .i64 x.x3, .int .i64 x.h, .string X] 73)) := by go_grown
          (with_reducible refine Calls.mono (CP.out _) ?_)
          rintro e w1 ⟨rfl, h1⟩
          have hz2 := h1.size
          simp only [World.size_alloc] at hz2
          have hbw := Below.alloc (Below.refl wi.heap.size wi) (Nat.le_refl _) (.cells #[.int .i64 x.x0, .int .i64 x.x1, .int .i64 x.x2, .int .i64 x.x3, .int .i64 x.h, .string X] 73)
          have fa1 := (HA1.out.below hz hbw).below (by simp; omega) h1
          have fa0 := (A0.out.below (by omega) hbw).below (by simp; omega) h1
          have hNW := (PtB.new wi x X).below (by simp) h1
          have F1 := Lib.hid (fa1.set x X)
          have F0 := Lib.hid ((((((fa0.other (a := ⟨w.heap.size + 1, 0, none⟩) (by simp) (.int .i64 x.x0)).other (a := ⟨w.heap.size + 1, 1, none⟩) (by simp) (.int .i64 x.x1)).other (a := ⟨w.heap.size + 1, 2, none⟩) (by simp) (.int .i64 x.x2)).other (a := ⟨w.heap.size + 1, 3, none⟩) (by simp) (.int .i64 x.x3)).other (a := ⟨w.heap.size + 1, 4, none⟩) (by simp) (.int .i64 x.h)).other (a := ⟨w.heap.size + 1, 5, none⟩) (by simp) (.string X))
          have FB := Lib.hid (ba hBA h1)
          obtain ⟨z0, z1, z2, z3, z4, z5⟩ := fa1.cells
          obtain ⟨s0, s1, s2, s3, s4, s5⟩ := hNW.cells
          have f0 := fa1.free 0
          have f1 := fa1.free 1
          have f2 := fa1.free 2
          have f3 := fa1.free 3
          have f4 := fa1.free 4
          have f5 := fa1.free 5
          clear h1 hbw hBA x0 x1 x2 x3 x4 x5 fa0 fa1 hNW
          go_wp2_with fail
          go_roundw
          case rel => exact ⟨j + 1, by omega, by go_num, F0.out, by rw [HN2.out.1, HN2.out.2]; exact F1.out, by
            have hq : w.heap.size ≤ w.heap.size + 1 := by omega
            exact (((((FB.out.setCell hq _).setCell hq _).setCell hq _).setCell hq _).setCell hq _).setCell hq _⟩
          case measure => simp [intOf]; omega
    · obtain rfl : j = N := by omega
      obtain ⟨x0, x1, x2, x3, x4, x5⟩ := A1.out.cells
      obtain ⟨y0, y1, y2, y3, y4, y5⟩ := A0.out.cells
      have f0 := A0.out.free 0
      have f1 := A0.out.free 1
      have f2 := A0.out.free 2
      have f3 := A0.out.free 3
      have f4 := A0.out.free 4
      have f5 := A0.out.free 5
      generalize hQ : feS (feO R j) = q at *
      generalize hY : oT (feO R j) = Y at *
      have HQ := Lib.hid hQ
      have HY := Lib.hid hY
      clear t0 t1 hQ hY
      go_wp2_with fail
      refine bodyPost_ret (by simp [results, Try.results79, go_sem, *]; try rfl) rfl ?_
      have e1 := HQ.out
      have e2 := HY.out
      subst e1 e2
      exact ⟨by first | rfl | (congr 3; simp), by go_grown⟩

section
variable {B0 : Nat} {v00 v01 v02 v03 v04 v05 : Value} {W w1 : World}
theorem fe_below (h : W.cell? ⟨B0, 0, none⟩ = some v00 ∧ W.cell? ⟨B0, 1, none⟩ = some v01 ∧ W.cell? ⟨B0, 2, none⟩ = some v02 ∧ W.cell? ⟨B0, 3, none⟩ = some v03 ∧ W.cell? ⟨B0, 4, none⟩ = some v04 ∧ W.cell? ⟨B0, 5, none⟩ = some v05) (h0 : B0 < W.heap.size) (hb : Below W.heap.size W w1) : w1.cell? ⟨B0, 0, none⟩ = some v00 ∧ w1.cell? ⟨B0, 1, none⟩ = some v01 ∧ w1.cell? ⟨B0, 2, none⟩ = some v02 ∧ w1.cell? ⟨B0, 3, none⟩ = some v03 ∧ w1.cell? ⟨B0, 4, none⟩ = some v04 ∧ w1.cell? ⟨B0, 5, none⟩ = some v05 :=
  let ⟨k0, k1, k2, k3, k4, k5⟩ := h
  ⟨cl_below k0 h0 hb, cl_below k1 h0 hb, cl_below k2 h0 hb, cl_below k3 h0 hb, cl_below k4 h0 hb, cl_below k5 h0 hb⟩

theorem fe_alloc (h : W.cell? ⟨B0, 0, none⟩ = some v00 ∧ W.cell? ⟨B0, 1, none⟩ = some v01 ∧ W.cell? ⟨B0, 2, none⟩ = some v02 ∧ W.cell? ⟨B0, 3, none⟩ = some v03 ∧ W.cell? ⟨B0, 4, none⟩ = some v04 ∧ W.cell? ⟨B0, 5, none⟩ = some v05) (o : Obj) : (W.alloc o).cell? ⟨B0, 0, none⟩ = some v00 ∧ (W.alloc o).cell? ⟨B0, 1, none⟩ = some v01 ∧ (W.alloc o).cell? ⟨B0, 2, none⟩ = some v02 ∧ (W.alloc o).cell? ⟨B0, 3, none⟩ = some v03 ∧ (W.alloc o).cell? ⟨B0, 4, none⟩ = some v04 ∧ (W.alloc o).cell? ⟨B0, 5, none⟩ = some v05 :=
  let ⟨k0, k1, k2, k3, k4, k5⟩ := h
  ⟨cl_alloc k0 o, cl_alloc k1 o, cl_alloc k2 o, cl_alloc k3 o, cl_alloc k4 o, cl_alloc k5 o⟩

theorem fe_re {o : Obj} (h : (W.alloc o).cell? ⟨B0, 0, none⟩ = some v00 ∧ (W.alloc o).cell? ⟨B0, 1, none⟩ = some v01 ∧ (W.alloc o).cell? ⟨B0, 2, none⟩ = some v02 ∧ (W.alloc o).cell? ⟨B0, 3, none⟩ = some v03 ∧ (W.alloc o).cell? ⟨B0, 4, none⟩ = some v04 ∧ (W.alloc o).cell? ⟨B0, 5, none⟩ = some v05) (h0 : B0 < W.heap.size) (o2 : Obj) : (W.alloc o2).cell? ⟨B0, 0, none⟩ = some v00 ∧ (W.alloc o2).cell? ⟨B0, 1, none⟩ = some v01 ∧ (W.alloc o2).cell? ⟨B0, 2, none⟩ = some v02 ∧ (W.alloc o2).cell? ⟨B0, 3, none⟩ = some v03 ∧ (W.alloc o2).cell? ⟨B0, 4, none⟩ = some v04 ∧ (W.alloc o2).cell? ⟨B0, 5, none⟩ = some v05 :=
  let ⟨k0, k1, k2, k3, k4, k5⟩ := h
  ⟨cl_re k0 h0 o2, cl_re k1 h0 o2, cl_re k2 h0 o2, cl_re k3 h0 o2, cl_re k4 h0 o2, cl_re k5 h0 o2⟩

theorem fe_drew (h : W.cell? ⟨B0, 0, none⟩ = some v00 ∧ W.cell? ⟨B0, 1, none⟩ = some v01 ∧ W.cell? ⟨B0, 2, none⟩ = some v02 ∧ W.cell? ⟨B0, 3, none⟩ = some v03 ∧ W.cell? ⟨B0, 4, none⟩ = some v04 ∧ W.cell? ⟨B0, 5, none⟩ = some v05) : W.drew.cell? ⟨B0, 0, none⟩ = some v00 ∧ W.drew.cell? ⟨B0, 1, none⟩ = some v01 ∧ W.drew.cell? ⟨B0, 2, none⟩ = some v02 ∧ W.drew.cell? ⟨B0, 3, none⟩ = some v03 ∧ W.drew.cell? ⟨B0, 4, none⟩ = some v04 ∧ W.drew.cell? ⟨B0, 5, none⟩ = some v05 := h

theorem fe_undrew (h : W.drew.cell? ⟨B0, 0, none⟩ = some v00 ∧ W.drew.cell? ⟨B0, 1, none⟩ = some v01 ∧ W.drew.cell? ⟨B0, 2, none⟩ = some v02 ∧ W.drew.cell? ⟨B0, 3, none⟩ = some v03 ∧ W.drew.cell? ⟨B0, 4, none⟩ = some v04 ∧ W.drew.cell? ⟨B0, 5, none⟩ = some v05) : W.cell? ⟨B0, 0, none⟩ = some v00 ∧ W.cell? ⟨B0, 1, none⟩ = some v01 ∧ W.cell? ⟨B0, 2, none⟩ = some v02 ∧ W.cell? ⟨B0, 3, none⟩ = some v03 ∧ W.cell? ⟨B0, 4, none⟩ = some v04 ∧ W.cell? ⟨B0, 5, none⟩ = some v05 := h

theorem fe_set (h : W.cell? ⟨B0, 0, none⟩ = some v00 ∧ W.cell? ⟨B0, 1, none⟩ = some v01 ∧ W.cell? ⟨B0, 2, none⟩ = some v02 ∧ W.cell? ⟨B0, 3, none⟩ = some v03 ∧ W.cell? ⟨B0, 4, none⟩ = some v04 ∧ W.cell? ⟨B0, 5, none⟩ = some v05) (p : Addr) (u : Value) (h0 : p.block ≠ B0) : (W.setCell p u).cell? ⟨B0, 0, none⟩ = some v00 ∧ (W.setCell p u).cell? ⟨B0, 1, none⟩ = some v01 ∧ (W.setCell p u).cell? ⟨B0, 2, none⟩ = some v02 ∧ (W.setCell p u).cell? ⟨B0, 3, none⟩ = some v03 ∧ (W.setCell p u).cell? ⟨B0, 4, none⟩ = some v04 ∧ (W.setCell p u).cell? ⟨B0, 5, none⟩ = some v05 :=
  let ⟨k0, k1, k2, k3, k4, k5⟩ := h
  ⟨cl_set k0 p u h0, cl_set k1 p u h0, cl_set k2 p u h0, cl_set k3 p u h0, cl_set k4 p u h0, cl_set k5 p u h0⟩

theorem fe_far {row : Option Nat} (h : W.cell? ⟨B0, 0, none⟩ = some v00 ∧ W.cell? ⟨B0, 1, none⟩ = some v01 ∧ W.cell? ⟨B0, 2, none⟩ = some v02 ∧ W.cell? ⟨B0, 3, none⟩ = some v03 ∧ W.cell? ⟨B0, 4, none⟩ = some v04 ∧ W.cell? ⟨B0, 5, none⟩ = some v05) (h0 : some B0 ≠ row) (hg : W.grownBy w1 row) : w1.cell? ⟨B0, 0, none⟩ = some v00 ∧ w1.cell? ⟨B0, 1, none⟩ = some v01 ∧ w1.cell? ⟨B0, 2, none⟩ = some v02 ∧ w1.cell? ⟨B0, 3, none⟩ = some v03 ∧ w1.cell? ⟨B0, 4, none⟩ = some v04 ∧ w1.cell? ⟨B0, 5, none⟩ = some v05 :=
  let ⟨k0, k1, k2, k3, k4, k5⟩ := h
  ⟨hg.cell k0 h0, hg.cell k1 h0, hg.cell k2 h0, hg.cell k3 h0, hg.cell k4 h0, hg.cell k5 h0⟩
end

set_option maxRecDepth 100000 in
set_option maxHeartbeats 3200000 in
theorem imFarthestEnd (b : Bq) (w : World) : Calls Try.prog 43 #[bv b] w fun e w' => e = .returned (.tuple #[.string (oT (feG b)), bv (feN (feG b)), .bool (bxB 8 b)]) ∧ Below w.heap.size w w' := by
  have PS := Lib.hid (isWithinB_any b 8 (by decide) (by decide))
  unfold feG
  cases hb : bxB 8 b
  · rw [hb] at PS
    have h0 : feN (cond false (feO (bxW b.x.toNat b.r.toNat) (bxW b.x.toNat b.r.toNat).length) none) = ⟨0, 0⟩ := feN_none
    have h1 : oT (cond false (feO (bxW b.x.toNat b.r.toNat) (bxW b.x.toNat b.r.toNat).length) none) = ByteArray.empty := rfl
    rw [h0, h1]
    clear hb h0 h1
    go_enter Try.func43, Try.ntmps43
    go_wp2_with fail
    (go_at_call 66; (with_reducible refine (PS.out _).mono ?_); rintro e wA ⟨rfl, h1⟩; (try with_reducible replace h1 := undrew h1); have hB : Below w.heap.size w wA := ba (by go_grown) h1; obtain ⟨hcwA, hfwA⟩ := bcell h1; have hqwA := h1.size; (try simp at hqwA); (try have hz0wA : w.heap.size < wA.heap.size := (by omega)); (try have he0wA : w.heap.size ≤ wA.heap.size := (by omega)); (try have hz1wA : w.heap.size + 1 < wA.heap.size := (by omega)); (try have he1wA : w.heap.size + 1 ≤ wA.heap.size := (by omega)))
    go_wp2_with fail
    refine bodyPost_ret (by simp [results, Try.results43, go_sem, *]; try rfl) rfl ?_
    exact ⟨rfl, by go_grown⟩
  · rw [hb] at PS
    obtain ⟨s, c, rfl, hsc⟩ := bxB_nat (m := 8) hb
    simp only [Int.toNat_natCast, cond_true]
    have WT := Lib.hid (wholeTracks_any s c hsc)
    unfold WtPost at WT
    rw [wtP_len] at WT
    have hlen := bxW8 hsc
    have hpos := bxW_pos s c
    have hwl := wtP_len s c
    have FG0 := fun g cap w hg hA => fgPart_any g cap (bxW s c) (wtP s c) (fun j r h => wtP_at h) hlen (fun r h => fin_okE hsc h) w hg hA
    unfold FpPost at FG0
    rw [decide_eq_true hpos] at FG0
    generalize feO (bxW s c) (bxW s c).length = o at *
    have NM := Lib.hid (imNorm_any (feS o).x0 (feS o).x1 (feS o).x2 (feS o).x3)
    have hfe : bv (feN o) = .agg #[.int .i64 (nm0 (feS o).x0 (feS o).x1 (feS o).x2 (feS o).x3), .int .i64 (nm1 (feS o).x0 (feS o).x1 (feS o).x2 (feS o).x3)] := rfl
    rw [hfe]
    generalize wtP s c = P at *
    generalize bxW s c = R at *
    generalize oT o = Y at *
    generalize feS o = q at *
    generalize nm0 q.x0 q.x1 q.x2 q.x3 = n0 at *
    generalize nm1 q.x0 q.x1 q.x2 q.x3 = n1 at *
    obtain ⟨N, hN⟩ : ∃ N, R.length = N := ⟨_, rfl⟩
    rw [hN] at WT hlen hwl hpos FG0
    have HWL := Lib.hid hwl
    have FG := Lib.hid FG0
    clear hN hb hwl hsc hfe FG0
    go_enter Try.func43, Try.ntmps43
    go_wp2_with fail
    (go_at_call 66; (with_reducible refine (PS.out _).mono ?_); rintro e wA ⟨rfl, h1⟩; (try with_reducible replace h1 := undrew h1); have hB : Below w.heap.size w wA := ba (by go_grown) h1; obtain ⟨hcwA, hfwA⟩ := bcell h1; have hqwA := h1.size; (try simp at hqwA); (try have hz0wA : w.heap.size < wA.heap.size := (by omega)); (try have he0wA : w.heap.size ≤ wA.heap.size := (by omega)); (try have hz1wA : w.heap.size + 1 < wA.heap.size := (by omega)); (try have he1wA : w.heap.size + 1 ≤ wA.heap.size := (by omega)))
    go_wp2_with fail
    (with_reducible refine Calls.mono (WT.out _) ?_)
    rintro e w1 ⟨v, rfl, hO, hb1⟩
    obtain ⟨g, cap, rfl, _⟩ := hO.form (by omega)
    have hgl := (hO.lt g rfl).2
    have FG1 := Lib.hid (FG.out g cap w1 hgl (prt_of hO HWL.out))
    have hB1 := hB.trans (hb1.mono hB.size)
    obtain ⟨hc1, hf1⟩ := bcell hb1
    have hz1 := hb1.size
    have yA0 : w.heap.size < wA.heap.size := by omega
    have yA1 : w.heap.size + 1 < wA.heap.size := by omega
    have y0 : w.heap.size < w1.heap.size := by omega
    have y1 : w.heap.size + 1 < w1.heap.size := by omega
    clear hO hb1 hB
    go_wp2_with fail
    (with_reducible refine Calls.mono FG1.out ?_)
    rintro e w2 ⟨rfl, h2⟩
    have hB := hB1.trans (h2.mono hB1.size)
    obtain ⟨hc2, hf2⟩ := bcell h2
    have hz2 := h2.size
    have y2 : w.heap.size < w2.heap.size := by omega
    have y3 : w.heap.size + 1 < w2.heap.size := by omega
    clear h2 hB1
    go_wp2_with fail
    have hS0 : (w2.alloc (.cells #[.int .i64 q.x0, .int .i64 q.x1, .int .i64 q.x2, .int .i64 q.x3, .int .i64 q.h, .string Y] 73)).cell? ⟨w2.heap.size, 0, none⟩ = some (.int .i64 q.x0) ∧ (w2.alloc (.cells #[.int .i64 q.x0, .int .i64 q.x1, .int .i64 q.x2, .int .i64 q.x3, .int .i64 q.h, .string Y] 73)).cell? ⟨w2.heap.size, 1, none⟩ = some (.int .i64 q.x1) ∧ (w2.alloc (.cells #[.int .i64 q.x0, .int .i64 q.x1, .int .i64 q.x2, .int .i64 q.x3, .int .i64 q.h, .string Y] 73)).cell? ⟨w2.heap.size, 2, none⟩ = some (.int .i64 q.x2) ∧ (w2.alloc (.cells #[.int .i64 q.x0, .int .i64 q.x1, .int .i64 q.x2, .int .i64 q.x3, .int .i64 q.h, .string Y] 73)).cell? ⟨w2.heap.size, 3, none⟩ = some (.int .i64 q.x3) ∧ (w2.alloc (.cells #[.int .i64 q.x0, .int .i64 q.x1, .int .i64 q.x2, .int .i64 q.x3, .int .i64 q.h, .string Y] 73)).cell? ⟨w2.heap.size, 4, none⟩ = some (.int .i64 q.h) ∧ (w2.alloc (.cells #[.int .i64 q.x0, .int .i64 q.x1, .int .i64 q.x2, .int .i64 q.x3, .int .i64 q.h, .string Y] 73)).cell? ⟨w2.heap.size, 5, none⟩ = some (.string Y) := ⟨by go_simp, by go_simp, by go_simp, by go_simp, by go_simp, by go_simp⟩
    have hE0 : (w2.alloc (.cells #[.int .i64 q.x0, .int .i64 q.x1, .int .i64 q.x2, .int .i64 q.x3, .int .i64 q.h, .string Y] 73)).frozen? ⟨w.heap.size + 1, 0, none⟩ = false := by go_simp
    go_region_held3 (fun w' => w'.cell? ⟨w2.heap.size, 0, none⟩ = some (.int .i64 q.x0) ∧ w'.cell? ⟨w2.heap.size, 1, none⟩ = some (.int .i64 q.x1) ∧ w'.cell? ⟨w2.heap.size, 2, none⟩ = some (.int .i64 q.x2) ∧ w'.cell? ⟨w2.heap.size, 3, none⟩ = some (.int .i64 q.x3) ∧ w'.cell? ⟨w2.heap.size, 4, none⟩ = some (.int .i64 q.h) ∧ w'.cell? ⟨w2.heap.size, 5, none⟩ = some (.string Y))
      (first | (with_reducible assumption) | (with_reducible exact fe_drew hS0) | (with_reducible exact fe_drew (fe_alloc hS0 _)) | (with_reducible exact fe_alloc (fe_drew hS0) _) | (with_reducible refine fe_drew ?_; with_reducible assumption) | (with_reducible refine fe_alloc ?_ _; with_reducible assumption) | (with_reducible refine fe_re (by with_reducible assumption) ?_ _; (focus first | (with_reducible assumption) | omega | (simp; done) | (simp; omega))) | (with_reducible refine fe_below ?_ ?_ h1; (focus first | (with_reducible assumption) | (with_reducible refine fe_undrew ?_; with_reducible assumption)); (focus first | (with_reducible assumption) | omega | (simp; done) | (simp; omega))) | ((repeat (with_reducible refine fe_set ?_ _ _ ?_; rotate_left 1; (focus first | (with_reducible assumption) | omega | (simp; done) | (simp; omega)))); with_reducible assumption))
      ((go_at_call 81; (with_reducible refine (NM.out _).mono ?_); rintro e w3 ⟨rfl, h1⟩; (try with_reducible replace h1 := undrew h1); have hB : Below w.heap.size w w3 := ba (by go_grown) h1; obtain ⟨hcw3, hfw3⟩ := bcell h1; have hqw3 := h1.size; (try simp at hqw3); (try have hz0w3 : w.heap.size < w3.heap.size := (by omega)); (try have he0w3 : w.heap.size ≤ w3.heap.size := (by omega)); (try have hz1w3 : w.heap.size + 1 < w3.heap.size := (by omega)); (try have he1w3 : w.heap.size + 1 ≤ w3.heap.size := (by omega)); (try have hz2w3 : w2.heap.size < w3.heap.size := (by omega)); (try have he2w3 : w2.heap.size ≤ w3.heap.size := (by omega))))
    all_goals
      go_wp2_with fail
      refine bodyPost_ret (by simp [results, Try.results43, go_sem, *]; try rfl) rfl ?_
      exact ⟨rfl, by go_grown⟩

end Go.Proofs.Ythiimllafcfieaa

/- Contract of the model: FarthestEnd. -/
namespace Go.Proofs.Ythiimllafcfieaa
open Go.ChangeShapes Go.WideShapes Go.ChangeAt Go.RowKit Go.Joins Go.Sort

set_option linter.unusedVariables false
set_option linter.unusedSimpArgs false

/-- The farthest of a first text and the first j ones. -/
def fmB (l : List (List UInt8)) (r : List UInt8) (j : Nat) : List UInt8 := (l.take j).foldl (fun g x => if fgW x g then x else g) r

theorem fmB_next {l : List (List UInt8)} {r b : List UInt8} {j : Nat} (h : l[j]? = some b) : fmB l r (j + 1) = if fgW b (fmB l r j) then b else fmB l r j := by
  rw [fmB, List.take_add_one, h, Option.toList_some, List.foldl_append]
  rfl

theorem fmB_mem {l : List (List UInt8)} {r : List UInt8} (hr : r ∈ l) : ∀ j, fmB l r j ∈ l
  | 0 => by simpa [fmB] using hr
  | j + 1 => by
    have ih := fmB_mem hr j
    by_cases h : j < l.length
    · rw [fmB_next (List.getElem?_eq_getElem h)]
      split
      · exact List.getElem_mem h
      · exact ih
    · rw [show fmB l r (j + 1) = fmB l r j by rw [fmB, fmB, List.take_of_length_le (by omega), List.take_of_length_le (by omega)]]
      exact ih

theorem fm_fg (r : List UInt8) (l : List (List UInt8)) : l.foldl (fgS fgW) (some r) = some (l.foldl (fun g x => if fgW x g then x else g) r) := by
  induction l generalizing r with
  | nil => rfl
  | cons x l ih => rw [List.foldl_cons, List.foldl_cons]; exact ih _

theorem fmB_end {l : List (List UInt8)} {r : List UInt8} (h : l[0]? = some r) : feO l l.length = some (fmB l r l.length) := by
  rw [feO, fmB, List.take_length]
  cases l with
  | nil => simp at h
  | cons x l =>
    simp only [List.getElem?_cons_zero, Option.some.injEq] at h
    subst h
    show fgO fgW (x :: l) = some (l.foldl (fun g x => if fgW x g then x else g) (if fgW x x then x else x))
    rw [ite_self]
    exact fm_fg x l

/-- A block that is one point, not frozen. -/
def PoB (W : World) (g : Nat) (q : Sp) : Prop := W.heap[g]? = some (.cells #[.int .i64 q.x0, .int .i64 q.x1, .int .i64 q.x2, .int .i64 q.x3] 60 (0, 0))

theorem PoB.below {W W' : World} {g m : Nat} {q : Sp} (h : PoB W g q) (hg : g < m) (hb : Below m W W') : PoB W' g q := (hb.block g hg).trans h

theorem PoB.lt {W : World} {g : Nat} {q : Sp} (h : PoB W g q) : g < W.heap.size := (Array.getElem?_eq_some_iff.1 h).1

theorem PoB.cells {W : World} {g : Nat} {q : Sp} (h : PoB W g q) : W.cell? ⟨g, 0, none⟩ = some (.int .i64 q.x0) ∧ W.cell? ⟨g, 1, none⟩ = some (.int .i64 q.x1) ∧ W.cell? ⟨g, 2, none⟩ = some (.int .i64 q.x2) ∧ W.cell? ⟨g, 3, none⟩ = some (.int .i64 q.x3) := blk_cells h

theorem PoB.free {W : World} {g : Nat} {q : Sp} (h : PoB W g q) (i : Nat) : W.frozen? ⟨g, i, none⟩ = false := by
  unfold PoB at h
  simp [World.frozen?, h]

theorem PoB.set {W : World} {g : Nat} {q : Sp} (h : PoB W g q) (p : Sp) : PoB ((((W.setCell ⟨g, 0, none⟩ (.int .i64 p.x0)).setCell ⟨g, 1, none⟩ (.int .i64 p.x1)).setCell ⟨g, 2, none⟩ (.int .i64 p.x2)).setCell ⟨g, 3, none⟩ (.int .i64 p.x3)) g p := blk_set h _ _ _ _

theorem PoB.new (W : World) (q : Sp) : PoB (W.alloc (.cells #[.int .i64 q.x0, .int .i64 q.x1, .int .i64 q.x2, .int .i64 q.x3] 60)) W.heap.size q := heap_alloc_new _ _

set_option maxRecDepth 100000 in
set_option maxHeartbeats 3200000 in
theorem spFarthestEnd (b : Bq) (w : World) : Calls Try.prog 42 #[bv b] w fun e w' => e = .returned (.tuple #[.string (oT (feG b)), bv (feN (feG b)), .bool (bxB 8 b)]) ∧ Below w.heap.size w w' := by
  have PS := Lib.hid (spSmB_any b 8 (by decide))
  unfold feG
  cases hb : bxB 8 b
  · rw [hb] at PS
    have h0 : feN (cond false (feO (bxW b.x.toNat b.r.toNat) (bxW b.x.toNat b.r.toNat).length) none) = ⟨0, 0⟩ := feN_none
    have h1 : oT (cond false (feO (bxW b.x.toNat b.r.toNat) (bxW b.x.toNat b.r.toNat).length) none) = ByteArray.empty := rfl
    rw [h0, h1]
    clear hb h0 h1
    go_enter Try.func42, Try.ntmps42
    go_wp2_with fail
    (go_at_call 62; (with_reducible refine (PS.out _).mono ?_); rintro e wA ⟨rfl, h1⟩; (try with_reducible replace h1 := undrew h1); have hB : Below w.heap.size w wA := ba (by go_grown) h1; obtain ⟨hcwA, hfwA⟩ := bcell h1; have hqwA := h1.size; (try simp at hqwA); (try have hz0wA : w.heap.size < wA.heap.size := (by omega)); (try have he0wA : w.heap.size ≤ wA.heap.size := (by omega)); (try have hz1wA : w.heap.size + 1 < wA.heap.size := (by omega)); (try have he1wA : w.heap.size + 1 ≤ wA.heap.size := (by omega)))
    go_wp2_with fail
    refine bodyPost_ret (by simp [results, Try.results42, go_sem, *]; try rfl) rfl ?_
    exact ⟨rfl, by go_grown⟩
  · rw [hb] at PS
    obtain ⟨s, c, rfl, hsc⟩ := bxB_nat (m := 8) hb
    simp only [Int.toNat_natCast, cond_true]
    have PA := Lib.hid (spAll_any s c (by omega))
    unfold AllPost at PA
    have hlen := bxW8 hsc
    have hpos := bxW_pos s c
    have HTK := Lib.hid (fun r (hr : r ∈ bxW s c) => And.intro (en_okE hsc hr) (fin_okE hsc hr))
    have HFE := Lib.hid (fun r (hr : (bxW s c)[0]? = some r) => fmB_end hr)
    generalize bxW s c = R at *
    obtain ⟨N, hN⟩ : ∃ N, R.length = N := ⟨_, rfl⟩
    have HN := Lib.hid hN
    rw [hN] at hlen hpos
    rw [hN]
    obtain ⟨r0, hr0⟩ : ∃ r, R[0]? = some r := ⟨_, List.getElem?_eq_getElem (by rw [hN]; exact hpos)⟩
    have hfe := HFE.out r0 hr0
    rw [hN] at hfe
    have hm0 := List.mem_of_getElem? hr0
    have HM := Lib.hid (fun j => fmB_mem hm0 j)
    have HR0 := Lib.hid hr0
    rw [hfe]
    have hres : oT (some (fmB R r0 N)) = ofL (fmB R r0 N) ∧ bv (feN (some (fmB R r0 N))) = .agg #[.int .i64 (fin sp0 (fmB R r0 N)).n0, .int .i64 (fin sp0 (fmB R r0 N)).n1] := ⟨rfl, rfl⟩
    rw [hres.1, hres.2]
    clear hb hN hsc hfe hres hr0 HFE
    go_enter Try.func42, Try.ntmps42
    go_wp2_with fail
    (go_at_call 62; (with_reducible refine (PS.out _).mono ?_); rintro e wA ⟨rfl, h1⟩; (try with_reducible replace h1 := undrew h1); have hB : Below w.heap.size w wA := ba (by go_grown) h1; obtain ⟨hcwA, hfwA⟩ := bcell h1; have hqwA := h1.size; (try simp at hqwA); (try have hz0wA : w.heap.size < wA.heap.size := (by omega)); (try have he0wA : w.heap.size ≤ wA.heap.size := (by omega)); (try have hz1wA : w.heap.size + 1 < wA.heap.size := (by omega)); (try have he1wA : w.heap.size + 1 ≤ wA.heap.size := (by omega)))
    go_wp2_with fail
    (with_reducible refine Calls.mono (PA.out _) ?_)
    rintro e w1 ⟨v, rfl, hO, hb1⟩
    rw [HN.out] at hO
    have hB1 := hB.trans (hb1.mono hB.size)
    obtain ⟨g, cv, rfl, _⟩ := hO.form (by omega)
    have hgl := (hO.lt g rfl).2
    have HST := Lib.hid (str_of hO HN.out)
    obtain ⟨hc1, hf1⟩ := bcell hb1
    have hz1 := hb1.size
    have yA1 : w.heap.size + 1 < wA.heap.size := by omega
    have y1 : w.heap.size + 1 < w1.heap.size := by omega
    have q0 : w1.cell? ⟨w.heap.size + 1, 0, none⟩ = some (.int .i64 0) := by go_simp
    have q1 : w1.cell? ⟨w.heap.size + 1, 1, none⟩ = some (.int .i64 0) := by go_simp
    have q2 : w1.frozen? ⟨w.heap.size + 1, 0, none⟩ = false := by go_simp
    have q3 : w1.frozen? ⟨w.heap.size + 1, 1, none⟩ = false := by go_simp
    have HQ := Lib.hid (And.intro (And.intro q0 q1) (And.intro q2 q3))
    have HB1 := Lib.hid hB1
    have c0 := HST.out 0 r0 HR0.out
    obtain ⟨⟨t1, t2⟩, _⟩ := HTK.out r0 hm0
    have TE := tkEnd_yes (ofL r0) t1
    rw [t2] at TE
    have TEH := Lib.hid TE
    clear hO hb1 hB hcwA hfwA h1 hc1 hf1 q0 q1 q2 q3 TE t1 t2
    have hB := hB1
    clear hB1
    obtain ⟨T0, hT0⟩ : ∃ T, ofL r0 = T := ⟨_, rfl⟩
    have HT0 := Lib.hid hT0
    rw [hT0] at c0 TEH
    have hposI : (0 : Int) < (N : Int) := by omega
    clear hT0
    go_wp2_with fail
    (go_at_call 75; (with_reducible refine (TEH.out _).mono ?_); rintro e wB ⟨rfl, h1⟩; (try with_reducible replace h1 := undrew h1); have hB : Below w.heap.size w wB := ba (by go_grown) h1; obtain ⟨hcwB, hfwB⟩ := bcell h1; have hqwB := h1.size; (try simp at hqwB); )
    have HBB := Lib.hid h1
    have hzB := h1.size
    clear h1 hcwB hfwB c0 hB
    go_wp2_with fail
    go_loopw [6, 29] (fun t i wr => ∃ j : Nat, j ≤ N ∧ i = .int .i64 j ∧ t = .string (ofL (fmB R r0 j)) ∧ PoB wr wB.heap.size (fin sp0 (fmB R r0 j)) ∧ Below wB.heap.size wB wr) (fun _ i _ => N - (intOf i).toNat)
    case atStart => exact ⟨0, Nat.zero_le _, rfl, by rw [← HT0.out]; rfl, PoB.new _ _, (Below.refl _ _).alloc (Nat.le_refl _) _⟩
    case round =>
      obtain ⟨j, hj, rfl, rfl, hq, hb⟩ := hrel
      have hzr := hb.size
      have hqlt := hq.lt
      have hB1w : Below w1.heap.size w1 wr := HBB.out.trans (hb.mono hzB)
      obtain ⟨wi, rfl⟩ : ∃ wi : World, wi = wr := ⟨_, rfl⟩
      have hmm := HM.out j
      obtain ⟨_, hbo⟩ := HTK.out _ hmm
      by_cases hlt : j < N
      · obtain ⟨r, hr⟩ : ∃ r, R[j]? = some r := ⟨_, List.getElem?_eq_getElem (by rw [HN.out]; exact hlt)⟩
        obtain ⟨⟨t1, t2⟩, hro⟩ := HTK.out r (List.mem_of_getElem? hr)
        have cr := HST.out.below hgl hB1w j r hr
        have TE := tkEnd_yes (ofL r) t1
        rw [t2] at TE
        have hNX := fmB_next (r := r0) hr
        have hcg : fgW r (fmB R r0 j) = decide (0 < sgn2 ((fin sp0 r).n0 - (fin sp0 (fmB R r0 j)).n0) ((fin sp0 r).n1 - (fin sp0 (fmB R r0 j)).n1)) := rfl
        obtain ⟨a0, a1, a2, a3⟩ := fe_nm hro
        obtain ⟨b0, b1, b2, b3⟩ := fe_nm hbo
        have PC := Lib.hid (ptCompare_any (fin sp0 r).n0 (fin sp0 r).n1 (fin sp0 (fmB R r0 j)).n0 (fin sp0 (fmB R r0 j)).n1 (by omega) (by omega) (by omega) (by omega) (by omega) (by omega) (by omega) (by omega))
        have NA0 : ∀ w, Calls Try.prog 78 #[.agg #[.int .i64 (fin sp0 r).x0, .int .i64 (fin sp0 r).x1, .int .i64 (fin sp0 r).x2, .int .i64 (fin sp0 r).x3]] w fun e w' => e = .returned (.agg #[.int .i64 (fin sp0 r).n0, .int .i64 (fin sp0 r).n1]) ∧ Below w.heap.size w w' := fun w => spNorm_any _ _ _ _ w
        have NB0 : ∀ w, Calls Try.prog 78 #[.agg #[.int .i64 (fin sp0 (fmB R r0 j)).x0, .int .i64 (fin sp0 (fmB R r0 j)).x1, .int .i64 (fin sp0 (fmB R r0 j)).x2, .int .i64 (fin sp0 (fmB R r0 j)).x3]] w fun e w' => e = .returned (.agg #[.int .i64 (fin sp0 (fmB R r0 j)).n0, .int .i64 (fin sp0 (fmB R r0 j)).n1]) ∧ Below w.heap.size w w' := fun w => spNorm_any _ _ _ _ w
        have hE1 : fgW r (fmB R r0 j) = true → ofL (fmB R r0 (j + 1)) = ofL r ∧ fin sp0 (fmB R r0 (j + 1)) = fin sp0 r := fun h => by rw [hNX, h]; exact ⟨rfl, rfl⟩
        have hE0 : fgW r (fmB R r0 j) = false → ofL (fmB R r0 (j + 1)) = ofL (fmB R r0 j) ∧ fin sp0 (fmB R r0 (j + 1)) = fin sp0 (fmB R r0 j) := fun h => by rw [hNX, h]; exact ⟨rfl, rfl⟩
        have HE1 := Lib.hid hE1
        have HE0 := Lib.hid hE0
        have NA := Lib.hid NA0
        have NB := Lib.hid NB0
        have TEH2 := Lib.hid TE
        clear hE1 hE0 NA0 NB0 TE hNX hr hro hbo hmm t1 t2 a0 a1 a2 a3 b0 b1 b2 b3 hposI
        generalize fgW r (fmB R r0 j) = B at *
        generalize fmB R r0 j = y at *
        generalize sgn2 ((fin sp0 r).n0 - (fin sp0 y).n0) ((fin sp0 r).n1 - (fin sp0 y).n1) = z at *
        generalize (fin sp0 r).n0 = m0 at *
        generalize (fin sp0 r).n1 = m1 at *
        generalize (fin sp0 y).n0 = l0 at *
        generalize (fin sp0 y).n1 = l1 at *
        generalize fin sp0 r = x at *
        generalize fin sp0 y = q at *
        generalize ofL r = X at *
        generalize ofL y = Y at *
        have HB := Lib.hid hb
        have HQB := Lib.hid hq
        have hwB := Lib.hid (HB1.out.trans (hB1w.mono HB1.out.size))
        clear hb hq hB1w
        cases B
        · have hz0 : ¬ 0 < z := by simpa using hcg
          have HU := Lib.hid (HE0.out rfl)
          have hB : Below w.heap.size w wi := hwB.out
          clear hcg HE0 HE1
          go_wp2_with fail
          (go_at_call 75; (with_reducible refine (TEH2.out _).mono ?_); rintro e wT ⟨rfl, h1⟩; (try with_reducible replace h1 := undrew h1); have hB : Below w.heap.size w wT := ba (by go_grown) h1; obtain ⟨hcwT, hfwT⟩ := bcell h1; have hqwT := h1.size; (try simp at hqwT); )
          have hqT := HQB.out.below hqlt h1
          have hqltT := hqT.lt
          obtain ⟨e0, e1, e2, e3⟩ := hqT.cells
          have hzT := h1.size
          have hbT := HB.out.trans (h1.mono hzr)
          replace hB : Below w.heap.size w wT := hwB.out.trans (h1.mono hwB.out.size)
          have HQT := Lib.hid hqT
          have HBT := Lib.hid hbT
          clear h1 hcwT hfwT cr hqT hbT
          go_wp2_with fail
          refine absWB (F := fun V => (V.cell? ⟨wT.heap.size, 0, none⟩ = some (.int .i64 x.x0)) ∧ (V.cell? ⟨wT.heap.size, 1, none⟩ = some (.int .i64 x.x1)) ∧ (V.cell? ⟨wT.heap.size, 2, none⟩ = some (.int .i64 x.x2)) ∧ (V.cell? ⟨wT.heap.size, 3, none⟩ = some (.int .i64 x.x3)) ∧ (V.cell? ⟨wB.heap.size, 0, none⟩ = some (.int .i64 q.x0)) ∧ (V.cell? ⟨wB.heap.size, 1, none⟩ = some (.int .i64 q.x1)) ∧ (V.cell? ⟨wB.heap.size, 2, none⟩ = some (.int .i64 q.x2)) ∧ (V.cell? ⟨wB.heap.size, 3, none⟩ = some (.int .i64 q.x3)) ∧ (Below wT.heap.size wT V) ∧ (PoB V wT.heap.size x) ∧ Below w.heap.size w V) ⟨by go_simp, by go_simp, by go_simp, by go_simp, by go_simp, by go_simp, by go_simp, by go_simp, (Below.refl _ wT).alloc (Nat.le_refl _) _, PoB.new _ _, by go_grown⟩ ?_
          rintro V ⟨ca0_0, ca1_1, ca2_2, ca3_3, cb0_0, cb1_1, cb2_2, cb3_3, hqX, hnX, HB⟩
          have ka0_0 := fun d os => cell_regrown ca0_0 d os
          have ka1_1 := fun d os => cell_regrown ca1_1 d os
          have ka2_2 := fun d os => cell_regrown ca2_2 d os
          have ka3_3 := fun d os => cell_regrown ca3_3 d os
          have kb0_0 := fun d os => cell_regrown cb0_0 d os
          have kb1_1 := fun d os => cell_regrown cb1_1 d os
          have kb2_2 := fun d os => cell_regrown cb2_2 d os
          have kb3_3 := fun d os => cell_regrown cb3_3 d os
          refine wp_region_quiet_below (by kernel_rfl) (by kernel_rfl) ?_
          repeat (quiet_step (first | (go_at_call 78; with_reducible exact Calls.regrown_of (NA.out _)) | (go_at_call 78; with_reducible exact Calls.regrown_of (NB.out _)) | (go_at_call 77; with_reducible exact Calls.regrown_of (PC.out _))))
          refine wpQuiet_nil ?_
          rintro _ ⟨⟨dq, osq⟩, rfl⟩
          have hbwz := below_regrown V dq osq
          generalize grow (redrawn V dq) osq = wz at hbwz ⊢
          obtain ⟨hcwz, hfwz⟩ := bcell hbwz
          have hlwz := hbwz.size
          replace HB := ba HB hbwz
          have hqz := ba hqX hbwz
          have HBZ := Lib.hid (HBT.out.trans (hqz.mono (by omega)))
          have HQZ := Lib.hid (HQT.out.below hqltT hqz)
          clear hqX hbwz hcwz hfwz hqz hnX hB e0 e1 e2 e3
          go_wp2_with fail
          go_roundw
          case rel => exact ⟨j + 1, by omega, by go_num, by rw [HU.out.1], by rw [HU.out.2]; exact HQZ.out, HBZ.out⟩
          case measure => simp [intOf]; omega
        · have hz0 : 0 < z := by simpa using hcg
          have HU := Lib.hid (HE1.out rfl)
          have hB : Below w.heap.size w wi := hwB.out
          clear hcg HE0 HE1
          go_wp2_with fail
          (go_at_call 75; (with_reducible refine (TEH2.out _).mono ?_); rintro e wT ⟨rfl, h1⟩; (try with_reducible replace h1 := undrew h1); have hB : Below w.heap.size w wT := ba (by go_grown) h1; obtain ⟨hcwT, hfwT⟩ := bcell h1; have hqwT := h1.size; (try simp at hqwT); )
          have hqT := HQB.out.below hqlt h1
          have hqltT := hqT.lt
          obtain ⟨e0, e1, e2, e3⟩ := hqT.cells
          have hzT := h1.size
          have hbT := HB.out.trans (h1.mono hzr)
          replace hB : Below w.heap.size w wT := hwB.out.trans (h1.mono hwB.out.size)
          have HQT := Lib.hid hqT
          have HBT := Lib.hid hbT
          clear h1 hcwT hfwT cr hqT hbT
          go_wp2_with fail
          refine absWB (F := fun V => (V.cell? ⟨wT.heap.size, 0, none⟩ = some (.int .i64 x.x0)) ∧ (V.cell? ⟨wT.heap.size, 1, none⟩ = some (.int .i64 x.x1)) ∧ (V.cell? ⟨wT.heap.size, 2, none⟩ = some (.int .i64 x.x2)) ∧ (V.cell? ⟨wT.heap.size, 3, none⟩ = some (.int .i64 x.x3)) ∧ (V.cell? ⟨wB.heap.size, 0, none⟩ = some (.int .i64 q.x0)) ∧ (V.cell? ⟨wB.heap.size, 1, none⟩ = some (.int .i64 q.x1)) ∧ (V.cell? ⟨wB.heap.size, 2, none⟩ = some (.int .i64 q.x2)) ∧ (V.cell? ⟨wB.heap.size, 3, none⟩ = some (.int .i64 q.x3)) ∧ (Below wT.heap.size wT V) ∧ (PoB V wT.heap.size x) ∧ Below w.heap.size w V) ⟨by go_simp, by go_simp, by go_simp, by go_simp, by go_simp, by go_simp, by go_simp, by go_simp, (Below.refl _ wT).alloc (Nat.le_refl _) _, PoB.new _ _, by go_grown⟩ ?_
          rintro V ⟨ca0_0, ca1_1, ca2_2, ca3_3, cb0_0, cb1_1, cb2_2, cb3_3, hqX, hnX, HB⟩
          have ka0_0 := fun d os => cell_regrown ca0_0 d os
          have ka1_1 := fun d os => cell_regrown ca1_1 d os
          have ka2_2 := fun d os => cell_regrown ca2_2 d os
          have ka3_3 := fun d os => cell_regrown ca3_3 d os
          have kb0_0 := fun d os => cell_regrown cb0_0 d os
          have kb1_1 := fun d os => cell_regrown cb1_1 d os
          have kb2_2 := fun d os => cell_regrown cb2_2 d os
          have kb3_3 := fun d os => cell_regrown cb3_3 d os
          refine wp_region_quiet_below (by kernel_rfl) (by kernel_rfl) ?_
          repeat (quiet_step (first | (go_at_call 78; with_reducible exact Calls.regrown_of (NA.out _)) | (go_at_call 78; with_reducible exact Calls.regrown_of (NB.out _)) | (go_at_call 77; with_reducible exact Calls.regrown_of (PC.out _))))
          refine wpQuiet_nil ?_
          rintro _ ⟨⟨dq, osq⟩, rfl⟩
          have hbwz := below_regrown V dq osq
          generalize grow (redrawn V dq) osq = wz at hbwz ⊢
          obtain ⟨hcwz, hfwz⟩ := bcell hbwz
          have hlwz := hbwz.size
          replace HB := ba HB hbwz
          have hqz := ba hqX hbwz
          have HBZ := Lib.hid (HBT.out.trans (hqz.mono (by omega)))
          have hpz := HQT.out.below hqltT hqz
          have hnz := hnX.below hnX.lt hbwz
          have HQZ := Lib.hid (hpz.set x)
          obtain ⟨s0, s1, s2, s3⟩ := hpz.cells
          obtain ⟨u0, u1, u2, u3⟩ := hnz.cells
          have f0 := hpz.free 0
          have f1 := hpz.free 1
          have f2 := hpz.free 2
          have f3 := hpz.free 3
          have HBS := Lib.hid ((((HBZ.out.setCell (p := ⟨wB.heap.size, 0, none⟩) (Nat.le_refl _) (.int .i64 x.x0)).setCell (p := ⟨wB.heap.size, 1, none⟩) (Nat.le_refl _) (.int .i64 x.x1)).setCell (p := ⟨wB.heap.size, 2, none⟩) (Nat.le_refl _) (.int .i64 x.x2)).setCell (p := ⟨wB.heap.size, 3, none⟩) (Nat.le_refl _) (.int .i64 x.x3))
          clear hqX hbwz hcwz hfwz hqz hnX hB e0 e1 e2 e3 hpz hnz
          go_wp2_with fail
          go_roundw
          case rel => exact ⟨j + 1, by omega, by go_num, by rw [HU.out.1], by rw [HU.out.2]; exact HQZ.out, HBS.out⟩
          case measure => simp [intOf]; omega
      · obtain rfl : j = N := by omega
        have NB0 : ∀ w, Calls Try.prog 78 #[.agg #[.int .i64 (fin sp0 (fmB R r0 j)).x0, .int .i64 (fin sp0 (fmB R r0 j)).x1, .int .i64 (fin sp0 (fmB R r0 j)).x2, .int .i64 (fin sp0 (fmB R r0 j)).x3]] w fun e w' => e = .returned (.agg #[.int .i64 (fin sp0 (fmB R r0 j)).n0, .int .i64 (fin sp0 (fmB R r0 j)).n1]) ∧ Below w.heap.size w w' := fun w => spNorm_any _ _ _ _ w
        have NB := Lib.hid NB0
        obtain ⟨⟨q0, q1⟩, q2, q3⟩ := HQ.out
        have p0 : wi.cell? ⟨w.heap.size + 1, 0, none⟩ = some (.int .i64 0) := by rw [hB1w.cell (p := ⟨w.heap.size + 1, 0, none⟩) y1]; exact q0
        have p1 : wi.cell? ⟨w.heap.size + 1, 1, none⟩ = some (.int .i64 0) := by rw [hB1w.cell (p := ⟨w.heap.size + 1, 1, none⟩) y1]; exact q1
        have p2 : wi.frozen? ⟨w.heap.size + 1, 0, none⟩ = false := by rw [hB1w.frozen (p := ⟨w.heap.size + 1, 0, none⟩) y1]; exact q2
        have p3 : wi.frozen? ⟨w.heap.size + 1, 1, none⟩ = false := by rw [hB1w.frozen (p := ⟨w.heap.size + 1, 1, none⟩) y1]; exact q3
        have hB : Below w.heap.size w wi := HB1.out.trans (hB1w.mono HB1.out.size)
        have hwi := hB1w.size
        have yi : w.heap.size + 1 < wi.heap.size := by omega
        obtain ⟨e0, e1, e2, e3⟩ := hq.cells
        clear NB0 q0 q1 q2 q3 hbo hmm hb hB1w hposI hq
        generalize E0 : (fin sp0 (fmB R r0 j)).n0 = l0 at *
        generalize E1 : (fin sp0 (fmB R r0 j)).n1 = l1 at *
        have HE := Lib.hid (And.intro E0 E1)
        clear E0 E1
        generalize fin sp0 (fmB R r0 j) = q at e0 e1 e2 e3 NB
        generalize E2 : ofL (fmB R r0 j) = Y at *
        have HY := Lib.hid E2
        clear E2
        go_wp2_with fail
        (go_at_call 78; (with_reducible refine (NB.out _).mono ?_); rintro e wN ⟨rfl, h1⟩; (try with_reducible replace h1 := undrew h1); have hB : Below w.heap.size w wN := ba (by go_grown) h1; obtain ⟨hcwN, hfwN⟩ := bcell h1; have hqwN := h1.size; (try simp at hqwN); (try have hz0wN : w.heap.size + 1 < wN.heap.size := (by omega)); (try have he0wN : w.heap.size + 1 ≤ wN.heap.size := (by omega)))
        go_wp2_with fail
        refine bodyPost_ret (by simp [results, Try.results42, go_sem, *]; try rfl) rfl ?_
        exact ⟨by rw [HE.out.1, HE.out.2, HY.out], by go_grown⟩

end Go.Proofs.Ythiimllafcfieaa

/- Contracts: CheapestRing, in the model and in the program. -/
namespace Go.Proofs.Ythiimllafcfieaa
open Go.ChangeShapes Go.WideShapes Go.ChangeAt Go.RowKit Go.Sort

set_option linter.unusedVariables false
set_option linter.unusedSimpArgs false

section
variable {B0 B1 B2 : Nat} {v00 v01 v10 v20 : Value} {W w1 : World}
theorem cz_below (h : W.cell? ⟨B0, 0, none⟩ = some v00 ∧ W.cell? ⟨B0, 1, none⟩ = some v01 ∧ W.cell? ⟨B1, 0, none⟩ = some v10 ∧ W.cell? ⟨B2, 0, none⟩ = some v20) (h0 : B0 < W.heap.size) (h1 : B1 < W.heap.size) (h2 : B2 < W.heap.size) (hb : Below W.heap.size W w1) : w1.cell? ⟨B0, 0, none⟩ = some v00 ∧ w1.cell? ⟨B0, 1, none⟩ = some v01 ∧ w1.cell? ⟨B1, 0, none⟩ = some v10 ∧ w1.cell? ⟨B2, 0, none⟩ = some v20 :=
  let ⟨k0, k1, k2, k3⟩ := h
  ⟨cl_below k0 h0 hb, cl_below k1 h0 hb, cl_below k2 h1 hb, cl_below k3 h2 hb⟩

theorem cz_alloc (h : W.cell? ⟨B0, 0, none⟩ = some v00 ∧ W.cell? ⟨B0, 1, none⟩ = some v01 ∧ W.cell? ⟨B1, 0, none⟩ = some v10 ∧ W.cell? ⟨B2, 0, none⟩ = some v20) (o : Obj) : (W.alloc o).cell? ⟨B0, 0, none⟩ = some v00 ∧ (W.alloc o).cell? ⟨B0, 1, none⟩ = some v01 ∧ (W.alloc o).cell? ⟨B1, 0, none⟩ = some v10 ∧ (W.alloc o).cell? ⟨B2, 0, none⟩ = some v20 :=
  let ⟨k0, k1, k2, k3⟩ := h
  ⟨cl_alloc k0 o, cl_alloc k1 o, cl_alloc k2 o, cl_alloc k3 o⟩

theorem cz_re {o : Obj} (h : (W.alloc o).cell? ⟨B0, 0, none⟩ = some v00 ∧ (W.alloc o).cell? ⟨B0, 1, none⟩ = some v01 ∧ (W.alloc o).cell? ⟨B1, 0, none⟩ = some v10 ∧ (W.alloc o).cell? ⟨B2, 0, none⟩ = some v20) (h0 : B0 < W.heap.size) (h1 : B1 < W.heap.size) (h2 : B2 < W.heap.size) (o2 : Obj) : (W.alloc o2).cell? ⟨B0, 0, none⟩ = some v00 ∧ (W.alloc o2).cell? ⟨B0, 1, none⟩ = some v01 ∧ (W.alloc o2).cell? ⟨B1, 0, none⟩ = some v10 ∧ (W.alloc o2).cell? ⟨B2, 0, none⟩ = some v20 :=
  let ⟨k0, k1, k2, k3⟩ := h
  ⟨cl_re k0 h0 o2, cl_re k1 h0 o2, cl_re k2 h1 o2, cl_re k3 h2 o2⟩

theorem cz_drew (h : W.cell? ⟨B0, 0, none⟩ = some v00 ∧ W.cell? ⟨B0, 1, none⟩ = some v01 ∧ W.cell? ⟨B1, 0, none⟩ = some v10 ∧ W.cell? ⟨B2, 0, none⟩ = some v20) : W.drew.cell? ⟨B0, 0, none⟩ = some v00 ∧ W.drew.cell? ⟨B0, 1, none⟩ = some v01 ∧ W.drew.cell? ⟨B1, 0, none⟩ = some v10 ∧ W.drew.cell? ⟨B2, 0, none⟩ = some v20 := h

theorem cz_undrew (h : W.drew.cell? ⟨B0, 0, none⟩ = some v00 ∧ W.drew.cell? ⟨B0, 1, none⟩ = some v01 ∧ W.drew.cell? ⟨B1, 0, none⟩ = some v10 ∧ W.drew.cell? ⟨B2, 0, none⟩ = some v20) : W.cell? ⟨B0, 0, none⟩ = some v00 ∧ W.cell? ⟨B0, 1, none⟩ = some v01 ∧ W.cell? ⟨B1, 0, none⟩ = some v10 ∧ W.cell? ⟨B2, 0, none⟩ = some v20 := h

theorem cz_set (h : W.cell? ⟨B0, 0, none⟩ = some v00 ∧ W.cell? ⟨B0, 1, none⟩ = some v01 ∧ W.cell? ⟨B1, 0, none⟩ = some v10 ∧ W.cell? ⟨B2, 0, none⟩ = some v20) (p : Addr) (u : Value) (h0 : p.block ≠ B0) (h1 : p.block ≠ B1) (h2 : p.block ≠ B2) : (W.setCell p u).cell? ⟨B0, 0, none⟩ = some v00 ∧ (W.setCell p u).cell? ⟨B0, 1, none⟩ = some v01 ∧ (W.setCell p u).cell? ⟨B1, 0, none⟩ = some v10 ∧ (W.setCell p u).cell? ⟨B2, 0, none⟩ = some v20 :=
  let ⟨k0, k1, k2, k3⟩ := h
  ⟨cl_set k0 p u h0, cl_set k1 p u h0, cl_set k2 p u h1, cl_set k3 p u h2⟩

theorem cz_far {row : Option Nat} (h : W.cell? ⟨B0, 0, none⟩ = some v00 ∧ W.cell? ⟨B0, 1, none⟩ = some v01 ∧ W.cell? ⟨B1, 0, none⟩ = some v10 ∧ W.cell? ⟨B2, 0, none⟩ = some v20) (h0 : some B0 ≠ row) (h1 : some B1 ≠ row) (h2 : some B2 ≠ row) (hg : W.grownBy w1 row) : w1.cell? ⟨B0, 0, none⟩ = some v00 ∧ w1.cell? ⟨B0, 1, none⟩ = some v01 ∧ w1.cell? ⟨B1, 0, none⟩ = some v10 ∧ w1.cell? ⟨B2, 0, none⟩ = some v20 :=
  let ⟨k0, k1, k2, k3⟩ := h
  ⟨hg.cell k0 h0, hg.cell k1 h0, hg.cell k2 h1, hg.cell k3 h2⟩
end

def czO (n s c : Int) : Option Bq := cond (rbG n && (inB s 0 1000 && inB c 0 1000)) (chO s c (rbR n) (rbR n).length) none

theorem rbQ_ok {m k : Nat} (hk : k ≤ m + 1) (hm : m ≤ 12) {b : Bq} (h : b ∈ rbQ m k) : bxB 40 b = true := by
  rw [rbQ, List.mem_map] at h
  obtain ⟨s, hs, rfl⟩ := h
  have := List.mem_range.1 (List.mem_filter.1 hs).1
  exact bxB_of (m := 40) (by omega)

theorem rbR_ok {n : Int} {b : Bq} (h : b ∈ rbR n) : bxB 40 b = true := by
  cases hg : rbG n
  · simp [rbR, hg] at h
  · obtain ⟨m, rfl, _, hm⟩ := rb_num hg
    rw [rbR, hg, Int.toNat_natCast] at h
    exact rbQ_ok (Nat.le_refl _) hm h

theorem o2_ok {s c : Int} {l : List Bq} (h : ∀ b ∈ l, bxB 40 b = true) : bxB 40 (o2 (chO s c l l.length)) = true := by
  by_cases h0 : 0 < l.length
  · obtain ⟨g, hg, hm⟩ := chO_some (s := s) (c := c) h0 (Nat.le_refl _)
    rw [hg]; exact h g hm
  · have : l = [] := List.eq_nil_of_length_eq_zero (by omega)
    subst this
    rfl

theorem czO_prog {n s c : Int} (h : (inB s 0 1000 && inB c 0 1000) = true) : czO n s c = chO s c (rbR n) (rbR n).length := by
  unfold czO
  cases hg : rbG n
  · simp [rbR, hg, chO, fgO]
  · rw [h]; rfl

theorem chO_isSome (s c : Int) (l : List Bq) : (chO s c l l.length).isSome = decide (0 < l.length) := by
  rw [chO, List.take_length, fgO_isSome]

set_option maxRecDepth 100000 in
set_option maxHeartbeats 1600000 in
theorem imCheapestRing (n s c : Int) (w : World) : Calls Try.prog 46 #[.int .i64 n, .int .i64 s, .int .i64 c] w fun e w' =>
    e = .returned (.tuple #[.agg #[.int .i64 (o2 (czO n s c)).x, .int .i64 (o2 (czO n s c)).r], .int .i64 (prI s c (o2 (czO n s c))), .bool (czO n s c).isSome]) ∧ Below w.heap.size w w' := by
  have PR := Lib.hid (arePrices_any s c)
  cases hp : (inB s 0 1000 && inB c 0 1000)
  · have hz : czO n s c = none := by unfold czO; rw [hp, Bool.and_false]; rfl
    have h0 : prI s c (o2 none) = 0 := by simp [prI, o2]
    rw [hz, h0]
    rw [hp] at PR
    clear hp hz h0
    go_enter Try.func46, Try.ntmps46
    go_wp2_with (go_at_call 84; refine (PR.out _).mono ?_; rintro e w' ⟨rfl, rfl⟩)
    refine bodyPost_ret (by simp [results, Try.results46, go_sem, *]; try rfl) rfl ?_
    exact ⟨rfl, by go_grown⟩
  · have hs' : inB s 0 1000 = true ∧ inB c 0 1000 = true := by simpa using hp
    rw [czO_prog hp, chO_isSome]
    rw [hp] at PR
    have RB := Lib.hid (imRingBoxes n)
    unfold BXPost at RB
    have hle := rbR_le n
    have hok : ∀ b ∈ rbR n, bxB 40 b = true := fun b hb => rbR_ok hb
    have hoo := o2_ok (s := s) (c := c) hok
    have PP0 : ∀ w, Calls Try.prog 87 #[bv (o2 (chO s c (rbR n) (rbR n).length)), .int .i64 s, .int .i64 c] w fun e w' => e = .returned (.int .i64 (prI s c (o2 (chO s c (rbR n) (rbR n).length)))) ∧ Below w.heap.size w w' := fun w => price_any _ s c hoo hs'.1 hs'.2 w
    have PP := Lib.hid PP0
    have FB := Lib.hid (fun (v : Value) (p q : Nat) => fgBox_any v (rbR n) (by omega) hok s c hs'.1 hs'.2 p q)
    unfold FbPost at FB
    generalize chO s c (rbR n) (rbR n).length = O at *
    generalize rbR n = l at *
    generalize rbG n = G at *
    generalize prI s c (o2 O) = R at *
    generalize o2 O = D at *
    clear hp hok hoo PP0 hs'
    obtain ⟨dx, dr⟩ := D
    go_enter Try.func46, Try.ntmps46
    go_wp2_with (go_at_call 84; refine (PR.out _).mono ?_; rintro e w' ⟨rfl, rfl⟩)
    (with_reducible refine Calls.mono (RB.out _) ?_)
    rintro e w1 ⟨v, rfl, hO, hb⟩
    have hz1 := hb.size
    simp at hz1
    have k0 : w1.cell? ⟨w.heap.size, 0, none⟩ = some (.int .i64 s) := by rw [hb.cell (p := ⟨w.heap.size, 0, none⟩) (by simp; omega)]; go_simp
    have k1 : w1.cell? ⟨w.heap.size + 1, 0, none⟩ = some (.int .i64 c) := by rw [hb.cell (p := ⟨w.heap.size + 1, 0, none⟩) (by simp)]; go_simp
    have r0 : w1.frozen? ⟨w.heap.size + 1 + 1, 0, none⟩ = false := by rw [hb.frozen (p := ⟨w.heap.size + 1 + 1, 0, none⟩) (by simp)]; go_simp
    have r1 : w1.frozen? ⟨w.heap.size + 1 + 1, 1, none⟩ = false := by rw [hb.frozen (p := ⟨w.heap.size + 1 + 1, 1, none⟩) (by simp)]; go_simp
    have r2 : w1.cell? ⟨w.heap.size + 1 + 1, 0, none⟩ = some (.int .i64 0) := by rw [hb.cell (p := ⟨w.heap.size + 1 + 1, 0, none⟩) (by simp)]; go_simp
    have r3 : w1.cell? ⟨w.heap.size + 1 + 1, 1, none⟩ = some (.int .i64 0) := by rw [hb.cell (p := ⟨w.heap.size + 1 + 1, 1, none⟩) (by simp)]; go_simp
    have hB : Below w.heap.size w w1 := ba (by go_grown) hb
    have hbv : ∃ av cap, v = .slice av l.length cap ∧ (l = [] ∨ ∃ g, av = some ⟨g, 0, none⟩ ∧ g < w1.heap.size ∧ BoxAt w1 g l) := by
      have h0 := hO
      rcases hO.2 with ⟨rfl, h2⟩ | ⟨g, cap, cur, rfl, _⟩
      · exact ⟨none, 0, by rw [h2], .inl (List.eq_nil_of_length_eq_zero h2)⟩
      · exact ⟨_, cap, rfl, .inr ⟨g, rfl, (h0.lt g rfl).2, box_of h0 rfl⟩⟩
    have FB1 := Lib.hid (FB.out v w.heap.size (w.heap.size + 1) w1 (by omega) (by omega) k0 k1 hbv)
    clear hO hb hbv
    go_wp2_with fail
    (with_reducible refine Calls.mono FB1.out ?_)
    rintro e w2 ⟨rfl, h2⟩
    have hB2 : Below w.heap.size w w2 := hB.trans (h2.mono hB.size)
    obtain ⟨hc2, hf2⟩ := bcell h2
    have hz2 := h2.size
    have y0 : w.heap.size < w1.heap.size := by omega
    have y1 : w.heap.size + 1 < w1.heap.size := by omega
    have y2 : w.heap.size + 1 + 1 < w1.heap.size := by omega
    have y3 : w.heap.size < w2.heap.size := by omega
    have y4 : w.heap.size + 1 < w2.heap.size := by omega
    have y5 : w.heap.size + 1 + 1 < w2.heap.size := by omega
    clear hB h2
    have hB := hB2
    clear hB2
    go_wp2_with fail
    have hS0 : (w2.alloc (.cells #[.int .i64 dx, .int .i64 dr] 40)).cell? ⟨w2.heap.size, 0, none⟩ = some (.int .i64 dx) ∧ (w2.alloc (.cells #[.int .i64 dx, .int .i64 dr] 40)).cell? ⟨w2.heap.size, 1, none⟩ = some (.int .i64 dr) ∧ (w2.alloc (.cells #[.int .i64 dx, .int .i64 dr] 40)).cell? ⟨w.heap.size, 0, none⟩ = some (.int .i64 s) ∧ (w2.alloc (.cells #[.int .i64 dx, .int .i64 dr] 40)).cell? ⟨w.heap.size + 1, 0, none⟩ = some (.int .i64 c) := ⟨by go_simp, by go_simp, by go_simp, by go_simp⟩
    have hE0 : (w2.alloc (.cells #[.int .i64 dx, .int .i64 dr] 40)).frozen? ⟨w.heap.size + 1 + 1, 0, none⟩ = false := by go_simp
    go_region_held3 (fun w' => w'.cell? ⟨w2.heap.size, 0, none⟩ = some (.int .i64 dx) ∧ w'.cell? ⟨w2.heap.size, 1, none⟩ = some (.int .i64 dr) ∧ w'.cell? ⟨w.heap.size, 0, none⟩ = some (.int .i64 s) ∧ w'.cell? ⟨w.heap.size + 1, 0, none⟩ = some (.int .i64 c))
      (first | (with_reducible assumption) | (with_reducible exact cz_drew hS0) | (with_reducible exact cz_drew (cz_alloc hS0 _)) | (with_reducible exact cz_alloc (cz_drew hS0) _) | (with_reducible refine cz_drew ?_; with_reducible assumption) | (with_reducible refine cz_alloc ?_ _; with_reducible assumption) | (with_reducible refine cz_re (by with_reducible assumption) ?_ ?_ ?_ _; (focus first | (with_reducible assumption) | omega | (simp; done) | (simp; omega)); (focus first | (with_reducible assumption) | omega | (simp; done) | (simp; omega)); (focus first | (with_reducible assumption) | omega | (simp; done) | (simp; omega))) | (with_reducible refine cz_below ?_ ?_ ?_ ?_ h1; (focus first | (with_reducible assumption) | (with_reducible refine cz_undrew ?_; with_reducible assumption)); (focus first | (with_reducible assumption) | omega | (simp; done) | (simp; omega)); (focus first | (with_reducible assumption) | omega | (simp; done) | (simp; omega)); (focus first | (with_reducible assumption) | omega | (simp; done) | (simp; omega))) | ((repeat (with_reducible refine cz_set ?_ _ _ ?_ ?_ ?_; rotate_left 1; (focus first | (with_reducible assumption) | omega | (simp; done) | (simp; omega)); (focus first | (with_reducible assumption) | omega | (simp; done) | (simp; omega)); (focus first | (with_reducible assumption) | omega | (simp; done) | (simp; omega)))); with_reducible assumption))
      ((go_at_call 87; (with_reducible refine (PP.out _).mono ?_); rintro e w3 ⟨rfl, h1⟩; (try with_reducible replace h1 := undrew h1); have hB : Below w.heap.size w w3 := ba (by go_grown) h1; obtain ⟨hcw3, hfw3⟩ := bcell h1; have hqw3 := h1.size; (try simp at hqw3); (try have hz0w3 : w.heap.size < w3.heap.size := (by omega)); (try have he0w3 : w.heap.size ≤ w3.heap.size := (by omega)); (try have hz1w3 : w.heap.size + 1 < w3.heap.size := (by omega)); (try have he1w3 : w.heap.size + 1 ≤ w3.heap.size := (by omega)); (try have hz2w3 : w.heap.size + 1 + 1 < w3.heap.size := (by omega)); (try have he2w3 : w.heap.size + 1 + 1 ≤ w3.heap.size := (by omega)); (try have hz3w3 : w2.heap.size < w3.heap.size := (by omega)); (try have he3w3 : w2.heap.size ≤ w3.heap.size := (by omega))))
    all_goals
      go_wp2_with fail
      refine bodyPost_ret (by simp [results, Try.results46, go_sem, *]; try rfl) rfl ?_
      exact ⟨rfl, by go_grown⟩

theorem frB {wi w1 : World} {G : Nat} (h : ∀ k, k < w1.heap.size → k ≠ G → wi.heap[k]? = w1.heap[k]?) (hz : w1.heap.size ≤ wi.heap.size) (x y : Value) (o : Obj) :
    ∀ k, k < w1.heap.size → k ≠ G → (((wi.setCell ⟨G, 0, none⟩ x).setCell ⟨G, 1, none⟩ y).alloc o).heap[k]? = w1.heap[k]? := fun k hk hne => by
  rw [Below.heap_alloc _ _ _ (by simp; omega)]
  have hne' : ¬ G = k := fun e => hne e.symm
  simp only [World.setCell, Array.getElem?_modify, hne', if_false]
  exact h k hk hne

theorem frA {wi w1 : World} {G : Nat} (h : ∀ k, k < w1.heap.size → k ≠ G → wi.heap[k]? = w1.heap[k]?) (hz : w1.heap.size ≤ wi.heap.size) (o : Obj) :
    ∀ k, k < w1.heap.size → k ≠ G → (wi.alloc o).heap[k]? = w1.heap[k]? := fun k hk hne => by
  rw [Below.heap_alloc _ _ _ (by omega)]
  exact h k hk hne

def lsI (s c : Int) (o : Option Bq) : Int := match o with | none => -1 | some g => prI s c g

theorem czO_mod {n s c : Int} (h : rbG n = true) (hp : (inB s 0 1000 && inB c 0 1000) = true) : czO n s c = chO s c (rbR n) (rbR n).length := by unfold czO; rw [h, hp]; rfl

set_option maxRecDepth 100000 in
set_option maxHeartbeats 1600000 in
theorem spCheapestRing (n s c : Int) (w : World) : Calls Try.prog 45 #[.int .i64 n, .int .i64 s, .int .i64 c] w fun e w' =>
    e = .returned (.tuple #[.agg #[.int .i64 (o2 (czO n s c)).x, .int .i64 (o2 (czO n s c)).r], .int .i64 (prI s c (o2 (czO n s c))), .bool (czO n s c).isSome]) ∧ Below w.heap.size w w' := by
  have PR := Lib.hid (spPrices_any s c)
  have h0 : prI s c (o2 none) = 0 := by simp [prI, o2]
  cases hg : rbG n
  · have hz : czO n s c = none := by unfold czO; rw [hg]; rfl
    have h1 : inB n 1 12 = false := hg
    rw [hz, h0]
    clear hz h0 hg
    go_enter Try.func45, Try.ntmps45
    go_wp2_with (go_at_call 52; refine (l1In_any _ _ _ _).mono ?_; rintro e w' ⟨rfl, rfl⟩)
    refine bodyPost_ret (by simp [results, Try.results45, go_sem, *]; try rfl) rfl ?_
    exact ⟨rfl, by go_grown⟩
  · have h1 : inB n 1 12 = true := hg
    cases hp : (inB s 0 1000 && inB c 0 1000)
    · have hz : czO n s c = none := by unfold czO; rw [hp, Bool.and_false]; rfl
      rw [hz, h0]
      rw [hp] at PR
      clear hz h0 hg hp
      go_enter Try.func45, Try.ntmps45
      go_wp2_with (first | (go_at_call 52; refine (l1In_any _ _ _ _).mono ?_; rintro e w' ⟨rfl, rfl⟩) | (go_at_call 83; refine (PR.out _).mono ?_; rintro e w' ⟨rfl, rfl⟩))
      refine bodyPost_ret (by simp [results, Try.results45, go_sem, *]; try rfl) rfl ?_
      exact ⟨rfl, by go_grown⟩
    · have hs' : (0 ≤ s ∧ s ≤ 1000) ∧ (0 ≤ c ∧ c ≤ 1000) := by simpa [inB] using hp
      rw [czO_mod hg hp]
      rw [hp] at PR
      obtain ⟨m, rfl, m0, hm⟩ := rb_num hg
      have hRR : rbR (m : Int) = rbQ m (m + 1) := by rw [rbR, hg, Int.toNat_natCast]; rfl
      rw [hRR]
      have RB := Lib.hid (spRingBoxes_any m hm)
      unfold BoxPost at RB
      have hle : (rbQ m (m + 1)).length ≤ 13 := Nat.le_trans (rbQ_le m (m + 1)) (by omega)
      have hok : ∀ b ∈ rbQ m (m + 1), bxB 40 b = true := fun b hb => rbQ_ok (Nat.le_refl _) hm hb
      generalize rbQ m (m + 1) = l at *
      obtain ⟨N, hN⟩ : ∃ N, l.length = N := ⟨_, rfl⟩
      have HN := Lib.hid hN
      have HOK := Lib.hid hok
      have HS := Lib.hid hs'
      have HNN := Lib.hid (chO_isSome s c l)
      rw [hN] at hle ⊢
      have H00 := Lib.hid h0
      clear hok hp hRR hN h0 hg hs'
      go_enter Try.func45, Try.ntmps45
      go_wp2_with (first | (go_at_call 52; refine (l1In_any _ _ _ _).mono ?_; rintro e w' ⟨rfl, rfl⟩) | (go_at_call 83; refine (PR.out _).mono ?_; rintro e w' ⟨rfl, rfl⟩))
      (with_reducible refine Calls.mono (RB.out _) ?_)
      rintro e w1 ⟨v, rfl, hO, hb⟩
      rw [HN.out] at hO
      have hz1 := hb.size
      simp at hz1
      have T0 := Lib.hid (((TwoAt.new w ⟨0, 0⟩ 40).below (by simp) (Below.alloc (Below.refl _ _) (Nat.le_refl _) (.cells #[.int .i64 0, .int .i64 0] 40))).below (by simp; omega) hb)
      have T1 := Lib.hid ((TwoAt.new (w.alloc (.cells #[.int .i64 0, .int .i64 0] 40)) ⟨0, 0⟩ 40).below (by simp) hb)
      have HB1 := Lib.hid (ba (by go_grown) hb : Below w.heap.size w w1)
      obtain ⟨av, cv, rfl⟩ := own_formC hO
      have HO := Lib.hid hO
      clear hb hO
      go_wp2_with fail
      go_loopw [10, 28] (fun t i wr => ∃ j : Nat, j ≤ N ∧ i = .int .i64 j ∧ t = .int .i64 (lsI s c (chO s c l j)) ∧ TwoAt wr w.heap.size ⟨0, 0⟩ ∧ TwoAt wr (w.heap.size + 1) (o2 (chO s c l j)) ∧ w1.heap.size ≤ wr.heap.size ∧ (∀ k, k < w1.heap.size → k ≠ w.heap.size + 1 → wr.heap[k]? = w1.heap[k]?) ∧ Below w.heap.size w wr) (fun _ i _ => N - (intOf i).toNat)
      case atStart =>
        refine ⟨0, Nat.zero_le _, rfl, rfl, T0.out, ?_, Nat.le_refl _, fun _ _ _ => rfl, HB1.out⟩
        have := T1.out
        rw [show (w.alloc (.cells #[.int .i64 0, .int .i64 0] 40)).heap.size = w.heap.size + 1 by simp] at this
        exact this
      case round =>
        obtain ⟨j, hj, rfl, rfl, t0, t1, hz, hk, hb⟩ := hrel
        have A0 := Lib.hid t0
        have A1 := Lib.hid t1
        have HB := Lib.hid hb
        have HKK := Lib.hid hk
        obtain ⟨wi, rfl⟩ : ∃ wi : World, wi = wr := ⟨_, rfl⟩
        by_cases hlt : j < N
        · obtain ⟨b, hb1⟩ : ∃ b, l[j]? = some b := ⟨_, List.getElem?_eq_getElem (by rw [HN.out]; exact hlt)⟩
          have hbok := HOK.out b (List.mem_of_getElem? hb1)
          have HNX := Lib.hid (chO_next (s := s) (c := c) hb1)
          obtain ⟨g, rfl⟩ : ∃ g, av = some ⟨g, 0, none⟩ := by
            rcases HO.out.2 with ⟨h, h0⟩ | ⟨g, cap, _, h, _⟩
            · omega
            · injection h with h; exact ⟨g, h⟩
          have hgl := HO.out.lt g rfl
          simp at hgl
          obtain ⟨d0, d1⟩ := (box_of HO.out HN.out) j b hb1
          have hgb : wi.heap[g]? = w1.heap[g]? := hk g (by omega) (by omega)
          have d0' : wi.cell? ⟨g, j * 2, none⟩ = some (.int .i64 b.x) := by rw [World.cell?_of_block (w := w1) (a := ⟨g, j * 2, none⟩) hgb]; exact d0
          have d1' : wi.cell? ⟨g, j * 2 + 1, none⟩ = some (.int .i64 b.r) := by rw [World.cell?_of_block (w := w1) (a := ⟨g, j * 2 + 1, none⟩) hgb]; exact d1
          obtain ⟨q0, q1, q2⟩ := bxB_yes hbok
          obtain ⟨bx, br⟩ := b
          simp only at q0 q1 q2 d0' d1'
          obtain ⟨⟨s0, s1⟩, ⟨c0, c1⟩⟩ := HS.out
          obtain ⟨p0, p1⟩ := pr_bd q0 (by omega) s0 s1
          obtain ⟨u0, u1⟩ := pr_bd q1 (by omega) c0 c1
          have HPR := Lib.hid (show prI s c ⟨bx, br⟩ = bx * s + br * c from rfl)
          have hpr : prI s c ⟨bx, br⟩ = bx * s + br * c := rfl
          have e0 : wrap64 (bx * s) = bx * s := IntWalk.wrap64_in _ ⟨by omega, by omega⟩
          have e1 : wrap64 (br * c) = br * c := IntWalk.wrap64_in _ ⟨by omega, by omega⟩
          have e2 : wrap64 (bx * s + br * c) = bx * s + br * c := IntWalk.wrap64_in _ ⟨by omega, by omega⟩
          have HE2 := Lib.hid e2
          have hw1 : w.heap.size + 1 < wi.heap.size := by omega
          have F1 := Lib.hid ((A1.out.put ⟨bx, br⟩).below (by simp; omega) (Below.alloc (Below.refl _ _) (Nat.le_refl _) (.cells #[.int .i64 bx, .int .i64 br] 40)))
          have F0 := Lib.hid (((A0.out.other (a := ⟨w.heap.size + 1, 0, none⟩) (by simp) (.int .i64 bx)).other (a := ⟨w.heap.size + 1, 1, none⟩) (by simp) (.int .i64 br)).below (by simp; omega) (Below.alloc (Below.refl _ _) (Nat.le_refl _) (.cells #[.int .i64 bx, .int .i64 br] 40)))
          have FK := Lib.hid (frB hk hz (.int .i64 bx) (.int .i64 br) (.cells #[.int .i64 bx, .int .i64 br] 40))
          have FKA := Lib.hid (frA hk hz (.cells #[.int .i64 bx, .int .i64 br] 40))
          have hww : w.heap.size ≤ wi.heap.size := by omega
          have fb : Below w.heap.size w (((wi.setCell ⟨w.heap.size + 1, 0, none⟩ (.int .i64 bx)).setCell ⟨w.heap.size + 1, 1, none⟩ (.int .i64 br)).alloc (.cells #[.int .i64 bx, .int .i64 br] 40)) := ((HB.out.setCell (by show w.heap.size ≤ w.heap.size + 1; omega) _).setCell (by show w.heap.size ≤ w.heap.size + 1; omega) _).alloc (by simp; omega) _
          have FB := Lib.hid fb
          clear fb
          have FBA := Lib.hid (HB.out.alloc hww (.cells #[.int .i64 bx, .int .i64 br] 40))
          have G1 := Lib.hid (A1.out.below (by omega) (Below.alloc (Below.refl _ wi) (Nat.le_refl _) (.cells #[.int .i64 bx, .int .i64 br] 40)))
          have G0 := Lib.hid (A0.out.below (by omega) (Below.alloc (Below.refl _ wi) (Nat.le_refl _) (.cells #[.int .i64 bx, .int .i64 br] 40)))
          obtain ⟨x0, x1, x2, x3⟩ := A1.out
          by_cases hj0 : j = 0
          · subst hj0
            have hls : lsI s c (chO s c l 0) = -1 := rfl
            have HN2 := Lib.hid (show chO s c l (0 + 1) = some ⟨bx, br⟩ from HNX.out)
            rw [hls]
            clear t0 t1 hb1 hk hb d0 d1 hgb hbok hls p0 p1 u0 u1 hpr
            go_wp2_with fail
            go_roundw
            case rel => exact ⟨1, by omega, by go_num, by rw [HN2.out]; exact congrArg _ (HE2.out.trans HPR.out.symm), F0.out, by rw [HN2.out]; exact F1.out, by simp; omega, FK.out, FB.out⟩
            case measure => simp [intOf]; omega
          · obtain ⟨r, hr, hrm⟩ := chO_some (s := s) (c := c) (Nat.pos_of_ne_zero hj0) (show j ≤ l.length by rw [HN.out]; exact hj)
            obtain ⟨r0, r1, r2⟩ := bxB_yes (HOK.out r hrm)
            obtain ⟨v0, v1⟩ := pr_bd r0 (by omega) s0 s1
            obtain ⟨v2, v3⟩ := pr_bd r1 (by omega) c0 c1
            have hls : lsI s c (chO s c l j) = prI s c r := by rw [hr]; rfl
            have hpn : 0 ≤ prI s c r := by unfold prI; omega
            have hcc : chp s c ⟨bx, br⟩ r = decide (bx * s + br * c < prI s c r) := rfl
            have hnx : chO s c l (j + 1) = some (if chp s c ⟨bx, br⟩ r then ⟨bx, br⟩ else r) := by have := HNX.out; rw [hr] at this; exact this
            have hpl : ¬ prI s c r < 0 := by omega
            have HR := Lib.hid hr
            rw [hls]
            rw [hcc] at hnx
            generalize prI s c r = S at *
            clear t0 t1 hb1 hk hb d0 d1 hgb hbok p0 p1 u0 u1 hpr hcc hr hrm v0 v1 v2 v3 r0 r1 r2
            by_cases hlS : bx * s + br * c < S
            · have HN2 := Lib.hid (show chO s c l (j + 1) = some ⟨bx, br⟩ by rw [hnx, decide_eq_true hlS]; rfl)
              clear hnx hls
              go_wp2_with fail
              go_roundw
              case rel => exact ⟨j + 1, by omega, by go_num, by rw [HN2.out]; exact congrArg _ (HE2.out.trans HPR.out.symm), F0.out, by rw [HN2.out]; exact F1.out, by simp; omega, FK.out, FB.out⟩
              case measure => simp [intOf]; omega
            · have HN2 := Lib.hid (show chO s c l (j + 1) = chO s c l j by rw [hnx, decide_eq_false hlS, HR.out]; rfl)
              have HLS := Lib.hid hls
              clear hnx hls
              go_wp2_with fail
              go_roundw
              case rel => exact ⟨j + 1, by omega, by go_num, by rw [HN2.out, HLS.out], G0.out, by rw [HN2.out]; exact G1.out, by simp; omega, FKA.out, FBA.out⟩
              case measure => simp [intOf]; omega
        · obtain rfl : j = N := by omega
          obtain ⟨x0, x1, x2, x3⟩ := A1.out
          obtain ⟨y0, y1, y2, y3⟩ := A0.out
          have hw1 : w.heap.size + 1 < wi.heap.size := by omega
          clear t0 t1 hk
          cases hO2 : chO s c l j
          · have hl1 : lsI s c (none : Option Bq) = -1 := rfl
            have HZ := Lib.hid (And.intro hO2 H00.out)
            rw [hl1]
            clear hl1 x0 x1 x2 x3
            go_wp2_with fail
            refine bodyPost_ret (by simp [results, Try.results45, go_sem, *]; try rfl) rfl ?_
            exact ⟨by rw [H00.out]; rfl, by go_grown⟩
          · rename_i r
            have hrm : r ∈ l := by
              have := fgO_mem _ _ _ hO2
              exact List.mem_of_mem_take this
            obtain ⟨r0, r1, r2⟩ := bxB_yes (HOK.out r hrm)
            obtain ⟨⟨s0, s1⟩, ⟨c0, c1⟩⟩ := HS.out
            obtain ⟨v0, v1⟩ := pr_bd r0 (by omega) s0 s1
            obtain ⟨v2, v3⟩ := pr_bd r1 (by omega) c0 c1
            have hpn : ¬ prI s c r < 0 := by unfold prI; omega
            have hl1 : lsI s c (some r) = prI s c r := rfl
            have HZ := Lib.hid hO2
            rw [hl1]
            rw [hO2] at x0 x1
            simp only [o2, Option.getD_some] at x0 x1
            generalize hS : prI s c r = S at *
            have HSS := Lib.hid hS
            clear hl1 hrm r0 r1 r2 v0 v1 v2 v3 hS hO2
            go_wp2_with fail
            refine bodyPost_ret (by simp [results, Try.results45, go_sem, *]; try rfl) rfl ?_
            exact ⟨by rw [HZ.out]; simp only [o2, Option.getD_some, HSS.out]; rfl, by go_grown⟩

end Go.Proofs.Ythiimllafcfieaa
