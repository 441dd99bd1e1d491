/- Points in a row of memory; which of them are places, in the model and in the program. -/
import Derived.Test.YtppbbcckijcckaaAu
namespace Go.Proofs.Ytppbbcckijcckaa
open Go.ChangeShapes Go.WideShapes Go.ChangeAt Go.RowKit Go.Sort

set_option linter.unusedVariables false
set_option linter.unusedSimpArgs false

/-- The points l lie at block g. -/
def RowP (w : World) (g : Nat) (l : List Pn) : Prop :=
  ∀ (k : Nat) (p : Pn), l[k]? = some p → w.cell? ⟨g, k * 4, none⟩ = some (.int .i64 p.a) ∧ w.cell? ⟨g, k * 4 + 1, none⟩ = some (.int .i64 p.b) ∧ w.cell? ⟨g, k * 4 + 2, none⟩ = some (.int .i64 p.c) ∧ w.cell? ⟨g, k * 4 + 3, none⟩ = some (.int .i64 p.d)

theorem RowP.below {w w' : World} {g n : Nat} {l : List Pn} (h : RowP w g l) (hg : g < n) (hb : Below n w w') : RowP w' g l := fun k p hp => by
  obtain ⟨a, b, c, d⟩ := h k p hp
  exact ⟨by rw [hb.cell (p := ⟨g, k * 4, none⟩) hg]; exact a, by rw [hb.cell (p := ⟨g, k * 4 + 1, none⟩) hg]; exact b, by rw [hb.cell (p := ⟨g, k * 4 + 2, none⟩) hg]; exact c, by rw [hb.cell (p := ⟨g, k * 4 + 3, none⟩) hg]; exact d⟩

theorem rowP1 {w : World} {g : Nat} {p : Pn} (h0 : w.cell? ⟨g, 0, none⟩ = some (.int .i64 p.a)) (h1 : w.cell? ⟨g, 1, none⟩ = some (.int .i64 p.b)) (h2 : w.cell? ⟨g, 2, none⟩ = some (.int .i64 p.c)) (h3 : w.cell? ⟨g, 3, none⟩ = some (.int .i64 p.d)) : RowP w g [p] := fun k x hx => by
  match k, hx with
  | 0, hx =>
    obtain rfl : p = x := by simpa using hx
    exact ⟨h0, h1, h2, h3⟩
  | k + 1, hx => simp at hx

theorem rowP2 {w : World} {g : Nat} {p q : Pn} (h0 : w.cell? ⟨g, 0, none⟩ = some (.int .i64 p.a)) (h1 : w.cell? ⟨g, 1, none⟩ = some (.int .i64 p.b)) (h2 : w.cell? ⟨g, 2, none⟩ = some (.int .i64 p.c)) (h3 : w.cell? ⟨g, 3, none⟩ = some (.int .i64 p.d)) (h4 : w.cell? ⟨g, 4, none⟩ = some (.int .i64 q.a)) (h5 : w.cell? ⟨g, 5, none⟩ = some (.int .i64 q.b)) (h6 : w.cell? ⟨g, 6, none⟩ = some (.int .i64 q.c)) (h7 : w.cell? ⟨g, 7, none⟩ = some (.int .i64 q.d)) : RowP w g [p, q] := fun k x hx => by
  match k, hx with
  | 0, hx =>
    obtain rfl : p = x := by simpa using hx
    exact ⟨h0, h1, h2, h3⟩
  | 1, hx =>
    obtain rfl : q = x := by simpa using hx
    exact ⟨h4, h5, h6, h7⟩
  | k + 2, hx => simp at hx

theorem rowP3 {w : World} {g : Nat} {p q r : Pn} (h0 : w.cell? ⟨g, 0, none⟩ = some (.int .i64 p.a)) (h1 : w.cell? ⟨g, 1, none⟩ = some (.int .i64 p.b)) (h2 : w.cell? ⟨g, 2, none⟩ = some (.int .i64 p.c)) (h3 : w.cell? ⟨g, 3, none⟩ = some (.int .i64 p.d)) (h4 : w.cell? ⟨g, 4, none⟩ = some (.int .i64 q.a)) (h5 : w.cell? ⟨g, 5, none⟩ = some (.int .i64 q.b)) (h6 : w.cell? ⟨g, 6, none⟩ = some (.int .i64 q.c)) (h7 : w.cell? ⟨g, 7, none⟩ = some (.int .i64 q.d)) (h8 : w.cell? ⟨g, 8, none⟩ = some (.int .i64 r.a)) (h9 : w.cell? ⟨g, 9, none⟩ = some (.int .i64 r.b)) (h10 : w.cell? ⟨g, 10, none⟩ = some (.int .i64 r.c)) (h11 : w.cell? ⟨g, 11, none⟩ = some (.int .i64 r.d)) : RowP w g [p, q, r] := fun k x hx => by
  match k, hx with
  | 0, hx =>
    obtain rfl : p = x := by simpa using hx
    exact ⟨h0, h1, h2, h3⟩
  | 1, hx =>
    obtain rfl : q = x := by simpa using hx
    exact ⟨h4, h5, h6, h7⟩
  | 2, hx =>
    obtain rfl : r = x := by simpa using hx
    exact ⟨h8, h9, h10, h11⟩
  | k + 3, hx => simp at hx

theorem rowP4 {w : World} {g : Nat} {p q r s : Pn} (h0 : w.cell? ⟨g, 0, none⟩ = some (.int .i64 p.a)) (h1 : w.cell? ⟨g, 1, none⟩ = some (.int .i64 p.b)) (h2 : w.cell? ⟨g, 2, none⟩ = some (.int .i64 p.c)) (h3 : w.cell? ⟨g, 3, none⟩ = some (.int .i64 p.d)) (h4 : w.cell? ⟨g, 4, none⟩ = some (.int .i64 q.a)) (h5 : w.cell? ⟨g, 5, none⟩ = some (.int .i64 q.b)) (h6 : w.cell? ⟨g, 6, none⟩ = some (.int .i64 q.c)) (h7 : w.cell? ⟨g, 7, none⟩ = some (.int .i64 q.d)) (h8 : w.cell? ⟨g, 8, none⟩ = some (.int .i64 r.a)) (h9 : w.cell? ⟨g, 9, none⟩ = some (.int .i64 r.b)) (h10 : w.cell? ⟨g, 10, none⟩ = some (.int .i64 r.c)) (h11 : w.cell? ⟨g, 11, none⟩ = some (.int .i64 r.d)) (h12 : w.cell? ⟨g, 12, none⟩ = some (.int .i64 s.a)) (h13 : w.cell? ⟨g, 13, none⟩ = some (.int .i64 s.b)) (h14 : w.cell? ⟨g, 14, none⟩ = some (.int .i64 s.c)) (h15 : w.cell? ⟨g, 15, none⟩ = some (.int .i64 s.d)) : RowP w g [p, q, r, s] := fun k x hx => by
  match k, hx with
  | 0, hx =>
    obtain rfl : p = x := by simpa using hx
    exact ⟨h0, h1, h2, h3⟩
  | 1, hx =>
    obtain rfl : q = x := by simpa using hx
    exact ⟨h4, h5, h6, h7⟩
  | 2, hx =>
    obtain rfl : r = x := by simpa using hx
    exact ⟨h8, h9, h10, h11⟩
  | 3, hx =>
    obtain rfl : s = x := by simpa using hx
    exact ⟨h12, h13, h14, h15⟩
  | k + 4, hx => simp at hx

def plB (p : Pn) : Bool := inB p.a (-100000) 100000 && (inB p.b (-100000) 100000 && (inB p.c (-100000) 100000 && inB p.d (-100000) 100000))

theorem plB_bd {p : Pn} (h : plB p = true) : Bd 100000 p := by
  unfold plB inB at h
  simp only [Bool.and_eq_true, decide_eq_true_eq] at h
  exact h

theorem bd_plB {p : Pn} (h : Bd 100000 p) : plB p = true := by
  unfold plB inB
  simp only [Bool.and_eq_true, decide_eq_true_eq]
  exact h

set_option maxRecDepth 100000 in
theorem arGoodP (p : Pn) (w : World) :
    Calls Try.prog 53 #[pv p] w fun e w' => e = .returned (.bool (plB p)) ∧ Below w.heap.size w w' := by
  go_enter Try.func53, Try.ntmps53
  go_wp2_with (go_at_call 105; refine (l1All4_any p.a p.b p.c p.d _ _ _ _ (by go_simp) (by go_simp) (by go_simp) (by go_simp)).mono ?_; rintro e w' ⟨rfl, rfl⟩)
  go_returns
  exact ⟨rfl, by go_grown⟩

set_option maxRecDepth 100000 in
set_option maxHeartbeats 1600000 in
theorem arePlacesP (g n cap : Nat) (l : List Pn) (hn : l.length = n) (hb : n ≤ 1000000) (w : World) (hg : g < w.heap.size) (h1 : RowP w g l) :
    Calls Try.prog 55 #[.slice (some ⟨g, 0, none⟩) n cap] w fun e w' => e = .returned (.bool (l.all plB)) ∧ Below w.heap.size w w' := by
  have HN := Lib.hid hn
  have H1 := Lib.hid h1
  clear hn h1
  go_enter Try.func55, Try.ntmps55
  go_wp2_with fail
  go_loopw [7] (fun i wr => ∃ k : Nat, k ≤ n ∧ i = .int .i64 k ∧ (l.take k).all plB = true ∧ Below w.heap.size w wr) (fun i _ => n - (intOf i).toNat)
  case atStart => exact ⟨0, Nat.zero_le _, rfl, by simp, Below.refl _ _⟩
  case round =>
    obtain ⟨k, hk, rfl, hA, hB⟩ := hrel
    have HA := Lib.hid hA
    clear hA
    by_cases hlt : k < n
    · obtain ⟨p, hp⟩ : ∃ p, l[k]? = some p := ⟨_, List.getElem?_eq_getElem (by rw [HN.out]; exact hlt)⟩
      obtain ⟨c0, c1, c2, c3⟩ := (H1.out.below hg hB) k p hp
      have hz := hB.size
      have HP := Lib.hid hp
      clear hp
      have j1 : (0 : Int) ≤ (k : Int) := by omega
      have j2 : (k : Int) < (n : Int) := by omega
      have hS : (l.take (k + 1)).all plB = plB p := by
        rw [List.take_add_one, HP.out]; simp [HA.out]
      have hF : plB p = false → l.all plB = false := fun h => by
        rw [List.all_eq_false]; exact ⟨p, List.mem_of_getElem? HP.out, by simp [h]⟩
      have HS := Lib.hid hS
      have HF := Lib.hid hF
      clear hS hF
      cases b0 : inB p.a (-100000) 100000 <;> cases b1 : inB p.b (-100000) 100000 <;> cases b2 : inB p.c (-100000) 100000 <;> cases b3 : inB p.d (-100000) 100000
      all_goals
        go_wp2_with (go_at_call 108; refine (isWithin_any _ 100000 (by omega) (by omega) _).mono ?_; rintro e w' ⟨rfl, rfl⟩)
        first
          | (go_ret; exact ⟨by rw [HF.out (by simp [plB, *])]; rfl, by go_grown⟩)
          | (go_roundw
             case rel => exact ⟨k + 1, by omega, by go_num, by rw [HS.out]; simp [plB, *], by go_grown⟩
             case measure => simp [intOf]; omega)
    · have hkn : k = n := by omega
      have hr : l.all plB = true := by
        have := HA.out
        rw [hkn, ← HN.out, List.take_length] at this
        exact this
      go_wp2_with fail
      go_ret
      exact ⟨by rw [hr]; rfl, hB⟩

end Go.Proofs.Ytppbbcckijcckaa
