/- Contract: the place of a spot in a list of them. -/
import Derived.Test.YtoaccnpkobbaaaaYEq
import Derived.Test.YtoaccnpkobbaaaaYSq
import Derived.Deep.QuietTactic
import Derived.BigQuiet
namespace Go.Proofs.Ytoaccnpkobbaaaa
open Go.ChangeShapes Go.WideShapes Go.ChangeAt Go.RowKit
open Yd

set_option linter.unusedVariables false

/-- The seven numbers of a spot, small ones. -/
def spN (x : Nat × List Int) : List Int := (x.1 : Int) :: pad6 x.2

def spOk (x : Nat × List Int) : Prop := x.2.length ≤ 6 ∧ ∀ z ∈ spN x, 0 ≤ z ∧ z ≤ 1000

theorem spN_seven {x : Nat × List Int} (h : spOk x) : ∃ x0 x1 x2 x3 x4 x5, spN x = [(x.1 : Int), x0, x1, x2, x3, x4, x5] ∧ spC x = [.int .i64 (x.1 : Int), .int .i64 x0, .int .i64 x1, .int .i64 x2, .int .i64 x3, .int .i64 x4, .int .i64 x5] ∧ spV x.1 x.2 = .agg #[.int .i64 (x.1 : Int), .int .i64 x0, .int .i64 x1, .int .i64 x2, .int .i64 x3, .int .i64 x4, .int .i64 x5] := by
  obtain ⟨x0, x1, x2, x3, x4, x5, hx⟩ := six_of (pad6_len h.1)
  exact ⟨x0, x1, x2, x3, x4, x5, by rw [spN, hx], by rw [spC, hx]; rfl, by rw [spV, hx]; rfl⟩

theorem spN_inj {x y : Nat × List Int} (hl : x.2.length = y.2.length) (e : spN x = spN y) : x = y := by
  rw [spN, spN] at e
  injection e with e1 e2
  exact Prod.ext (by omega) (pad6_inj hl e2)

theorem spOk_run {ks : List Int} {a : Nat} {ss : List Int} (h : RnOk ks a ss) (h6 : ks.length ≤ 6) : spOk (a, ss) := by
  refine ⟨by show ss.length ≤ 6; rw [h.len]; exact h6, fun z hz => ?_⟩
  have ha := h.at'
  rw [spN, List.mem_cons, pad6, List.mem_append, List.mem_replicate] at hz
  rcases hz with rfl | hz | ⟨_, rfl⟩
  · show 0 ≤ (a : Int) ∧ (a : Int) ≤ 1000; omega
  · have := h.mem z hz; omega
  · decide

set_option maxRecDepth 100000 in
set_option maxHeartbeats 3200000 in
theorem index_any (g n q : Nat) (f : Nat → Nat × List Int) (x : Nat × List Int) (hb : n ≤ 2000000) (hx : spOk x) (hf : ∀ j, j < n → spOk (f j)) (hl : ∀ j, j < n → (f j).2.length = x.2.length) (w : World) (hg : g < w.heap.size)
    (hc : ∀ j i v, j < n → (spC (f j))[i]? = some v → w.cell? ⟨g, 7 + j * 7 + i, none⟩ = some v) :
    Calls Try.prog 78 #[.slice (some ⟨g, 7, none⟩) n q, spV x.1 x.2] w fun e w' => e = .returned (.int .i64 (((List.range n).find? fun i => decide (f i = x)).elim (-1) fun k => (k : Int))) ∧ Below w.heap.size w w' := by
  obtain ⟨x0, x1, x2, x3, x4, x5, hx1, _, hx3⟩ := spN_seven hx
  have HX := Lib.hid hx
  have HF := Lib.hid hf
  have HL := Lib.hid hl
  have HC := Lib.hid hc
  have HX1 := Lib.hid hx1
  rw [hx3]
  generalize hxa : x.1 = xa at *
  have HXA := Lib.hid hxa
  clear hx hf hl hc hx1 hx3 hxa
  go_enter Try.func78, Try.ntmps78
  go_wp2_with fail
  go_loopw [8] (fun i wr => ∃ k : Nat, k ≤ n ∧ i = .int .i64 k ∧ (∀ j, j < k → ¬ f j = x) ∧ Below (w.heap.size + 1) (w.alloc (.cells #[.int .i64 (xa : Int), .int .i64 x0, .int .i64 x1, .int .i64 x2, .int .i64 x3, .int .i64 x4, .int .i64 x5] 80)) wr) (fun i _ => n - (intOf i).toNat)
  case atStart => exact ⟨0, Nat.zero_le _, rfl, fun j hj => absurd hj (by omega), Below.refl _ _⟩
  case round =>
    obtain ⟨k, hk, rfl, hall, hbw⟩ := hrel
    have HA := Lib.hid hall
    have hB : Below w.heap.size w wr := ((Below.refl w.heap.size w).alloc (Nat.le_refl _) _).trans (hbw.mono (Nat.le_succ _))
    have HB := Lib.hid hB
    have HBW := Lib.hid hbw
    have b0 := hbw.cell (p := ⟨w.heap.size, 0, none⟩) (Nat.lt_succ_self _)
    have b1 := hbw.cell (p := ⟨w.heap.size, 1, none⟩) (Nat.lt_succ_self _)
    have b2 := hbw.cell (p := ⟨w.heap.size, 2, none⟩) (Nat.lt_succ_self _)
    have b3 := hbw.cell (p := ⟨w.heap.size, 3, none⟩) (Nat.lt_succ_self _)
    have b4 := hbw.cell (p := ⟨w.heap.size, 4, none⟩) (Nat.lt_succ_self _)
    have b5 := hbw.cell (p := ⟨w.heap.size, 5, none⟩) (Nat.lt_succ_self _)
    have b6 := hbw.cell (p := ⟨w.heap.size, 6, none⟩) (Nat.lt_succ_self _)
    simp at b0 b1 b2 b3 b4 b5 b6
    clear hall hbw
    by_cases hlt : k < n
    · obtain ⟨y0, y1, y2, y3, y4, y5, hy1, hy2, _⟩ := spN_seven (HF.out k hlt)
      have ce := fun i v hv => (hB.cell (p := ⟨g, 7 + k * 7 + i, none⟩) hg).trans (HC.out k i v hlt hv)
      rw [hy2] at ce
      have c0 : wr.cell? ⟨g, 7 + k * 7, none⟩ = some (.int .i64 ((f k).1 : Int)) := ce 0 _ rfl
      have c1 := ce 1 _ rfl
      have c2 := ce 2 _ rfl
      have c3 := ce 3 _ rfl
      have c4 := ce 4 _ rfl
      have c5 := ce 5 _ rfl
      have c6 := ce 6 _ rfl
      have i1 : (0 : Int) ≤ (k : Int) := by omega
      have i2 : (k : Int) < (n : Int) := by omega
      have he := fun w => eqSpot (xa : Int) x0 x1 x2 x3 x4 x5 ((f k).1 : Int) y0 y1 y2 y3 y4 y5 (by rw [← HX1.out]; exact HX.out.2) (by rw [← hy1]; exact (HF.out k hlt).2) w
      by_cases e : f k = x
      · have HE := Lib.hid e
        have ed : decide ([(xa : Int), x0, x1, x2, x3, x4, x5] = [((f k).1 : Int), y0, y1, y2, y3, y4, y5]) = true := by
          rw [← hy1, ← HX1.out, e]; simp
        rw [ed] at he
        generalize (f k).1 = ya at *
        clear ce hy1 hy2 ed e
        go_wp2_with fail
        go_quiet (fail)
        go_wp2_with fail
        go_ret
        have hfd : (List.range n).find? (fun i => decide (f i = x)) = some k := by
          rw [List.find?_range_eq_some]
          exact ⟨by simpa using HE.out, by simpa using hlt, fun j hj => by simpa using HA.out j hj⟩
        exact ⟨by rw [hfd]; rfl, HB.out.trans (below_drawn _ _)⟩
      · have HE := Lib.hid e
        have ed : decide ([(xa : Int), x0, x1, x2, x3, x4, x5] = [((f k).1 : Int), y0, y1, y2, y3, y4, y5]) = false := by
          rw [← hy1, ← HX1.out]
          exact decide_eq_false fun q => e (spN_inj (HL.out k hlt) q.symm)
        rw [ed] at he
        generalize (f k).1 = ya at *
        clear ce hy1 hy2 ed e
        go_wp2_with fail
        go_quiet (fail)
        go_wp2_with fail
        go_roundw
        case rel => exact ⟨k + 1, by omega, by go_num, fun j hj => by
          by_cases e : j = k
          · subst e; exact HE.out
          · exact HA.out j (by omega), HBW.out.trans (below_drawn _ _)⟩
        case measure => simp [intOf]; omega
    · obtain rfl : k = n := by omega
      go_wp2_with fail
      go_ret
      have hfd : (List.range k).find? (fun i => decide (f i = x)) = none := by
        rw [List.find?_eq_none]
        intro i hi
        simpa using HA.out i (List.mem_range.1 hi)
      exact ⟨by rw [hfd]; rfl, HB.out⟩

end Go.Proofs.Ytoaccnpkobbaaaa
