/- Contracts: how many runs there are. -/
import Derived.Test.YtoaccnpkobbaaaaYTop
namespace Go.Proofs.Ytoaccnpkobbaaaa
open Go.ChangeShapes Go.WideShapes Go.ChangeAt Go.RowKit
open Yd

set_option linter.unusedVariables false

def crN (ks rs : List Int) : Nat := if ydB ks rs = true then 3 * ks.length * 2 ^ ks.length else 0

theorem crN_no {ks rs : List Int} (h : ydB ks rs = false) : crN ks rs = 0 := by simp [crN, h]

theorem crN_yes {ks rs : List Int} (h : ydB ks rs = true) : crN ks rs = 3 * ks.length * 2 ^ ks.length := by simp [crN, h]

theorem six {n : Nat} (h1 : 1 ≤ n) (h2 : n ≤ 6) : n = 1 ∨ n = 2 ∨ n = 3 ∨ n = 4 ∨ n = 5 ∨ n = 6 := by omega

set_option maxRecDepth 100000 in
set_option maxHeartbeats 1600000 in
theorem spCountRuns (g c h d n m : Nat) (ks rs : List Int) (hn : ks.length = n) (hm : rs.length = m) (hb : n ≤ 2000000) (hb' : m ≤ 2000000) (w : World) (h1 : RL w g n ks) (h2 : RL w h m rs) :
    Calls Try.prog 44 #[.agg #[.slice (some ⟨g, 0, none⟩) n c, .slice (some ⟨h, 0, none⟩) m d]] w fun e w' => e = .returned (.tuple #[.int .i64 (crN ks rs : Nat), .bool (ydB ks rs)]) ∧ Below w.heap.size w w' := by
  have P := Lib.hid (fun w' (hw : Below w.heap.size w w') => ydGood_any g n c h m d ks rs hn hm hb hb' w' (h1.keep hw) (h2.keep hw))
  cases hy : ydB ks rs
  · have HY := Lib.hid hy
    clear hn hm h1 h2
    go_enter Try.func44, Try.ntmps44
    go_wp2_with fail
    refine (P.out _ (by go_grown)).mono ?_
    rintro e w1 ⟨rfl, k1⟩
    have hB : Below w.heap.size w w1 := ba (by go_grown) k1
    clear k1
    go_wp2_with fail
    go_ret2
    exact ⟨by rw [crN_no HY.out]; rfl, hB⟩
  · have hg := (good_iff ks rs).1 hy
    have hnr := hg.nr
    have hC := crN_yes hy
    have h6 := six (n := n) (by rw [← hn]; exact hg.n1) (by rw [← hn]; exact hg.n6)
    have HY := Lib.hid hy
    rw [hm, hn] at hnr
    rw [hn] at hC
    rw [hC]
    clear hn hm h1 h2 hg hC hy
    rcases h6 with rfl | rfl | rfl | rfl | rfl | rfl <;> obtain rfl : m = _ := hnr
    all_goals
      go_enter Try.func44, Try.ntmps44
      go_wp2_with fail
      refine (P.out _ (by go_grown)).mono ?_
      rintro e w1 ⟨rfl, k1⟩
      rw [HY.out]
      have hB : Below w.heap.size w w1 := ba (by go_grown) k1
      have hs := k1.size
      simp at hs
      have c0 := cl_below (b := w.heap.size) (o := 0) (v := .slice (some ⟨g, 0, none⟩) _ c) (by simp [go_sem]; rfl) (by simp <;> omega) k1
      have c1 := cl_below (b := w.heap.size) (o := 1) (v := .slice (some ⟨h, 0, none⟩) _ d) (by simp [go_sem]; rfl) (by simp <;> omega) k1
      clear k1
      go_wp2_with fail
      go_ret2
      exact ⟨rfl, hB⟩

set_option maxRecDepth 100000 in
set_option maxHeartbeats 1600000 in
theorem imCountRuns (g c h d n m : Nat) (ks rs : List Int) (hn : ks.length = n) (hm : rs.length = m) (hb : n ≤ 2000000) (hb' : m ≤ 2000000) (w : World) (h1 : RL w g n ks) (h2 : RL w h m rs) :
    Calls Try.prog 45 #[.agg #[.slice (some ⟨g, 0, none⟩) n c, .slice (some ⟨h, 0, none⟩) m d]] w fun e w' => e = .returned (.tuple #[.int .i64 (crN ks rs : Nat), .bool (ydB ks rs)]) ∧ Below w.heap.size w w' := by
  have P := Lib.hid (fun w' (hw : Below w.heap.size w w') => imIsYard_any g n c h m d ks rs hn hm hb hb' w' (h1.keep hw) (h2.keep hw))
  cases hy : ydB ks rs
  · have HY := Lib.hid hy
    clear hn hm h1 h2
    go_enter Try.func45, Try.ntmps45
    go_wp2_with fail
    refine (P.out _ (by go_grown)).mono ?_
    rintro e w1 ⟨rfl, k1⟩
    have hB : Below w.heap.size w w1 := ba (by go_grown) k1
    clear k1
    go_wp2_with fail
    go_ret2
    exact ⟨by rw [crN_no HY.out]; rfl, hB⟩
  · have hg := (good_iff ks rs).1 hy
    have hnr := hg.nr
    have hC := crN_yes hy
    have h6 := six (n := n) (by rw [← hn]; exact hg.n1) (by rw [← hn]; exact hg.n6)
    have HY := Lib.hid hy
    rw [hm, hn] at hnr
    rw [hn] at hC
    rw [hC]
    clear hn hm h1 h2 hg hC hy
    rcases h6 with rfl | rfl | rfl | rfl | rfl | rfl <;> obtain rfl : m = _ := hnr
    all_goals
      go_enter Try.func45, Try.ntmps45
      go_wp2_with fail
      refine (P.out _ (by go_grown)).mono ?_
      rintro e w1 ⟨rfl, k1⟩
      rw [HY.out]
      have hB : Below w.heap.size w w1 := ba (by go_grown) k1
      have hs := k1.size
      simp at hs
      have c0 := cl_below (b := w.heap.size) (o := 0) (v := .slice (some ⟨g, 0, none⟩) _ c) (by simp [go_sem]; rfl) (by simp <;> omega) k1
      have c1 := cl_below (b := w.heap.size) (o := 1) (v := .slice (some ⟨h, 0, none⟩) _ d) (by simp [go_sem]; rfl) (by simp <;> omega) k1
      clear k1
      go_wp2_with fail
      refine wp_loop_rounds 7 ?_
      repeat (rw [rounds_succ]; go_wp2_with fail)
      go_ret2
      exact ⟨rfl, hB⟩

theorem imCountUnmade (g c h d n m : Nat) (ks rs : List Int) (hn : ks.length = n) (hm : rs.length = m) (hb : n ≤ 2000000) (hb' : m ≤ 2000000) (w : World) (h1 : RL w g n ks) (h2 : RL w h m rs) :
    Calls Try.prog 52 #[.agg #[.slice (some ⟨g, 0, none⟩) n c, .slice (some ⟨h, 0, none⟩) m d]] w fun e w' => e = .returned (.tuple #[.int .i64 ((crN ks rs / 3 : Nat) : Int), .bool (ydB ks rs)]) ∧ Below w.heap.size w w' := by
  have P := Lib.hid (fun w' (hw : Below w.heap.size w w') => imCountRuns g c h d n m ks rs hn hm hb hb' w' (h1.keep hw) (h2.keep hw))
  have hle : (crN ks rs : Int) ≤ 1152 := by
    cases hy : ydB ks rs
    · rw [crN_no hy]; decide
    · rw [crN_yes hy]
      have hg := (good_iff ks rs).1 hy
      rcases six hg.n1 hg.n6 with e | e | e | e | e | e <;> rw [e] <;> decide
  have hge : (0 : Int) ≤ (crN ks rs : Int) := by omega
  have hd : ((crN ks rs / 3 : Nat) : Int) = (crN ks rs : Int) / 3 := by omega
  rw [hd]
  generalize crN ks rs = q at *
  clear hn hm h1 h2 hd
  go_enter Try.func52, Try.ntmps52
  go_wp2_with fail
  refine (P.out _ (by go_grown)).mono ?_
  rintro e w1 ⟨rfl, k1⟩
  have hB : Below w.heap.size w w1 := ba (by go_grown) k1
  clear k1
  go_wp2_with fail
  go_ret2
  exact ⟨rfl, hB⟩

end Go.Proofs.Ytoaccnpkobbaaaa
