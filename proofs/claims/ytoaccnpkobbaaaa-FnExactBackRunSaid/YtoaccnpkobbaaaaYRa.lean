/- Contract: a run read off a spot, in the program. -/
import Derived.Test.YtoaccnpkobbaaaaYSr
import Derived.Test.YtoaccnpkobbaaaaYSq
import Derived.Deep.RegionHeld3
import Derived.Deep.DeepCutAuto
namespace Go.Proofs.Ytoaccnpkobbaaaa
open Go.ChangeShapes Go.WideShapes Go.ChangeAt Go.RowKit
open Yd

set_option linter.unusedVariables false

set_option maxRecDepth 100000 in
set_option maxHeartbeats 3200000 in
theorem runAt_any (a : Nat) (g c h d n m : Nat) (ss : List Int) (hl : ss.length = n) (hl6 : n ≤ 6) (w : World) :
    Calls Try.prog 70 #[.agg #[.slice (some ⟨g, 0, none⟩) n c, .slice (some ⟨h, 0, none⟩) m d], spV a ss] w (RnPost a n ss w) := by
  have hsz : (Try.prog.info? 3).map (·.size) = some 1 := by kernel_rfl
  obtain ⟨x0, x1, x2, x3, x4, x5, hx⟩ := six_of (pad6_len (ss := ss) (by omega))
  rw [spV, hx, show ((Value.int .i64 (a : Int) :: [x0, x1, x2, x3, x4, x5].map (Value.int .i64)).toArray : Array Value) = #[.int .i64 (a : Int), .int .i64 x0, .int .i64 x1, .int .i64 x2, .int .i64 x3, .int .i64 x4, .int .i64 x5] from rfl]
  have i1 : (0 : Int) ≤ (n : Int) := by omega
  have i2 : (n : Int) ≤ 6 := by omega
  have i3 : (n : Int) ≤ 7 - 1 := by omega
  have GX := Lib.hid (fun (j : Nat) x (hj : ss[j]? = some x) => show [x0, x1, x2, x3, x4, x5][j]? = some x by rw [← hx]; exact pad6_get hj)
  clear hx
  go_enter Try.func70, Try.ntmps70
  go_upto_region 1 with fail
  generalize hW : ((w.alloc (.cells #[.slice (some ⟨g, 0, none⟩) n c, .slice (some ⟨h, 0, none⟩) m d] 27)).alloc (.cells #[.int .i64 (a : Int), .int .i64 x0, .int .i64 x1, .int .i64 x2, .int .i64 x3, .int .i64 x4, .int .i64 x5] 80)).alloc (.cells #[.int .i64 0, .slice none 0 0] 36) = W0
  have hs0 : W0.heap.size = w.heap.size + 1 + 1 + 1 := by rw [← hW]; simp
  have c0 : W0.cell? ⟨w.heap.size, 0, none⟩ = some (.slice (some ⟨g, 0, none⟩) n c) := by rw [← hW]; simp [go_sem]
  have c1 : W0.cell? ⟨w.heap.size + 1, 0, none⟩ = some (.int .i64 (a : Int)) := by rw [← hW]; simp [go_sem]
  have s1 : ∀ (j : Nat) x, ss[j]? = some x → W0.cell? ⟨w.heap.size + 1, 1 + j, none⟩ = some (.int .i64 x) := fun j x hj => by
    have := GX.out j x hj
    rw [← hW]
    match j, this with
    | 0, e => simp at e; simp [go_sem, e]
    | 1, e => simp at e; simp [go_sem, e]
    | 2, e => simp at e; simp [go_sem, e]
    | 3, e => simp at e; simp [go_sem, e]
    | 4, e => simp at e; simp [go_sem, e]
    | 5, e => simp at e; simp [go_sem, e]
    | k + 6, e => simp at e
  have c2 : W0.cell? ⟨w.heap.size + 1 + 1, 0, none⟩ = some (.int .i64 0) := by rw [← hW]; simp [go_sem]
  have c3 : W0.cell? ⟨w.heap.size + 1 + 1, 1, none⟩ = some (.slice none 0 0) := by rw [← hW]; simp [go_sem]
  have f0 : W0.frozen? ⟨w.heap.size + 1 + 1, 0, none⟩ = false := by rw [← hW]; simp [go_sem]
  have f1 : W0.frozen? ⟨w.heap.size + 1 + 1, 1, none⟩ = false := by rw [← hW]; simp [go_sem]
  have hB0 : Below w.heap.size w W0 := by rw [← hW]; go_grown
  clear hW
  have z0 : w.heap.size < W0.heap.size := by omega
  have z1 : w.heap.size + 1 < W0.heap.size := by omega
  have z2 : w.heap.size + 1 + 1 < W0.heap.size := by omega
  have CL := Lib.hid (fun q w' (hw : Below W0.heap.size W0 w') => clone_any (w.heap.size + 1) 1 n q ss hl (by omega) w' (by have := hw.size; omega) (fun j x hj => cl_below (s1 j x hj) z1 hw))
  go_region_with (go_at_call 76; (with_reducible refine Calls.mono (CL.out _ _ ?_) ?_); (focus (go_grown; done)); rintro e wA ⟨g1, k1, rfl, hg1, r1, h1⟩; (try with_reducible replace h1 := undrew h1); have hBA : Below W0.heap.size W0 wA := (ba (by go_grown) h1); have hsA := hBA.size; (try simp at hg1); have d0 := (cl_below c0 z0 hBA); have d1 := (cl_below c1 z1 hBA); have d2 := (cl_below c2 z2 hBA); have d3 := (cl_below c3 z2 hBA); have e0 := ((hBA.frozen (p := ⟨w.heap.size + 1 + 1, 0, none⟩) z2).trans f0); have e1 := ((hBA.frozen (p := ⟨w.heap.size + 1 + 1, 1, none⟩) z2).trans f1); have R1 := Lib.hid r1; have HB := Lib.hid (hB0.trans (hBA.mono hB0.size)); clear r1 h1)
  all_goals
    go_wp2_with fail
    refine bodyPost_ret (by simp [results, Try.results70, go_sem, *]; try rfl) rfl ?_
    refine ⟨g1, k1, rfl, by omega, ?_, ?_⟩
    · refine RL.other (RL.other ?_ ?_ _) ?_ _
      · exact R1.out
      all_goals (simp <;> omega)
    · repeat (refine Below.setCell ?_ (by simp <;> omega) _)
      exact HB.out

end Go.Proofs.Ytoaccnpkobbaaaa
