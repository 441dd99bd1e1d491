/- Contracts: the run behind some steps, in the program. -/
import Derived.Test.YtoaccnpkobbaaaaYRa
import Derived.Test.YtoaccnpkobbaaaaYCi
import Derived.Deep.RegionHeld3
import Derived.Deep.DeepCutAuto
namespace Go.Proofs.Ytoaccnpkobbaaaa
open Go.ChangeShapes Go.WideShapes Go.ChangeAt Go.RowKit
open Yd

set_option linter.unusedVariables false

set_option maxRecDepth 100000 in
set_option maxHeartbeats 1600000 in
theorem imSteps_no (x N : Int) (g c h d p q n m l : Nat) (ks rs ss : List Int) (hn : ks.length = n) (hm : rs.length = m) (hl : ss.length = l) (hb : n ≤ 2000000) (hb' : m ≤ 2000000) (hb2 : l ≤ 2000000) (hno : (rnB ks rs x ss && inB N 0 2000) = false) (w : World) (h1 : RL w g n ks) (h2 : RL w h m rs) (h3 : RL w p l ss) :
    Calls Try.prog 32 #[.agg #[.slice (some ⟨g, 0, none⟩) n c, .slice (some ⟨h, 0, none⟩) m d], .agg #[.int .i64 x, .slice (some ⟨p, 0, none⟩) l q], .int .i64 N] w (RzPost w) := by
  have R := Lib.hid (fun w' (hw : Below w.heap.size w w') => spotsOf_no x g c h d p q n m l N 2000 ks rs ss hn hm hl hb hb' hb2 w' (h1.keep hw) (h2.keep hw) (h3.keep hw) (by
    cases hr : rnB ks rs x ss
    · exact Or.inl rfl
    · rw [hr, Bool.true_and] at hno; exact Or.inr hno))
  clear hn hm hl h1 h2 h3 hno
  go_enter Try.func32, Try.ntmps32
  go_wp2_with fail
  refine (R.out _ (by go_grown)).mono ?_
  rintro e w1 ⟨rfl, k1⟩
  have hB : Below w.heap.size w w1 := ba (by go_grown) k1
  have hs1 := k1.size
  simp at hs1
  have c0 := cl_below (b := w.heap.size + 1 + 1) (o := 0) (v := .int .i64 0) (by simp [go_sem]) (by simp <;> omega) k1
  have c1 := cl_below (b := w.heap.size + 1 + 1) (o := 1) (v := .slice none 0 0) (by simp [go_sem]) (by simp <;> omega) k1
  have f0 := k1.frozen (p := ⟨w.heap.size + 1 + 1, 0, none⟩) (by simp <;> omega)
  have f1 := k1.frozen (p := ⟨w.heap.size + 1 + 1, 1, none⟩) (by simp <;> omega)
  simp [go_sem] at f0 f1
  clear k1
  go_wp2_with fail
  refine bodyPost_ret (by simp [results, Try.results32, go_sem, *]; try rfl) rfl ?_
  exact ⟨rfl, (hB.setCell (by simp <;> omega) _).setCell (by simp <;> omega) _⟩

set_option maxRecDepth 100000 in
set_option maxHeartbeats 3200000 in
theorem imSteps_yes (a N : Nat) (g c h d p u n m l : Nat) (ks rs ss : List Int) (hn : ks.length = n) (hm : rs.length = m) (hl : ss.length = l) (hg : YdOk ks rs) (ho : RnOk ks a ss) (hN : N ≤ 2000) (w : World) (h1 : RL w g n ks) (h2 : RL w h m rs) (h3 : RL w p l ss) :
    Calls Try.prog 32 #[.agg #[.slice (some ⟨g, 0, none⟩) n c, .slice (some ⟨h, 0, none⟩) m d], .agg #[.int .i64 (a:Nat), .slice (some ⟨p, 0, none⟩) l u], .int .i64 (N : Nat)] w (RbPost (orb ks rs a ss N).1 l (orb ks rs a ss N).2 w) := by
  have n6 : n ≤ 6 := by rw [← hn]; exact hg.n6
  have hln : l = n := by rw [← hl, ← hn]; exact ho.len
  have P := Lib.hid (fun w' (hw : Below w.heap.size w w') => spotsOf_yes a N g c h d p u n m l 2000 ks rs ss hn hm hl hg ho (by omega) (by decide) w' (h1.keep hw) (h2.keep hw) (h3.keep hw))
  have CE := Lib.hid (fun g' cap (w1 : World) (hO : w1.ownsRow w.heap.size 80 7 (.slice (some ⟨g', 0, none⟩) (N + 1) cap) (N + 1) (spsC (orL ks rs a ss (N + 1)))) i v hv => so_cell (j := N) (i := i) (v := v) hg ho hO (by omega) hv)
  obtain ⟨x0, x1, x2, x3, x4, x5, hx, hv⟩ := spC_six (x := orb ks rs a ss N) (orb_len6 hg ho N)
  have RU := Lib.hid (fun w' => runAt_any (orb ks rs a ss N).1 g c h d n m (orb ks rs a ss N).2 (by rw [(orb_run ho hg N).len]; exact hn) n6 w')
  rw [hv] at RU
  rw [hx] at CE
  subst hln
  have i1 : (0 : Int) ≤ (N : Int) := by omega
  have i2 : (N : Int) ≤ 2000 := by omega
  have i3 : (N : Int) < (N : Int) + 1 := by omega
  clear hn hm hl h1 h2 h3 hg ho hx hv
  go_enter Try.func32, Try.ntmps32
  go_wp2_with fail
  refine (P.out _ (by go_grown)).mono ?_
  rintro e w1 ⟨g', cap, rfl, hg', hO, k1⟩
  have hB0 : Below w.heap.size w w1 := ba (by go_grown) k1
  have hs1 := k1.size
  simp at hs1
  rw [orL_len] at hO ⊢
  have hcap := (own_cap hO).1
  have hO2 := own_lessS hO (by simp; omega : w.heap.size ≤ _)
  have ce := CE.out g' cap w1 hO2
  have d0 : w1.cell? ⟨g', N * 7, none⟩ = some (.int .i64 ((orb ks rs a ss N).1 : Int)) := ce 0 _ rfl
  have d1 := ce 1 _ rfl
  have d2 := ce 2 _ rfl
  have d3 := ce 3 _ rfl
  have d4 := ce 4 _ rfl
  have d5 := ce 5 _ rfl
  have d6 := ce 6 _ rfl
  have y0 := cl_below (b := w.heap.size) (o := 0) (v := .slice (some ⟨g, 0, none⟩) l c) (by simp [go_sem]) (by simp <;> omega) k1
  have y1 := cl_below (b := w.heap.size) (o := 1) (v := .slice (some ⟨h, 0, none⟩) m d) (by simp [go_sem]) (by simp <;> omega) k1
  have c0 := cl_below (b := w.heap.size + 1 + 1) (o := 0) (v := .int .i64 0) (by simp [go_sem]) (by simp <;> omega) k1
  have c1 := cl_below (b := w.heap.size + 1 + 1) (o := 1) (v := .slice none 0 0) (by simp [go_sem]) (by simp <;> omega) k1
  have f0 := k1.frozen (p := ⟨w.heap.size + 1 + 1, 0, none⟩) (by simp <;> omega)
  have f1 := k1.frozen (p := ⟨w.heap.size + 1 + 1, 1, none⟩) (by simp <;> omega)
  simp [go_sem] at f0 f1
  have z2 : w.heap.size + 1 + 1 < w1.heap.size := by omega
  clear k1 hO hO2 ce hg'
  go_wp2_with fail
  go_region_with (go_at_call 70; (with_reducible refine Calls.mono (RU.out _) ?_); rintro e wA ⟨g1, k1, rfl, hg1, r1, h1⟩; (try with_reducible replace h1 := undrew h1); have hBA : Below w1.heap.size w1 wA := (ba (by go_grown) h1); have hsA := hBA.size; (try simp at hg1); have b0 := (cl_below c0 z2 hBA); have b1 := (cl_below c1 z2 hBA); have e0 := ((hBA.frozen (p := ⟨w.heap.size + 1 + 1, 0, none⟩) z2).trans f0); have e1 := ((hBA.frozen (p := ⟨w.heap.size + 1 + 1, 1, none⟩) z2).trans f1); have R1 := Lib.hid r1; have HB := Lib.hid (hB0.trans (hBA.mono hB0.size)); clear r1 h1)
  all_goals
    go_wp2_with fail
    refine bodyPost_ret (by simp [results, Try.results32, go_sem, *]; try rfl) rfl ?_
    refine ⟨g1, k1, rfl, by omega, ?_, ?_⟩
    · refine RL.other (RL.other ?_ ?_ _) ?_ _
      · exact R1.out
      all_goals (simp <;> omega)
    · repeat (refine Below.setCell ?_ (by simp <;> omega) _)
      exact HB.out

/-- .. one step. -/
theorem imStep_no (x : Int) (g c h d p q n m l : Nat) (ks rs ss : List Int) (hn : ks.length = n) (hm : rs.length = m) (hl : ss.length = l) (hb : n ≤ 2000000) (hb' : m ≤ 2000000) (hb2 : l ≤ 2000000) (hno : rnB ks rs x ss = false) (w : World) (h1 : RL w g n ks) (h2 : RL w h m rs) (h3 : RL w p l ss) :
    Calls Try.prog 27 #[.agg #[.slice (some ⟨g, 0, none⟩) n c, .slice (some ⟨h, 0, none⟩) m d], .agg #[.int .i64 x, .slice (some ⟨p, 0, none⟩) l q]] w (RzPost w) := by
  have R := Lib.hid (fun w' (hw : Below w.heap.size w w') => imSteps_no x 1 g c h d p q n m l ks rs ss hn hm hl hb hb' hb2 (by rw [hno]; rfl) w' (h1.keep hw) (h2.keep hw) (h3.keep hw))
  clear hn hm hl h1 h2 h3 hno
  go_enter Try.func27, Try.ntmps27
  go_wp2_with fail
  refine (R.out _ (by go_grown)).mono ?_
  rintro e w1 ⟨rfl, k1⟩
  have hB : Below w.heap.size w w1 := ba (by go_grown) k1
  have hs1 := k1.size
  simp at hs1
  have c0 := cl_below (b := w.heap.size + 1 + 1) (o := 0) (v := .int .i64 0) (by simp [go_sem]) (by simp <;> omega) k1
  have c1 := cl_below (b := w.heap.size + 1 + 1) (o := 1) (v := .slice none 0 0) (by simp [go_sem]) (by simp <;> omega) k1
  have f0 := k1.frozen (p := ⟨w.heap.size + 1 + 1, 0, none⟩) (by simp <;> omega)
  have f1 := k1.frozen (p := ⟨w.heap.size + 1 + 1, 1, none⟩) (by simp <;> omega)
  simp [go_sem] at f0 f1
  clear k1
  go_wp2_with fail
  refine bodyPost_ret (by simp [results, Try.results27, go_sem, *]; try rfl) rfl ?_
  exact ⟨rfl, (hB.setCell (by simp <;> omega) _).setCell (by simp <;> omega) _⟩

theorem imStep_yes (a : Nat) (g c h d p u n m l : Nat) (ks rs ss : List Int) (hn : ks.length = n) (hm : rs.length = m) (hl : ss.length = l) (hg : YdOk ks rs) (ho : RnOk ks a ss) (w : World) (h1 : RL w g n ks) (h2 : RL w h m rs) (h3 : RL w p l ss) :
    Calls Try.prog 27 #[.agg #[.slice (some ⟨g, 0, none⟩) n c, .slice (some ⟨h, 0, none⟩) m d], .agg #[.int .i64 (a:Nat), .slice (some ⟨p, 0, none⟩) l u]] w (RbPost (stA rs a ss) l (stS ks a ss) w) := by
  have R := Lib.hid (fun w' (hw : Below w.heap.size w w') => imSteps_yes a 1 g c h d p u n m l ks rs ss hn hm hl hg ho (by decide) w' (h1.keep hw) (h2.keep hw) (h3.keep hw))
  rw [show (orb ks rs a ss 1).1 = stA rs a ss from rfl, show (orb ks rs a ss 1).2 = stS ks a ss from rfl] at R
  clear hn hm hl h1 h2 h3 hg ho
  go_enter Try.func27, Try.ntmps27
  go_wp2_with fail
  refine (R.out _ (by go_grown)).mono ?_
  rintro e w1 ⟨g1, cc, rfl, hg1, r1, k1⟩
  have hB : Below w.heap.size w w1 := ba (by go_grown) k1
  have hs1 := k1.size
  simp at hs1 hg1
  have c0 := cl_below (b := w.heap.size + 1 + 1) (o := 0) (v := .int .i64 0) (by simp [go_sem]) (by simp <;> omega) k1
  have c1 := cl_below (b := w.heap.size + 1 + 1) (o := 1) (v := .slice none 0 0) (by simp [go_sem]) (by simp <;> omega) k1
  have f0 := k1.frozen (p := ⟨w.heap.size + 1 + 1, 0, none⟩) (by simp <;> omega)
  have f1 := k1.frozen (p := ⟨w.heap.size + 1 + 1, 1, none⟩) (by simp <;> omega)
  simp [go_sem] at f0 f1
  have R1 := Lib.hid r1
  have HB := Lib.hid hB
  clear k1 r1 hB
  go_wp2_with fail
  refine bodyPost_ret (by simp [results, Try.results27, go_sem, *]; try rfl) rfl ?_
  exact ⟨g1, cc, rfl, by omega, (R1.out.other (by simp <;> omega) _).other (by simp <;> omega) _, (HB.out.setCell (by simp <;> omega) _).setCell (by simp <;> omega) _⟩

end Go.Proofs.Ytoaccnpkobbaaaa
