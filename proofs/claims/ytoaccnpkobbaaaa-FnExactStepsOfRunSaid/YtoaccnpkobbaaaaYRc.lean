/- Contracts: the run behind some steps, in the model. -/
import Derived.Test.YtoaccnpkobbaaaaYSr
import Derived.Test.YtoaccnpkobbaaaaYVi
import Derived.Deep.RegionHeld3
import Derived.Deep.DeepCutAuto
namespace Go.Proofs.Ytoaccnpkobbaaaa
open Go.ChangeShapes Go.WideShapes Go.ChangeAt Go.RowKit
open Yd

set_option linter.unusedVariables false

theorem spSteps_no (x N : Int) (g c h d p q n m l : Nat) (ks rs ss : List Int) (hn : ks.length = n) (hm : rs.length = m) (hl : ss.length = l) (hb : n ≤ 2000000) (hb' : m ≤ 2000000) (hb2 : l ≤ 2000000) (hno : (rnB ks rs x ss && inB N 0 2000) = false) (w : World) (h1 : RL w g n ks) (h2 : RL w h m rs) (h3 : RL w p l ss) :
    Calls Try.prog 31 #[.agg #[.slice (some ⟨g, 0, none⟩) n c, .slice (some ⟨h, 0, none⟩) m d], .agg #[.int .i64 x, .slice (some ⟨p, 0, none⟩) l q], .int .i64 N] w (RzPost w) := by
  have R := Lib.hid (fun w' (hw : Below w.heap.size w w') => ydSteps_any x N g c h d p q n m l ks rs ss hn hm hl hb hb' hb2 w' (h1.keep hw) (h2.keep hw) (h3.keep hw))
  have HS := Lib.hid hno
  clear hn hm hl h1 h2 h3 hno
  go_enter Try.func31, Try.ntmps31
  go_wp2_with fail
  refine (R.out _ (by go_grown)).mono ?_
  rintro e w1 ⟨rfl, k1⟩
  rw [HS.out]
  have hB : Below w.heap.size w w1 := ba (by go_grown) k1
  have hs1 := k1.size
  simp at hs1
  have c0 := cl_below (b := w.heap.size + 1 + 1) (o := 0) (v := .int .i64 0) (by simp [go_sem]) (by simp <;> omega) k1
  have c1 := cl_below (b := w.heap.size + 1 + 1) (o := 1) (v := .slice none 0 0) (by simp [go_sem]) (by simp <;> omega) k1
  have f0 := k1.frozen (p := ⟨w.heap.size + 1 + 1, 0, none⟩) (by simp <;> omega)
  have f1 := k1.frozen (p := ⟨w.heap.size + 1 + 1, 1, none⟩) (by simp <;> omega)
  simp [go_sem] at f0 f1
  clear k1
  go_wp2_with fail
  refine bodyPost_ret (by simp [results, Try.results31, go_sem, *]; try rfl) rfl ?_
  exact ⟨rfl, (hB.setCell (by simp <;> omega) _).setCell (by simp <;> omega) _⟩

/-- The result's variable, at rest. -/
structure RvAt (wr : World) (b : Nat) : Prop where
  c0 : wr.cell? ⟨b, 0, none⟩ = some (.int .i64 0)
  c1 : wr.cell? ⟨b, 1, none⟩ = some (.slice none 0 0)
  f0 : wr.frozen? ⟨b, 0, none⟩ = false
  f1 : wr.frozen? ⟨b, 1, none⟩ = false
  lt : b < wr.heap.size

theorem RvAt.keep {wr w2 : World} {b : Nat} (r : RvAt wr b) (k : Below wr.heap.size wr w2) : RvAt w2 b :=
  ⟨cl_below r.c0 r.lt k, cl_below r.c1 r.lt k, (k.frozen (p := ⟨b, 0, none⟩) r.lt).trans r.f0, (k.frozen (p := ⟨b, 1, none⟩) r.lt).trans r.f1, Nat.lt_of_lt_of_le r.lt k.size⟩

theorem RvAt.other {wr : World} {b : Nat} (r : RvAt wr b) (j o : Nat) (v : Value) (h : j ≠ b) : RvAt (wr.setCell ⟨j, o, none⟩ v) b :=
  ⟨cl_set r.c0 _ _ h, cl_set r.c1 _ _ h, by simp [r.f0], by simp [r.f1], by simpa using r.lt⟩

theorem st_cell {wA : World} {b q1 l c1 : Nat} {u v0 : Value} (e1 : wA.cell? ⟨b, 1, none⟩ = some u) (q c' : Nat) (h : ((wA.setCell ⟨b, 0, none⟩ v0).setCell ⟨b, 1, none⟩ (.slice (some ⟨q1, 0, none⟩) l c1)).cell? ⟨b, 1, none⟩ = some (.slice (some ⟨q, 0, none⟩) l c')) : q = q1 := by
  rw [World.cell?_setCell_same (h := (World.cell?_setCell_other (w := wA) (a := ⟨b, 0, none⟩) (b := ⟨b, 1, none⟩) _ (by simp)).trans e1)] at h
  injection h with h
  injection h with h
  injection h with h
  injection h with h
  exact h.symm

set_option maxRecDepth 100000 in
set_option maxHeartbeats 3200000 in
theorem spSteps_yes (a N : Nat) (g c h d p u n m l : Nat) (ks rs ss : List Int) (hn : ks.length = n) (hm : rs.length = m) (hl : ss.length = l) (hg : YdOk ks rs) (ho : RnOk ks a ss) (hN : N ≤ 2000) (w : World) (h1 : RL w g n ks) (h2 : RL w h m rs) (h3 : RL w p l ss) :
    Calls Try.prog 31 #[.agg #[.slice (some ⟨g, 0, none⟩) n c, .slice (some ⟨h, 0, none⟩) m d], .agg #[.int .i64 (a:Nat), .slice (some ⟨p, 0, none⟩) l u], .int .i64 (N : Nat)] w (RbPost (orb ks rs a ss N).1 l (orb ks rs a ss N).2 w) := by
  have n6 : n ≤ 6 := by rw [← hn]; exact hg.n6
  have hl6 : l ≤ 6 := by rw [← hl, ho.len]; exact hg.n6
  have hnr := hg.nr
  have R := Lib.hid (fun w' (hw : Below w.heap.size w w') => ydSteps_any (a : Nat) (N : Nat) g c h d p u n m l ks rs ss hn hm hl (by omega) (by omega) (by omega) w' (h1.keep hw) (h2.keep hw) (h3.keep hw))
  have HR := Lib.hid (show (rnB ks rs (a : Nat) ss && inB (N : Nat) 0 2000) = true by
    rw [(run_iff ks rs _ ss).2 ⟨hg, a, rfl, ho⟩]; simp [inB]; omega)
  have OR := Lib.hid (orb_run ho hg)
  have ST := Lib.hid (fun (k q c' : Nat) w' (hw : Below w.heap.size w w') (hq : RL w' q l (orb ks rs a ss k).2) => ydStep_any (orb ks rs a ss k).1 g c h d q c' n m l ks rs (orb ks rs a ss k).2 hn hm (by rw [(OR.out k).len, ← ho.len]; exact hl) hg (OR.out k) w' (h1.keep hw) (h2.keep hw) hq)
  have O := Lib.hid (fun w' (hw : Below w.heap.size w w') => l1Own_any p l u ss hl (by omega) w' (h3.keep hw))
  have hp := h3.lt
  have H3 := Lib.hid (fun w' (hw : Below w.heap.size w w') => h3.keep hw)
  have i1 : (0 : Int) ≤ (N : Int) := by omega
  have i2 : (N : Int) ≤ 2000 := by omega
  clear hn hm hl h1 h2 h3 hg ho hnr
  go_enter Try.func31, Try.ntmps31
  go_wp2_with fail
  refine (R.out _ (by go_grown)).mono ?_
  rintro e w1 ⟨rfl, k1⟩
  rw [HR.out]
  have B1 : Below w.heap.size w w1 := ba (by go_grown) k1
  have hs1 := k1.size
  simp at hs1
  have z0 : w.heap.size < w1.heap.size := by omega
  have z1 : w.heap.size + 1 < w1.heap.size := by omega
  have z2 : w.heap.size + 1 + 1 < w1.heap.size := by omega
  have y0 := cl_below (b := w.heap.size) (o := 0) (v := .slice (some ⟨g, 0, none⟩) n c) (by simp [go_sem]) (by simp <;> omega) k1
  have y1 := cl_below (b := w.heap.size) (o := 1) (v := .slice (some ⟨h, 0, none⟩) m d) (by simp [go_sem]) (by simp <;> omega) k1
  have q0 := cl_below (b := w.heap.size + 1) (o := 0) (v := .int .i64 (a : Nat)) (by simp [go_sem]) (by simp <;> omega) k1
  have q1 := cl_below (b := w.heap.size + 1) (o := 1) (v := .slice (some ⟨p, 0, none⟩) l u) (by simp [go_sem]) (by simp <;> omega) k1
  have f0 := k1.frozen (p := ⟨w.heap.size + 1, 0, none⟩) (by simp <;> omega)
  have f1 := k1.frozen (p := ⟨w.heap.size + 1, 1, none⟩) (by simp <;> omega)
  have v0 := cl_below (b := w.heap.size + 1 + 1) (o := 0) (v := .int .i64 0) (by simp [go_sem]) (by simp <;> omega) k1
  have v1 := cl_below (b := w.heap.size + 1 + 1) (o := 1) (v := .slice none 0 0) (by simp [go_sem]) (by simp <;> omega) k1
  have g0 := k1.frozen (p := ⟨w.heap.size + 1 + 1, 0, none⟩) (by simp <;> omega)
  have g1 := k1.frozen (p := ⟨w.heap.size + 1 + 1, 1, none⟩) (by simp <;> omega)
  simp [go_sem] at f0 f1 g0 g1
  have RV := Lib.hid (show RvAt w1 (w.heap.size + 1 + 1) from ⟨v0, v1, g0, g1, z2⟩)
  clear k1 v0 v1 g0 g1
  go_upto_region 1 with fail
  go_cut [] (fun wx => RnAt w wx (w.heap.size + 1) g c h d n m l (a, ss) ∧ RvAt wx (w.heap.size + 1 + 1) ∧ (∀ q c', wx.cell? ⟨w.heap.size + 1, 1, none⟩ = some (.slice (some ⟨q, 0, none⟩) l c') → w1.heap.size ≤ q))
  case first =>
    go_region_with (go_at_call 68; (with_reducible refine Calls.mono (O.out _ ?_) ?_); (focus (exact B1.trans (Below.mono (by go_grown) B1.size))); rintro e wA ⟨gA, kA, rfl, hgA, r1, h1⟩; (try with_reducible replace h1 := undrew h1); have hBA : Below w1.heap.size w1 wA := (ba (by go_grown) h1); have hsA := hBA.size; (try simp at hgA); have b0 := (cl_below q0 z1 hBA); have b1 := (cl_below q1 z1 hBA); have e0 := ((hBA.frozen (p := ⟨w.heap.size + 1, 0, none⟩) z1).trans f0); have e1 := ((hBA.frozen (p := ⟨w.heap.size + 1, 1, none⟩) z1).trans f1); have x0 := (cl_below y0 z0 hBA); have x1 := (cl_below y1 z0 hBA); have R1 := Lib.hid r1; have V1 := Lib.hid (RV.out.keep hBA); have HB := Lib.hid (B1.trans (hBA.mono B1.size)); clear r1 h1)
    all_goals
      have RA := Lib.hid (show RnAt w wA (w.heap.size + 1) g c h d n m l (a, ss) from ⟨x0, x1, b0, e0, e1, ⟨_, _, b1, H3.out wA HB.out, by omega⟩, by omega, by omega, HB.out⟩)
      go_wp2_with fail
      go_meet
      exact ⟨RA.out.store a gA kA ss R1.out (by omega), (V1.out.other _ _ _ (by omega)).other _ _ _ (by omega), fun q c' hc => by have := st_cell b1 q c' hc; omega⟩
  case rest =>
    obtain ⟨hR0, hV0, hD0⟩ := hcut
    have D0 := Lib.hid hD0
    have R0 := Lib.hid hR0
    have V0 := Lib.hid hV0
    clear hR0 hV0 hD0 y0 y1 q0 q1 f0 f1
    go_wp2_with fail
    go_loopw [2] (fun i wr => ∃ k : Nat, k ≤ N ∧ i = .int .i64 ((N : Int) - (k : Int)) ∧ RnAt w wr (w.heap.size + 1) g c h d n m l (orb ks rs a ss k) ∧ RvAt wr (w.heap.size + 1 + 1) ∧ (∀ q c', wr.cell? ⟨w.heap.size + 1, 1, none⟩ = some (.slice (some ⟨q, 0, none⟩) l c') → w1.heap.size ≤ q)) (fun i _ => (intOf i).toNat)
    case atStart => exact ⟨0, Nat.zero_le _, by simp, R0.out, V0.out, D0.out⟩
    case round =>
      obtain ⟨k, hk, rfl, hR, hV, hD⟩ := hrel
      have HRN := Lib.hid hR
      have HV := Lib.hid hV
      obtain ⟨q, c', hq1, hq2, hq3⟩ := hR.row
      have hqw := hD q c' hq1
      have hqlt := hq2.lt
      clear hD
      have y0 := hR.y0
      have y1 := hR.y1
      have r0 := hR.r0
      have hlt1 := hR.lt
      have hB := hR.below
      by_cases hlt : k < N
      · have j1 : (N : Int) - (k : Int) > 0 := by omega
        have j2 : (0 : Int) ≤ (N : Int) - (k : Int) := by omega
        have hwp : IntKind.i64.wrap ((N : Int) - (k : Int) - 1) = (N : Int) - (k : Int) - 1 := by rw [IntKind.wrap_i64]; omega
        have STK := Lib.hid (ST.out k q c' wr hB hq2)
        have HBR := Lib.hid hB
        clear hR hV hq2 hB
        go_wp2_with fail
        refine STK.out.mono ?_
        rintro e wA ⟨q1, c1', rfl, hq1', r1, k1⟩
        have hsA := k1.size
        have QA := HRN.out.keep k1
        have HA := Lib.hid (QA.store (stA rs (orb ks rs a ss k).1 (orb ks rs a ss k).2) q1 c1' (stS ks (orb ks rs a ss k).1 (orb ks rs a ss k).2) r1 (by omega))
        have VA := Lib.hid (((HV.out.keep k1).other (w.heap.size + 1) 0 (.int .i64 ((stA rs (orb ks rs a ss k).1 (orb ks rs a ss k).2 : Nat) : Int)) (by omega)).other (w.heap.size + 1) 1 (.slice (some ⟨q1, 0, none⟩) l c1') (by omega))
        have e0' := QA.r0
        have f0' := QA.f0
        have f1' := QA.f1
        obtain ⟨qq', cc, e1, _, _⟩ := QA.row
        have zz := QA.lt
        have DA := Lib.hid (fun q2 c2 hc => show w1.heap.size ≤ q2 by have := st_cell (v0 := .int .i64 ((stA rs (orb ks rs a ss k).1 (orb ks rs a ss k).2 : Nat) : Int)) (q1 := q1) (l := l) (c1 := c1') e1 q2 c2 hc; omega)
        have HOR := Lib.hid (show orb ks rs a ss (k + 1) = ((stA rs (orb ks rs a ss k).1 (orb ks rs a ss k).2), stS ks (orb ks rs a ss k).1 (orb ks rs a ss k).2) from rfl)
        clear k1 r1 QA y0 y1 r0 hq1 hq3
        go_wp2_with fail
        go_roundw
        case rel => exact ⟨k + 1, by omega, by congr 1; omega, by rw [HOR.out]; exact HA.out, VA.out, DA.out⟩
        case measure => simp [intOf]; omega
      · obtain rfl : k = N := by omega
        have j1 : ¬ (k : Int) - (k : Int) > 0 := by omega
        have v0 := hV.c0
        have v1 := hV.c1
        have g0 := hV.f0
        have g1 := hV.f1
        have hvl := hV.lt
        have HQ := Lib.hid hq2
        have HBE := Lib.hid hB
        clear hR hV hq2 hB
        go_wp2_with fail
        refine bodyPost_ret (by simp [results, Try.results31, go_sem, *]; try rfl) rfl ?_
        exact ⟨q, c', rfl, by omega, (HQ.out.other (by simp <;> omega) _).other (by simp <;> omega) _, (HBE.out.setCell (by simp <;> omega) _).setCell (by simp <;> omega) _⟩

end Go.Proofs.Ytoaccnpkobbaaaa
