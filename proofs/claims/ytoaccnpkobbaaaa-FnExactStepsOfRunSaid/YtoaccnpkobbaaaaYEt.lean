/- Contract: the ends that a train passes, in the model, where there are any. -/
import Derived.Test.YtoaccnpkobbaaaaYEs
namespace Go.Proofs.Ytoaccnpkobbaaaa
open Go.ChangeShapes Go.WideShapes Go.ChangeAt Go.RowKit
open Yd

set_option linter.unusedVariables false

def LsPost (nN : Nat) (xs : List Int) (bb : Bool) (w' : World) (e : Ending) (w'' : World) : Prop :=
  ∃ g c, e = .returned (.tuple #[.slice (some ⟨g, 0, none⟩) nN c, .bool bb]) ∧ w'.heap.size ≤ g ∧ RL w'' g nN xs ∧ Below w'.heap.size w' w''

set_option maxRecDepth 100000 in
set_option maxHeartbeats 3200000 in
theorem spEnds_yes (a N : Nat) (g c h d p u n m l : Nat) (ks rs ss : List Int) (hn : ks.length = n) (hm : rs.length = m) (hl : ss.length = l) (hg : YdOk ks rs) (ho : RnOk ks a ss) (hN : N ≤ 200) (w : World) (h1 : RL w g n ks) (h2 : RL w h m rs) (h3 : RL w p l ss) :
    Calls Try.prog 33 #[.agg #[.slice (some ⟨g, 0, none⟩) n c, .slice (some ⟨h, 0, none⟩) m d], .agg #[.int .i64 (a:Nat), .slice (some ⟨p, 0, none⟩) l u], .int .i64 (N : Nat)] w (LsPost (N + 1) (enL ks rs a ss (N + 1)) true w) := by
  obtain ⟨i0, hi, iz0, iz1, iz2⟩ := info_of numInfo
  have n6 := hg.n6
  have hl6 : l ≤ 6 := by rw [← hl, ho.len]; exact n6
  have hnr := hg.nr
  have R := Lib.hid (fun w' (hw : Below w.heap.size w w') => ydSteps_any (a : Nat) (N : Nat) g c h d p u n m l ks rs ss hn hm hl (by omega) (by omega) (by omega) w' (h1.keep hw) (h2.keep hw) (h3.keep hw))
  have HR := Lib.hid (show (rnB ks rs (a : Nat) ss && inB (N : Nat) 0 2000) = true by
    rw [(run_iff ks rs _ ss).2 ⟨hg, a, rfl, ho⟩]; simp [inB]; omega)
  have OR := Lib.hid (orb_run ho hg)
  have ST := Lib.hid (fun (k q c' : Nat) w' (hw : Below w.heap.size w w') (hq : RL w' q l (orb ks rs a ss k).2) => ydStep_any (orb ks rs a ss k).1 g c h d q c' n m l ks rs (orb ks rs a ss k).2 hn hm (by rw [(OR.out k).len, ← ho.len]; exact hl) hg (OR.out k) w' (h1.keep hw) (h2.keep hw) hq)
  have H3 := Lib.hid (fun w' (hw : Below w.heap.size w w') => h3.keep hw)
  have hp := h3.lt
  have EL := Lib.hid (fun n => enL_succM ks rs a ss n)
  have ELn := Lib.hid (enL_len ks rs a ss (N + 1))
  have i1 : (0 : Int) ≤ (N : Int) := by omega
  have i2 : (N : Int) ≤ 200 := by omega
  have i3 : ¬ (N : Int) > 200 := by omega
  clear hn hm hl h1 h2 h3 hg ho n6 hnr
  go_enter Try.func33, Try.ntmps33
  go_wp2_with fail
  refine (R.out _ (by go_grown)).mono ?_
  rintro e w1 ⟨rfl, k1⟩
  rw [HR.out]
  have B1 : Below w.heap.size w w1 := ba (by go_grown) k1
  have hs1 := k1.size
  simp at hs1
  have c0 := cl_below (b := w.heap.size) (o := 0) (v := .slice (some ⟨g, 0, none⟩) n c) (by simp [go_sem]) (by simp <;> omega) k1
  have c1 := cl_below (b := w.heap.size) (o := 1) (v := .slice (some ⟨h, 0, none⟩) m d) (by simp [go_sem]) (by simp <;> omega) k1
  have c2 := cl_below (b := w.heap.size + 1) (o := 0) (v := .int .i64 (a : Nat)) (by simp [go_sem]) (by simp <;> omega) k1
  have c3 := cl_below (b := w.heap.size + 1) (o := 1) (v := .slice (some ⟨p, 0, none⟩) l u) (by simp [go_sem]) (by simp <;> omega) k1
  have f2 := k1.frozen (p := ⟨w.heap.size + 1, 0, none⟩) (by simp <;> omega)
  have f3 := k1.frozen (p := ⟨w.heap.size + 1, 1, none⟩) (by simp <;> omega)
  simp [go_sem] at f2 f3
  have RA := Lib.hid (show RnAt w w1 (w.heap.size + 1) g c h d n m l (a, ss) from ⟨c0, c1, c2, f2, f3, ⟨p, u, c3, H3.out w1 B1, by omega⟩, by omega, by omega, B1⟩)
  have OW := Lib.hid (show (w1.alloc (.cells #[.int .i64 (a : Nat)] 3)).ownsRow w1.heap.size 3 1 (.slice (some ⟨w1.heap.size, 0, none⟩) 1 1) (0 + 1) ((enL ks rs a ss (0 + 1)).map (Value.int .i64)) from
    ⟨rfl, Or.inr ⟨w1.heap.size, 1, _, rfl, Nat.le_refl _, heap_alloc_new w1 _, Nat.le_refl _, by decide, rfl, rfl⟩⟩)
  have BW := Lib.hid ((Below.refl w1.heap.size w1).alloc (Nat.le_refl _) (.cells #[.int .i64 (a : Nat)] 3))
  have z1 : w.heap.size + 1 < w1.heap.size := by omega
  clear k1 f2 f3
  go_wp2_with fail
  go_loopw [2, 8] (fun i t wr => ∃ (k : Nat) (v : Value), k ≤ N ∧ i = .int .i64 ((N : Int) - (k : Int)) ∧ v = t ∧ wr.ownsRow w1.heap.size 3 1 v (k + 1) ((enL ks rs a ss (k + 1)).map (Value.int .i64)) ∧ RnAt w wr (w.heap.size + 1) g c h d n m l (orb ks rs a ss k) ∧ (∀ j q c', v.ownBlock = some j → wr.cell? ⟨w.heap.size + 1, 1, none⟩ = some (.slice (some ⟨q, 0, none⟩) l c') → q ≠ j) ∧ w1.heap.size ≤ wr.heap.size) (fun i _ _ => (intOf i).toNat)
  case atStart =>
    refine ⟨0, _, Nat.zero_le _, by simp, rfl, OW.out, RA.out.keep BW.out, fun j q c' hj hc => ?_, by simp⟩
    obtain ⟨q', c'', e1, e2, _⟩ := RA.out.row
    have e3 := (cl_below e1 (by omega) BW.out).symm.trans hc
    injection e3 with e3
    injection e3 with e3
    injection e3 with e3
    injection e3 with e3
    injection hj with hj
    have := e2.lt
    simp at hj
    omega
  case round =>
    obtain ⟨k, v, hk, rfl, rfl, hO, hR, hD, hsz⟩ := hrel
    have HO := Lib.hid hO
    have HRN := Lib.hid hR
    have HD := Lib.hid hD
    by_cases hlt : k < N
    · have j1 : (N : Int) - (k : Int) > 0 := by omega
      have j2 : (0 : Int) ≤ (N : Int) - (k : Int) := by omega
      obtain ⟨q, c', hq1, hq2, hq3⟩ := hR.row
      have y0 := hR.y0
      have y1 := hR.y1
      have r0 := hR.r0
      have hlt1 := hR.lt
      have hB := hR.below
      clear hO hR hD
      go_wp2_with fail
      refine (ST.out k q c' wr hB hq2).mono ?_
      rintro e wA ⟨q1, c1', rfl, hq1', r1, k1⟩
      have hsA := k1.size
      have QA := HRN.out.keep k1
      have HA := Lib.hid (QA.store (stA rs (orb ks rs a ss k).1 (orb ks rs a ss k).2) q1 c1' (stS ks (orb ks rs a ss k).1 (orb ks rs a ss k).2) r1 (by omega))
      have e0 := QA.r0
      have f0 := QA.f0
      have f1 := QA.f1
      obtain ⟨qq, cc, e1, _, _⟩ := QA.row
      have zz := QA.lt
      have hj := HO.out.lt
      have hq1 := r1.lt
      have HOS := Lib.hid ((ownsRow_setCell_below (ownsRow_setCell_below (own_belowS HO.out k1) (a := ⟨w.heap.size + 1, 0, none⟩) z1 (.int .i64 (((stA rs (orb ks rs a ss k).1 (orb ks rs a ss k).2) : Nat) : Int))) (a := ⟨w.heap.size + 1, 1, none⟩) z1 (.slice (some ⟨q1, 0, none⟩) l c1')).alloc (.cells #[.int .i64 (((stA rs (orb ks rs a ss k).1 (orb ks rs a ss k).2) : Nat) : Int)] 3))
      have CS := Lib.hid (show ((wA.setCell ⟨w.heap.size + 1, 0, none⟩ (.int .i64 (((stA rs (orb ks rs a ss k).1 (orb ks rs a ss k).2) : Nat) : Int))).setCell ⟨w.heap.size + 1, 1, none⟩ (.slice (some ⟨q1, 0, none⟩) l c1')).cell? ⟨w.heap.size + 1, 1, none⟩ = some (.slice (some ⟨q1, 0, none⟩) l c1') by
        rw [World.cell?_setCell_same (h := (World.cell?_setCell_other (w := wA) (a := ⟨w.heap.size + 1, 0, none⟩) (b := ⟨w.heap.size + 1, 1, none⟩) _ (by simp)).trans e1)])
      have hnw := cell_one_new ((wA.setCell ⟨w.heap.size + 1, 0, none⟩ (.int .i64 (((stA rs (orb ks rs a ss k).1 (orb ks rs a ss k).2) : Nat) : Int))).setCell ⟨w.heap.size + 1, 1, none⟩ (.slice (some ⟨q1, 0, none⟩) l c1')) (.int .i64 (((stA rs (orb ks rs a ss k).1 (orb ks rs a ss k).2) : Nat) : Int)) 3
      rw [World.size_setCell, World.size_setCell] at hnw
      have NW := Lib.hid hnw
      clear hnw
      have EK := Lib.hid (EL.out (k + 1))
      have hor : orb ks rs a ss (k + 1) = ((stA rs (orb ks rs a ss k).1 (orb ks rs a ss k).2), stS ks (orb ks rs a ss k).1 (orb ks rs a ss k).2) := rfl
      have HOR := Lib.hid hor
      rw [hor] at EK
      have hwp : IntKind.i64.wrap ((N : Int) - (k : Int) - 1) = (N : Int) - (k : Int) - 1 := by rw [IntKind.wrap_i64]; omega
      clear k1 r1 QA y0 y1 r0 hor hq3 hq2 hB
      go_wp2_with (at_builtin; refine wpList_append_own_at _ rfl _ _ 22 rfl w1.heap.size 3 i0 (.int .i64 0) 1 8 Try.underlying22 hi iz0 iz1 iz2 rfl (by decide) v _ _ rfl HOS.out ⟨wA.heap.size, 0, none⟩ 1 1 [.int .i64 (((stA rs (orb ks rs a ss k).1 (orb ks rs a ss k).2) : Nat) : Int)] rfl rfl NW.out (by intro u hu; simp at hu; subst hu; rfl) (by unfold maxLen; omega) (by omega) (by simp; omega) ?_; intro v' w4 hown' hgrow hnil hloc)
      have RN := Lib.hid ((HA.out.keep ((Below.refl _ _).alloc (Nat.le_refl _) (.cells #[.int .i64 (((stA rs (orb ks rs a ss k).1 (orb ks rs a ss k).2) : Nat) : Int)] 3))).grown hgrow (fun j hjv => ⟨by have := (hj j hjv).1; omega, fun q2 c2 hc2 => by
        have hc3 := (cl_alloc CS.out (.cells #[.int .i64 (((stA rs (orb ks rs a ss k).1 (orb ks rs a ss k).2) : Nat) : Int)] 3)).symm.trans hc2
        injection hc3 with hc3
        injection hc3 with hc3
        injection hc3 with hc3
        injection hc3 with hc3
        have := (hj j hjv).2
        omega⟩))
      have DD := Lib.hid (show ∀ j q2 c2, v'.ownBlock = some j → w4.cell? ⟨w.heap.size + 1, 1, none⟩ = some (.slice (some ⟨q2, 0, none⟩) l c2) → q2 ≠ j from fun j q2 c2 hjv hc2 => by
        have hc3 := (hgrow.cell (cl_alloc CS.out (.cells #[.int .i64 (((stA rs (orb ks rs a ss k).1 (orb ks rs a ss k).2) : Nat) : Int)] 3)) (fun e => by have := (hj _ e.symm).1; simp at this; omega)).symm.trans hc2
        injection hc3 with hc3
        injection hc3 with hc3
        injection hc3 with hc3
        injection hc3 with hc3
        rcases hloc with hloc | hloc
        · rw [hloc] at hjv
          have := (hj j hjv).2
          omega
        · rw [hloc] at hjv
          injection hjv with hjv
          simp at hjv
          omega)
      have HW := Lib.hid hown'
      have hs4 := hgrow.size
      simp at hs4
      clear hown' hgrow hnil hloc e0 f0 f1 e1 hj
      go_wp2_with fail
      go_roundw
      case rel => exact ⟨k + 1, v', by omega, by congr 1; omega, rfl, by rw [EK.out]; exact HW.out, by rw [HOR.out]; exact RN.out, DD.out, by omega⟩
      case measure => simp [intOf]; omega
    · obtain rfl : k = N := by omega
      have j1 : ¬ (k : Int) - (k : Int) > 0 := by omega
      obtain ⟨g1, cc, rfl, hg1, hR1⟩ := own_RL hO ELn.out (fun e => by
        rcases hO.2 with ⟨_, h0⟩ | ⟨g', cap, cur, e2, _⟩
        · omega
        · rw [e] at e2; cases e2)
      have HRL := Lib.hid hR1
      have HB := Lib.hid hR.below
      clear hO hR hD hR1
      go_wp2_with fail
      go_ret2
      exact ⟨g1, cc, rfl, by omega, HRL.out, HB.out⟩

end Go.Proofs.Ytoaccnpkobbaaaa
