/- Contract: behind how many steps a run first comes again, in the model. -/
import Derived.Test.YtoaccnpkobbaaaaYVi
namespace Go.Proofs.Ytoaccnpkobbaaaa
open Go.ChangeShapes Go.WideShapes Go.ChangeAt Go.RowKit
open Yd

set_option linter.unusedVariables false

/-- For each number below T: one more than the first of the first k steps that meets it, else 0. -/
def whL (f : Nat → Nat) (T k : Nat) : List Int := (List.range T).map fun j => ((List.range k).find? fun i => decide (f i = j)).elim 0 (fun i => (i : Int) + 1)

theorem whL_len (f : Nat → Nat) (T k : Nat) : (whL f T k).length = T := by simp [whL]

theorem whL_zero (f : Nat → Nat) (T : Nat) : whL f T 0 = List.replicate T 0 := by
  refine List.ext_getElem? fun i => ?_
  by_cases h : i < T <;> simp [whL, h]

theorem whL_get {f : Nat → Nat} {T k j : Nat} (h : j < T) : (whL f T k)[j]? = some (((List.range k).find? fun i => decide (f i = j)).elim 0 (fun i => (i : Int) + 1)) := by simp [whL, h]

theorem whL_new {f : Nat → Nat} {T k : Nat} (h : f k < T) (hn : ∀ i, i < k → ¬ f i = f k) : (whL f T k)[f k]? = some 0 := by
  rw [whL_get h, List.find?_eq_none.2 (fun i hi => by simpa using hn i (List.mem_range.1 hi))]
  rfl

theorem whL_old {f : Nat → Nat} {T k q : Nat} (h : f k < T) (hq : q < k) (e : f q = f k) (hn : ∀ i, i < q → ¬ f i = f k) : (whL f T k)[f k]? = some ((q : Int) + 1) := by
  have : (List.range k).find? (fun i => decide (f i = f k)) = some q := by
    rw [List.find?_range_eq_some]
    exact ⟨by simpa using e, by simpa using hq, fun j hj => by simpa using hn j hj⟩
  rw [whL_get h, this]
  rfl

theorem whL_succ {f : Nat → Nat} {T k : Nat} (h : f k < T) (hn : ∀ i, i < k → ¬ f i = f k) : whL f T (k + 1) = (whL f T k).set (f k) ((k : Int) + 1) := by
  refine List.ext_getElem? fun j => ?_
  rw [List.getElem?_set, whL_len]
  by_cases hj : j < T
  · rw [whL_get hj, whL_get hj, List.range_succ, List.find?_append]
    by_cases e : f k = j
    · subst e
      rw [if_pos rfl, if_pos h, List.find?_eq_none.2 (fun i hi => by simpa using hn i (List.mem_range.1 hi))]
      simp
    · rw [if_neg e]
      simp [e]
  · rw [List.getElem?_eq_none (by rw [whL_len]; omega)]
    rw [if_neg (by omega), List.getElem?_eq_none (by rw [whL_len]; omega)]

/-- The numbers of the runs of a train. -/
def nuF (ks rs : List Int) (a : Nat) (ss : List Int) (i : Nat) : Nat := num (orb ks rs a ss i)

/-- When a run first comes again (the first of the pair), and which it is. -/
def IsPer (ks rs : List Int) (a : Nat) (ss : List Int) (p q : Nat) : Prop := q < p ∧ p ≤ 3 * ks.length * 2 ^ ks.length ∧ nuF ks rs a ss q = nuF ks rs a ss p ∧ ∀ i j, i < j → j < p → nuF ks rs a ss i ≠ nuF ks rs a ss j

theorem per_ex {ks rs ss : List Int} {a : Nat} (hg : YdOk ks rs) (ho : RnOk ks a ss) : ∃ p q, IsPer ks rs a ss p q := first_again fun i => num_lt (orb_run ho hg i)

theorem IsPer.new {ks rs ss : List Int} {a p q k : Nat} (h : IsPer ks rs a ss p q) (hk : k < p) : ∀ i, i < k → ¬ nuF ks rs a ss i = nuF ks rs a ss k := fun i hi => h.2.2.2 i k hi hk

theorem IsPer.old {ks rs ss : List Int} {a p q : Nat} (h : IsPer ks rs a ss p q) : ∀ i, i < q → ¬ nuF ks rs a ss i = nuF ks rs a ss p := fun i hi e => h.2.2.2 i q hi h.1 (e.trans h.2.2.1.symm)

theorem pow6 {n : Nat} (h : n ≤ 6) : 2 ^ n ≤ 64 := Nat.pow_le_pow_right (n := 2) (by decide) h

theorem IsPer.le {ks rs ss : List Int} {a p q : Nat} (h : IsPer ks rs a ss p q) (h6 : ks.length ≤ 6) : p ≤ 1152 := by
  have h1 := h.2.1
  have h2 := Nat.mul_le_mul (show 3 * ks.length ≤ 18 by omega) (pow6 h6)
  omega

theorem shT (n : Nat) (h : n ≤ 6) : wrap64 (((3 * n : Nat) : Int) * 2 ^ n) = ((3 * n * 2 ^ n : Nat) : Int) := by
  have h2 := Nat.mul_le_mul (show 3 * n ≤ 18 by omega) (pow6 h)
  rw [show ((3 * n : Nat) : Int) * 2 ^ n = ((3 * n * 2 ^ n : Nat) : Int) by push_cast; rfl, wrap64]
  omega

theorem spPer_no (x : Int) (g c h d p q n m l : Nat) (ks rs ss : List Int) (hn : ks.length = n) (hm : rs.length = m) (hl : ss.length = l) (hb : n ≤ 2000000) (hb' : m ≤ 2000000) (hb2 : l ≤ 2000000) (hno : rnB ks rs x ss = false) (w : World) (h1 : RL w g n ks) (h2 : RL w h m rs) (h3 : RL w p l ss) :
    Calls Try.prog 38 #[.agg #[.slice (some ⟨g, 0, none⟩) n c, .slice (some ⟨h, 0, none⟩) m d], .agg #[.int .i64 x, .slice (some ⟨p, 0, none⟩) l q]] w fun e w' => e = .returned (.tuple #[.int .i64 0, .int .i64 0, .bool false]) ∧ Below w.heap.size w w' := by
  have R := Lib.hid (fun w' (hw : Below w.heap.size w w') => ydRun_any x g c h d p q n m l ks rs ss hn hm hl hb hb' hb2 w' (h1.keep hw) (h2.keep hw) (h3.keep hw))
  have HS := Lib.hid hno
  clear hn hm hl h1 h2 h3 hno
  go_enter Try.func38, Try.ntmps38
  go_wp2_with fail
  refine (R.out _ (by go_grown)).mono ?_
  rintro e w1 ⟨rfl, k1⟩
  rw [HS.out]
  have hB : Below w.heap.size w w1 := ba (by go_grown) k1
  clear k1
  go_wp2_with fail
  go_ret3
  exact ⟨rfl, hB⟩

set_option maxRecDepth 100000 in
set_option maxHeartbeats 3200000 in
theorem spPer_yes (a pp qq : Nat) (g c h d p u n m l : Nat) (ks rs ss : List Int) (hn : ks.length = n) (hm : rs.length = m) (hl : ss.length = l) (hg : YdOk ks rs) (ho : RnOk ks a ss) (hP : IsPer ks rs a ss pp qq) (w : World) (h1 : RL w g n ks) (h2 : RL w h m rs) (h3 : RL w p l ss) :
    Calls Try.prog 38 #[.agg #[.slice (some ⟨g, 0, none⟩) n c, .slice (some ⟨h, 0, none⟩) m d], .agg #[.int .i64 (a:Nat), .slice (some ⟨p, 0, none⟩) l u]] w fun e w' => e = .returned (.tuple #[.int .i64 (qq : Nat), .int .i64 ((pp : Int) - (qq : Int)), .bool true]) ∧ Below w.heap.size w w' := by
  have n6 : n ≤ 6 := by rw [← hn]; exact hg.n6
  have hl6 : l ≤ 6 := by rw [← hl, ho.len]; exact hg.n6
  have hp6 := hP.le hg.n6
  have hnr := hg.nr
  have hm3 : m = 3 * n := by omega
  have R := Lib.hid (fun w' (hw : Below w.heap.size w w') => ydRun_any (a : Nat) g c h d p u n m l ks rs ss hn hm hl (by omega) (by omega) (by omega) w' (h1.keep hw) (h2.keep hw) (h3.keep hw))
  have HR := Lib.hid ((run_iff ks rs _ ss).2 ⟨hg, a, rfl, ho⟩)
  have OR := Lib.hid (orb_run ho hg)
  have N0 := Lib.hid (fun (k q c' : Nat) w' (hq : RL w' q l (orb ks rs a ss k).2) => ydNumber_any (orb ks rs a ss k).1 q l c' (orb ks rs a ss k).2 (by rw [(OR.out k).len, ← ho.len]; exact hl) hl6 (by have := (OR.out k).at'; omega) (OR.out k).mem w' hq)
  have ST := Lib.hid (fun (k q c' : Nat) w' (hw : Below w.heap.size w w') (hq : RL w' q l (orb ks rs a ss k).2) => ydStep_any (orb ks rs a ss k).1 g c h d q c' n m l ks rs (orb ks rs a ss k).2 hn hm (by rw [(OR.out k).len, ← ho.len]; exact hl) hg (OR.out k) w' (h1.keep hw) (h2.keep hw) hq)
  have H3 := Lib.hid (fun w' (hw : Below w.heap.size w w') => h3.keep hw)
  have hp := h3.lt
  have hT := pow6 n6
  have hT2 : 3 * n * 2 ^ n ≤ 1152 := Nat.mul_le_mul (show 3 * n ≤ 18 by omega) hT
  have hsh : wrap64 ((m : Int) * 2 ^ n) = ((3 * n * 2 ^ n : Nat) : Int) := by rw [hm3]; exact shT n n6
  have FL := Lib.hid (fun k => show nuF ks rs a ss k < 3 * n * 2 ^ n by have := num_lt (OR.out k); rw [hn] at this; exact this)
  have WN := Lib.hid (fun k (hk : k < pp) => whL_new (f := nuF ks rs a ss) (FL.out k) (hP.new hk))
  have WS := Lib.hid (fun k (hk : k < pp) => whL_succ (f := nuF ks rs a ss) (FL.out k) (hP.new hk))
  have WO := Lib.hid (whL_old (f := nuF ks rs a ss) (FL.out pp) hP.1 hP.2.2.1 hP.old)
  have hqp := hP.1
  have V0 := Lib.hid (whL_zero (nuF ks rs a ss) (3 * n * 2 ^ n))
  have VL := Lib.hid (fun k => whL_len (nuF ks rs a ss) (3 * n * 2 ^ n) k)
  generalize hTT : 3 * n * 2 ^ n = T at *
  clear hT
  have hmk := mkInts T (Nat.le_trans hT2 (by decide))
  have i0 : (0 : Int) ≤ (n : Int) := by omega
  have i1 : (n : Int) ≤ 6 := by omega
  clear hn hm hl h1 h2 h3 hg ho hnr hTT hP hm3
  go_enter Try.func38, Try.ntmps38
  go_wp2_with fail
  refine (R.out _ (by go_grown)).mono ?_
  rintro e w1 ⟨rfl, k1⟩
  rw [HR.out]
  have B1 : Below w.heap.size w w1 := ba (by go_grown) k1
  have hs1 := k1.size
  simp at hs1
  have z0 : w.heap.size < w1.heap.size := by omega
  have c0 := cl_below (b := w.heap.size) (o := 0) (v := .slice (some ⟨g, 0, none⟩) n c) (by simp [go_sem]) (by simp <;> omega) k1
  have c1 := cl_below (b := w.heap.size) (o := 1) (v := .slice (some ⟨h, 0, none⟩) m d) (by simp [go_sem]) (by simp <;> omega) k1
  have c2 := cl_below (b := w.heap.size + 1) (o := 0) (v := .int .i64 (a : Nat)) (by simp [go_sem]) (by simp <;> omega) k1
  have c3 := cl_below (b := w.heap.size + 1) (o := 1) (v := .slice (some ⟨p, 0, none⟩) l u) (by simp [go_sem]) (by simp <;> omega) k1
  have f2 := k1.frozen (p := ⟨w.heap.size + 1, 0, none⟩) (by simp <;> omega)
  have f3 := k1.frozen (p := ⟨w.heap.size + 1, 1, none⟩) (by simp <;> omega)
  simp [go_sem] at f2 f3
  have RA := Lib.hid (show RnAt w w1 (w.heap.size + 1) g c h d n m l (a, ss) from ⟨c0, c1, c2, f2, f3, ⟨p, u, c3, H3.out w1 B1, by omega⟩, by omega, by omega, B1⟩)
  have BW := Lib.hid ((Below.refl w1.heap.size w1).alloc (Nat.le_refl _) (.cells (madeCells #[.int .i64 0] T) 3))
  have RM := Lib.hid (show RL (w1.alloc (.cells (madeCells #[.int .i64 0] T) 3)) w1.heap.size T (whL (nuF ks rs a ss) T 0) by rw [V0.out]; exact RL.made w1 T)
  have z1 : w.heap.size + 1 < w1.heap.size := by omega
  clear k1 f2 f3
  go_wp2_with fail
  rw [hsh]
  clear hsh
  go_loopw [8] (fun i wr => ∃ k : Nat, k ≤ pp ∧ i = .int .i64 ((k : Int) + 1) ∧ RL wr w1.heap.size T (whL (nuF ks rs a ss) T k) ∧ RnAt w wr (w.heap.size + 1) g c h d n m l (orb ks rs a ss k) ∧ (∀ q c', wr.cell? ⟨w.heap.size + 1, 1, none⟩ = some (.slice (some ⟨q, 0, none⟩) l c') → q ≠ w1.heap.size) ∧ w1.heap.size < wr.heap.size) (fun i _ => pp + 1 - (intOf i).toNat)
  case atStart =>
    refine ⟨0, Nat.zero_le _, by simp, RM.out, RA.out.keep BW.out, fun q c' hc => ?_, by simp⟩
    obtain ⟨q', c'', e1, e2, _⟩ := RA.out.row
    have e3 := (cl_below e1 (by omega) BW.out).symm.trans hc
    injection e3 with e3
    injection e3 with e3
    injection e3 with e3
    injection e3 with e3
    have := e2.lt
    omega
  case round =>
    obtain ⟨k, hk, rfl, hV, hR, hD, hsz⟩ := hrel
    have HV := Lib.hid hV
    have HRN := Lib.hid hR
    have HD := Lib.hid hD
    obtain ⟨q, c', hq1, hq2, hq3⟩ := hR.row
    have y0 := hR.y0
    have y1 := hR.y1
    have r0 := hR.r0
    have hB := hR.below
    have hlt1 := hR.lt
    have HQ := Lib.hid hq2
    have k0 : (0 : Int) ≤ (k : Int) := by omega
    have k2 : (k : Int) ≤ 1152 := by omega
    clear hV hR hD hq2
    go_wp2_with fail
    refine (N0.out k q c' wr HQ.out).mono ?_
    rintro e wA ⟨rfl, kA⟩
    rw [show num ((orb ks rs a ss k).1, (orb ks rs a ss k).2) = nuF ks rs a ss k from rfl]
    have hfk := FL.out k
    have hsA := kA.size
    have RVA := HV.out.keep kA
    have QA := HRN.out.keep kA
    have HDA := Lib.hid (show ∀ q2 c2, wA.cell? ⟨w.heap.size + 1, 1, none⟩ = some (.slice (some ⟨q2, 0, none⟩) l c2) → q2 ≠ w1.heap.size from fun q2 c2 hc => by
      have hc3 := (cl_below hq1 hlt1 kA).symm.trans hc
      injection hc3 with hc3
      injection hc3 with hc3
      injection hc3 with hc3
      injection hc3 with hc3
      have := HD.out q c' hq1
      omega)
    have BAr := Lib.hid kA
    have RQ := Lib.hid (HQ.out.keep kA)
    have hq1A := cl_below hq1 hlt1 kA
    have y0A := QA.y0
    have y1A := QA.y1
    have r0A := QA.r0
    have HVA := Lib.hid RVA
    have HQA := Lib.hid QA
    have FR := Lib.hid (RVA.free)
    have CE := Lib.hid (fun j x => @RL.get wA w1.heap.size T j x _ RVA)
    have hltA := QA.lt
    clear kA hq1 y0 y1 r0 RVA QA hB
    by_cases hlt : k < pp
    · have e0 := CE.out _ _ hfk (WN.out k hlt)
      have f0 := FR.out _ hfk
      have VK := Lib.hid (WS.out k hlt)
      have NK := Lib.hid (fun wB (hB : RL wB q l (orb ks rs a ss k).2) => N0.out k q c' wB hB)
      have NE := Lib.hid (show num ((orb ks rs a ss k).1, (orb ks rs a ss k).2) = nuF ks rs a ss k from rfl)
      generalize hj : nuF ks rs a ss k = j at *
      have j3 : (0 : Int) ≤ (j : Int) := by omega
      have j4 : (j : Int) < (T : Int) := by omega
      go_wp2_with fail
      refine (NK.out wA RQ.out).mono ?_
      rintro e wB ⟨rfl, kB⟩
      rw [NE.out]
      have hsB := kB.size
      have HVB := Lib.hid (HVA.out.keep kB)
      have QB := HQA.out.keep kB
      have HDB := Lib.hid (show ∀ q2 c2, wB.cell? ⟨w.heap.size + 1, 1, none⟩ = some (.slice (some ⟨q2, 0, none⟩) l c2) → q2 ≠ w1.heap.size from fun q2 c2 hc => by
        have hc3 := (cl_below hq1A hltA kB).symm.trans hc
        injection hc3 with hc3
        injection hc3 with hc3
        injection hc3 with hc3
        injection hc3 with hc3
        have := HDA.out q c' hq1A
        omega)
      have RO := Lib.hid (QB.other w1.heap.size j (.int .i64 ((k : Int) + 1)) z1 HDB.out)
      have RV := Lib.hid (HVB.out.set j (by rw [VL.out]; exact hfk) ((k : Int) + 1))
      obtain ⟨q3, c3', hr1, hr2, hr3⟩ := RO.out.row
      have e0 := HVB.out.cell hfk
      have f0 := HVB.out.free j hfk
      have y0 := QB.y0
      have y1 := QB.y1
      have r0 := QB.r0
      have hq1B := cl_below hq1A hltA kB
      have y0' := RO.out.y0
      have y1' := RO.out.y1
      have r0' := RO.out.r0
      have hB := RO.out.below
      have hltB := QB.lt
      have STK := Lib.hid (ST.out k q3 c3' (wB.setCell ⟨w1.heap.size, j, none⟩ (.int .i64 ((k : Int) + 1))) hB hr2)
      clear kB QB hr2 hB hq1A y0A y1A r0A
      go_wp2_with fail
      refine STK.out.mono ?_
      rintro e wC ⟨q1, c1', rfl, hq1', r1, kC⟩
      have hsC := kC.size
      simp at hsC
      simp at hq1'
      have QC := RO.out.keep kC
      have RV2 := Lib.hid (RV.out.keep kC)
      have HA := Lib.hid (QC.store (stA rs (orb ks rs a ss k).1 (orb ks rs a ss k).2) q1 c1' (stS ks (orb ks rs a ss k).1 (orb ks rs a ss k).2) r1 (by omega))
      have e0' := QC.r0
      have f0' := QC.f0
      have f1' := QC.f1
      obtain ⟨qq', cc, e1, _, _⟩ := QC.row
      have zz := QC.lt
      have RV3 := Lib.hid ((RV2.out.other (a := ⟨w.heap.size + 1, 0, none⟩) (by show w1.heap.size ≠ w.heap.size + 1; omega) (.int .i64 ((stA rs (orb ks rs a ss k).1 (orb ks rs a ss k).2 : Nat) : Int))).other (a := ⟨w.heap.size + 1, 1, none⟩) (by show w1.heap.size ≠ w.heap.size + 1; omega) (.slice (some ⟨q1, 0, none⟩) l c1'))
      have CS := Lib.hid (show ((wC.setCell ⟨w.heap.size + 1, 0, none⟩ (.int .i64 ((stA rs (orb ks rs a ss k).1 (orb ks rs a ss k).2 : Nat) : Int))).setCell ⟨w.heap.size + 1, 1, none⟩ (.slice (some ⟨q1, 0, none⟩) l c1')).cell? ⟨w.heap.size + 1, 1, none⟩ = some (.slice (some ⟨q1, 0, none⟩) l c1') by
        rw [World.cell?_setCell_same (h := (World.cell?_setCell_other (w := wC) (a := ⟨w.heap.size + 1, 0, none⟩) (b := ⟨w.heap.size + 1, 1, none⟩) _ (by simp)).trans e1)])
      have HOR := Lib.hid (show orb ks rs a ss (k + 1) = ((stA rs (orb ks rs a ss k).1 (orb ks rs a ss k).2), stS ks (orb ks rs a ss k).1 (orb ks rs a ss k).2) from rfl)
      have DD := Lib.hid (show ∀ q2 c2, ((wC.setCell ⟨w.heap.size + 1, 0, none⟩ (.int .i64 ((stA rs (orb ks rs a ss k).1 (orb ks rs a ss k).2 : Nat) : Int))).setCell ⟨w.heap.size + 1, 1, none⟩ (.slice (some ⟨q1, 0, none⟩) l c1')).cell? ⟨w.heap.size + 1, 1, none⟩ = some (.slice (some ⟨q2, 0, none⟩) l c2) → q2 ≠ w1.heap.size from fun q2 c2 hc2 => by
        have hc3 := CS.out.symm.trans hc2
        injection hc3 with hc3
        injection hc3 with hc3
        injection hc3 with hc3
        injection hc3 with hc3
        omega)
      clear kC r1 QC y0 y1 r0 y0' y1' r0' hr1 hr3 e0 f0 hq1B
      go_wp2_with fail
      go_roundw
      case rel => exact ⟨k + 1, by omega, by congr 1, by rw [VK.out]; exact RV3.out, by rw [HOR.out]; exact HA.out, DD.out, by simp; omega⟩
      case measure => simp [intOf]; omega
    · obtain rfl : k = pp := by omega
      have e0 := CE.out _ _ hfk WO.out
      have f0 := FR.out _ hfk
      have BA := Lib.hid HQA.out.below
      generalize hj : nuF ks rs a ss k = j at *
      have j3 : (0 : Int) ≤ (j : Int) := by omega
      have j4 : (j : Int) < (T : Int) := by omega
      have j5 : (0 : Int) < (qq : Int) + 1 := by omega
      have j6 : (0 : Int) ≤ (qq : Int) := by omega
      have j7 : (qq : Int) ≤ 1152 := by omega
      have j8 : (qq : Int) < (k : Int) := by omega
      have hE := Lib.hid (show (k : Int) + 1 - ((qq : Int) + 1) = (k : Int) - (qq : Int) by omega)
      go_wp2_with fail
      go_ret3
      exact ⟨by show Ending.returned (.tuple #[.int .i64 ((qq : Nat) : Int), .int .i64 ((k : Int) + 1 - ((qq : Int) + 1)), .bool true]) = _; rw [hE.out], BA.out⟩

end Go.Proofs.Ytoaccnpkobbaaaa
