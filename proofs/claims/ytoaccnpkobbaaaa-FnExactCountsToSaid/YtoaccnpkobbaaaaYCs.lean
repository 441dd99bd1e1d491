/- Contract: behind how many steps a run counts to itself, in the model. -/
import Derived.Test.YtoaccnpkobbaaaaYNm
namespace Go.Proofs.Ytoaccnpkobbaaaa
open Go.ChangeShapes Go.WideShapes Go.ChangeAt Go.RowKit
open Yd

set_option linter.unusedVariables false

set_option maxRecDepth 100000 in
set_option maxHeartbeats 3200000 in
theorem spCountsTo (x : Int) (g c h d p u n m l : Nat) (ks rs ss : List Int) (hn : ks.length = n) (hm : rs.length = m) (hl : ss.length = l) (hb : n ≤ 2000000) (hb' : m ≤ 2000000) (hb2 : l ≤ 2000000) (w : World) (h1 : RL w g n ks) (h2 : RL w h m rs) (h3 : RL w p l ss) :
    Calls Try.prog 57 #[.agg #[.slice (some ⟨g, 0, none⟩) n c, .slice (some ⟨h, 0, none⟩) m d], .agg #[.int .i64 x, .slice (some ⟨p, 0, none⟩) l u]] w fun e w' => e = .returned (.tuple #[.int .i64 (ctV ks rs x ss), .bool (ctB ks rs x ss)]) ∧ Below w.heap.size w w' := by
  have R := Lib.hid (fun w' (hw : Below w.heap.size w w') => ydRun_any x g c h d p u n m l ks rs ss hn hm hl hb hb' hb2 w' (h1.keep hw) (h2.keep hw) (h3.keep hw))
  cases hr : rnB ks rs x ss
  · have HR := Lib.hid hr
    clear hn hm hl h1 h2 h3 hr
    go_enter Try.func57, Try.ntmps57
    go_wp2_with fail
    refine (R.out _ (by go_grown)).mono ?_
    rintro e w1 ⟨rfl, k1⟩
    rw [HR.out]
    have hB : Below w.heap.size w w1 := ba (by go_grown) k1
    clear k1
    go_wp2_with fail
    go_ret2
    exact ⟨by rw [ctV, ctB, HR.out]; rfl, hB⟩
  obtain ⟨hg, a, rfl, ho⟩ := (run_iff ks rs x ss).1 hr
  have n6 := hg.n6
  have hl6 : l ≤ 6 := by rw [← hl, ho.len]; exact n6
  have hV : ctV ks rs (a : Nat) ss = (ctO ks rs a ss).elim 0 (fun i => (i : Int) + 1) := by rw [ctV, if_pos hr, Int.toNat_natCast]
  have hB : ctB ks rs (a : Nat) ss = (ctO ks rs a ss).isSome := by rw [ctB, hr, Int.toNat_natCast]; rfl
  rw [hV, hB]
  have HR := Lib.hid hr
  have OR := Lib.hid (orb_run ho hg)
  have N0 := Lib.hid (fun (k q c' : Nat) w' (hq : RL w' q l (orb ks rs a ss k).2) => ydNumber_any (orb ks rs a ss k).1 q l c' (orb ks rs a ss k).2 (by rw [(OR.out k).len, ← ho.len]; exact hl) hl6 (by have := (OR.out k).at'; omega) (OR.out k).mem w' hq)
  have ST := Lib.hid (fun (k q c' : Nat) w' (hw : Below w.heap.size w w') (hq : RL w' q l (orb ks rs a ss k).2) => ydStep_any (orb ks rs a ss k).1 g c h d q c' n m l ks rs (orb ks rs a ss k).2 hn hm (by rw [(OR.out k).len, ← ho.len]; exact hl) hg (OR.out k) w' (h1.keep hw) (h2.keep hw) hq)
  have H3 := Lib.hid (fun w' (hw : Below w.heap.size w w') => h3.keep hw)
  have hp := h3.lt
  have NI := Lib.hid (fun k => show num (orb ks rs a ss k) = num (a, ss) → orb ks rs a ss k = (a, ss) from fun e => by
    obtain ⟨e1, e2⟩ := num_inj (OR.out k) ho e
    exact Prod.ext e1 e2)
  clear hn hm hl h1 h2 h3 hr hV hB hg ho n6
  go_enter Try.func57, Try.ntmps57
  go_wp2_with fail
  refine (R.out _ (by go_grown)).mono ?_
  rintro e w1 ⟨rfl, k1⟩
  rw [HR.out]
  have B1 := Lib.hid (ba (by go_grown) k1 : Below w.heap.size w w1)
  have hs1 := k1.size
  simp at hs1
  have z0 : w.heap.size < w1.heap.size := by omega
  have z1 : w.heap.size + 1 < w1.heap.size := by omega
  have c0 := cl_below (b := w.heap.size) (o := 0) (v := .slice (some ⟨g, 0, none⟩) n c) (by simp [go_sem]) (by simp <;> omega) k1
  have c1 := cl_below (b := w.heap.size) (o := 1) (v := .slice (some ⟨h, 0, none⟩) m d) (by simp [go_sem]) (by simp <;> omega) k1
  have c2 := cl_below (b := w.heap.size + 1) (o := 0) (v := .int .i64 (a : Nat)) (by simp [go_sem]) (by simp <;> omega) k1
  have c3 := cl_below (b := w.heap.size + 1) (o := 1) (v := .slice (some ⟨p, 0, none⟩) l u) (by simp [go_sem]) (by simp <;> omega) k1
  have f2 := k1.frozen (p := ⟨w.heap.size + 1, 0, none⟩) (by simp <;> omega)
  have f3 := k1.frozen (p := ⟨w.heap.size + 1, 1, none⟩) (by simp <;> omega)
  simp [go_sem] at f2 f3
  clear k1
  go_wp2_with fail
  refine (N0.out 0 p u w1 (H3.out w1 B1.out)).mono ?_
  rintro e w2 ⟨rfl, k2⟩
  have B2 := Lib.hid (B1.out.trans (k2.mono B1.out.size))
  have hs2 := k2.size
  have R2 := Lib.hid (And.intro (cl_below c0 z0 k2) (And.intro (cl_below c1 z0 k2) (And.intro (cl_below c2 z1 k2) (And.intro (cl_below c3 z1 k2) (And.intro ((k2.frozen (p := ⟨w.heap.size + 1, 0, none⟩) z1).trans f2) ((k2.frozen (p := ⟨w.heap.size + 1, 1, none⟩) z1).trans f3))))))
  clear k2 c0 c1 c2 c3 f2 f3
  rw [show orb ks rs a ss 0 = (a, ss) from rfl]
  generalize hnum : num (a, ss) = q0 at NI
  have HNU := Lib.hid hnum
  clear hnum
  go_wp2_with fail
  go_loopw [7] (fun i wr => ∃ k q c' : Nat, k ≤ 2000 ∧ i = .int .i64 ((k : Int) + 1) ∧ (∀ j, j < k → ¬ orb ks rs a ss (j + 1) = (a, ss)) ∧ (wr.cell? ⟨w.heap.size, 0, none⟩ = some (.slice (some ⟨g, 0, none⟩) n c) ∧ wr.cell? ⟨w.heap.size, 1, none⟩ = some (.slice (some ⟨h, 0, none⟩) m d) ∧ wr.cell? ⟨w.heap.size + 1, 0, none⟩ = some (.int .i64 ((orb ks rs a ss k).1 : Nat)) ∧ wr.cell? ⟨w.heap.size + 1, 1, none⟩ = some (.slice (some ⟨q, 0, none⟩) l c') ∧ wr.frozen? ⟨w.heap.size + 1, 0, none⟩ = false ∧ wr.frozen? ⟨w.heap.size + 1, 1, none⟩ = false) ∧ RL wr q l (orb ks rs a ss k).2 ∧ q ≠ w.heap.size + 1 ∧ w.heap.size + 1 < wr.heap.size ∧ Below w.heap.size w wr) (fun i _ => 2001 - (intOf i).toNat)
  case atStart => exact ⟨0, p, u, Nat.zero_le _, by simp, fun j hj => absurd hj (by omega), R2.out, H3.out w2 B2.out, by omega, by omega, B2.out⟩
  case round =>
    obtain ⟨k, q, c', hk, rfl, hall, ⟨c0, c1, c2, c3, f2, f3⟩, hR, hne, hsz, hB⟩ := hrel
    have HA := Lib.hid hall
    have HRL := Lib.hid hR
    have HB := Lib.hid hB
    have zz : w.heap.size < wr.heap.size := by omega
    clear hall hR hB
    by_cases hlt : k < 2000
    · have i1 : (0 : Int) ≤ (k : Int) := by omega
      have i2 : (k : Int) + 1 ≤ 2000 := by omega
      have i3 : (k : Int) ≤ 1999 := by omega
      go_wp2_with fail
      refine (ST.out k q c' wr HB.out HRL.out).mono ?_
      rintro e wA ⟨q1, c1', rfl, hq1, r1, k1⟩
      have BA := Lib.hid (HB.out.trans (k1.mono HB.out.size))
      have hsA := k1.size
      have d0 := cl_below c0 zz k1
      have d1 := cl_below c1 zz k1
      have d2 := cl_below c2 hsz k1
      have d3 := cl_below c3 hsz k1
      have e2 := (k1.frozen (p := ⟨w.heap.size + 1, 0, none⟩) hsz).trans f2
      have e3 := (k1.frozen (p := ⟨w.heap.size + 1, 1, none⟩) hsz).trans f3
      have RA := Lib.hid ((r1.other (a := ⟨w.heap.size + 1, 0, none⟩) (by show q1 ≠ w.heap.size + 1; omega) (.int .i64 ((stA rs (orb ks rs a ss k).1 (orb ks rs a ss k).2 : Nat) : Int))).other (a := ⟨w.heap.size + 1, 1, none⟩) (by show q1 ≠ w.heap.size + 1; omega) (.slice (some ⟨q1, 0, none⟩) l c1'))
      clear k1 r1 c0 c1 c2 c3 f2 f3
      go_wp2_with fail
      refine (N0.out (k + 1) q1 c1' _ RA.out).mono ?_
      rintro e wB ⟨rfl, k2⟩
      have hsB := k2.size
      simp at hsB
      have BB := Lib.hid (((BA.out.setCell (p := ⟨w.heap.size + 1, 0, none⟩) (by simp) (.int .i64 ((stA rs (orb ks rs a ss k).1 (orb ks rs a ss k).2 : Nat) : Int))).setCell (p := ⟨w.heap.size + 1, 1, none⟩) (by simp) (.slice (some ⟨q1, 0, none⟩) l c1')).trans (k2.mono (by simp; omega)))
      have RB := Lib.hid (RA.out.keep k2)
      have s0 : ((wA.setCell ⟨w.heap.size + 1, 0, none⟩ (Value.int .i64 ((stA rs (orb ks rs a ss k).1 (orb ks rs a ss k).2 : Nat) : Int))).setCell ⟨w.heap.size + 1, 1, none⟩ (.slice (some ⟨q1, 0, none⟩) l c1')).cell? ⟨w.heap.size + 1, 0, none⟩ = some (Value.int .i64 ((stA rs (orb ks rs a ss k).1 (orb ks rs a ss k).2 : Nat) : Int)) := by
        rw [World.cell?_setCell_other (h := by simp), World.cell?_setCell_same (h := d2)]
      have s1 : ((wA.setCell ⟨w.heap.size + 1, 0, none⟩ (Value.int .i64 ((stA rs (orb ks rs a ss k).1 (orb ks rs a ss k).2 : Nat) : Int))).setCell ⟨w.heap.size + 1, 1, none⟩ (.slice (some ⟨q1, 0, none⟩) l c1')).cell? ⟨w.heap.size + 1, 1, none⟩ = some (.slice (some ⟨q1, 0, none⟩) l c1') :=
        by rw [World.cell?_setCell_same (h := (World.cell?_setCell_other (w := wA) (a := ⟨w.heap.size + 1, 0, none⟩) (b := ⟨w.heap.size + 1, 1, none⟩) _ (by simp)).trans d3)]
      have T0 := cl_below (cl_set (cl_set d0 ⟨w.heap.size + 1, 0, none⟩ (Value.int .i64 ((stA rs (orb ks rs a ss k).1 (orb ks rs a ss k).2 : Nat) : Int)) (by simp)) ⟨w.heap.size + 1, 1, none⟩ (.slice (some ⟨q1, 0, none⟩) l c1') (by simp)) (by simp; omega) k2
      have T1 := cl_below (cl_set (cl_set d1 ⟨w.heap.size + 1, 0, none⟩ (Value.int .i64 ((stA rs (orb ks rs a ss k).1 (orb ks rs a ss k).2 : Nat) : Int)) (by simp)) ⟨w.heap.size + 1, 1, none⟩ (.slice (some ⟨q1, 0, none⟩) l c1') (by simp)) (by simp; omega) k2
      have T2 := cl_below s0 (by simp; omega) k2
      have T3 := cl_below s1 (by simp; omega) k2
      have T4 := k2.frozen (p := ⟨w.heap.size + 1, 0, none⟩) (by simp; omega)
      have T5 := k2.frozen (p := ⟨w.heap.size + 1, 1, none⟩) (by simp; omega)
      rw [World.frozen?_setCell, World.frozen?_setCell, e2] at T4
      rw [World.frozen?_setCell, World.frozen?_setCell, e3] at T5
      have RT := Lib.hid (And.intro T0 (And.intro T1 (And.intro T2 (And.intro T3 (And.intro T4 T5)))))
      clear k2 s0 s1 T0 T1 T2 T3 T4 T5 d0 d1 d2 d3 e2 e3
      by_cases hf : orb ks rs a ss (k + 1) = (a, ss)
      · have hq : num ((orb ks rs a ss (k + 1)).1, (orb ks rs a ss (k + 1)).2) = q0 := by rw [show ((orb ks rs a ss (k + 1)).1, (orb ks rs a ss (k + 1)).2) = orb ks rs a ss (k + 1) from rfl, hf]; exact HNU.out
        have HF := Lib.hid hf
        rw [hq]
        clear hq hf
        go_wp2_with fail
        go_ret2
        exact ⟨by rw [ctO_some hlt HA.out HF.out]; rfl, BB.out⟩
      · have hq : ¬ num ((orb ks rs a ss (k + 1)).1, (orb ks rs a ss (k + 1)).2) = q0 := fun e => hf (NI.out (k + 1) e)
        have HF := Lib.hid hf
        generalize num ((orb ks rs a ss (k + 1)).1, (orb ks rs a ss (k + 1)).2) = q2 at hq
        have hq2 : ¬ (q2 : Int) = (q0 : Int) := by omega
        have hq3 : ((q2 : Int) == (q0 : Int)) = false := by simpa using hq2
        clear hq hf
        go_wp2_with fail
        go_roundw
        case rel => exact ⟨k + 1, q1, c1', by omega, by congr 1, fun j hj => by
          by_cases e : j = k
          · subst e; exact HF.out
          · exact HA.out j (by omega), RT.out, RB.out, by omega, by omega, BB.out⟩
        case measure => simp [intOf]; omega
    · obtain rfl : k = 2000 := by omega
      go_wp2_with fail
      go_ret2
      exact ⟨by rw [ctO_none HA.out]; rfl, HB.out⟩

end Go.Proofs.Ytoaccnpkobbaaaa
