/- Contract: a step, in the model. -/
import Derived.Test.YtoaccnpkobbaaaaYOw
import Derived.Test.YtoaccnpkobbaaaaYTop
import Derived.Deep.QuietTactic
import Derived.BigQuiet
namespace Go.Proofs.Ytoaccnpkobbaaaa
open Go.ChangeShapes Go.WideShapes Go.ChangeAt Go.RowKit
open Yd

set_option linter.unusedVariables false

/-- A run in a row of its own. -/
def RnPost (a l : Nat) (ss : List Int) (w : World) (e : Ending) (w' : World) : Prop :=
  ∃ g c, e = .returned (.agg #[.int .i64 (a:Nat), .slice (some ⟨g, 0, none⟩) l c]) ∧ w.heap.size ≤ g ∧ RL w' g l ss ∧ Below w.heap.size w w'

/-- What a step meets. -/
theorem st_facts {ks rs ss : List Int} {a : Nat} (hg : YdOk ks rs) (hr : RnOk ks a ss) :
    ∃ k sd q b : Nat, ∃ s kd : Int, (a : Int) / 3 = (k : Int) ∧ (a : Int) % 3 = (sd : Int) ∧ k < ks.length ∧ sd < 3 ∧ q < rs.length ∧ ss[k]? = some s ∧ ks[k]? = some kd ∧ (s = 0 ∨ s = 1) ∧ rs[q]? = some (b : Int) ∧
      (q : Int) = (if sd = 0 then 3 * (k : Int) + 1 + s else 3 * (k : Int)) ∧ stA rs a ss = b ∧ stS ks a ss = ss.set k (if sd = 0 then (if kd = 2 then 1 - s else s) else (if kd = 0 then (sd : Int) - 1 else s)) := by
  obtain ⟨s, hs, s0, s1⟩ := hr.get
  obtain ⟨kd, hk, k0, k2⟩ := hr.kind hg
  obtain ⟨hb, hbl⟩ := hr.rail hg
  have ho := hr.out_lt
  refine ⟨a / 3, a % 3, sOut a ss, stA rs a ss, s, kd, by omega, by omega, by have := hr.at'; omega, by omega, by rw [hg.nr]; exact ho, hs, hk, by omega, hb, ?_, rfl, ?_⟩
  · unfold sOut
    rw [getD_of hs]
    split <;> omega
  · rw [stS, stV, getD_of hs, getD_of hk]

set_option maxRecDepth 100000 in
set_option maxHeartbeats 3200000 in
theorem ydStep_any (a : Nat) (g c g' d p u n m l : Nat) (ks rs ss : List Int) (hn : ks.length = n) (hm : rs.length = m) (hl : ss.length = l) (hg : YdOk ks rs) (hr : RnOk ks a ss) (w : World) (h1 : RL w g n ks) (h2 : RL w g' m rs) (h3 : RL w p l ss) :
    Calls Try.prog 66 #[.agg #[.slice (some ⟨g, 0, none⟩) n c, .slice (some ⟨g', 0, none⟩) m d], .agg #[.int .i64 (a:Nat), .slice (some ⟨p, 0, none⟩) l u]] w (RnPost (stA rs a ss) l (stS ks a ss) w) := by
  obtain ⟨k, sd, q, b, s, kd, hk, hsd, hkn, hs3, hqm, hs, hkd, hs2, hb, hq, e1, e2⟩ := st_facts hg hr
  rw [e1]
  have hln : l = n := by rw [← hl, ← hn]; exact hr.len
  have hn6 := hg.n6
  rw [hn] at hkn hn6
  rw [hm] at hqm
  have hm18 : m ≤ 18 := by have := hg.nr; omega
  have HL := Lib.hid hl
  have i1 : (0 : Int) ≤ (k : Int) := by omega
  have i2 : (k : Int) < (n : Int) := by omega
  have i3 : (k : Int) < (l : Int) := by omega
  have i4 : (0 : Int) ≤ (q : Int) := by omega
  have i5 : (q : Int) < (m : Int) := by omega
  have i6 : (k : Int) ≤ 5 := by omega
  have i7 : (0 : Int) ≤ (a : Int) := by omega
  have i8 : (0 : Int) ≤ (b : Int) := by omega
  have hkl : k < l := by omega
  have hss : k < ss.length := by omega
  have O := Lib.hid (fun w' (hw : Below w.heap.size w w') => l1Own_any p l u ss hl (by omega) w' (h3.keep hw))
  have H1 := Lib.hid (fun w' (hw : Below w.heap.size w w') => (h1.keep hw).get hkn hkd)
  have H2 := Lib.hid (fun w' (hw : Below w.heap.size w w') => (h2.keep hw).get hqm hb)
  have H3 := Lib.hid (fun w' (hw : Below w.heap.size w w') => (h3.keep hw).get hkl hs)
  have hp0 := h3.lt
  have hg0 := h1.lt
  have hh0 := h2.lt
  have HS := Lib.hid hs
  clear hn hm hl hg hr h1 h2 h3 e1 hkd hb hs hln hn6 hm18 hkn hqm
  rcases (by omega : sd = 0 ∨ ¬ sd = 0) with rfl | hsd0
  · -- from the stem
    have hq' : 3 * (k : Int) + (1 + s) = (q : Int) := by rw [hq, if_pos rfl]; omega
    rw [if_pos rfl] at e2
    have e2' : stS ks a ss = (if kd = 2 then ss.set k (1 - s) else ss) := by
      rw [e2]; split
      · rfl
      · exact set_self HS.out
    clear hq e2
    by_cases hk2 : kd = 2
    · subst hk2
      rw [if_pos rfl] at e2'
      rw [e2']
      clear e2'
      go_enter Try.func66, Try.ntmps66
      go_wp2_with fail
      refine (O.out _ (by go_grown)).mono ?_
      rintro e w1 ⟨g1, c1, rfl, hg1, r1, k1⟩
      have hB : Below w.heap.size w w1 := ba (by go_grown) k1
      simp at hg1
      have hs1 := k1.size
      simp at hs1
      have hgl := r1.lt
      have a0 := cl_below (b := w.heap.size) (o := 0) (v := .slice (some ⟨g, 0, none⟩) n c) (by simp [go_sem]) (by simp <;> omega) k1
      have a1 := cl_below (b := w.heap.size) (o := 1) (v := .slice (some ⟨g', 0, none⟩) m d) (by simp [go_sem]) (by simp <;> omega) k1
      have a2 := cl_below (b := w.heap.size + 1) (o := 0) (v := .int .i64 (a : Nat)) (by simp [go_sem]) (by simp <;> omega) k1
      have a3 := cl_below (b := w.heap.size + 1) (o := 1) (v := .slice (some ⟨p, 0, none⟩) l u) (by simp [go_sem]) (by simp <;> omega) k1
      have a4 := cl_below (b := w.heap.size + 1 + 1) (o := 0) (v := .int .i64 0) (by simp [go_sem]) (by simp <;> omega) k1
      have a5 := cl_below (b := w.heap.size + 1 + 1) (o := 1) (v := .slice none 0 0) (by simp [go_sem]) (by simp <;> omega) k1
      have a6 := k1.frozen (p := ⟨w.heap.size + 1 + 1, 0, none⟩) (by simp <;> omega)
      have a7 := k1.frozen (p := ⟨w.heap.size + 1 + 1, 1, none⟩) (by simp <;> omega)
      simp [go_sem] at a6 a7
      have b1 := H1.out w1 hB
      have b2 := H2.out w1 hB
      have b3 := H3.out w1 hB
      have z0 : w.heap.size < w1.heap.size := by omega
      have z1 : w.heap.size + 1 < w1.heap.size := by omega
      have z2 : w.heap.size + 1 + 1 < w1.heap.size := by omega
      have z3 : g < w1.heap.size := by omega
      have z4 : g' < w1.heap.size := by omega
      have z5 : p < w1.heap.size := by omega
      have R1 := Lib.hid r1
      obtain ⟨y, b4⟩ : ∃ y, w1.cell? ⟨g1, k, none⟩ = some (.int .i64 y) := ⟨_, r1.cell hkl⟩
      have b5 := r1.free k hkl
      clear k1 r1
      go_wp2_with fail
      go_quiet (fail)
      go_wp2_with fail
      go_region
      go_wp2_with fail
      refine bodyPost_ret (by simp [results, Try.results66, go_sem, *]; try rfl) rfl ?_
      refine ⟨g1, c1, rfl, by omega, ?_, ?_⟩
      · refine RL.other (RL.other (RL.other ?_ ?_ _) ?_ _) ?_ _
        · exact RL.set (R1.out.keep (((Below.refl _ _).alloc (Nat.le_refl _) _).trans (below_drawn _ _))) k hss _
        all_goals (simp <;> omega)
      · repeat (refine Below.setCell ?_ (by simp <;> omega) _)
        exact (hB.alloc (by omega) _).trans (below_drawn _ _)
    · rw [if_neg hk2] at e2'
      rw [e2']
      clear e2'
      go_enter Try.func66, Try.ntmps66
      go_wp2_with fail
      refine (O.out _ (by go_grown)).mono ?_
      rintro e w1 ⟨g1, c1, rfl, hg1, r1, k1⟩
      have hB : Below w.heap.size w w1 := ba (by go_grown) k1
      simp at hg1
      have hs1 := k1.size
      simp at hs1
      have hgl := r1.lt
      have a0 := cl_below (b := w.heap.size) (o := 0) (v := .slice (some ⟨g, 0, none⟩) n c) (by simp [go_sem]) (by simp <;> omega) k1
      have a1 := cl_below (b := w.heap.size) (o := 1) (v := .slice (some ⟨g', 0, none⟩) m d) (by simp [go_sem]) (by simp <;> omega) k1
      have a2 := cl_below (b := w.heap.size + 1) (o := 0) (v := .int .i64 (a : Nat)) (by simp [go_sem]) (by simp <;> omega) k1
      have a3 := cl_below (b := w.heap.size + 1) (o := 1) (v := .slice (some ⟨p, 0, none⟩) l u) (by simp [go_sem]) (by simp <;> omega) k1
      have a4 := cl_below (b := w.heap.size + 1 + 1) (o := 0) (v := .int .i64 0) (by simp [go_sem]) (by simp <;> omega) k1
      have a5 := cl_below (b := w.heap.size + 1 + 1) (o := 1) (v := .slice none 0 0) (by simp [go_sem]) (by simp <;> omega) k1
      have a6 := k1.frozen (p := ⟨w.heap.size + 1 + 1, 0, none⟩) (by simp <;> omega)
      have a7 := k1.frozen (p := ⟨w.heap.size + 1 + 1, 1, none⟩) (by simp <;> omega)
      simp [go_sem] at a6 a7
      have b1 := H1.out w1 hB
      have b2 := H2.out w1 hB
      have b3 := H3.out w1 hB
      have z0 : w.heap.size < w1.heap.size := by omega
      have z1 : w.heap.size + 1 < w1.heap.size := by omega
      have z2 : w.heap.size + 1 + 1 < w1.heap.size := by omega
      have z3 : g < w1.heap.size := by omega
      have z4 : g' < w1.heap.size := by omega
      have z5 : p < w1.heap.size := by omega
      have R1 := Lib.hid r1
      obtain ⟨y, b4⟩ : ∃ y, w1.cell? ⟨g1, k, none⟩ = some (.int .i64 y) := ⟨_, r1.cell hkl⟩
      have b5 := r1.free k hkl
      clear k1 r1
      go_wp2_with fail
      go_quiet (fail)
      go_wp2_with fail
      refine bodyPost_ret (by simp [results, Try.results66, go_sem, *]; try rfl) rfl ?_
      refine ⟨g1, c1, rfl, by omega, ?_, ?_⟩
      · refine RL.other (RL.other (RL.other ?_ ?_ _) ?_ _) ?_ _
        · exact R1.out.keep (((Below.refl _ _).alloc (Nat.le_refl _) _).trans (below_drawn _ _))
        all_goals (simp <;> omega)
      · repeat (refine Below.setCell ?_ (by simp <;> omega) _)
        exact (hB.alloc (by omega) _).trans (below_drawn _ _)
  · have hq' : 3 * (k : Int) = (q : Int) := by rw [hq, if_neg hsd0]
    have hsd1 : ¬ (sd : Int) = 0 := by omega
    rw [if_neg hsd0] at e2
    have e2' : stS ks a ss = (if kd = 0 then ss.set k ((sd : Int) - 1) else ss) := by
      rw [e2]; split
      · rfl
      · exact set_self HS.out
    clear hq e2
    by_cases hk2 : kd = 0
    · subst hk2
      rw [if_pos rfl] at e2'
      rw [e2']
      clear e2'
      go_enter Try.func66, Try.ntmps66
      go_wp2_with fail
      refine (O.out _ (by go_grown)).mono ?_
      rintro e w1 ⟨g1, c1, rfl, hg1, r1, k1⟩
      have hB : Below w.heap.size w w1 := ba (by go_grown) k1
      simp at hg1
      have hs1 := k1.size
      simp at hs1
      have hgl := r1.lt
      have a0 := cl_below (b := w.heap.size) (o := 0) (v := .slice (some ⟨g, 0, none⟩) n c) (by simp [go_sem]) (by simp <;> omega) k1
      have a1 := cl_below (b := w.heap.size) (o := 1) (v := .slice (some ⟨g', 0, none⟩) m d) (by simp [go_sem]) (by simp <;> omega) k1
      have a2 := cl_below (b := w.heap.size + 1) (o := 0) (v := .int .i64 (a : Nat)) (by simp [go_sem]) (by simp <;> omega) k1
      have a3 := cl_below (b := w.heap.size + 1) (o := 1) (v := .slice (some ⟨p, 0, none⟩) l u) (by simp [go_sem]) (by simp <;> omega) k1
      have a4 := cl_below (b := w.heap.size + 1 + 1) (o := 0) (v := .int .i64 0) (by simp [go_sem]) (by simp <;> omega) k1
      have a5 := cl_below (b := w.heap.size + 1 + 1) (o := 1) (v := .slice none 0 0) (by simp [go_sem]) (by simp <;> omega) k1
      have a6 := k1.frozen (p := ⟨w.heap.size + 1 + 1, 0, none⟩) (by simp <;> omega)
      have a7 := k1.frozen (p := ⟨w.heap.size + 1 + 1, 1, none⟩) (by simp <;> omega)
      simp [go_sem] at a6 a7
      have b1 := H1.out w1 hB
      have b2 := H2.out w1 hB
      have b3 := H3.out w1 hB
      have z0 : w.heap.size < w1.heap.size := by omega
      have z1 : w.heap.size + 1 < w1.heap.size := by omega
      have z2 : w.heap.size + 1 + 1 < w1.heap.size := by omega
      have z3 : g < w1.heap.size := by omega
      have z4 : g' < w1.heap.size := by omega
      have z5 : p < w1.heap.size := by omega
      have R1 := Lib.hid r1
      obtain ⟨y, b4⟩ : ∃ y, w1.cell? ⟨g1, k, none⟩ = some (.int .i64 y) := ⟨_, r1.cell hkl⟩
      have b5 := r1.free k hkl
      clear k1 r1
      go_wp2_with fail
      go_quiet (fail)
      go_wp2_with fail
      refine bodyPost_ret (by simp [results, Try.results66, go_sem, *]; try rfl) rfl ?_
      refine ⟨g1, c1, rfl, by omega, ?_, ?_⟩
      · refine RL.other (RL.other (RL.other ?_ ?_ _) ?_ _) ?_ _
        · exact RL.set (R1.out.keep (((Below.refl _ _).alloc (Nat.le_refl _) _).trans (below_drawn _ _))) k hss _
        all_goals (simp <;> omega)
      · repeat (refine Below.setCell ?_ (by simp <;> omega) _)
        exact (hB.alloc (by omega) _).trans (below_drawn _ _)
    · rw [if_neg hk2] at e2'
      rw [e2']
      clear e2'
      go_enter Try.func66, Try.ntmps66
      go_wp2_with fail
      refine (O.out _ (by go_grown)).mono ?_
      rintro e w1 ⟨g1, c1, rfl, hg1, r1, k1⟩
      have hB : Below w.heap.size w w1 := ba (by go_grown) k1
      simp at hg1
      have hs1 := k1.size
      simp at hs1
      have hgl := r1.lt
      have a0 := cl_below (b := w.heap.size) (o := 0) (v := .slice (some ⟨g, 0, none⟩) n c) (by simp [go_sem]) (by simp <;> omega) k1
      have a1 := cl_below (b := w.heap.size) (o := 1) (v := .slice (some ⟨g', 0, none⟩) m d) (by simp [go_sem]) (by simp <;> omega) k1
      have a2 := cl_below (b := w.heap.size + 1) (o := 0) (v := .int .i64 (a : Nat)) (by simp [go_sem]) (by simp <;> omega) k1
      have a3 := cl_below (b := w.heap.size + 1) (o := 1) (v := .slice (some ⟨p, 0, none⟩) l u) (by simp [go_sem]) (by simp <;> omega) k1
      have a4 := cl_below (b := w.heap.size + 1 + 1) (o := 0) (v := .int .i64 0) (by simp [go_sem]) (by simp <;> omega) k1
      have a5 := cl_below (b := w.heap.size + 1 + 1) (o := 1) (v := .slice none 0 0) (by simp [go_sem]) (by simp <;> omega) k1
      have a6 := k1.frozen (p := ⟨w.heap.size + 1 + 1, 0, none⟩) (by simp <;> omega)
      have a7 := k1.frozen (p := ⟨w.heap.size + 1 + 1, 1, none⟩) (by simp <;> omega)
      simp [go_sem] at a6 a7
      have b1 := H1.out w1 hB
      have b2 := H2.out w1 hB
      have b3 := H3.out w1 hB
      have z0 : w.heap.size < w1.heap.size := by omega
      have z1 : w.heap.size + 1 < w1.heap.size := by omega
      have z2 : w.heap.size + 1 + 1 < w1.heap.size := by omega
      have z3 : g < w1.heap.size := by omega
      have z4 : g' < w1.heap.size := by omega
      have z5 : p < w1.heap.size := by omega
      have R1 := Lib.hid r1
      obtain ⟨y, b4⟩ : ∃ y, w1.cell? ⟨g1, k, none⟩ = some (.int .i64 y) := ⟨_, r1.cell hkl⟩
      have b5 := r1.free k hkl
      clear k1 r1
      go_wp2_with fail
      go_quiet (fail)
      go_wp2_with fail
      refine bodyPost_ret (by simp [results, Try.results66, go_sem, *]; try rfl) rfl ?_
      refine ⟨g1, c1, rfl, by omega, ?_, ?_⟩
      · refine RL.other (RL.other (RL.other ?_ ?_ _) ?_ _) ?_ _
        · exact R1.out.keep (((Below.refl _ _).alloc (Nat.le_refl _) _).trans (below_drawn _ _))
        all_goals (simp <;> omega)
      · repeat (refine Below.setCell ?_ (by simp <;> omega) _)
        exact (hB.alloc (by omega) _).trans (below_drawn _ _)

end Go.Proofs.Ytoaccnpkobbaaaa
