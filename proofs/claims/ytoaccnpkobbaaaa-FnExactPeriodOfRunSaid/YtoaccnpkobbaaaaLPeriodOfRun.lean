/- For every input the law FnExactPeriodOfRun returns true, and its arguments read afterwards as they read before. Conditions: none. -/
import Derived.Test.YtoaccnpkobbaaaaKitY
import Derived.Test.YtoaccnpkobbaaaaYLd
import Derived.Test.YtoaccnpkobbaaaaClY
import Derived.Test.YtoaccnpkobbaaaaYPi
import Derived.Lib.Hide
import Derived.Deep.RegionHeld3
import Derived.Deep.DeepCutAuto
namespace Go.Proofs.Ytoaccnpkobbaaaa.lPeriodOfRun
open Go.ChangeShapes Go.WideShapes Go.ChangeAt Go.RowKit Go.Joins Yd

set_option linter.unusedVariables false

set_option maxRecDepth 100000 in
set_option maxHeartbeats 3200000 in
theorem walk (w : World) (ya yb : Option Addr) (yn yc ym yd : Nat) (yk yr : List Int) (y1 : yk.length = yn) (y2 : yr.length = ym) (y3 : yn ≤ maxLen) (y4 : ym ≤ maxLen) (y5 : RdA w.heap.size w ya yk) (y6 : RdA w.heap.size w yb yr) (rx : Int) (ra : Option Addr) (rn rc : Nat) (rs : List Int) (r1 : rs.length = rn) (r2 : rn ≤ maxLen) (r3 : RdA w.heap.size w ra rs) (r4 : (Lit.int .i64 rx).wf = true) :
    Calls Try.prog 8 #[.agg #[.slice ya yn yc, .slice yb ym yd], .agg #[.int .i64 rx, .slice ra rn rc]] w fun e w' => e = .returned (.bool true) ∧ Below w.heap.size w w' := by
  unfold maxLen at y3 y4 r2
  by_cases fit : (yn : Int) + ym ≤ 1048576
  case neg =>
    go_enter Try.func8, Try.ntmps8
    go_wp2_with fail
    refine (szYard_no _ _ _ _ _ _ _ (by decide) (by decide) (by omega) (by omega) (by omega) _).mono ?_
    rintro e w2 ⟨rfl, h2⟩
    have hB2 : Below w.heap.size w w2 := ba (by go_grown) h2
    clear h2
    go_wp2_with fail
    go_ret
    exact ⟨rfl, hB2⟩
  have i4 : ¬ (1048576 : Int) - yn - ym < 0 := by omega
  by_cases fit2 : (rn : Int) ≤ 1048576 - yn - ym
  case neg =>
    go_enter Try.func8, Try.ntmps8
    go_wp2_with fail
    refine (szYard_fit _ _ _ _ _ _ _ (by decide) (by decide) fit _).mono ?_
    rintro e w1 ⟨rfl, h1⟩
    have hB : Below w.heap.size w w1 := ba (by go_grown) h1
    have z0 : w.heap.size < w1.heap.size := by have := h1.size; simp at this; omega
    have z1 : w.heap.size + 1 < w1.heap.size := by have := h1.size; simp at this; omega
    have c2 := cl_below (b := w.heap.size + 1) (o := 0) (v := .int .i64 rx) (by simp [go_sem]) (by simp <;> omega) h1
    have c3 := cl_below (b := w.heap.size + 1) (o := 1) (v := .slice ra rn rc) (by simp [go_sem]) (by simp <;> omega) h1
    clear h1
    go_wp2_with fail
    refine (szRun_no _ _ _ _ _ (by omega) (by omega) (by omega) (by omega) _).mono ?_
    rintro e w2 ⟨rfl, h2⟩
    have hB2 : Below w.heap.size w w2 := ba (by go_grown) h2
    clear h2
    go_wp2_with fail
    go_ret
    exact ⟨rfl, hB2⟩
  have i5 : ¬ (1048576 : Int) - yn - ym - rn < 0 := by omega
  have Y1 := Lib.hid y1
  have Y2 := Lib.hid y2
  have Y5 := Lib.hid y5
  have Y6 := Lib.hid y6
  have R1 := Lib.hid r1
  have R3 := Lib.hid r3
  clear y1 y2 y5 y6 r1 r3
  have SPC := Lib.hid (fun g h p w' H1 H2 H3 => spPeriod rx g yn h ym p rn yn ym rn yk yr rs Y1.out Y2.out R1.out (by omega) (by omega) (by omega) w' H1 H2 H3)
  have IMC := Lib.hid (fun g h p w' H1 H2 H3 => imPeriod rx g yn h ym p rn yn ym rn yk yr rs Y1.out Y2.out R1.out (by omega) (by omega) (by omega) w' H1 H2 H3)
  go_enter Try.func8, Try.ntmps8
  go_wp2_with fail
  refine (szYard_fit _ _ _ _ _ _ _ (by decide) (by decide) fit _).mono ?_
  rintro e w1 ⟨rfl, k1⟩
  have B1 := Lib.hid (ba (by go_grown) k1 : Below w.heap.size w w1)
  have hs1 := k1.size
  try simp at hs1
  have l1_0 : w.heap.size < w1.heap.size := by omega
  have l1_1 : w.heap.size + 1 < w1.heap.size := by omega
  have c1_0 := cl_below (b := w.heap.size) (o := 0) (v := .slice ya yn yc) (by first | (with_reducible assumption) | (simp [go_sem, *]; done)) (by first | (with_reducible assumption) | (simp; done) | (simp <;> omega)) k1
  have c1_1 := cl_below (b := w.heap.size) (o := 1) (v := .slice yb ym yd) (by first | (with_reducible assumption) | (simp [go_sem, *]; done)) (by first | (with_reducible assumption) | (simp; done) | (simp <;> omega)) k1
  have c1_2 := cl_below (b := w.heap.size + 1) (o := 0) (v := .int .i64 rx) (by first | (with_reducible assumption) | (simp [go_sem, *]; done)) (by first | (with_reducible assumption) | (simp; done) | (simp <;> omega)) k1
  have c1_3 := cl_below (b := w.heap.size + 1) (o := 1) (v := .slice ra rn rc) (by first | (with_reducible assumption) | (simp [go_sem, *]; done)) (by first | (with_reducible assumption) | (simp; done) | (simp <;> omega)) k1
  clear k1
  go_wp2_with fail
  refine (szRun_fit _ _ _ _ _ (by omega) (by omega) fit2 _).mono ?_
  rintro e w2 ⟨rfl, k2⟩
  have B2 := Lib.hid (B1.out.trans ((ba (by go_grown) k2 : Below w1.heap.size w1 w2).mono B1.out.size))
  have hs2 := k2.size
  try simp at hs2
  have l2_0 : w.heap.size < w2.heap.size := by omega
  have l2_1 : w.heap.size + 1 < w2.heap.size := by omega
  have c2_0 := cl_below (b := w.heap.size) (o := 0) (v := .slice ya yn yc) (by first | (with_reducible assumption) | (simp [go_sem, *]; done)) (by first | (with_reducible assumption) | (simp; done) | (simp <;> omega)) k2
  have c2_1 := cl_below (b := w.heap.size) (o := 1) (v := .slice yb ym yd) (by first | (with_reducible assumption) | (simp [go_sem, *]; done)) (by first | (with_reducible assumption) | (simp; done) | (simp <;> omega)) k2
  have c2_2 := cl_below (b := w.heap.size + 1) (o := 0) (v := .int .i64 rx) (by first | (with_reducible assumption) | (simp [go_sem, *]; done)) (by first | (with_reducible assumption) | (simp; done) | (simp <;> omega)) k2
  have c2_3 := cl_below (b := w.heap.size + 1) (o := 1) (v := .slice ra rn rc) (by first | (with_reducible assumption) | (simp [go_sem, *]; done)) (by first | (with_reducible assumption) | (simp; done) | (simp <;> omega)) k2
  clear c1_0 c1_1 c1_2 c1_3 k2
  have TY := Lib.hid (fun w' (hw : Below w2.heap.size w2 w') => toYard_any ya yb yn yc ym yd yk yr Y1.out Y2.out (by omega) (by omega) w' w.heap.size (Nat.le_trans B2.out.size hw.size) (Y5.out.below (Nat.le_refl _) (B2.out.trans (hw.mono B2.out.size))) (Y6.out.below (Nat.le_refl _) (B2.out.trans (hw.mono B2.out.size))))
  have TR := Lib.hid (fun w' (hw : Below w2.heap.size w2 w') => toRun_any rx ra rn rc rs R1.out (by omega) w' w.heap.size (Nat.le_trans B2.out.size hw.size) (R3.out.below (Nat.le_refl _) (B2.out.trans (hw.mono B2.out.size))))
  go_upto_region 1 with fail
  have hS0 := And.intro c2_0 (And.intro c2_1 (And.intro c2_2 c2_3))
  go_cut [6, 7, 8] (fun s6 s7 s8 wx => s6 = .int .i64 (peU yk yr rx rs) ∧ s7 = .int .i64 (peV yk yr rx rs) ∧ s8 = .bool (rnB yk yr rx rs) ∧ (wx.cell? ⟨w.heap.size, 0, none⟩ = some (.slice ya yn yc) ∧ wx.cell? ⟨w.heap.size, 1, none⟩ = some (.slice yb ym yd) ∧ wx.cell? ⟨w.heap.size + 1, 0, none⟩ = some (.int .i64 rx) ∧ wx.cell? ⟨w.heap.size + 1, 1, none⟩ = some (.slice ra rn rc)) ∧ Below w2.heap.size w2 wx)
  case first =>
    go_region_held3 (fun w' => w'.cell? ⟨w.heap.size, 0, none⟩ = some (.slice ya yn yc) ∧ w'.cell? ⟨w.heap.size, 1, none⟩ = some (.slice yb ym yd) ∧ w'.cell? ⟨w.heap.size + 1, 0, none⟩ = some (.int .i64 rx) ∧ w'.cell? ⟨w.heap.size + 1, 1, none⟩ = some (.slice ra rn rc))
      (first | (with_reducible assumption) | (with_reducible exact yy_drew hS0) | (with_reducible exact yy_drew (yy_alloc hS0 _)) | (with_reducible exact yy_alloc (yy_drew hS0) _) | (with_reducible refine yy_drew ?_; with_reducible assumption) | (with_reducible refine yy_alloc ?_ _; with_reducible assumption) | (with_reducible refine yy_re (by with_reducible assumption) ?_ ?_ _; (focus first | (with_reducible assumption) | omega | (simp; done) | (simp; omega)); (focus first | (with_reducible assumption) | omega | (simp; done) | (simp; omega))) | (with_reducible refine yy_below ?_ ?_ ?_ h1; (focus first | (with_reducible assumption) | (with_reducible refine yy_undrew ?_; with_reducible assumption)); (focus first | (with_reducible assumption) | omega | (simp; done) | (simp; omega)); (focus first | (with_reducible assumption) | omega | (simp; done) | (simp; omega))) | ((repeat (with_reducible refine yy_set ?_ _ _ ?_ ?_; rotate_left 1; (focus first | (with_reducible assumption) | omega | (simp; done) | (simp; omega)); (focus first | (with_reducible assumption) | omega | (simp; done) | (simp; omega)))); with_reducible assumption))
      (first | (go_at_call 18; (with_reducible refine Calls.mono (TY.out _ ?_) ?_); (focus (go_grown; done)); rintro e wA ⟨gA, hA, rfl, _, _, rA, rB, h1⟩; (try with_reducible replace h1 := undrew h1); (try have QR := Lib.hid (QR.out.keep (ba (by go_grown) h1))); have hBwA : Below w2.heap.size w2 wA := ba (by go_grown) h1; obtain ⟨hcwA, hfwA⟩ := bcell h1; have hqwA := h1.size; (try simp at hqwA); have hz0wA : w.heap.size < wA.heap.size := (by omega); have he0wA : w.heap.size ≤ wA.heap.size := (by omega); have hz1wA : w.heap.size + 1 < wA.heap.size := (by omega); have he1wA : w.heap.size + 1 ≤ wA.heap.size := (by omega); (try have hywBwA : wB.heap.size < wA.heap.size := (by omega)); (try have hxwBwA : wB.heap.size ≤ wA.heap.size := (by omega)); (try have hywCwA : wC.heap.size < wA.heap.size := (by omega)); (try have hxwCwA : wC.heap.size ≤ wA.heap.size := (by omega)); (try have hywDwA : wD.heap.size < wA.heap.size := (by omega)); (try have hxwDwA : wD.heap.size ≤ wA.heap.size := (by omega)); have QA := Lib.hid rA; have QB := Lib.hid rB; clear rA rB) | (go_at_call 23; (with_reducible refine Calls.mono (TR.out _ ?_) ?_); (focus (go_grown; done)); rintro e wB ⟨gB, rfl, _, rC, h1⟩; (try with_reducible replace h1 := undrew h1); (try have QA := Lib.hid (QA.out.keep (ba (by go_grown) h1))); (try have QB := Lib.hid (QB.out.keep (ba (by go_grown) h1))); have hBwB : Below w2.heap.size w2 wB := ba (by go_grown) h1; obtain ⟨hcwB, hfwB⟩ := bcell h1; have hqwB := h1.size; (try simp at hqwB); have hz0wB : w.heap.size < wB.heap.size := (by omega); have he0wB : w.heap.size ≤ wB.heap.size := (by omega); have hz1wB : w.heap.size + 1 < wB.heap.size := (by omega); have he1wB : w.heap.size + 1 ≤ wB.heap.size := (by omega); (try have hywAwB : wA.heap.size < wB.heap.size := (by omega)); (try have hxwAwB : wA.heap.size ≤ wB.heap.size := (by omega)); (try have hywCwB : wC.heap.size < wB.heap.size := (by omega)); (try have hxwCwB : wC.heap.size ≤ wB.heap.size := (by omega)); (try have hywDwB : wD.heap.size < wB.heap.size := (by omega)); (try have hxwDwB : wD.heap.size ≤ wB.heap.size := (by omega)); have QR := Lib.hid rC; clear rC) | (go_at_call 38; (with_reducible refine Calls.mono (SPC.out _ _ _ _ ?_ ?_ ?_) ?_); (focus (exact QA.out.keep (by go_grown))); (focus (exact QB.out.keep (by go_grown))); (focus (exact QR.out.keep (by go_grown))); rintro e wC ⟨rfl, h1⟩; (try with_reducible replace h1 := undrew h1); have hBwC : Below w2.heap.size w2 wC := ba (by go_grown) h1; obtain ⟨hcwC, hfwC⟩ := bcell h1; have hqwC := h1.size; (try simp at hqwC); have hz0wC : w.heap.size < wC.heap.size := (by omega); have he0wC : w.heap.size ≤ wC.heap.size := (by omega); have hz1wC : w.heap.size + 1 < wC.heap.size := (by omega); have he1wC : w.heap.size + 1 ≤ wC.heap.size := (by omega); (try have hywAwC : wA.heap.size < wC.heap.size := (by omega)); (try have hxwAwC : wA.heap.size ≤ wC.heap.size := (by omega)); (try have hywBwC : wB.heap.size < wC.heap.size := (by omega)); (try have hxwBwC : wB.heap.size ≤ wC.heap.size := (by omega)); (try have hywDwC : wD.heap.size < wC.heap.size := (by omega)); (try have hxwDwC : wD.heap.size ≤ wC.heap.size := (by omega))))
    all_goals
      go_wp2_with fail
      go_meet
      exact ⟨rfl, rfl, rfl, by with_reducible assumption, by go_grown⟩
  case rest =>
  obtain ⟨rfl, rfl, rfl, ⟨q0, q1, q2, q3⟩, hcb⟩ := hcut
  have B3 := Lib.hid (B2.out.trans (hcb.mono B2.out.size))
  have hcs := hcb.size
  have l3_0 : w.heap.size < wc.heap.size := by omega
  have l3_1 : w.heap.size + 1 < wc.heap.size := by omega
  have c3_0 := q0
  have c3_1 := q1
  have c3_2 := q2
  have c3_3 := q3
  clear q0 q1 q2 q3 hcb c2_0 c2_1 c2_2 c2_3
  go_wp2_with fail
  refine (toYard_any ya yb yn yc ym yd yk yr Y1.out Y2.out (by omega) (by omega) _ w.heap.size (B3.out).size (Y5.out.below (Nat.le_refl _) (B3.out)) (Y6.out.below (Nat.le_refl _) (B3.out))).mono ?_
  rintro e w4 ⟨g4, h4, rfl, gl4, gh4, ra4, rb4, k4⟩
  have B4 := Lib.hid (B3.out.trans ((ba (by go_grown) k4 : Below wc.heap.size wc w4).mono B3.out.size))
  have hs4 := k4.size
  try simp at hs4
  have l4_0 : w.heap.size < w4.heap.size := by omega
  have l4_1 : w.heap.size + 1 < w4.heap.size := by omega
  have c4_0 := cl_below (b := w.heap.size) (o := 0) (v := .slice ya yn yc) (by first | (with_reducible assumption) | (simp [go_sem, *]; done)) (by first | (with_reducible assumption) | (simp; done) | (simp <;> omega)) k4
  have c4_1 := cl_below (b := w.heap.size) (o := 1) (v := .slice yb ym yd) (by first | (with_reducible assumption) | (simp [go_sem, *]; done)) (by first | (with_reducible assumption) | (simp; done) | (simp <;> omega)) k4
  have c4_2 := cl_below (b := w.heap.size + 1) (o := 0) (v := .int .i64 rx) (by first | (with_reducible assumption) | (simp [go_sem, *]; done)) (by first | (with_reducible assumption) | (simp; done) | (simp <;> omega)) k4
  have c4_3 := cl_below (b := w.heap.size + 1) (o := 1) (v := .slice ra rn rc) (by first | (with_reducible assumption) | (simp [go_sem, *]; done)) (by first | (with_reducible assumption) | (simp; done) | (simp <;> omega)) k4
  have XA := Lib.hid ra4
  have XB := Lib.hid rb4
  clear ra4 rb4
  clear c3_0 c3_1 c3_2 c3_3 k4
  go_wp2_with fail
  refine (toRun_any rx ra rn rc rs R1.out (by omega) _ w.heap.size (Nat.le_trans B4.out.size (by simp)) (R3.out.below (Nat.le_refl _) (B4.out.trans (Below.mono (by go_grown : Below w4.heap.size w4 _) B4.out.size)))).mono ?_
  rintro e w5 ⟨g5, rfl, gl5, ra5, k5⟩
  have B5 := Lib.hid (B4.out.trans ((ba (by go_grown) k5 : Below w4.heap.size w4 w5).mono B4.out.size))
  have hs5 := k5.size
  try simp at hs5
  have l5_0 : w.heap.size < w5.heap.size := by omega
  have l5_1 : w.heap.size + 1 < w5.heap.size := by omega
  have l5_2 : w4.heap.size < w5.heap.size := by omega
  have c5_0 := cl_below (b := w.heap.size) (o := 0) (v := .slice ya yn yc) (by first | (with_reducible assumption) | (simp [go_sem, *]; done)) (by first | (with_reducible assumption) | (simp; done) | (simp <;> omega)) k5
  have c5_1 := cl_below (b := w.heap.size) (o := 1) (v := .slice yb ym yd) (by first | (with_reducible assumption) | (simp [go_sem, *]; done)) (by first | (with_reducible assumption) | (simp; done) | (simp <;> omega)) k5
  have c5_2 := cl_below (b := w.heap.size + 1) (o := 0) (v := .int .i64 rx) (by first | (with_reducible assumption) | (simp [go_sem, *]; done)) (by first | (with_reducible assumption) | (simp; done) | (simp <;> omega)) k5
  have c5_3 := cl_below (b := w.heap.size + 1) (o := 1) (v := .slice ra rn rc) (by first | (with_reducible assumption) | (simp [go_sem, *]; done)) (by first | (with_reducible assumption) | (simp; done) | (simp <;> omega)) k5
  have c5_4 := cl_below (b := w4.heap.size) (o := 0) (v := .slice (some ⟨g4, 0, none⟩) yn yn) (by first | (with_reducible assumption) | (simp [go_sem, *]; done)) (by first | (with_reducible assumption) | (simp; done) | (simp <;> omega)) k5
  have c5_5 := cl_below (b := w4.heap.size) (o := 1) (v := .slice (some ⟨h4, 0, none⟩) ym ym) (by first | (with_reducible assumption) | (simp [go_sem, *]; done)) (by first | (with_reducible assumption) | (simp; done) | (simp <;> omega)) k5
  have XA := Lib.hid (XA.out.keep (ba (by go_grown) k5 : Below w4.heap.size w4 w5))
  have XB := Lib.hid (XB.out.keep (ba (by go_grown) k5 : Below w4.heap.size w4 w5))
  have XR := Lib.hid ra5
  clear ra5
  clear c4_0 c4_1 c4_2 c4_3 k5
  go_wp2_with fail
  refine (IMC.out g4 h4 g5 _ (XA.out.keep (by go_grown)) (XB.out.keep (by go_grown)) (XR.out.keep (by go_grown))).mono ?_
  rintro e w6 ⟨rfl, k6⟩
  have B6 := Lib.hid (B5.out.trans ((ba (by go_grown) k6 : Below w5.heap.size w5 w6).mono B5.out.size))
  have hs6 := k6.size
  try simp at hs6
  have l6_0 : w.heap.size < w6.heap.size := by omega
  have l6_1 : w.heap.size + 1 < w6.heap.size := by omega
  have l6_2 : w4.heap.size < w6.heap.size := by omega
  have l6_3 : w5.heap.size < w6.heap.size := by omega
  have c6_0 := cl_below (b := w.heap.size) (o := 0) (v := .slice ya yn yc) (by first | (with_reducible assumption) | (simp [go_sem, *]; done)) (by first | (with_reducible assumption) | (simp; done) | (simp <;> omega)) k6
  have c6_1 := cl_below (b := w.heap.size) (o := 1) (v := .slice yb ym yd) (by first | (with_reducible assumption) | (simp [go_sem, *]; done)) (by first | (with_reducible assumption) | (simp; done) | (simp <;> omega)) k6
  have c6_2 := cl_below (b := w.heap.size + 1) (o := 0) (v := .int .i64 rx) (by first | (with_reducible assumption) | (simp [go_sem, *]; done)) (by first | (with_reducible assumption) | (simp; done) | (simp <;> omega)) k6
  have c6_3 := cl_below (b := w.heap.size + 1) (o := 1) (v := .slice ra rn rc) (by first | (with_reducible assumption) | (simp [go_sem, *]; done)) (by first | (with_reducible assumption) | (simp; done) | (simp <;> omega)) k6
  have c6_4 := cl_below (b := w4.heap.size) (o := 0) (v := .slice (some ⟨g4, 0, none⟩) yn yn) (by first | (with_reducible assumption) | (simp [go_sem, *]; done)) (by first | (with_reducible assumption) | (simp; done) | (simp <;> omega)) k6
  have c6_5 := cl_below (b := w4.heap.size) (o := 1) (v := .slice (some ⟨h4, 0, none⟩) ym ym) (by first | (with_reducible assumption) | (simp [go_sem, *]; done)) (by first | (with_reducible assumption) | (simp; done) | (simp <;> omega)) k6
  have c6_6 := cl_below (b := w5.heap.size) (o := 0) (v := .int .i64 rx) (by first | (with_reducible assumption) | (simp [go_sem, *]; done)) (by first | (with_reducible assumption) | (simp; done) | (simp <;> omega)) k6
  have c6_7 := cl_below (b := w5.heap.size) (o := 1) (v := .slice (some ⟨g5, 0, none⟩) rn rn) (by first | (with_reducible assumption) | (simp [go_sem, *]; done)) (by first | (with_reducible assumption) | (simp; done) | (simp <;> omega)) k6
  have XA := Lib.hid (XA.out.keep (ba (by go_grown) k6 : Below w5.heap.size w5 w6))
  have XB := Lib.hid (XB.out.keep (ba (by go_grown) k6 : Below w5.heap.size w5 w6))
  have XR := Lib.hid (XR.out.keep (ba (by go_grown) k6 : Below w5.heap.size w5 w6))
  clear c5_0 c5_1 c5_2 c5_3 c5_4 c5_5 k6
  go_upto_region 1 with fail
  have hS0 := And.intro c6_4 (And.intro c6_5 (And.intro c6_0 c6_1))
  have TY := Lib.hid (fun w' (hw : Below w6.heap.size w6 w') => toYard_any ya yb yn yc ym yd yk yr Y1.out Y2.out (by omega) (by omega) w' w.heap.size (Nat.le_trans B6.out.size hw.size) (Y5.out.below (Nat.le_refl _) (B6.out.trans (hw.mono B6.out.size))) (Y6.out.below (Nat.le_refl _) (B6.out.trans (hw.mono B6.out.size))))
  have TR := Lib.hid (fun w' (hw : Below w6.heap.size w6 w') => toRun_any rx ra rn rc rs R1.out (by omega) w' w.heap.size (Nat.le_trans B6.out.size hw.size) (R3.out.below (Nat.le_refl _) (B6.out.trans (hw.mono B6.out.size))))
  have EY := Lib.hid (fun g h w' (hw : Below w6.heap.size w6 w') (q1 : RL w' g yn yk) (q2 : RL w' h ym yr) => eqYard_same g4 yn h4 ym g yn h ym yn ym yk yr Y1.out Y2.out (by omega) (by omega) w' (XA.out.keep hw) (XB.out.keep hw) q1 q2)
  go_region_held3 (fun w' => w'.cell? ⟨w4.heap.size, 0, none⟩ = some (.slice (some ⟨g4, 0, none⟩) yn yn) ∧ w'.cell? ⟨w4.heap.size, 1, none⟩ = some (.slice (some ⟨h4, 0, none⟩) ym ym) ∧ w'.cell? ⟨w.heap.size, 0, none⟩ = some (.slice ya yn yc) ∧ w'.cell? ⟨w.heap.size, 1, none⟩ = some (.slice yb ym yd))
    (first | (with_reducible assumption) | (with_reducible exact yy_drew hS0) | (with_reducible exact yy_drew (yy_alloc hS0 _)) | (with_reducible exact yy_alloc (yy_drew hS0) _) | (with_reducible refine yy_drew ?_; with_reducible assumption) | (with_reducible refine yy_alloc ?_ _; with_reducible assumption) | (with_reducible refine yy_re (by with_reducible assumption) ?_ ?_ _; (focus first | (with_reducible assumption) | omega | (simp; done) | (simp; omega)); (focus first | (with_reducible assumption) | omega | (simp; done) | (simp; omega))) | (with_reducible refine yy_below ?_ ?_ ?_ h1; (focus first | (with_reducible assumption) | (with_reducible refine yy_undrew ?_; with_reducible assumption)); (focus first | (with_reducible assumption) | omega | (simp; done) | (simp; omega)); (focus first | (with_reducible assumption) | omega | (simp; done) | (simp; omega))) | ((repeat (with_reducible refine yy_set ?_ _ _ ?_ ?_; rotate_left 1; (focus first | (with_reducible assumption) | omega | (simp; done) | (simp; omega)); (focus first | (with_reducible assumption) | omega | (simp; done) | (simp; omega)))); with_reducible assumption))
    (first | (go_at_call 18; (with_reducible refine Calls.mono (TY.out _ ?_) ?_); (focus (go_grown; done)); rintro e wA ⟨gA, hA, rfl, _, _, rA, rB, h1⟩; (try with_reducible replace h1 := undrew h1); (try have QR := Lib.hid (QR.out.keep (ba (by go_grown) h1))); have hBwA : Below w6.heap.size w6 wA := ba (by go_grown) h1; obtain ⟨hcwA, hfwA⟩ := bcell h1; have hqwA := h1.size; (try simp at hqwA); have hz0wA : w4.heap.size < wA.heap.size := (by omega); have he0wA : w4.heap.size ≤ wA.heap.size := (by omega); have hz1wA : w.heap.size < wA.heap.size := (by omega); have he1wA : w.heap.size ≤ wA.heap.size := (by omega); (try have hywBwA : wB.heap.size < wA.heap.size := (by omega)); (try have hxwBwA : wB.heap.size ≤ wA.heap.size := (by omega)); (try have hywCwA : wC.heap.size < wA.heap.size := (by omega)); (try have hxwCwA : wC.heap.size ≤ wA.heap.size := (by omega)); (try have hywDwA : wD.heap.size < wA.heap.size := (by omega)); (try have hxwDwA : wD.heap.size ≤ wA.heap.size := (by omega)); have QA := Lib.hid rA; have QB := Lib.hid rB; clear rA rB) | (go_at_call 20; (with_reducible refine Calls.mono (EY.out _ _ _ ?_ ?_ ?_) ?_); (focus (go_grown; done)); (focus (exact QA.out.keep (by go_grown))); (focus (exact QB.out.keep (by go_grown))); rintro e wC ⟨rfl, h1⟩; (try with_reducible replace h1 := undrew h1); have hBwC : Below w6.heap.size w6 wC := ba (by go_grown) h1; obtain ⟨hcwC, hfwC⟩ := bcell h1; have hqwC := h1.size; (try simp at hqwC); have hz0wC : w4.heap.size < wC.heap.size := (by omega); have he0wC : w4.heap.size ≤ wC.heap.size := (by omega); have hz1wC : w.heap.size < wC.heap.size := (by omega); have he1wC : w.heap.size ≤ wC.heap.size := (by omega); (try have hywAwC : wA.heap.size < wC.heap.size := (by omega)); (try have hxwAwC : wA.heap.size ≤ wC.heap.size := (by omega)); (try have hywBwC : wB.heap.size < wC.heap.size := (by omega)); (try have hxwBwC : wB.heap.size ≤ wC.heap.size := (by omega)); (try have hywDwC : wD.heap.size < wC.heap.size := (by omega)); (try have hxwDwC : wD.heap.size ≤ wC.heap.size := (by omega))))
  have B7 := Lib.hid (B6.out.trans (hBwC.mono B6.out.size))
  have l7_0 : w.heap.size < wC.heap.size := by omega
  have l7_1 : w.heap.size + 1 < wC.heap.size := by omega
  have l7_2 : w4.heap.size < wC.heap.size := by omega
  have l7_3 : w5.heap.size < wC.heap.size := by omega
  have c7_0 := cl_below c6_0 l6_0 hBwC
  have c7_1 := cl_below c6_1 l6_0 hBwC
  have c7_2 := cl_below c6_2 l6_1 hBwC
  have c7_3 := cl_below c6_3 l6_1 hBwC
  have c7_4 := cl_below c6_4 l6_2 hBwC
  have c7_5 := cl_below c6_5 l6_2 hBwC
  have c7_6 := cl_below c6_6 l6_3 hBwC
  have c7_7 := cl_below c6_7 l6_3 hBwC
  have XA := Lib.hid (XA.out.keep hBwC)
  have XB := Lib.hid (XB.out.keep hBwC)
  have XR := Lib.hid (XR.out.keep hBwC)
  clear hcwA hfwA hcwC hfwC c6_0 c6_1 c6_2 c6_3 c6_4 c6_5 c6_6 c6_7
  go_upto_region 1 with fail
  have hS0 := And.intro c7_6 (And.intro c7_7 (And.intro c7_2 c7_3))
  have TY := Lib.hid (fun w' (hw : Below wC.heap.size wC w') => toYard_any ya yb yn yc ym yd yk yr Y1.out Y2.out (by omega) (by omega) w' w.heap.size (Nat.le_trans B7.out.size hw.size) (Y5.out.below (Nat.le_refl _) (B7.out.trans (hw.mono B7.out.size))) (Y6.out.below (Nat.le_refl _) (B7.out.trans (hw.mono B7.out.size))))
  have TR := Lib.hid (fun w' (hw : Below wC.heap.size wC w') => toRun_any rx ra rn rc rs R1.out (by omega) w' w.heap.size (Nat.le_trans B7.out.size hw.size) (R3.out.below (Nat.le_refl _) (B7.out.trans (hw.mono B7.out.size))))
  have ER := Lib.hid (fun g w' (hw : Below wC.heap.size wC w') (q1 : RL w' g rn rs) => eqRun_same rx g5 rn g rn rn rs R1.out (by omega) w' (XR.out.keep hw) q1)
  go_region_held3 (fun w' => w'.cell? ⟨w5.heap.size, 0, none⟩ = some (.int .i64 rx) ∧ w'.cell? ⟨w5.heap.size, 1, none⟩ = some (.slice (some ⟨g5, 0, none⟩) rn rn) ∧ w'.cell? ⟨w.heap.size + 1, 0, none⟩ = some (.int .i64 rx) ∧ w'.cell? ⟨w.heap.size + 1, 1, none⟩ = some (.slice ra rn rc))
    (first | (with_reducible assumption) | (with_reducible exact yy_drew hS0) | (with_reducible exact yy_drew (yy_alloc hS0 _)) | (with_reducible exact yy_alloc (yy_drew hS0) _) | (with_reducible refine yy_drew ?_; with_reducible assumption) | (with_reducible refine yy_alloc ?_ _; with_reducible assumption) | (with_reducible refine yy_re (by with_reducible assumption) ?_ ?_ _; (focus first | (with_reducible assumption) | omega | (simp; done) | (simp; omega)); (focus first | (with_reducible assumption) | omega | (simp; done) | (simp; omega))) | (with_reducible refine yy_below ?_ ?_ ?_ h1; (focus first | (with_reducible assumption) | (with_reducible refine yy_undrew ?_; with_reducible assumption)); (focus first | (with_reducible assumption) | omega | (simp; done) | (simp; omega)); (focus first | (with_reducible assumption) | omega | (simp; done) | (simp; omega))) | ((repeat (with_reducible refine yy_set ?_ _ _ ?_ ?_; rotate_left 1; (focus first | (with_reducible assumption) | omega | (simp; done) | (simp; omega)); (focus first | (with_reducible assumption) | omega | (simp; done) | (simp; omega)))); with_reducible assumption))
    (first | (go_at_call 23; (with_reducible refine Calls.mono (TR.out _ ?_) ?_); (focus (go_grown; done)); rintro e wB ⟨gB, rfl, _, rC, h1⟩; (try with_reducible replace h1 := undrew h1); (try have QA := Lib.hid (QA.out.keep (ba (by go_grown) h1))); (try have QB := Lib.hid (QB.out.keep (ba (by go_grown) h1))); have hBwB : Below wC.heap.size wC wB := ba (by go_grown) h1; obtain ⟨hcwB, hfwB⟩ := bcell h1; have hqwB := h1.size; (try simp at hqwB); have hz0wB : w5.heap.size < wB.heap.size := (by omega); have he0wB : w5.heap.size ≤ wB.heap.size := (by omega); have hz1wB : w.heap.size + 1 < wB.heap.size := (by omega); have he1wB : w.heap.size + 1 ≤ wB.heap.size := (by omega); (try have hywAwB : wA.heap.size < wB.heap.size := (by omega)); (try have hxwAwB : wA.heap.size ≤ wB.heap.size := (by omega)); (try have hywCwB : wC.heap.size < wB.heap.size := (by omega)); (try have hxwCwB : wC.heap.size ≤ wB.heap.size := (by omega)); (try have hywDwB : wD.heap.size < wB.heap.size := (by omega)); (try have hxwDwB : wD.heap.size ≤ wB.heap.size := (by omega)); have QR := Lib.hid rC; clear rC) | (go_at_call 25; (with_reducible refine Calls.mono (ER.out _ _ ?_ ?_) ?_); (focus (go_grown; done)); (focus (exact QR.out.keep (by go_grown))); rintro e wD ⟨rfl, h1⟩; (try with_reducible replace h1 := undrew h1); have hBwD : Below wC.heap.size wC wD := ba (by go_grown) h1; obtain ⟨hcwD, hfwD⟩ := bcell h1; have hqwD := h1.size; (try simp at hqwD); have hz0wD : w5.heap.size < wD.heap.size := (by omega); have he0wD : w5.heap.size ≤ wD.heap.size := (by omega); have hz1wD : w.heap.size + 1 < wD.heap.size := (by omega); have he1wD : w.heap.size + 1 ≤ wD.heap.size := (by omega); (try have hywAwD : wA.heap.size < wD.heap.size := (by omega)); (try have hxwAwD : wA.heap.size ≤ wD.heap.size := (by omega)); (try have hywBwD : wB.heap.size < wD.heap.size := (by omega)); (try have hxwBwD : wB.heap.size ≤ wD.heap.size := (by omega)); (try have hywCwD : wC.heap.size < wD.heap.size := (by omega)); (try have hxwCwD : wC.heap.size ≤ wD.heap.size := (by omega))))
  all_goals
    go_wp2_with fail
    go_ret
    exact ⟨rfl, B7.out.trans (Below.mono (by go_grown : Below wC.heap.size wC _) B7.out.size)⟩

set_option maxRecDepth 100000 in
theorem lifted (os : Os) (started : os.Started) (H : Type) (enc : TypeId × Value → H) :
    ReturnsInHanded {} Try.checked os 8 .any (Rows.fnExactPeriodOfRunSpec.pre6 enc Try.prog Try.f8 Rows.fnExactPeriodOfRunRow.domain false) (Rows.fnExactPeriodOfRunSpec.post enc Try.prog Try.f8 false true false false) := by
  refine returnsInHanded_of_change (C := Try.checked) Try.own started (by kernel_rfl) Try.func8
    (ChangeSpec.witness6 (enc := enc) (C := Try.checked) false ⟨#[], #[.agg #[.slice none 0 0, .slice none 0 0], .agg #[.int .i64 0, .slice none 0 0]], []⟩ 8 (by kernel_rfl) (by kernel_rfl) (by kernel_rfl) (by kernel_rfl)) ?_
  intro W base args ds gs before hval0 hW _ _
  have hval : ∀ (j : Nat) t v, Try.f8.params[j]? = some t → args[j]? = some v → Value.okWide Try.prog W .any base t v := hval0
  have hW0 := hW
  obtain ⟨p, q, hA0, hV, rfl, _, _⟩ := hW
  have hA : DataW.TrodAll enc Try.prog W 0 (fun _ => true) true Try.f8.params.toList args.toList ds p := hA0
  rw [Try.params8] at hA hval
  obtain ⟨v0, v1, d0, d1, p0, p1, rfl, rfl, rfl, h0, h1⟩ := trodAll_two hA
  obtain ⟨ya, yb, yn, yc, ym, yd, yk, yr, rfl, y1, y2, y3, y4, y5, y6⟩ := open_yard (hval 0 24 v0 rfl rfl) h0
  obtain ⟨rx, ra, rn, rc, rs, rfl, r1, r2, r3, r4⟩ := open_run (hval 1 32 v1 rfl rfl) h1
  refine (walk W ya yb yn yc ym yd yk yr y1 y2 y3 y4 y5 y6 rx ra rn rc rs r1 r2 r3 r4).mono fun e W' ⟨he, hw⟩ => ?_
  subst he
  exact ⟨_, rfl, law_post Try.laidOut (by kernel_rfl) rfl Try.underlying4 rfl rfl hW0 hw⟩

theorem holds : Rows.FnExactPeriodOfRunSaid :=
  OpenClaim.holds_of_wide 8 Try.f8 rfl rfl rfl rfl rfl rfl rfl ⟨rfl, rfl, rfl, rfl, rfl⟩ rfl rfl rfl rfl rfl (by kernel_rfl) Try.func8 (by kernel_rfl)
    (of_decide_eq_true (by kernel_rfl)) (by unfold Func.isWrapper; first | (rw [if_pos (by decide +kernel)]; kernel_rfl) | (rw [if_neg (by decide +kernel)]; exact ⟨rfl, rfl⟩))
    (fun os started H enc _ => lifted os started H enc)

end Go.Proofs.Ytoaccnpkobbaaaa.lPeriodOfRun
