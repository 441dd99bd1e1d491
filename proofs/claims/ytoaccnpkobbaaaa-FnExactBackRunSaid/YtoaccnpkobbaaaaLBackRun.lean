/- For every input the law FnExactBackRun returns true, and its arguments read afterwards as they read before. Conditions: none. -/
import Derived.Test.YtoaccnpkobbaaaaKitY
import Derived.Test.YtoaccnpkobbaaaaYLd
import Derived.Test.YtoaccnpkobbaaaaClY
import Derived.Test.YtoaccnpkobbaaaaIs3
import Derived.Test.YtoaccnpkobbaaaaYBe
import Derived.Lib.Hide
import Derived.Deep.RegionHeld3
import Derived.Deep.DeepCutAuto
namespace Go.Proofs.Ytoaccnpkobbaaaa.lBackRun
open Go.ChangeShapes Go.WideShapes Go.ChangeAt Go.RowKit Go.Joins Yd

set_option linter.unusedVariables false

set_option maxRecDepth 100000 in
set_option maxHeartbeats 6400000 in
theorem walk_nil (w : World) (ya yb : Option Addr) (yn yc ym yd : Nat) (yk yr : List Int) (y1 : yk.length = yn) (y2 : yr.length = ym) (y3 : yn ≤ maxLen) (y4 : ym ≤ maxLen) (y5 : RdA w.heap.size w ya yk) (y6 : RdA w.heap.size w yb yr) (rx : Int) (ra : Option Addr) (rn rc : Nat) (rs : List Int) (r1 : rs.length = rn) (r2 : rn ≤ maxLen) (r3 : RdA w.heap.size w ra rs) (r4 : (Lit.int .i64 rx).wf = true) (bb : Bool)
    (c1 : yn ≤ 1048576 → ym ≤ 1048576 → rn ≤ 1048576 → ∀ (g h p : Nat) (w' : World), RL w' g yn yk → RL w' h ym yr → RL w' p rn rs → Calls Try.prog 46 #[.agg #[.slice (some ⟨g, 0, none⟩) yn yn, .slice (some ⟨h, 0, none⟩) ym ym], .agg #[.int .i64 rx, .slice (some ⟨p, 0, none⟩) rn rn]] w' (fun e w'' => e = .returned (.tuple #[.slice none 0 0, .bool bb]) ∧ Below w'.heap.size w' w''))
    (c2 : yn ≤ 1048576 → ym ≤ 1048576 → rn ≤ 1048576 → ∀ (g h p : Nat) (w' : World), RL w' g yn yk → RL w' h ym yr → RL w' p rn rs → Calls Try.prog 47 #[.agg #[.slice (some ⟨g, 0, none⟩) yn yn, .slice (some ⟨h, 0, none⟩) ym ym], .agg #[.int .i64 rx, .slice (some ⟨p, 0, none⟩) rn rn]] w' (fun e w'' => e = .returned (.tuple #[.slice none 0 0, .bool bb]) ∧ Below w'.heap.size w' w'')) :
    Calls Try.prog 12 #[.agg #[.slice ya yn yc, .slice yb ym yd], .agg #[.int .i64 rx, .slice ra rn rc]] w fun e w' => e = .returned (.bool true) ∧ Below w.heap.size w w' := by
  unfold maxLen at y3 y4 r2
  by_cases fit : (yn : Int) + ym ≤ 1048576
  case neg =>
    go_enter Try.func12, Try.ntmps12
    go_wp2_with fail
    refine (szYard_no _ _ _ _ _ _ _ (by decide) (by decide) (by omega) (by omega) (by omega) _).mono ?_
    rintro e w2 ⟨rfl, h2⟩
    have hB2 : Below w.heap.size w w2 := ba (by go_grown) h2
    clear h2
    go_wp2_with fail
    go_ret
    exact ⟨rfl, hB2⟩
  have i4 : ¬ (1048576 : Int) - yn - ym < 0 := by omega
  by_cases fit2 : (rn : Int) ≤ 1048576 - yn - ym
  case neg =>
    go_enter Try.func12, Try.ntmps12
    go_wp2_with fail
    refine (szYard_fit _ _ _ _ _ _ _ (by decide) (by decide) fit _).mono ?_
    rintro e w1 ⟨rfl, h1⟩
    have hB : Below w.heap.size w w1 := ba (by go_grown) h1
    have z0 : w.heap.size < w1.heap.size := by have := h1.size; simp at this; omega
    have z1 : w.heap.size + 1 < w1.heap.size := by have := h1.size; simp at this; omega
    have c2 := cl_below (b := w.heap.size + 1) (o := 0) (v := .int .i64 rx) (by simp [go_sem]) (by simp <;> omega) h1
    have c3 := cl_below (b := w.heap.size + 1) (o := 1) (v := .slice ra rn rc) (by simp [go_sem]) (by simp <;> omega) h1
    clear h1
    go_wp2_with fail
    refine (szRun_no _ _ _ _ _ (by omega) (by omega) (by omega) (by omega) _).mono ?_
    rintro e w2 ⟨rfl, h2⟩
    have hB2 : Below w.heap.size w w2 := ba (by go_grown) h2
    clear h2
    go_wp2_with fail
    go_ret
    exact ⟨rfl, hB2⟩
  have i5 : ¬ (1048576 : Int) - yn - ym - rn < 0 := by omega
  have Y1 := Lib.hid y1
  have Y2 := Lib.hid y2
  have Y5 := Lib.hid y5
  have Y6 := Lib.hid y6
  have R1 := Lib.hid r1
  have R3 := Lib.hid r3
  have SPC := Lib.hid (c1 (by omega) (by omega) (by omega))
  have IMC := Lib.hid (c2 (by omega) (by omega) (by omega))
  clear y1 y2 y5 y6 r1 r3 c1 c2
  go_enter Try.func12, Try.ntmps12
  go_wp2_with fail
  refine (szYard_fit _ _ _ _ _ _ _ (by decide) (by decide) fit _).mono ?_
  rintro e w1 ⟨rfl, k1⟩
  have B1 := Lib.hid (ba (by go_grown) k1 : Below w.heap.size w w1)
  have hs1 := k1.size
  try simp at hs1
  have l1_0 : w.heap.size < w1.heap.size := by omega
  have l1_1 : w.heap.size + 1 < w1.heap.size := by omega
  have c1_0 := cl_below (b := w.heap.size) (o := 0) (v := .slice ya yn yc) (by first | (with_reducible assumption) | (simp [go_sem, *]; done)) (by first | (with_reducible assumption) | (simp; done) | (simp <;> omega)) k1
  have c1_1 := cl_below (b := w.heap.size) (o := 1) (v := .slice yb ym yd) (by first | (with_reducible assumption) | (simp [go_sem, *]; done)) (by first | (with_reducible assumption) | (simp; done) | (simp <;> omega)) k1
  have c1_2 := cl_below (b := w.heap.size + 1) (o := 0) (v := .int .i64 rx) (by first | (with_reducible assumption) | (simp [go_sem, *]; done)) (by first | (with_reducible assumption) | (simp; done) | (simp <;> omega)) k1
  have c1_3 := cl_below (b := w.heap.size + 1) (o := 1) (v := .slice ra rn rc) (by first | (with_reducible assumption) | (simp [go_sem, *]; done)) (by first | (with_reducible assumption) | (simp; done) | (simp <;> omega)) k1
  clear k1
  go_wp2_with fail
  refine (szRun_fit _ _ _ _ _ (by omega) (by omega) fit2 _).mono ?_
  rintro e w2 ⟨rfl, k2⟩
  have B2 := Lib.hid (B1.out.trans ((ba (by go_grown) k2 : Below w1.heap.size w1 w2).mono B1.out.size))
  have hs2 := k2.size
  try simp at hs2
  have l2_0 : w.heap.size < w2.heap.size := by omega
  have l2_1 : w.heap.size + 1 < w2.heap.size := by omega
  have c2_0 := cl_below (b := w.heap.size) (o := 0) (v := .slice ya yn yc) (by first | (with_reducible assumption) | (simp [go_sem, *]; done)) (by first | (with_reducible assumption) | (simp; done) | (simp <;> omega)) k2
  have c2_1 := cl_below (b := w.heap.size) (o := 1) (v := .slice yb ym yd) (by first | (with_reducible assumption) | (simp [go_sem, *]; done)) (by first | (with_reducible assumption) | (simp; done) | (simp <;> omega)) k2
  have c2_2 := cl_below (b := w.heap.size + 1) (o := 0) (v := .int .i64 rx) (by first | (with_reducible assumption) | (simp [go_sem, *]; done)) (by first | (with_reducible assumption) | (simp; done) | (simp <;> omega)) k2
  have c2_3 := cl_below (b := w.heap.size + 1) (o := 1) (v := .slice ra rn rc) (by first | (with_reducible assumption) | (simp [go_sem, *]; done)) (by first | (with_reducible assumption) | (simp; done) | (simp <;> omega)) k2
  clear c1_0 c1_1 c1_2 c1_3 k2
  have TY := Lib.hid (fun w' (hw : Below w2.heap.size w2 w') => toYard_any ya yb yn yc ym yd yk yr Y1.out Y2.out (by omega) (by omega) w' w.heap.size (Nat.le_trans B2.out.size hw.size) (Y5.out.below (Nat.le_refl _) (B2.out.trans (hw.mono B2.out.size))) (Y6.out.below (Nat.le_refl _) (B2.out.trans (hw.mono B2.out.size))))
  have TR := Lib.hid (fun w' (hw : Below w2.heap.size w2 w') => toRun_any rx ra rn rc rs R1.out (by omega) w' w.heap.size (Nat.le_trans B2.out.size hw.size) (R3.out.below (Nat.le_refl _) (B2.out.trans (hw.mono B2.out.size))))
  go_upto_region 1 with fail
  have hS0 := And.intro c2_0 (And.intro c2_1 (And.intro c2_2 c2_3))
  go_cut [6, 7] (fun s6 s7 wx => s6 = .slice none 0 0 ∧ s7 = .bool bb ∧ (wx.cell? ⟨w.heap.size, 0, none⟩ = some (.slice ya yn yc) ∧ wx.cell? ⟨w.heap.size, 1, none⟩ = some (.slice yb ym yd) ∧ wx.cell? ⟨w.heap.size + 1, 0, none⟩ = some (.int .i64 rx) ∧ wx.cell? ⟨w.heap.size + 1, 1, none⟩ = some (.slice ra rn rc)) ∧ Below w2.heap.size w2 wx)
  case first =>
    go_region_held3 (fun w' => w'.cell? ⟨w.heap.size, 0, none⟩ = some (.slice ya yn yc) ∧ w'.cell? ⟨w.heap.size, 1, none⟩ = some (.slice yb ym yd) ∧ w'.cell? ⟨w.heap.size + 1, 0, none⟩ = some (.int .i64 rx) ∧ w'.cell? ⟨w.heap.size + 1, 1, none⟩ = some (.slice ra rn rc))
      (first | (with_reducible assumption) | (with_reducible exact yy_drew hS0) | (with_reducible exact yy_drew (yy_alloc hS0 _)) | (with_reducible exact yy_alloc (yy_drew hS0) _) | (with_reducible refine yy_drew ?_; with_reducible assumption) | (with_reducible refine yy_alloc ?_ _; with_reducible assumption) | (with_reducible refine yy_re (by with_reducible assumption) ?_ ?_ _; (focus first | (with_reducible assumption) | omega | (simp; done) | (simp; omega)); (focus first | (with_reducible assumption) | omega | (simp; done) | (simp; omega))) | (with_reducible refine yy_below ?_ ?_ ?_ h1; (focus first | (with_reducible assumption) | (with_reducible refine yy_undrew ?_; with_reducible assumption)); (focus first | (with_reducible assumption) | omega | (simp; done) | (simp; omega)); (focus first | (with_reducible assumption) | omega | (simp; done) | (simp; omega))) | ((repeat (with_reducible refine yy_set ?_ _ _ ?_ ?_; rotate_left 1; (focus first | (with_reducible assumption) | omega | (simp; done) | (simp; omega)); (focus first | (with_reducible assumption) | omega | (simp; done) | (simp; omega)))); with_reducible assumption))
      (first | (go_at_call 18; (with_reducible refine Calls.mono (TY.out _ ?_) ?_); (focus (go_grown; done)); rintro e wA ⟨gA, hA, rfl, _, _, rA, rB, h1⟩; (try with_reducible replace h1 := undrew h1); (try have QR := Lib.hid (QR.out.keep (ba (by go_grown) h1))); have hBwA : Below w2.heap.size w2 wA := ba (by go_grown) h1; obtain ⟨hcwA, hfwA⟩ := bcell h1; have hqwA := h1.size; (try simp at hqwA); have hz0wA : w.heap.size < wA.heap.size := (by omega); have he0wA : w.heap.size ≤ wA.heap.size := (by omega); have hz1wA : w.heap.size + 1 < wA.heap.size := (by omega); have he1wA : w.heap.size + 1 ≤ wA.heap.size := (by omega); (try have hywBwA : wB.heap.size < wA.heap.size := (by omega)); (try have hxwBwA : wB.heap.size ≤ wA.heap.size := (by omega)); (try have hywCwA : wC.heap.size < wA.heap.size := (by omega)); (try have hxwCwA : wC.heap.size ≤ wA.heap.size := (by omega)); (try have hywDwA : wD.heap.size < wA.heap.size := (by omega)); (try have hxwDwA : wD.heap.size ≤ wA.heap.size := (by omega)); (try have hywEwA : wE.heap.size < wA.heap.size := (by omega)); (try have hxwEwA : wE.heap.size ≤ wA.heap.size := (by omega)); have QA := Lib.hid rA; have QB := Lib.hid rB; clear rA rB) | (go_at_call 23; (with_reducible refine Calls.mono (TR.out _ ?_) ?_); (focus (go_grown; done)); rintro e wB ⟨gB, rfl, _, rC, h1⟩; (try with_reducible replace h1 := undrew h1); (try have QA := Lib.hid (QA.out.keep (ba (by go_grown) h1))); (try have QB := Lib.hid (QB.out.keep (ba (by go_grown) h1))); have hBwB : Below w2.heap.size w2 wB := ba (by go_grown) h1; obtain ⟨hcwB, hfwB⟩ := bcell h1; have hqwB := h1.size; (try simp at hqwB); have hz0wB : w.heap.size < wB.heap.size := (by omega); have he0wB : w.heap.size ≤ wB.heap.size := (by omega); have hz1wB : w.heap.size + 1 < wB.heap.size := (by omega); have he1wB : w.heap.size + 1 ≤ wB.heap.size := (by omega); (try have hywAwB : wA.heap.size < wB.heap.size := (by omega)); (try have hxwAwB : wA.heap.size ≤ wB.heap.size := (by omega)); (try have hywCwB : wC.heap.size < wB.heap.size := (by omega)); (try have hxwCwB : wC.heap.size ≤ wB.heap.size := (by omega)); (try have hywDwB : wD.heap.size < wB.heap.size := (by omega)); (try have hxwDwB : wD.heap.size ≤ wB.heap.size := (by omega)); (try have hywEwB : wE.heap.size < wB.heap.size := (by omega)); (try have hxwEwB : wE.heap.size ≤ wB.heap.size := (by omega)); have QR := Lib.hid rC; clear rC) | (go_at_call 46; (with_reducible refine Calls.mono (SPC.out _ _ _ _ ?_ ?_ ?_) ?_); (focus (exact QA.out.keep (by go_grown))); (focus (exact QB.out.keep (by go_grown))); (focus (exact QR.out.keep (by go_grown))); rintro e wC ⟨rfl, h1⟩; (try with_reducible replace h1 := undrew h1); have hBwC : Below w2.heap.size w2 wC := ba (by go_grown) h1; obtain ⟨hcwC, hfwC⟩ := bcell h1; have hqwC := h1.size; (try simp at hqwC); have hz0wC : w.heap.size < wC.heap.size := (by omega); have he0wC : w.heap.size ≤ wC.heap.size := (by omega); have hz1wC : w.heap.size + 1 < wC.heap.size := (by omega); have he1wC : w.heap.size + 1 ≤ wC.heap.size := (by omega); (try have hywAwC : wA.heap.size < wC.heap.size := (by omega)); (try have hxwAwC : wA.heap.size ≤ wC.heap.size := (by omega)); (try have hywBwC : wB.heap.size < wC.heap.size := (by omega)); (try have hxwBwC : wB.heap.size ≤ wC.heap.size := (by omega)); (try have hywDwC : wD.heap.size < wC.heap.size := (by omega)); (try have hxwDwC : wD.heap.size ≤ wC.heap.size := (by omega)); (try have hywEwC : wE.heap.size < wC.heap.size := (by omega)); (try have hxwEwC : wE.heap.size ≤ wC.heap.size := (by omega))))
    all_goals
      go_wp2_with fail
      go_meet
      exact ⟨rfl, rfl, by with_reducible assumption, by go_grown⟩
  case rest =>
  obtain ⟨rfl, rfl, ⟨q0, q1, q2, q3⟩, hcb⟩ := hcut
  have B3 := Lib.hid (B2.out.trans (hcb.mono B2.out.size))
  have hs3 := hcb.size
  have l3_0 : w.heap.size < wc.heap.size := by omega
  have l3_1 : w.heap.size + 1 < wc.heap.size := by omega
  have c3_0 := q0
  have c3_1 := q1
  have c3_2 := q2
  have c3_3 := q3
  clear q0 q1 q2 q3 hcb c2_0 c2_1 c2_2 c2_3
  go_wp2_with fail
  refine (toYard_any ya yb yn yc ym yd yk yr Y1.out Y2.out (by omega) (by omega) _ w.heap.size B3.out.size (Y5.out.below (Nat.le_refl _) B3.out) (Y6.out.below (Nat.le_refl _) B3.out)).mono ?_
  rintro e w4 ⟨gx, hx, rfl, glx, ghx, rxa, rxb, k4⟩
  have B4 := Lib.hid (B3.out.trans ((ba (by go_grown) k4 : Below wc.heap.size wc w4).mono B3.out.size))
  have hs4 := k4.size
  try simp at hs4
  have l4_0 : w.heap.size < w4.heap.size := by omega
  have l4_1 : w.heap.size + 1 < w4.heap.size := by omega
  have c4_0 := cl_below (b := w.heap.size) (o := 0) (v := .slice ya yn yc) (by first | (with_reducible assumption) | (simp [go_sem, *]; done)) (by first | (with_reducible assumption) | (simp; done) | (simp <;> omega)) k4
  have c4_1 := cl_below (b := w.heap.size) (o := 1) (v := .slice yb ym yd) (by first | (with_reducible assumption) | (simp [go_sem, *]; done)) (by first | (with_reducible assumption) | (simp; done) | (simp <;> omega)) k4
  have c4_2 := cl_below (b := w.heap.size + 1) (o := 0) (v := .int .i64 rx) (by first | (with_reducible assumption) | (simp [go_sem, *]; done)) (by first | (with_reducible assumption) | (simp; done) | (simp <;> omega)) k4
  have c4_3 := cl_below (b := w.heap.size + 1) (o := 1) (v := .slice ra rn rc) (by first | (with_reducible assumption) | (simp [go_sem, *]; done)) (by first | (with_reducible assumption) | (simp; done) | (simp <;> omega)) k4
  have lx := rxb.lt
  have XA := Lib.hid rxa
  have XB := Lib.hid rxb
  clear rxa rxb
  clear c3_0 c3_1 c3_2 c3_3 k4
  go_wp2_with fail
  refine (toRun_any rx ra rn rc rs R1.out (by omega) _ w.heap.size (Nat.le_trans B4.out.size (by simp)) (R3.out.below (Nat.le_refl _) (B4.out.trans (Below.mono (by go_grown : Below w4.heap.size w4 _) B4.out.size)))).mono ?_
  rintro e w5 ⟨gr, rfl, glr, rxc, k5⟩
  have B5 := Lib.hid (B4.out.trans ((ba (by go_grown) k5 : Below w4.heap.size w4 w5).mono B4.out.size))
  have hs5 := k5.size
  try simp at hs5
  have l5_0 : w.heap.size < w5.heap.size := by omega
  have l5_1 : w.heap.size + 1 < w5.heap.size := by omega
  have l5_2 : w4.heap.size < w5.heap.size := by omega
  have c5_0 := cl_below (b := w.heap.size) (o := 0) (v := .slice ya yn yc) (by first | (with_reducible assumption) | (simp [go_sem, *]; done)) (by first | (with_reducible assumption) | (simp; done) | (simp <;> omega)) k5
  have c5_1 := cl_below (b := w.heap.size) (o := 1) (v := .slice yb ym yd) (by first | (with_reducible assumption) | (simp [go_sem, *]; done)) (by first | (with_reducible assumption) | (simp; done) | (simp <;> omega)) k5
  have c5_2 := cl_below (b := w.heap.size + 1) (o := 0) (v := .int .i64 rx) (by first | (with_reducible assumption) | (simp [go_sem, *]; done)) (by first | (with_reducible assumption) | (simp; done) | (simp <;> omega)) k5
  have c5_3 := cl_below (b := w.heap.size + 1) (o := 1) (v := .slice ra rn rc) (by first | (with_reducible assumption) | (simp [go_sem, *]; done)) (by first | (with_reducible assumption) | (simp; done) | (simp <;> omega)) k5
  have c5_4 := cl_below (b := w4.heap.size) (o := 0) (v := .slice (some ⟨gx, 0, none⟩) yn yn) (by first | (with_reducible assumption) | (simp [go_sem, *]; done)) (by first | (with_reducible assumption) | (simp; done) | (simp <;> omega)) k5
  have c5_5 := cl_below (b := w4.heap.size) (o := 1) (v := .slice (some ⟨hx, 0, none⟩) ym ym) (by first | (with_reducible assumption) | (simp [go_sem, *]; done)) (by first | (with_reducible assumption) | (simp; done) | (simp <;> omega)) k5
  have XA := Lib.hid (XA.out.keep (ba (by go_grown) k5 : Below w4.heap.size w4 w5))
  have XB := Lib.hid (XB.out.keep (ba (by go_grown) k5 : Below w4.heap.size w4 w5))
  have lr := rxc.lt
  have XR := Lib.hid rxc
  clear rxc
  try simp at glr
  clear c4_0 c4_1 c4_2 c4_3 k5
  go_wp2_with fail
  refine (IMC.out gx hx gr _ (XA.out.keep (by go_grown)) (XB.out.keep (by go_grown)) (XR.out.keep (by go_grown))).mono ?_
  rintro e w6 ⟨rfl, k6⟩
  have B6 := Lib.hid (B5.out.trans ((ba (by go_grown) k6 : Below w5.heap.size w5 w6).mono B5.out.size))
  have hs6 := k6.size
  try simp at hs6
  have l6_0 : w.heap.size < w6.heap.size := by omega
  have l6_1 : w.heap.size + 1 < w6.heap.size := by omega
  have l6_2 : w4.heap.size < w6.heap.size := by omega
  have l6_3 : w5.heap.size < w6.heap.size := by omega
  have c6_0 := cl_below (b := w.heap.size) (o := 0) (v := .slice ya yn yc) (by first | (with_reducible assumption) | (simp [go_sem, *]; done)) (by first | (with_reducible assumption) | (simp; done) | (simp <;> omega)) k6
  have c6_1 := cl_below (b := w.heap.size) (o := 1) (v := .slice yb ym yd) (by first | (with_reducible assumption) | (simp [go_sem, *]; done)) (by first | (with_reducible assumption) | (simp; done) | (simp <;> omega)) k6
  have c6_2 := cl_below (b := w.heap.size + 1) (o := 0) (v := .int .i64 rx) (by first | (with_reducible assumption) | (simp [go_sem, *]; done)) (by first | (with_reducible assumption) | (simp; done) | (simp <;> omega)) k6
  have c6_3 := cl_below (b := w.heap.size + 1) (o := 1) (v := .slice ra rn rc) (by first | (with_reducible assumption) | (simp [go_sem, *]; done)) (by first | (with_reducible assumption) | (simp; done) | (simp <;> omega)) k6
  have c6_4 := cl_below (b := w4.heap.size) (o := 0) (v := .slice (some ⟨gx, 0, none⟩) yn yn) (by first | (with_reducible assumption) | (simp [go_sem, *]; done)) (by first | (with_reducible assumption) | (simp; done) | (simp <;> omega)) k6
  have c6_5 := cl_below (b := w4.heap.size) (o := 1) (v := .slice (some ⟨hx, 0, none⟩) ym ym) (by first | (with_reducible assumption) | (simp [go_sem, *]; done)) (by first | (with_reducible assumption) | (simp; done) | (simp <;> omega)) k6
  have c6_6 := cl_below (b := w5.heap.size) (o := 0) (v := .int .i64 rx) (by first | (with_reducible assumption) | (simp [go_sem, *]; done)) (by first | (with_reducible assumption) | (simp; done) | (simp <;> omega)) k6
  have c6_7 := cl_below (b := w5.heap.size) (o := 1) (v := .slice (some ⟨gr, 0, none⟩) rn rn) (by first | (with_reducible assumption) | (simp [go_sem, *]; done)) (by first | (with_reducible assumption) | (simp; done) | (simp <;> omega)) k6
  have XA := Lib.hid (XA.out.keep (ba (by go_grown) k6 : Below w5.heap.size w5 w6))
  have XB := Lib.hid (XB.out.keep (ba (by go_grown) k6 : Below w5.heap.size w5 w6))
  have XR := Lib.hid (XR.out.keep (ba (by go_grown) k6 : Below w5.heap.size w5 w6))
  clear c5_0 c5_1 c5_2 c5_3 c5_4 c5_5 k6
  go_wp2_with fail
  refine (eqRunS_zero _).mono ?_
  rintro e w' ⟨rfl, rfl⟩
  go_upto_region 1 with fail
  have hS0 := And.intro c6_4 (And.intro c6_5 (And.intro c6_0 c6_1))
  have TY := Lib.hid (fun w' (hw : Below w6.heap.size w6 w') => toYard_any ya yb yn yc ym yd yk yr Y1.out Y2.out (by omega) (by omega) w' w.heap.size (Nat.le_trans B6.out.size hw.size) (Y5.out.below (Nat.le_refl _) (B6.out.trans (hw.mono B6.out.size))) (Y6.out.below (Nat.le_refl _) (B6.out.trans (hw.mono B6.out.size))))
  have TR := Lib.hid (fun w' (hw : Below w6.heap.size w6 w') => toRun_any rx ra rn rc rs R1.out (by omega) w' w.heap.size (Nat.le_trans B6.out.size hw.size) (R3.out.below (Nat.le_refl _) (B6.out.trans (hw.mono B6.out.size))))
  have EY := Lib.hid (fun g h w' (hw : Below w6.heap.size w6 w') (q1 : RL w' g yn yk) (q2 : RL w' h ym yr) => eqYard_same gx yn hx ym g yn h ym yn ym yk yr Y1.out Y2.out (by omega) (by omega) w' (XA.out.keep hw) (XB.out.keep hw) q1 q2)
  go_region_held3 (fun w' => w'.cell? ⟨w4.heap.size, 0, none⟩ = some (.slice (some ⟨gx, 0, none⟩) yn yn) ∧ w'.cell? ⟨w4.heap.size, 1, none⟩ = some (.slice (some ⟨hx, 0, none⟩) ym ym) ∧ w'.cell? ⟨w.heap.size, 0, none⟩ = some (.slice ya yn yc) ∧ w'.cell? ⟨w.heap.size, 1, none⟩ = some (.slice yb ym yd))
    (first | (with_reducible assumption) | (with_reducible exact yy_drew hS0) | (with_reducible exact yy_drew (yy_alloc hS0 _)) | (with_reducible exact yy_alloc (yy_drew hS0) _) | (with_reducible refine yy_drew ?_; with_reducible assumption) | (with_reducible refine yy_alloc ?_ _; with_reducible assumption) | (with_reducible refine yy_re (by with_reducible assumption) ?_ ?_ _; (focus first | (with_reducible assumption) | omega | (simp; done) | (simp; omega)); (focus first | (with_reducible assumption) | omega | (simp; done) | (simp; omega))) | (with_reducible refine yy_below ?_ ?_ ?_ h1; (focus first | (with_reducible assumption) | (with_reducible refine yy_undrew ?_; with_reducible assumption)); (focus first | (with_reducible assumption) | omega | (simp; done) | (simp; omega)); (focus first | (with_reducible assumption) | omega | (simp; done) | (simp; omega))) | ((repeat (with_reducible refine yy_set ?_ _ _ ?_ ?_; rotate_left 1; (focus first | (with_reducible assumption) | omega | (simp; done) | (simp; omega)); (focus first | (with_reducible assumption) | omega | (simp; done) | (simp; omega)))); with_reducible assumption))
    (first | (go_at_call 18; (with_reducible refine Calls.mono (TY.out _ ?_) ?_); (focus (go_grown; done)); rintro e wA ⟨gA, hA, rfl, _, _, rA, rB, h1⟩; (try with_reducible replace h1 := undrew h1); (try have QR := Lib.hid (QR.out.keep (ba (by go_grown) h1))); have hBwA : Below w6.heap.size w6 wA := ba (by go_grown) h1; obtain ⟨hcwA, hfwA⟩ := bcell h1; have hqwA := h1.size; (try simp at hqwA); have hz0wA : w4.heap.size < wA.heap.size := (by omega); have he0wA : w4.heap.size ≤ wA.heap.size := (by omega); have hz1wA : w.heap.size < wA.heap.size := (by omega); have he1wA : w.heap.size ≤ wA.heap.size := (by omega); (try have hywBwA : wB.heap.size < wA.heap.size := (by omega)); (try have hxwBwA : wB.heap.size ≤ wA.heap.size := (by omega)); (try have hywCwA : wC.heap.size < wA.heap.size := (by omega)); (try have hxwCwA : wC.heap.size ≤ wA.heap.size := (by omega)); (try have hywDwA : wD.heap.size < wA.heap.size := (by omega)); (try have hxwDwA : wD.heap.size ≤ wA.heap.size := (by omega)); (try have hywEwA : wE.heap.size < wA.heap.size := (by omega)); (try have hxwEwA : wE.heap.size ≤ wA.heap.size := (by omega)); have QA := Lib.hid rA; have QB := Lib.hid rB; clear rA rB) | (go_at_call 20; (with_reducible refine Calls.mono (EY.out _ _ _ ?_ ?_ ?_) ?_); (focus (go_grown; done)); (focus (exact QA.out.keep (by go_grown))); (focus (exact QB.out.keep (by go_grown))); rintro e wC ⟨rfl, h1⟩; (try with_reducible replace h1 := undrew h1); have hBwC : Below w6.heap.size w6 wC := ba (by go_grown) h1; obtain ⟨hcwC, hfwC⟩ := bcell h1; have hqwC := h1.size; (try simp at hqwC); have hz0wC : w4.heap.size < wC.heap.size := (by omega); have he0wC : w4.heap.size ≤ wC.heap.size := (by omega); have hz1wC : w.heap.size < wC.heap.size := (by omega); have he1wC : w.heap.size ≤ wC.heap.size := (by omega); (try have hywAwC : wA.heap.size < wC.heap.size := (by omega)); (try have hxwAwC : wA.heap.size ≤ wC.heap.size := (by omega)); (try have hywBwC : wB.heap.size < wC.heap.size := (by omega)); (try have hxwBwC : wB.heap.size ≤ wC.heap.size := (by omega)); (try have hywDwC : wD.heap.size < wC.heap.size := (by omega)); (try have hxwDwC : wD.heap.size ≤ wC.heap.size := (by omega)); (try have hywEwC : wE.heap.size < wC.heap.size := (by omega)); (try have hxwEwC : wE.heap.size ≤ wC.heap.size := (by omega))))
  have B7 := Lib.hid (B6.out.trans (hBwC.mono B6.out.size))
  have hs7 := hBwC.size
  have l7_0 : w.heap.size < wC.heap.size := by omega
  have l7_1 : w.heap.size + 1 < wC.heap.size := by omega
  have l7_2 : w4.heap.size < wC.heap.size := by omega
  have l7_3 : w5.heap.size < wC.heap.size := by omega
  have c7_0 := cl_below c6_0 l6_0 hBwC
  have c7_1 := cl_below c6_1 l6_0 hBwC
  have c7_2 := cl_below c6_2 l6_1 hBwC
  have c7_3 := cl_below c6_3 l6_1 hBwC
  have c7_4 := cl_below c6_4 l6_2 hBwC
  have c7_5 := cl_below c6_5 l6_2 hBwC
  have c7_6 := cl_below c6_6 l6_3 hBwC
  have c7_7 := cl_below c6_7 l6_3 hBwC
  have XA := Lib.hid (XA.out.keep hBwC)
  have XB := Lib.hid (XB.out.keep hBwC)
  have XR := Lib.hid (XR.out.keep hBwC)
  clear hS0 h1 hcwA hfwA hcwC hfwC hBwA hBwC c6_0 c6_1 c6_2 c6_3 c6_4 c6_5 c6_6 c6_7
  try clear QA QB
  go_upto_region 1 with fail
  have hS0 := And.intro c7_6 (And.intro c7_7 (And.intro c7_2 c7_3))
  have TY := Lib.hid (fun w' (hw : Below wC.heap.size wC w') => toYard_any ya yb yn yc ym yd yk yr Y1.out Y2.out (by omega) (by omega) w' w.heap.size (Nat.le_trans B7.out.size hw.size) (Y5.out.below (Nat.le_refl _) (B7.out.trans (hw.mono B7.out.size))) (Y6.out.below (Nat.le_refl _) (B7.out.trans (hw.mono B7.out.size))))
  have TR := Lib.hid (fun w' (hw : Below wC.heap.size wC w') => toRun_any rx ra rn rc rs R1.out (by omega) w' w.heap.size (Nat.le_trans B7.out.size hw.size) (R3.out.below (Nat.le_refl _) (B7.out.trans (hw.mono B7.out.size))))
  have ER := Lib.hid (fun g w' (hw : Below wC.heap.size wC w') (q1 : RL w' g rn rs) => eqRun_same rx gr rn g rn rn rs R1.out (by omega) w' (XR.out.keep hw) q1)
  go_region_held3 (fun w' => w'.cell? ⟨w5.heap.size, 0, none⟩ = some (.int .i64 rx) ∧ w'.cell? ⟨w5.heap.size, 1, none⟩ = some (.slice (some ⟨gr, 0, none⟩) rn rn) ∧ w'.cell? ⟨w.heap.size + 1, 0, none⟩ = some (.int .i64 rx) ∧ w'.cell? ⟨w.heap.size + 1, 1, none⟩ = some (.slice ra rn rc))
    (first | (with_reducible assumption) | (with_reducible exact yy_drew hS0) | (with_reducible exact yy_drew (yy_alloc hS0 _)) | (with_reducible exact yy_alloc (yy_drew hS0) _) | (with_reducible refine yy_drew ?_; with_reducible assumption) | (with_reducible refine yy_alloc ?_ _; with_reducible assumption) | (with_reducible refine yy_re (by with_reducible assumption) ?_ ?_ _; (focus first | (with_reducible assumption) | omega | (simp; done) | (simp; omega)); (focus first | (with_reducible assumption) | omega | (simp; done) | (simp; omega))) | (with_reducible refine yy_below ?_ ?_ ?_ h1; (focus first | (with_reducible assumption) | (with_reducible refine yy_undrew ?_; with_reducible assumption)); (focus first | (with_reducible assumption) | omega | (simp; done) | (simp; omega)); (focus first | (with_reducible assumption) | omega | (simp; done) | (simp; omega))) | ((repeat (with_reducible refine yy_set ?_ _ _ ?_ ?_; rotate_left 1; (focus first | (with_reducible assumption) | omega | (simp; done) | (simp; omega)); (focus first | (with_reducible assumption) | omega | (simp; done) | (simp; omega)))); with_reducible assumption))
    (first | (go_at_call 23; (with_reducible refine Calls.mono (TR.out _ ?_) ?_); (focus (go_grown; done)); rintro e wB ⟨gB, rfl, _, rC, h1⟩; (try with_reducible replace h1 := undrew h1); (try have QA := Lib.hid (QA.out.keep (ba (by go_grown) h1))); (try have QB := Lib.hid (QB.out.keep (ba (by go_grown) h1))); have hBwB : Below wC.heap.size wC wB := ba (by go_grown) h1; obtain ⟨hcwB, hfwB⟩ := bcell h1; have hqwB := h1.size; (try simp at hqwB); have hz0wB : w5.heap.size < wB.heap.size := (by omega); have he0wB : w5.heap.size ≤ wB.heap.size := (by omega); have hz1wB : w.heap.size + 1 < wB.heap.size := (by omega); have he1wB : w.heap.size + 1 ≤ wB.heap.size := (by omega); (try have hywAwB : wA.heap.size < wB.heap.size := (by omega)); (try have hxwAwB : wA.heap.size ≤ wB.heap.size := (by omega)); (try have hywCwB : wC.heap.size < wB.heap.size := (by omega)); (try have hxwCwB : wC.heap.size ≤ wB.heap.size := (by omega)); (try have hywDwB : wD.heap.size < wB.heap.size := (by omega)); (try have hxwDwB : wD.heap.size ≤ wB.heap.size := (by omega)); (try have hywEwB : wE.heap.size < wB.heap.size := (by omega)); (try have hxwEwB : wE.heap.size ≤ wB.heap.size := (by omega)); have QR := Lib.hid rC; clear rC) | (go_at_call 25; (with_reducible refine Calls.mono (ER.out _ _ ?_ ?_) ?_); (focus (go_grown; done)); (focus (exact QR.out.keep (by go_grown))); rintro e wD ⟨rfl, h1⟩; (try with_reducible replace h1 := undrew h1); have hBwD : Below wC.heap.size wC wD := ba (by go_grown) h1; obtain ⟨hcwD, hfwD⟩ := bcell h1; have hqwD := h1.size; (try simp at hqwD); have hz0wD : w5.heap.size < wD.heap.size := (by omega); have he0wD : w5.heap.size ≤ wD.heap.size := (by omega); have hz1wD : w.heap.size + 1 < wD.heap.size := (by omega); have he1wD : w.heap.size + 1 ≤ wD.heap.size := (by omega); (try have hywAwD : wA.heap.size < wD.heap.size := (by omega)); (try have hxwAwD : wA.heap.size ≤ wD.heap.size := (by omega)); (try have hywBwD : wB.heap.size < wD.heap.size := (by omega)); (try have hxwBwD : wB.heap.size ≤ wD.heap.size := (by omega)); (try have hywCwD : wC.heap.size < wD.heap.size := (by omega)); (try have hxwCwD : wC.heap.size ≤ wD.heap.size := (by omega)); (try have hywEwD : wE.heap.size < wD.heap.size := (by omega)); (try have hxwEwD : wE.heap.size ≤ wD.heap.size := (by omega))))
  have B8 := Lib.hid (B7.out.trans (hBwD.mono B7.out.size))
  have hs8 := hBwD.size
  have l8_0 : w.heap.size < wD.heap.size := by omega
  have l8_1 : w.heap.size + 1 < wD.heap.size := by omega
  have l8_2 : w4.heap.size < wD.heap.size := by omega
  have l8_3 : w5.heap.size < wD.heap.size := by omega
  have c8_0 := cl_below c7_0 l7_0 hBwD
  have c8_1 := cl_below c7_1 l7_0 hBwD
  have c8_2 := cl_below c7_2 l7_1 hBwD
  have c8_3 := cl_below c7_3 l7_1 hBwD
  have c8_4 := cl_below c7_4 l7_2 hBwD
  have c8_5 := cl_below c7_5 l7_2 hBwD
  have c8_6 := cl_below c7_6 l7_3 hBwD
  have c8_7 := cl_below c7_7 l7_3 hBwD
  have XA := Lib.hid (XA.out.keep hBwD)
  have XB := Lib.hid (XB.out.keep hBwD)
  have XR := Lib.hid (XR.out.keep hBwD)
  clear hS0 h1 hcwB hfwB hcwD hfwD hBwB hBwD c7_0 c7_1 c7_2 c7_3 c7_4 c7_5 c7_6 c7_7
  try clear QR
  go_wp2_with fail
  refine (markYard_at gx yn hx ym yn ym 1 yk yr Y1.out Y2.out (by omega) (by omega) (by decide) (by decide) (by omega) _ XA.out XB.out).mono ?_
  rintro e w9 ⟨rfl, rma, rmb, k9⟩
  have B9 := Lib.hid (B8.out.trans (k9.below (N := w.heap.size) B8.out.size (by omega) (by omega)))
  have hs9 := k9.size
  have l9_0 : w.heap.size < w9.heap.size := by omega
  have l9_1 : w.heap.size + 1 < w9.heap.size := by omega
  have l9_2 : w4.heap.size < w9.heap.size := by omega
  have l9_3 : w5.heap.size < w9.heap.size := by omega
  have c9_0 := (k9.cell (a := ⟨w.heap.size, 0, none⟩) (by show w.heap.size < _; omega) (by show w.heap.size ≠ _; omega) (by show w.heap.size ≠ _; omega)).trans c8_0
  have c9_1 := (k9.cell (a := ⟨w.heap.size, 1, none⟩) (by show w.heap.size < _; omega) (by show w.heap.size ≠ _; omega) (by show w.heap.size ≠ _; omega)).trans c8_1
  have c9_2 := (k9.cell (a := ⟨w.heap.size + 1, 0, none⟩) (by show w.heap.size + 1 < _; omega) (by show w.heap.size + 1 ≠ _; omega) (by show w.heap.size + 1 ≠ _; omega)).trans c8_2
  have c9_3 := (k9.cell (a := ⟨w.heap.size + 1, 1, none⟩) (by show w.heap.size + 1 < _; omega) (by show w.heap.size + 1 ≠ _; omega) (by show w.heap.size + 1 ≠ _; omega)).trans c8_3
  have c9_4 := (k9.cell (a := ⟨w4.heap.size, 0, none⟩) (by show w4.heap.size < _; omega) (by show w4.heap.size ≠ _; omega) (by show w4.heap.size ≠ _; omega)).trans c8_4
  have c9_5 := (k9.cell (a := ⟨w4.heap.size, 1, none⟩) (by show w4.heap.size < _; omega) (by show w4.heap.size ≠ _; omega) (by show w4.heap.size ≠ _; omega)).trans c8_5
  have c9_6 := (k9.cell (a := ⟨w5.heap.size, 0, none⟩) (by show w5.heap.size < _; omega) (by show w5.heap.size ≠ _; omega) (by show w5.heap.size ≠ _; omega)).trans c8_6
  have c9_7 := (k9.cell (a := ⟨w5.heap.size, 1, none⟩) (by show w5.heap.size < _; omega) (by show w5.heap.size ≠ _; omega) (by show w5.heap.size ≠ _; omega)).trans c8_7
  have XR := Lib.hid (XR.out.apart k9 (by omega) (by omega))
  clear rma rmb XA XB
  clear c8_0 c8_1 c8_2 c8_3 c8_4 c8_5 c8_6 c8_7 k9
  go_wp2_with fail
  refine (markRun_at rx gr rn rn (1 + (yn : Int) + ym) rs R1.out (by omega) (by omega) (by omega) gr _ XR.out).mono ?_
  rintro e w10 ⟨rfl, rmc, k10⟩
  have B10 := Lib.hid (B9.out.trans (k10.below (N := w.heap.size) B9.out.size (by omega) (by omega)))
  have hs10 := k10.size
  have l10_0 : w.heap.size < w10.heap.size := by omega
  have l10_1 : w.heap.size + 1 < w10.heap.size := by omega
  have l10_2 : w4.heap.size < w10.heap.size := by omega
  have l10_3 : w5.heap.size < w10.heap.size := by omega
  have c10_0 := (k10.cell (a := ⟨w.heap.size, 0, none⟩) (by show w.heap.size < _; omega) (by show w.heap.size ≠ _; omega) (by show w.heap.size ≠ _; omega)).trans c9_0
  have c10_1 := (k10.cell (a := ⟨w.heap.size, 1, none⟩) (by show w.heap.size < _; omega) (by show w.heap.size ≠ _; omega) (by show w.heap.size ≠ _; omega)).trans c9_1
  have c10_2 := (k10.cell (a := ⟨w.heap.size + 1, 0, none⟩) (by show w.heap.size + 1 < _; omega) (by show w.heap.size + 1 ≠ _; omega) (by show w.heap.size + 1 ≠ _; omega)).trans c9_2
  have c10_3 := (k10.cell (a := ⟨w.heap.size + 1, 1, none⟩) (by show w.heap.size + 1 < _; omega) (by show w.heap.size + 1 ≠ _; omega) (by show w.heap.size + 1 ≠ _; omega)).trans c9_3
  have c10_4 := (k10.cell (a := ⟨w4.heap.size, 0, none⟩) (by show w4.heap.size < _; omega) (by show w4.heap.size ≠ _; omega) (by show w4.heap.size ≠ _; omega)).trans c9_4
  have c10_5 := (k10.cell (a := ⟨w4.heap.size, 1, none⟩) (by show w4.heap.size < _; omega) (by show w4.heap.size ≠ _; omega) (by show w4.heap.size ≠ _; omega)).trans c9_5
  have c10_6 := (k10.cell (a := ⟨w5.heap.size, 0, none⟩) (by show w5.heap.size < _; omega) (by show w5.heap.size ≠ _; omega) (by show w5.heap.size ≠ _; omega)).trans c9_6
  have c10_7 := (k10.cell (a := ⟨w5.heap.size, 1, none⟩) (by show w5.heap.size < _; omega) (by show w5.heap.size ≠ _; omega) (by show w5.heap.size ≠ _; omega)).trans c9_7
  clear rmc XR
  clear c9_0 c9_1 c9_2 c9_3 c9_4 c9_5 c9_6 c9_7 k10
  have i6 : ¬ (1 : Int) + yn + ym + rn < 0 := by omega
  go_wp2_with fail
  refine (eqRunS_zero _).mono ?_
  rintro e w' ⟨rfl, rfl⟩
  go_wp2_with fail
  refine (markRunS_zero _).mono ?_
  rintro e w' ⟨rfl, rfl⟩
  go_wp2_with fail
  refine (heldRunS_zero _).mono ?_
  rintro e w' ⟨rfl, rfl⟩
  have TY := Lib.hid (fun w' (hw : Below w10.heap.size w10 w') => toYard_any ya yb yn yc ym yd yk yr Y1.out Y2.out (by omega) (by omega) w' w.heap.size (Nat.le_trans B10.out.size hw.size) (Y5.out.below (Nat.le_refl _) (B10.out.trans (hw.mono B10.out.size))) (Y6.out.below (Nat.le_refl _) (B10.out.trans (hw.mono B10.out.size))))
  have TR := Lib.hid (fun w' (hw : Below w10.heap.size w10 w') => toRun_any rx ra rn rc rs R1.out (by omega) w' w.heap.size (Nat.le_trans B10.out.size hw.size) (R3.out.below (Nat.le_refl _) (B10.out.trans (hw.mono B10.out.size))))
  go_upto_region 1 with fail
  have hS0 := And.intro c10_0 (And.intro c10_1 (And.intro c10_2 c10_3))
  go_region_held3 (fun w' => w'.cell? ⟨w.heap.size, 0, none⟩ = some (.slice ya yn yc) ∧ w'.cell? ⟨w.heap.size, 1, none⟩ = some (.slice yb ym yd) ∧ w'.cell? ⟨w.heap.size + 1, 0, none⟩ = some (.int .i64 rx) ∧ w'.cell? ⟨w.heap.size + 1, 1, none⟩ = some (.slice ra rn rc))
    (first | (with_reducible assumption) | (with_reducible exact yy_drew hS0) | (with_reducible exact yy_drew (yy_alloc hS0 _)) | (with_reducible exact yy_alloc (yy_drew hS0) _) | (with_reducible refine yy_drew ?_; with_reducible assumption) | (with_reducible refine yy_alloc ?_ _; with_reducible assumption) | (with_reducible refine yy_re (by with_reducible assumption) ?_ ?_ _; (focus first | (with_reducible assumption) | omega | (simp; done) | (simp; omega)); (focus first | (with_reducible assumption) | omega | (simp; done) | (simp; omega))) | (with_reducible refine yy_below ?_ ?_ ?_ h1; (focus first | (with_reducible assumption) | (with_reducible refine yy_undrew ?_; with_reducible assumption)); (focus first | (with_reducible assumption) | omega | (simp; done) | (simp; omega)); (focus first | (with_reducible assumption) | omega | (simp; done) | (simp; omega))) | ((repeat (with_reducible refine yy_set ?_ _ _ ?_ ?_; rotate_left 1; (focus first | (with_reducible assumption) | omega | (simp; done) | (simp; omega)); (focus first | (with_reducible assumption) | omega | (simp; done) | (simp; omega)))); with_reducible assumption))
    (first | (go_at_call 18; (with_reducible refine Calls.mono (TY.out _ ?_) ?_); (focus (go_grown; done)); rintro e wA ⟨gA, hA, rfl, _, _, rA, rB, h1⟩; (try with_reducible replace h1 := undrew h1); (try have QR := Lib.hid (QR.out.keep (ba (by go_grown) h1))); have hBwA : Below w10.heap.size w10 wA := ba (by go_grown) h1; obtain ⟨hcwA, hfwA⟩ := bcell h1; have hqwA := h1.size; (try simp at hqwA); have hz0wA : w.heap.size < wA.heap.size := (by omega); have he0wA : w.heap.size ≤ wA.heap.size := (by omega); have hz1wA : w.heap.size + 1 < wA.heap.size := (by omega); have he1wA : w.heap.size + 1 ≤ wA.heap.size := (by omega); (try have hywBwA : wB.heap.size < wA.heap.size := (by omega)); (try have hxwBwA : wB.heap.size ≤ wA.heap.size := (by omega)); (try have hywCwA : wC.heap.size < wA.heap.size := (by omega)); (try have hxwCwA : wC.heap.size ≤ wA.heap.size := (by omega)); (try have hywDwA : wD.heap.size < wA.heap.size := (by omega)); (try have hxwDwA : wD.heap.size ≤ wA.heap.size := (by omega)); (try have hywEwA : wE.heap.size < wA.heap.size := (by omega)); (try have hxwEwA : wE.heap.size ≤ wA.heap.size := (by omega)); have QA := Lib.hid rA; have QB := Lib.hid rB; clear rA rB) | (go_at_call 23; (with_reducible refine Calls.mono (TR.out _ ?_) ?_); (focus (go_grown; done)); rintro e wB ⟨gB, rfl, _, rC, h1⟩; (try with_reducible replace h1 := undrew h1); (try have QA := Lib.hid (QA.out.keep (ba (by go_grown) h1))); (try have QB := Lib.hid (QB.out.keep (ba (by go_grown) h1))); have hBwB : Below w10.heap.size w10 wB := ba (by go_grown) h1; obtain ⟨hcwB, hfwB⟩ := bcell h1; have hqwB := h1.size; (try simp at hqwB); have hz0wB : w.heap.size < wB.heap.size := (by omega); have he0wB : w.heap.size ≤ wB.heap.size := (by omega); have hz1wB : w.heap.size + 1 < wB.heap.size := (by omega); have he1wB : w.heap.size + 1 ≤ wB.heap.size := (by omega); (try have hywAwB : wA.heap.size < wB.heap.size := (by omega)); (try have hxwAwB : wA.heap.size ≤ wB.heap.size := (by omega)); (try have hywCwB : wC.heap.size < wB.heap.size := (by omega)); (try have hxwCwB : wC.heap.size ≤ wB.heap.size := (by omega)); (try have hywDwB : wD.heap.size < wB.heap.size := (by omega)); (try have hxwDwB : wD.heap.size ≤ wB.heap.size := (by omega)); (try have hywEwB : wE.heap.size < wB.heap.size := (by omega)); (try have hxwEwB : wE.heap.size ≤ wB.heap.size := (by omega)); have QR := Lib.hid rC; clear rC) | (go_at_call 47; (with_reducible refine Calls.mono (IMC.out _ _ _ _ ?_ ?_ ?_) ?_); (focus (exact QA.out.keep (by go_grown))); (focus (exact QB.out.keep (by go_grown))); (focus (exact QR.out.keep (by go_grown))); rintro e wE ⟨rfl, h1⟩; (try with_reducible replace h1 := undrew h1); have hBwE : Below w10.heap.size w10 wE := ba (by go_grown) h1; obtain ⟨hcwE, hfwE⟩ := bcell h1; have hqwE := h1.size; (try simp at hqwE); have hz0wE : w.heap.size < wE.heap.size := (by omega); have he0wE : w.heap.size ≤ wE.heap.size := (by omega); have hz1wE : w.heap.size + 1 < wE.heap.size := (by omega); have he1wE : w.heap.size + 1 ≤ wE.heap.size := (by omega); (try have hywAwE : wA.heap.size < wE.heap.size := (by omega)); (try have hxwAwE : wA.heap.size ≤ wE.heap.size := (by omega)); (try have hywBwE : wB.heap.size < wE.heap.size := (by omega)); (try have hxwBwE : wB.heap.size ≤ wE.heap.size := (by omega)); (try have hywCwE : wC.heap.size < wE.heap.size := (by omega)); (try have hxwCwE : wC.heap.size ≤ wE.heap.size := (by omega)); (try have hywDwE : wD.heap.size < wE.heap.size := (by omega)); (try have hxwDwE : wD.heap.size ≤ wE.heap.size := (by omega))))
  all_goals
    have BE := Lib.hid (B10.out.trans (hBwE.mono B10.out.size))
    clear hS0 h1 hcwA hfwA hcwB hfwB hcwE hfwE hBwA hBwB hBwE QA QB QR c10_0 c10_1 c10_2 c10_3 c10_4 c10_5 c10_6 c10_7
    go_wp2_with fail
    refine (eqRunS_zero _).mono ?_
    rintro e w' ⟨rfl, rfl⟩
    go_wp2_with fail
    refine (heldRunS_zero _).mono ?_
    rintro e w' ⟨rfl, rfl⟩
    go_wp2_with fail
    go_ret
    exact ⟨rfl, BE.out⟩

set_option maxRecDepth 100000 in
set_option maxHeartbeats 6400000 in
theorem walk_yes (w : World) (ya yb : Option Addr) (yn yc ym yd : Nat) (yk yr : List Int) (y1 : yk.length = yn) (y2 : yr.length = ym) (y3 : yn ≤ maxLen) (y4 : ym ≤ maxLen) (y5 : RdA w.heap.size w ya yk) (y6 : RdA w.heap.size w yb yr) (rx : Int) (ra : Option Addr) (rn rc : Nat) (rs : List Int) (r1 : rs.length = rn) (r2 : rn ≤ maxLen) (r3 : RdA w.heap.size w ra rs) (r4 : (Lit.int .i64 rx).wf = true) (nN : Nat) (ff : Nat → Int × List Int) (hff : ∀ j, j < nN → (ff j).2.length = rn) (hbN : nN ≤ 6) (hrn : rn ≤ 6)
    (c1 : yn ≤ 1048576 → ym ≤ 1048576 → rn ≤ 1048576 → ∀ (g h p : Nat) (w' : World), RL w' g yn yk → RL w' h ym yr → RL w' p rn rs → Calls Try.prog 46 #[.agg #[.slice (some ⟨g, 0, none⟩) yn yn, .slice (some ⟨h, 0, none⟩) ym ym], .agg #[.int .i64 rx, .slice (some ⟨p, 0, none⟩) rn rn]] w' (BsPost nN rn ff w'))
    (c2 : yn ≤ 1048576 → ym ≤ 1048576 → rn ≤ 1048576 → ∀ (g h p : Nat) (w' : World), RL w' g yn yk → RL w' h ym yr → RL w' p rn rs → Calls Try.prog 47 #[.agg #[.slice (some ⟨g, 0, none⟩) yn yn, .slice (some ⟨h, 0, none⟩) ym ym], .agg #[.int .i64 rx, .slice (some ⟨p, 0, none⟩) rn rn]] w' (BiPost nN rn ff w')) :
    Calls Try.prog 12 #[.agg #[.slice ya yn yc, .slice yb ym yd], .agg #[.int .i64 rx, .slice ra rn rc]] w fun e w' => e = .returned (.bool true) ∧ Below w.heap.size w w' := by
  unfold maxLen at y3 y4 r2
  by_cases fit : (yn : Int) + ym ≤ 1048576
  case neg =>
    go_enter Try.func12, Try.ntmps12
    go_wp2_with fail
    refine (szYard_no _ _ _ _ _ _ _ (by decide) (by decide) (by omega) (by omega) (by omega) _).mono ?_
    rintro e w2 ⟨rfl, h2⟩
    have hB2 : Below w.heap.size w w2 := ba (by go_grown) h2
    clear h2
    go_wp2_with fail
    go_ret
    exact ⟨rfl, hB2⟩
  have i4 : ¬ (1048576 : Int) - yn - ym < 0 := by omega
  by_cases fit2 : (rn : Int) ≤ 1048576 - yn - ym
  case neg =>
    go_enter Try.func12, Try.ntmps12
    go_wp2_with fail
    refine (szYard_fit _ _ _ _ _ _ _ (by decide) (by decide) fit _).mono ?_
    rintro e w1 ⟨rfl, h1⟩
    have hB : Below w.heap.size w w1 := ba (by go_grown) h1
    have z0 : w.heap.size < w1.heap.size := by have := h1.size; simp at this; omega
    have z1 : w.heap.size + 1 < w1.heap.size := by have := h1.size; simp at this; omega
    have c2 := cl_below (b := w.heap.size + 1) (o := 0) (v := .int .i64 rx) (by simp [go_sem]) (by simp <;> omega) h1
    have c3 := cl_below (b := w.heap.size + 1) (o := 1) (v := .slice ra rn rc) (by simp [go_sem]) (by simp <;> omega) h1
    clear h1
    go_wp2_with fail
    refine (szRun_no _ _ _ _ _ (by omega) (by omega) (by omega) (by omega) _).mono ?_
    rintro e w2 ⟨rfl, h2⟩
    have hB2 : Below w.heap.size w w2 := ba (by go_grown) h2
    clear h2
    go_wp2_with fail
    go_ret
    exact ⟨rfl, hB2⟩
  have i5 : ¬ (1048576 : Int) - yn - ym - rn < 0 := by omega
  have Y1 := Lib.hid y1
  have Y2 := Lib.hid y2
  have Y5 := Lib.hid y5
  have Y6 := Lib.hid y6
  have R1 := Lib.hid r1
  have R3 := Lib.hid r3
  have XN := Lib.hid hff
  have SPC := Lib.hid (c1 (by omega) (by omega) (by omega))
  have IMC := Lib.hid (c2 (by omega) (by omega) (by omega))
  clear y1 y2 y5 y6 r1 r3 c1 c2 hff
  go_enter Try.func12, Try.ntmps12
  go_wp2_with fail
  refine (szYard_fit _ _ _ _ _ _ _ (by decide) (by decide) fit _).mono ?_
  rintro e w1 ⟨rfl, k1⟩
  have B1 := Lib.hid (ba (by go_grown) k1 : Below w.heap.size w w1)
  have hs1 := k1.size
  try simp at hs1
  have l1_0 : w.heap.size < w1.heap.size := by omega
  have l1_1 : w.heap.size + 1 < w1.heap.size := by omega
  have c1_0 := cl_below (b := w.heap.size) (o := 0) (v := .slice ya yn yc) (by first | (with_reducible assumption) | (simp [go_sem, *]; done)) (by first | (with_reducible assumption) | (simp; done) | (simp <;> omega)) k1
  have c1_1 := cl_below (b := w.heap.size) (o := 1) (v := .slice yb ym yd) (by first | (with_reducible assumption) | (simp [go_sem, *]; done)) (by first | (with_reducible assumption) | (simp; done) | (simp <;> omega)) k1
  have c1_2 := cl_below (b := w.heap.size + 1) (o := 0) (v := .int .i64 rx) (by first | (with_reducible assumption) | (simp [go_sem, *]; done)) (by first | (with_reducible assumption) | (simp; done) | (simp <;> omega)) k1
  have c1_3 := cl_below (b := w.heap.size + 1) (o := 1) (v := .slice ra rn rc) (by first | (with_reducible assumption) | (simp [go_sem, *]; done)) (by first | (with_reducible assumption) | (simp; done) | (simp <;> omega)) k1
  clear k1
  go_wp2_with fail
  refine (szRun_fit _ _ _ _ _ (by omega) (by omega) fit2 _).mono ?_
  rintro e w2 ⟨rfl, k2⟩
  have B2 := Lib.hid (B1.out.trans ((ba (by go_grown) k2 : Below w1.heap.size w1 w2).mono B1.out.size))
  have hs2 := k2.size
  try simp at hs2
  have l2_0 : w.heap.size < w2.heap.size := by omega
  have l2_1 : w.heap.size + 1 < w2.heap.size := by omega
  have c2_0 := cl_below (b := w.heap.size) (o := 0) (v := .slice ya yn yc) (by first | (with_reducible assumption) | (simp [go_sem, *]; done)) (by first | (with_reducible assumption) | (simp; done) | (simp <;> omega)) k2
  have c2_1 := cl_below (b := w.heap.size) (o := 1) (v := .slice yb ym yd) (by first | (with_reducible assumption) | (simp [go_sem, *]; done)) (by first | (with_reducible assumption) | (simp; done) | (simp <;> omega)) k2
  have c2_2 := cl_below (b := w.heap.size + 1) (o := 0) (v := .int .i64 rx) (by first | (with_reducible assumption) | (simp [go_sem, *]; done)) (by first | (with_reducible assumption) | (simp; done) | (simp <;> omega)) k2
  have c2_3 := cl_below (b := w.heap.size + 1) (o := 1) (v := .slice ra rn rc) (by first | (with_reducible assumption) | (simp [go_sem, *]; done)) (by first | (with_reducible assumption) | (simp; done) | (simp <;> omega)) k2
  clear c1_0 c1_1 c1_2 c1_3 k2
  have TY := Lib.hid (fun w' (hw : Below w2.heap.size w2 w') => toYard_any ya yb yn yc ym yd yk yr Y1.out Y2.out (by omega) (by omega) w' w.heap.size (Nat.le_trans B2.out.size hw.size) (Y5.out.below (Nat.le_refl _) (B2.out.trans (hw.mono B2.out.size))) (Y6.out.below (Nat.le_refl _) (B2.out.trans (hw.mono B2.out.size))))
  have TR := Lib.hid (fun w' (hw : Below w2.heap.size w2 w') => toRun_any rx ra rn rc rs R1.out (by omega) w' w.heap.size (Nat.le_trans B2.out.size hw.size) (R3.out.below (Nat.le_refl _) (B2.out.trans (hw.mono B2.out.size))))
  go_upto_region 1 with fail
  have hS0 := And.intro c2_0 (And.intro c2_1 (And.intro c2_2 c2_3))
  go_cut [6, 7] (fun s6 s7 wx => ∃ (gw cw lw hw : Nat) (pw : Nat → Nat × Nat), s6 = .slice (some ⟨gw, 0, none⟩) nN cw ∧ s7 = .bool true ∧ RwAt wx lw hw gw nN rn pw ff ∧ w2.heap.size ≤ lw ∧ (wx.cell? ⟨w.heap.size, 0, none⟩ = some (.slice ya yn yc) ∧ wx.cell? ⟨w.heap.size, 1, none⟩ = some (.slice yb ym yd) ∧ wx.cell? ⟨w.heap.size + 1, 0, none⟩ = some (.int .i64 rx) ∧ wx.cell? ⟨w.heap.size + 1, 1, none⟩ = some (.slice ra rn rc)) ∧ Below w2.heap.size w2 wx)
  case first =>
    go_region_held3 (fun w' => w'.cell? ⟨w.heap.size, 0, none⟩ = some (.slice ya yn yc) ∧ w'.cell? ⟨w.heap.size, 1, none⟩ = some (.slice yb ym yd) ∧ w'.cell? ⟨w.heap.size + 1, 0, none⟩ = some (.int .i64 rx) ∧ w'.cell? ⟨w.heap.size + 1, 1, none⟩ = some (.slice ra rn rc))
      (first | (with_reducible assumption) | (with_reducible exact yy_drew hS0) | (with_reducible exact yy_drew (yy_alloc hS0 _)) | (with_reducible exact yy_alloc (yy_drew hS0) _) | (with_reducible refine yy_drew ?_; with_reducible assumption) | (with_reducible refine yy_alloc ?_ _; with_reducible assumption) | (with_reducible refine yy_re (by with_reducible assumption) ?_ ?_ _; (focus first | (with_reducible assumption) | omega | (simp; done) | (simp; omega)); (focus first | (with_reducible assumption) | omega | (simp; done) | (simp; omega))) | (with_reducible refine yy_below ?_ ?_ ?_ h1; (focus first | (with_reducible assumption) | (with_reducible refine yy_undrew ?_; with_reducible assumption)); (focus first | (with_reducible assumption) | omega | (simp; done) | (simp; omega)); (focus first | (with_reducible assumption) | omega | (simp; done) | (simp; omega))) | ((repeat (with_reducible refine yy_set ?_ _ _ ?_ ?_; rotate_left 1; (focus first | (with_reducible assumption) | omega | (simp; done) | (simp; omega)); (focus first | (with_reducible assumption) | omega | (simp; done) | (simp; omega)))); with_reducible assumption))
      (first | (go_at_call 18; (with_reducible refine Calls.mono (TY.out _ ?_) ?_); (focus (go_grown; done)); rintro e wA ⟨gA, hA, rfl, _, _, rA, rB, h1⟩; (try with_reducible replace h1 := undrew h1); (try have QR := Lib.hid (QR.out.keep (ba (by go_grown) h1))); have hBwA : Below w2.heap.size w2 wA := ba (by go_grown) h1; obtain ⟨hcwA, hfwA⟩ := bcell h1; have hqwA := h1.size; (try simp at hqwA); have hz0wA : w.heap.size < wA.heap.size := (by omega); have he0wA : w.heap.size ≤ wA.heap.size := (by omega); have hz1wA : w.heap.size + 1 < wA.heap.size := (by omega); have he1wA : w.heap.size + 1 ≤ wA.heap.size := (by omega); (try have hywBwA : wB.heap.size < wA.heap.size := (by omega)); (try have hxwBwA : wB.heap.size ≤ wA.heap.size := (by omega)); (try have hywCwA : wC.heap.size < wA.heap.size := (by omega)); (try have hxwCwA : wC.heap.size ≤ wA.heap.size := (by omega)); (try have hywDwA : wD.heap.size < wA.heap.size := (by omega)); (try have hxwDwA : wD.heap.size ≤ wA.heap.size := (by omega)); (try have hywEwA : wE.heap.size < wA.heap.size := (by omega)); (try have hxwEwA : wE.heap.size ≤ wA.heap.size := (by omega)); have QA := Lib.hid rA; have QB := Lib.hid rB; clear rA rB) | (go_at_call 23; (with_reducible refine Calls.mono (TR.out _ ?_) ?_); (focus (go_grown; done)); rintro e wB ⟨gB, rfl, _, rC, h1⟩; (try with_reducible replace h1 := undrew h1); (try have QA := Lib.hid (QA.out.keep (ba (by go_grown) h1))); (try have QB := Lib.hid (QB.out.keep (ba (by go_grown) h1))); have hBwB : Below w2.heap.size w2 wB := ba (by go_grown) h1; obtain ⟨hcwB, hfwB⟩ := bcell h1; have hqwB := h1.size; (try simp at hqwB); have hz0wB : w.heap.size < wB.heap.size := (by omega); have he0wB : w.heap.size ≤ wB.heap.size := (by omega); have hz1wB : w.heap.size + 1 < wB.heap.size := (by omega); have he1wB : w.heap.size + 1 ≤ wB.heap.size := (by omega); (try have hywAwB : wA.heap.size < wB.heap.size := (by omega)); (try have hxwAwB : wA.heap.size ≤ wB.heap.size := (by omega)); (try have hywCwB : wC.heap.size < wB.heap.size := (by omega)); (try have hxwCwB : wC.heap.size ≤ wB.heap.size := (by omega)); (try have hywDwB : wD.heap.size < wB.heap.size := (by omega)); (try have hxwDwB : wD.heap.size ≤ wB.heap.size := (by omega)); (try have hywEwB : wE.heap.size < wB.heap.size := (by omega)); (try have hxwEwB : wE.heap.size ≤ wB.heap.size := (by omega)); have QR := Lib.hid rC; clear rC) | (go_at_call 46; (with_reducible refine Calls.mono (SPC.out _ _ _ _ ?_ ?_ ?_) ?_); (focus (exact QA.out.keep (by go_grown))); (focus (exact QB.out.keep (by go_grown))); (focus (exact QR.out.keep (by go_grown))); rintro e wC ⟨gF, cF, lF, hF, pF, rfl, glF, rF, h1⟩; (try with_reducible replace h1 := undrew h1); have hBwC : Below w2.heap.size w2 wC := ba (by go_grown) h1; obtain ⟨hcwC, hfwC⟩ := bcell h1; have hqwC := h1.size; (try simp at hqwC); have hz0wC : w.heap.size < wC.heap.size := (by omega); have he0wC : w.heap.size ≤ wC.heap.size := (by omega); have hz1wC : w.heap.size + 1 < wC.heap.size := (by omega); have he1wC : w.heap.size + 1 ≤ wC.heap.size := (by omega); (try have hywAwC : wA.heap.size < wC.heap.size := (by omega)); (try have hxwAwC : wA.heap.size ≤ wC.heap.size := (by omega)); (try have hywBwC : wB.heap.size < wC.heap.size := (by omega)); (try have hxwBwC : wB.heap.size ≤ wC.heap.size := (by omega)); (try have hywDwC : wD.heap.size < wC.heap.size := (by omega)); (try have hxwDwC : wD.heap.size ≤ wC.heap.size := (by omega)); (try have hywEwC : wE.heap.size < wC.heap.size := (by omega)); (try have hxwEwC : wE.heap.size ≤ wC.heap.size := (by omega))))
    all_goals
      go_wp2_with fail
      go_meet
      try simp at glF
      exact ⟨gF, cF, lF, hF, pF, rfl, rfl, rF, by omega, by with_reducible assumption, by go_grown⟩
  case rest =>
  obtain ⟨gw, cw, lw, hw, pw, rfl, rfl, rw0, glw, ⟨q0, q1, q2, q3⟩, hcb⟩ := hcut
  have B3 := Lib.hid (B2.out.trans (hcb.mono B2.out.size))
  have hs3 := hcb.size
  have l3_0 : w.heap.size < wc.heap.size := by omega
  have l3_1 : w.heap.size + 1 < wc.heap.size := by omega
  have c3_0 := q0
  have c3_1 := q1
  have c3_2 := q2
  have c3_3 := q3
  have hws := rw0.hs
  have RW := Lib.hid rw0
  clear q0 q1 q2 q3 hcb c2_0 c2_1 c2_2 c2_3 rw0
  go_wp2_with fail
  refine (toYard_any ya yb yn yc ym yd yk yr Y1.out Y2.out (by omega) (by omega) _ w.heap.size B3.out.size (Y5.out.below (Nat.le_refl _) B3.out) (Y6.out.below (Nat.le_refl _) B3.out)).mono ?_
  rintro e w4 ⟨gx, hx, rfl, glx, ghx, rxa, rxb, k4⟩
  have B4 := Lib.hid (B3.out.trans ((ba (by go_grown) k4 : Below wc.heap.size wc w4).mono B3.out.size))
  have hs4 := k4.size
  try simp at hs4
  have l4_0 : w.heap.size < w4.heap.size := by omega
  have l4_1 : w.heap.size + 1 < w4.heap.size := by omega
  have c4_0 := cl_below (b := w.heap.size) (o := 0) (v := .slice ya yn yc) (by first | (with_reducible assumption) | (simp [go_sem, *]; done)) (by first | (with_reducible assumption) | (simp; done) | (simp <;> omega)) k4
  have c4_1 := cl_below (b := w.heap.size) (o := 1) (v := .slice yb ym yd) (by first | (with_reducible assumption) | (simp [go_sem, *]; done)) (by first | (with_reducible assumption) | (simp; done) | (simp <;> omega)) k4
  have c4_2 := cl_below (b := w.heap.size + 1) (o := 0) (v := .int .i64 rx) (by first | (with_reducible assumption) | (simp [go_sem, *]; done)) (by first | (with_reducible assumption) | (simp; done) | (simp <;> omega)) k4
  have c4_3 := cl_below (b := w.heap.size + 1) (o := 1) (v := .slice ra rn rc) (by first | (with_reducible assumption) | (simp [go_sem, *]; done)) (by first | (with_reducible assumption) | (simp; done) | (simp <;> omega)) k4
  have RW := Lib.hid (RW.out.keep (ba (by go_grown) k4 : Below wc.heap.size wc w4))
  have lx := rxb.lt
  have XA := Lib.hid rxa
  have XB := Lib.hid rxb
  clear rxa rxb
  clear c3_0 c3_1 c3_2 c3_3 k4
  go_wp2_with fail
  refine (toRun_any rx ra rn rc rs R1.out (by omega) _ w.heap.size (Nat.le_trans B4.out.size (by simp)) (R3.out.below (Nat.le_refl _) (B4.out.trans (Below.mono (by go_grown : Below w4.heap.size w4 _) B4.out.size)))).mono ?_
  rintro e w5 ⟨gr, rfl, glr, rxc, k5⟩
  have B5 := Lib.hid (B4.out.trans ((ba (by go_grown) k5 : Below w4.heap.size w4 w5).mono B4.out.size))
  have hs5 := k5.size
  try simp at hs5
  have l5_0 : w.heap.size < w5.heap.size := by omega
  have l5_1 : w.heap.size + 1 < w5.heap.size := by omega
  have l5_2 : w4.heap.size < w5.heap.size := by omega
  have c5_0 := cl_below (b := w.heap.size) (o := 0) (v := .slice ya yn yc) (by first | (with_reducible assumption) | (simp [go_sem, *]; done)) (by first | (with_reducible assumption) | (simp; done) | (simp <;> omega)) k5
  have c5_1 := cl_below (b := w.heap.size) (o := 1) (v := .slice yb ym yd) (by first | (with_reducible assumption) | (simp [go_sem, *]; done)) (by first | (with_reducible assumption) | (simp; done) | (simp <;> omega)) k5
  have c5_2 := cl_below (b := w.heap.size + 1) (o := 0) (v := .int .i64 rx) (by first | (with_reducible assumption) | (simp [go_sem, *]; done)) (by first | (with_reducible assumption) | (simp; done) | (simp <;> omega)) k5
  have c5_3 := cl_below (b := w.heap.size + 1) (o := 1) (v := .slice ra rn rc) (by first | (with_reducible assumption) | (simp [go_sem, *]; done)) (by first | (with_reducible assumption) | (simp; done) | (simp <;> omega)) k5
  have c5_4 := cl_below (b := w4.heap.size) (o := 0) (v := .slice (some ⟨gx, 0, none⟩) yn yn) (by first | (with_reducible assumption) | (simp [go_sem, *]; done)) (by first | (with_reducible assumption) | (simp; done) | (simp <;> omega)) k5
  have c5_5 := cl_below (b := w4.heap.size) (o := 1) (v := .slice (some ⟨hx, 0, none⟩) ym ym) (by first | (with_reducible assumption) | (simp [go_sem, *]; done)) (by first | (with_reducible assumption) | (simp; done) | (simp <;> omega)) k5
  have RW := Lib.hid (RW.out.keep (ba (by go_grown) k5 : Below w4.heap.size w4 w5))
  have XA := Lib.hid (XA.out.keep (ba (by go_grown) k5 : Below w4.heap.size w4 w5))
  have XB := Lib.hid (XB.out.keep (ba (by go_grown) k5 : Below w4.heap.size w4 w5))
  have lr := rxc.lt
  have XR := Lib.hid rxc
  clear rxc
  try simp at glr
  clear c4_0 c4_1 c4_2 c4_3 k5
  go_wp2_with fail
  refine (IMC.out gx hx gr _ (XA.out.keep (by go_grown)) (XB.out.keep (by go_grown)) (XR.out.keep (by go_grown))).mono ?_
  rintro e w6 ⟨g0, c0, lg, hg, pg, rfl, gl0, rg0, ig0, k6⟩
  have B6 := Lib.hid (B5.out.trans ((ba (by go_grown) k6 : Below w5.heap.size w5 w6).mono B5.out.size))
  have hs6 := k6.size
  try simp at hs6
  have l6_0 : w.heap.size < w6.heap.size := by omega
  have l6_1 : w.heap.size + 1 < w6.heap.size := by omega
  have l6_2 : w4.heap.size < w6.heap.size := by omega
  have l6_3 : w5.heap.size < w6.heap.size := by omega
  have c6_0 := cl_below (b := w.heap.size) (o := 0) (v := .slice ya yn yc) (by first | (with_reducible assumption) | (simp [go_sem, *]; done)) (by first | (with_reducible assumption) | (simp; done) | (simp <;> omega)) k6
  have c6_1 := cl_below (b := w.heap.size) (o := 1) (v := .slice yb ym yd) (by first | (with_reducible assumption) | (simp [go_sem, *]; done)) (by first | (with_reducible assumption) | (simp; done) | (simp <;> omega)) k6
  have c6_2 := cl_below (b := w.heap.size + 1) (o := 0) (v := .int .i64 rx) (by first | (with_reducible assumption) | (simp [go_sem, *]; done)) (by first | (with_reducible assumption) | (simp; done) | (simp <;> omega)) k6
  have c6_3 := cl_below (b := w.heap.size + 1) (o := 1) (v := .slice ra rn rc) (by first | (with_reducible assumption) | (simp [go_sem, *]; done)) (by first | (with_reducible assumption) | (simp; done) | (simp <;> omega)) k6
  have c6_4 := cl_below (b := w4.heap.size) (o := 0) (v := .slice (some ⟨gx, 0, none⟩) yn yn) (by first | (with_reducible assumption) | (simp [go_sem, *]; done)) (by first | (with_reducible assumption) | (simp; done) | (simp <;> omega)) k6
  have c6_5 := cl_below (b := w4.heap.size) (o := 1) (v := .slice (some ⟨hx, 0, none⟩) ym ym) (by first | (with_reducible assumption) | (simp [go_sem, *]; done)) (by first | (with_reducible assumption) | (simp; done) | (simp <;> omega)) k6
  have c6_6 := cl_below (b := w5.heap.size) (o := 0) (v := .int .i64 rx) (by first | (with_reducible assumption) | (simp [go_sem, *]; done)) (by first | (with_reducible assumption) | (simp; done) | (simp <;> omega)) k6
  have c6_7 := cl_below (b := w5.heap.size) (o := 1) (v := .slice (some ⟨gr, 0, none⟩) rn rn) (by first | (with_reducible assumption) | (simp [go_sem, *]; done)) (by first | (with_reducible assumption) | (simp; done) | (simp <;> omega)) k6
  have RW := Lib.hid (RW.out.keep (ba (by go_grown) k6 : Below w5.heap.size w5 w6))
  have XA := Lib.hid (XA.out.keep (ba (by go_grown) k6 : Below w5.heap.size w5 w6))
  have XB := Lib.hid (XB.out.keep (ba (by go_grown) k6 : Below w5.heap.size w5 w6))
  have XR := Lib.hid (XR.out.keep (ba (by go_grown) k6 : Below w5.heap.size w5 w6))
  have hgs := rg0.hs
  have hgl := Nat.lt_of_le_of_lt rg0.gl rg0.gh
  have RG := Lib.hid rg0
  have IG := Lib.hid ig0
  clear rg0 ig0
  try simp at gl0
  clear c5_0 c5_1 c5_2 c5_3 c5_4 c5_5 k6
  go_wp2_with fail
  refine (eqRunS_all _ _ g0 c0 _ _ gw cw nN rn pg pw ff XN.out hbN hrn _ RG.out RW.out).mono ?_
  rintro e w7 ⟨rfl, k7⟩
  have B7 := Lib.hid (B6.out.trans ((ba (by go_grown) k7 : Below w6.heap.size w6 w7).mono B6.out.size))
  have hs7 := k7.size
  try simp at hs7
  have l7_0 : w.heap.size < w7.heap.size := by omega
  have l7_1 : w.heap.size + 1 < w7.heap.size := by omega
  have l7_2 : w4.heap.size < w7.heap.size := by omega
  have l7_3 : w5.heap.size < w7.heap.size := by omega
  have c7_0 := cl_below (b := w.heap.size) (o := 0) (v := .slice ya yn yc) (by first | (with_reducible assumption) | (simp [go_sem, *]; done)) (by first | (with_reducible assumption) | (simp; done) | (simp <;> omega)) k7
  have c7_1 := cl_below (b := w.heap.size) (o := 1) (v := .slice yb ym yd) (by first | (with_reducible assumption) | (simp [go_sem, *]; done)) (by first | (with_reducible assumption) | (simp; done) | (simp <;> omega)) k7
  have c7_2 := cl_below (b := w.heap.size + 1) (o := 0) (v := .int .i64 rx) (by first | (with_reducible assumption) | (simp [go_sem, *]; done)) (by first | (with_reducible assumption) | (simp; done) | (simp <;> omega)) k7
  have c7_3 := cl_below (b := w.heap.size + 1) (o := 1) (v := .slice ra rn rc) (by first | (with_reducible assumption) | (simp [go_sem, *]; done)) (by first | (with_reducible assumption) | (simp; done) | (simp <;> omega)) k7
  have c7_4 := cl_below (b := w4.heap.size) (o := 0) (v := .slice (some ⟨gx, 0, none⟩) yn yn) (by first | (with_reducible assumption) | (simp [go_sem, *]; done)) (by first | (with_reducible assumption) | (simp; done) | (simp <;> omega)) k7
  have c7_5 := cl_below (b := w4.heap.size) (o := 1) (v := .slice (some ⟨hx, 0, none⟩) ym ym) (by first | (with_reducible assumption) | (simp [go_sem, *]; done)) (by first | (with_reducible assumption) | (simp; done) | (simp <;> omega)) k7
  have c7_6 := cl_below (b := w5.heap.size) (o := 0) (v := .int .i64 rx) (by first | (with_reducible assumption) | (simp [go_sem, *]; done)) (by first | (with_reducible assumption) | (simp; done) | (simp <;> omega)) k7
  have c7_7 := cl_below (b := w5.heap.size) (o := 1) (v := .slice (some ⟨gr, 0, none⟩) rn rn) (by first | (with_reducible assumption) | (simp [go_sem, *]; done)) (by first | (with_reducible assumption) | (simp; done) | (simp <;> omega)) k7
  have RW := Lib.hid (RW.out.keep (ba (by go_grown) k7 : Below w6.heap.size w6 w7))
  have XA := Lib.hid (XA.out.keep (ba (by go_grown) k7 : Below w6.heap.size w6 w7))
  have XB := Lib.hid (XB.out.keep (ba (by go_grown) k7 : Below w6.heap.size w6 w7))
  have XR := Lib.hid (XR.out.keep (ba (by go_grown) k7 : Below w6.heap.size w6 w7))
  have RG := Lib.hid (RG.out.keep (ba (by go_grown) k7 : Below w6.heap.size w6 w7))
  clear c6_0 c6_1 c6_2 c6_3 c6_4 c6_5 c6_6 c6_7 k7
  go_upto_region 1 with fail
  have hS0 := And.intro c7_4 (And.intro c7_5 (And.intro c7_0 c7_1))
  have TY := Lib.hid (fun w' (hw : Below w7.heap.size w7 w') => toYard_any ya yb yn yc ym yd yk yr Y1.out Y2.out (by omega) (by omega) w' w.heap.size (Nat.le_trans B7.out.size hw.size) (Y5.out.below (Nat.le_refl _) (B7.out.trans (hw.mono B7.out.size))) (Y6.out.below (Nat.le_refl _) (B7.out.trans (hw.mono B7.out.size))))
  have TR := Lib.hid (fun w' (hw : Below w7.heap.size w7 w') => toRun_any rx ra rn rc rs R1.out (by omega) w' w.heap.size (Nat.le_trans B7.out.size hw.size) (R3.out.below (Nat.le_refl _) (B7.out.trans (hw.mono B7.out.size))))
  have EY := Lib.hid (fun g h w' (hw : Below w7.heap.size w7 w') (q1 : RL w' g yn yk) (q2 : RL w' h ym yr) => eqYard_same gx yn hx ym g yn h ym yn ym yk yr Y1.out Y2.out (by omega) (by omega) w' (XA.out.keep hw) (XB.out.keep hw) q1 q2)
  go_region_held3 (fun w' => w'.cell? ⟨w4.heap.size, 0, none⟩ = some (.slice (some ⟨gx, 0, none⟩) yn yn) ∧ w'.cell? ⟨w4.heap.size, 1, none⟩ = some (.slice (some ⟨hx, 0, none⟩) ym ym) ∧ w'.cell? ⟨w.heap.size, 0, none⟩ = some (.slice ya yn yc) ∧ w'.cell? ⟨w.heap.size, 1, none⟩ = some (.slice yb ym yd))
    (first | (with_reducible assumption) | (with_reducible exact yy_drew hS0) | (with_reducible exact yy_drew (yy_alloc hS0 _)) | (with_reducible exact yy_alloc (yy_drew hS0) _) | (with_reducible refine yy_drew ?_; with_reducible assumption) | (with_reducible refine yy_alloc ?_ _; with_reducible assumption) | (with_reducible refine yy_re (by with_reducible assumption) ?_ ?_ _; (focus first | (with_reducible assumption) | omega | (simp; done) | (simp; omega)); (focus first | (with_reducible assumption) | omega | (simp; done) | (simp; omega))) | (with_reducible refine yy_below ?_ ?_ ?_ h1; (focus first | (with_reducible assumption) | (with_reducible refine yy_undrew ?_; with_reducible assumption)); (focus first | (with_reducible assumption) | omega | (simp; done) | (simp; omega)); (focus first | (with_reducible assumption) | omega | (simp; done) | (simp; omega))) | ((repeat (with_reducible refine yy_set ?_ _ _ ?_ ?_; rotate_left 1; (focus first | (with_reducible assumption) | omega | (simp; done) | (simp; omega)); (focus first | (with_reducible assumption) | omega | (simp; done) | (simp; omega)))); with_reducible assumption))
    (first | (go_at_call 18; (with_reducible refine Calls.mono (TY.out _ ?_) ?_); (focus (go_grown; done)); rintro e wA ⟨gA, hA, rfl, _, _, rA, rB, h1⟩; (try with_reducible replace h1 := undrew h1); (try have QR := Lib.hid (QR.out.keep (ba (by go_grown) h1))); have hBwA : Below w7.heap.size w7 wA := ba (by go_grown) h1; obtain ⟨hcwA, hfwA⟩ := bcell h1; have hqwA := h1.size; (try simp at hqwA); have hz0wA : w4.heap.size < wA.heap.size := (by omega); have he0wA : w4.heap.size ≤ wA.heap.size := (by omega); have hz1wA : w.heap.size < wA.heap.size := (by omega); have he1wA : w.heap.size ≤ wA.heap.size := (by omega); (try have hywBwA : wB.heap.size < wA.heap.size := (by omega)); (try have hxwBwA : wB.heap.size ≤ wA.heap.size := (by omega)); (try have hywCwA : wC.heap.size < wA.heap.size := (by omega)); (try have hxwCwA : wC.heap.size ≤ wA.heap.size := (by omega)); (try have hywDwA : wD.heap.size < wA.heap.size := (by omega)); (try have hxwDwA : wD.heap.size ≤ wA.heap.size := (by omega)); (try have hywEwA : wE.heap.size < wA.heap.size := (by omega)); (try have hxwEwA : wE.heap.size ≤ wA.heap.size := (by omega)); have QA := Lib.hid rA; have QB := Lib.hid rB; clear rA rB) | (go_at_call 20; (with_reducible refine Calls.mono (EY.out _ _ _ ?_ ?_ ?_) ?_); (focus (go_grown; done)); (focus (exact QA.out.keep (by go_grown))); (focus (exact QB.out.keep (by go_grown))); rintro e wC ⟨rfl, h1⟩; (try with_reducible replace h1 := undrew h1); have hBwC : Below w7.heap.size w7 wC := ba (by go_grown) h1; obtain ⟨hcwC, hfwC⟩ := bcell h1; have hqwC := h1.size; (try simp at hqwC); have hz0wC : w4.heap.size < wC.heap.size := (by omega); have he0wC : w4.heap.size ≤ wC.heap.size := (by omega); have hz1wC : w.heap.size < wC.heap.size := (by omega); have he1wC : w.heap.size ≤ wC.heap.size := (by omega); (try have hywAwC : wA.heap.size < wC.heap.size := (by omega)); (try have hxwAwC : wA.heap.size ≤ wC.heap.size := (by omega)); (try have hywBwC : wB.heap.size < wC.heap.size := (by omega)); (try have hxwBwC : wB.heap.size ≤ wC.heap.size := (by omega)); (try have hywDwC : wD.heap.size < wC.heap.size := (by omega)); (try have hxwDwC : wD.heap.size ≤ wC.heap.size := (by omega)); (try have hywEwC : wE.heap.size < wC.heap.size := (by omega)); (try have hxwEwC : wE.heap.size ≤ wC.heap.size := (by omega))))
  have B8 := Lib.hid (B7.out.trans (hBwC.mono B7.out.size))
  have hs8 := hBwC.size
  have l8_0 : w.heap.size < wC.heap.size := by omega
  have l8_1 : w.heap.size + 1 < wC.heap.size := by omega
  have l8_2 : w4.heap.size < wC.heap.size := by omega
  have l8_3 : w5.heap.size < wC.heap.size := by omega
  have c8_0 := cl_below c7_0 l7_0 hBwC
  have c8_1 := cl_below c7_1 l7_0 hBwC
  have c8_2 := cl_below c7_2 l7_1 hBwC
  have c8_3 := cl_below c7_3 l7_1 hBwC
  have c8_4 := cl_below c7_4 l7_2 hBwC
  have c8_5 := cl_below c7_5 l7_2 hBwC
  have c8_6 := cl_below c7_6 l7_3 hBwC
  have c8_7 := cl_below c7_7 l7_3 hBwC
  have RW := Lib.hid (RW.out.keep hBwC)
  have XA := Lib.hid (XA.out.keep hBwC)
  have XB := Lib.hid (XB.out.keep hBwC)
  have XR := Lib.hid (XR.out.keep hBwC)
  have RG := Lib.hid (RG.out.keep hBwC)
  clear hS0 h1 hcwA hfwA hcwC hfwC hBwA hBwC c7_0 c7_1 c7_2 c7_3 c7_4 c7_5 c7_6 c7_7
  try clear QA QB
  go_upto_region 1 with fail
  have hS0 := And.intro c8_6 (And.intro c8_7 (And.intro c8_2 c8_3))
  have TY := Lib.hid (fun w' (hw : Below wC.heap.size wC w') => toYard_any ya yb yn yc ym yd yk yr Y1.out Y2.out (by omega) (by omega) w' w.heap.size (Nat.le_trans B8.out.size hw.size) (Y5.out.below (Nat.le_refl _) (B8.out.trans (hw.mono B8.out.size))) (Y6.out.below (Nat.le_refl _) (B8.out.trans (hw.mono B8.out.size))))
  have TR := Lib.hid (fun w' (hw : Below wC.heap.size wC w') => toRun_any rx ra rn rc rs R1.out (by omega) w' w.heap.size (Nat.le_trans B8.out.size hw.size) (R3.out.below (Nat.le_refl _) (B8.out.trans (hw.mono B8.out.size))))
  have ER := Lib.hid (fun g w' (hw : Below wC.heap.size wC w') (q1 : RL w' g rn rs) => eqRun_same rx gr rn g rn rn rs R1.out (by omega) w' (XR.out.keep hw) q1)
  go_region_held3 (fun w' => w'.cell? ⟨w5.heap.size, 0, none⟩ = some (.int .i64 rx) ∧ w'.cell? ⟨w5.heap.size, 1, none⟩ = some (.slice (some ⟨gr, 0, none⟩) rn rn) ∧ w'.cell? ⟨w.heap.size + 1, 0, none⟩ = some (.int .i64 rx) ∧ w'.cell? ⟨w.heap.size + 1, 1, none⟩ = some (.slice ra rn rc))
    (first | (with_reducible assumption) | (with_reducible exact yy_drew hS0) | (with_reducible exact yy_drew (yy_alloc hS0 _)) | (with_reducible exact yy_alloc (yy_drew hS0) _) | (with_reducible refine yy_drew ?_; with_reducible assumption) | (with_reducible refine yy_alloc ?_ _; with_reducible assumption) | (with_reducible refine yy_re (by with_reducible assumption) ?_ ?_ _; (focus first | (with_reducible assumption) | omega | (simp; done) | (simp; omega)); (focus first | (with_reducible assumption) | omega | (simp; done) | (simp; omega))) | (with_reducible refine yy_below ?_ ?_ ?_ h1; (focus first | (with_reducible assumption) | (with_reducible refine yy_undrew ?_; with_reducible assumption)); (focus first | (with_reducible assumption) | omega | (simp; done) | (simp; omega)); (focus first | (with_reducible assumption) | omega | (simp; done) | (simp; omega))) | ((repeat (with_reducible refine yy_set ?_ _ _ ?_ ?_; rotate_left 1; (focus first | (with_reducible assumption) | omega | (simp; done) | (simp; omega)); (focus first | (with_reducible assumption) | omega | (simp; done) | (simp; omega)))); with_reducible assumption))
    (first | (go_at_call 23; (with_reducible refine Calls.mono (TR.out _ ?_) ?_); (focus (go_grown; done)); rintro e wB ⟨gB, rfl, _, rC, h1⟩; (try with_reducible replace h1 := undrew h1); (try have QA := Lib.hid (QA.out.keep (ba (by go_grown) h1))); (try have QB := Lib.hid (QB.out.keep (ba (by go_grown) h1))); have hBwB : Below wC.heap.size wC wB := ba (by go_grown) h1; obtain ⟨hcwB, hfwB⟩ := bcell h1; have hqwB := h1.size; (try simp at hqwB); have hz0wB : w5.heap.size < wB.heap.size := (by omega); have he0wB : w5.heap.size ≤ wB.heap.size := (by omega); have hz1wB : w.heap.size + 1 < wB.heap.size := (by omega); have he1wB : w.heap.size + 1 ≤ wB.heap.size := (by omega); (try have hywAwB : wA.heap.size < wB.heap.size := (by omega)); (try have hxwAwB : wA.heap.size ≤ wB.heap.size := (by omega)); (try have hywCwB : wC.heap.size < wB.heap.size := (by omega)); (try have hxwCwB : wC.heap.size ≤ wB.heap.size := (by omega)); (try have hywDwB : wD.heap.size < wB.heap.size := (by omega)); (try have hxwDwB : wD.heap.size ≤ wB.heap.size := (by omega)); (try have hywEwB : wE.heap.size < wB.heap.size := (by omega)); (try have hxwEwB : wE.heap.size ≤ wB.heap.size := (by omega)); have QR := Lib.hid rC; clear rC) | (go_at_call 25; (with_reducible refine Calls.mono (ER.out _ _ ?_ ?_) ?_); (focus (go_grown; done)); (focus (exact QR.out.keep (by go_grown))); rintro e wD ⟨rfl, h1⟩; (try with_reducible replace h1 := undrew h1); have hBwD : Below wC.heap.size wC wD := ba (by go_grown) h1; obtain ⟨hcwD, hfwD⟩ := bcell h1; have hqwD := h1.size; (try simp at hqwD); have hz0wD : w5.heap.size < wD.heap.size := (by omega); have he0wD : w5.heap.size ≤ wD.heap.size := (by omega); have hz1wD : w.heap.size + 1 < wD.heap.size := (by omega); have he1wD : w.heap.size + 1 ≤ wD.heap.size := (by omega); (try have hywAwD : wA.heap.size < wD.heap.size := (by omega)); (try have hxwAwD : wA.heap.size ≤ wD.heap.size := (by omega)); (try have hywBwD : wB.heap.size < wD.heap.size := (by omega)); (try have hxwBwD : wB.heap.size ≤ wD.heap.size := (by omega)); (try have hywCwD : wC.heap.size < wD.heap.size := (by omega)); (try have hxwCwD : wC.heap.size ≤ wD.heap.size := (by omega)); (try have hywEwD : wE.heap.size < wD.heap.size := (by omega)); (try have hxwEwD : wE.heap.size ≤ wD.heap.size := (by omega))))
  have B9 := Lib.hid (B8.out.trans (hBwD.mono B8.out.size))
  have hs9 := hBwD.size
  have l9_0 : w.heap.size < wD.heap.size := by omega
  have l9_1 : w.heap.size + 1 < wD.heap.size := by omega
  have l9_2 : w4.heap.size < wD.heap.size := by omega
  have l9_3 : w5.heap.size < wD.heap.size := by omega
  have c9_0 := cl_below c8_0 l8_0 hBwD
  have c9_1 := cl_below c8_1 l8_0 hBwD
  have c9_2 := cl_below c8_2 l8_1 hBwD
  have c9_3 := cl_below c8_3 l8_1 hBwD
  have c9_4 := cl_below c8_4 l8_2 hBwD
  have c9_5 := cl_below c8_5 l8_2 hBwD
  have c9_6 := cl_below c8_6 l8_3 hBwD
  have c9_7 := cl_below c8_7 l8_3 hBwD
  have RW := Lib.hid (RW.out.keep hBwD)
  have XA := Lib.hid (XA.out.keep hBwD)
  have XB := Lib.hid (XB.out.keep hBwD)
  have XR := Lib.hid (XR.out.keep hBwD)
  have RG := Lib.hid (RG.out.keep hBwD)
  clear hS0 h1 hcwB hfwB hcwD hfwD hBwB hBwD c8_0 c8_1 c8_2 c8_3 c8_4 c8_5 c8_6 c8_7
  try clear QR
  go_wp2_with fail
  refine (markYard_at gx yn hx ym yn ym 1 yk yr Y1.out Y2.out (by omega) (by omega) (by decide) (by decide) (by omega) _ XA.out XB.out).mono ?_
  rintro e w10 ⟨rfl, rma, rmb, k10⟩
  have B10 := Lib.hid (B9.out.trans (k10.below (N := w.heap.size) B9.out.size (by omega) (by omega)))
  have hs10 := k10.size
  have l10_0 : w.heap.size < w10.heap.size := by omega
  have l10_1 : w.heap.size + 1 < w10.heap.size := by omega
  have l10_2 : w4.heap.size < w10.heap.size := by omega
  have l10_3 : w5.heap.size < w10.heap.size := by omega
  have c10_0 := (k10.cell (a := ⟨w.heap.size, 0, none⟩) (by show w.heap.size < _; omega) (by show w.heap.size ≠ _; omega) (by show w.heap.size ≠ _; omega)).trans c9_0
  have c10_1 := (k10.cell (a := ⟨w.heap.size, 1, none⟩) (by show w.heap.size < _; omega) (by show w.heap.size ≠ _; omega) (by show w.heap.size ≠ _; omega)).trans c9_1
  have c10_2 := (k10.cell (a := ⟨w.heap.size + 1, 0, none⟩) (by show w.heap.size + 1 < _; omega) (by show w.heap.size + 1 ≠ _; omega) (by show w.heap.size + 1 ≠ _; omega)).trans c9_2
  have c10_3 := (k10.cell (a := ⟨w.heap.size + 1, 1, none⟩) (by show w.heap.size + 1 < _; omega) (by show w.heap.size + 1 ≠ _; omega) (by show w.heap.size + 1 ≠ _; omega)).trans c9_3
  have c10_4 := (k10.cell (a := ⟨w4.heap.size, 0, none⟩) (by show w4.heap.size < _; omega) (by show w4.heap.size ≠ _; omega) (by show w4.heap.size ≠ _; omega)).trans c9_4
  have c10_5 := (k10.cell (a := ⟨w4.heap.size, 1, none⟩) (by show w4.heap.size < _; omega) (by show w4.heap.size ≠ _; omega) (by show w4.heap.size ≠ _; omega)).trans c9_5
  have c10_6 := (k10.cell (a := ⟨w5.heap.size, 0, none⟩) (by show w5.heap.size < _; omega) (by show w5.heap.size ≠ _; omega) (by show w5.heap.size ≠ _; omega)).trans c9_6
  have c10_7 := (k10.cell (a := ⟨w5.heap.size, 1, none⟩) (by show w5.heap.size < _; omega) (by show w5.heap.size ≠ _; omega) (by show w5.heap.size ≠ _; omega)).trans c9_7
  have RG := Lib.hid (RG.out.apart (ApartR.of2 k10 ⟨by omega, by omega⟩ ⟨by omega, by omega⟩ : ApartR hw lg _ _) (by omega))
  have RW := Lib.hid (RW.out.apart (ApartR.of2 k10 ⟨by omega, by omega⟩ ⟨by omega, by omega⟩ : ApartR hw lg _ _) (by omega))
  have XR := Lib.hid (XR.out.apart k10 (by omega) (by omega))
  clear rma rmb XA XB
  clear c9_0 c9_1 c9_2 c9_3 c9_4 c9_5 c9_6 c9_7 k10
  go_wp2_with fail
  refine (markRun_at rx gr rn rn (1 + (yn : Int) + ym) rs R1.out (by omega) (by omega) (by omega) gr _ XR.out).mono ?_
  rintro e w11 ⟨rfl, rmc, k11⟩
  have B11 := Lib.hid (B10.out.trans (k11.below (N := w.heap.size) B10.out.size (by omega) (by omega)))
  have hs11 := k11.size
  have l11_0 : w.heap.size < w11.heap.size := by omega
  have l11_1 : w.heap.size + 1 < w11.heap.size := by omega
  have l11_2 : w4.heap.size < w11.heap.size := by omega
  have l11_3 : w5.heap.size < w11.heap.size := by omega
  have c11_0 := (k11.cell (a := ⟨w.heap.size, 0, none⟩) (by show w.heap.size < _; omega) (by show w.heap.size ≠ _; omega) (by show w.heap.size ≠ _; omega)).trans c10_0
  have c11_1 := (k11.cell (a := ⟨w.heap.size, 1, none⟩) (by show w.heap.size < _; omega) (by show w.heap.size ≠ _; omega) (by show w.heap.size ≠ _; omega)).trans c10_1
  have c11_2 := (k11.cell (a := ⟨w.heap.size + 1, 0, none⟩) (by show w.heap.size + 1 < _; omega) (by show w.heap.size + 1 ≠ _; omega) (by show w.heap.size + 1 ≠ _; omega)).trans c10_2
  have c11_3 := (k11.cell (a := ⟨w.heap.size + 1, 1, none⟩) (by show w.heap.size + 1 < _; omega) (by show w.heap.size + 1 ≠ _; omega) (by show w.heap.size + 1 ≠ _; omega)).trans c10_3
  have c11_4 := (k11.cell (a := ⟨w4.heap.size, 0, none⟩) (by show w4.heap.size < _; omega) (by show w4.heap.size ≠ _; omega) (by show w4.heap.size ≠ _; omega)).trans c10_4
  have c11_5 := (k11.cell (a := ⟨w4.heap.size, 1, none⟩) (by show w4.heap.size < _; omega) (by show w4.heap.size ≠ _; omega) (by show w4.heap.size ≠ _; omega)).trans c10_5
  have c11_6 := (k11.cell (a := ⟨w5.heap.size, 0, none⟩) (by show w5.heap.size < _; omega) (by show w5.heap.size ≠ _; omega) (by show w5.heap.size ≠ _; omega)).trans c10_6
  have c11_7 := (k11.cell (a := ⟨w5.heap.size, 1, none⟩) (by show w5.heap.size < _; omega) (by show w5.heap.size ≠ _; omega) (by show w5.heap.size ≠ _; omega)).trans c10_7
  have RG := Lib.hid (RG.out.apart (ApartR.of2 k11 ⟨by omega, by omega⟩ ⟨by omega, by omega⟩ : ApartR hw lg _ _) (by omega))
  have RW := Lib.hid (RW.out.apart (ApartR.of2 k11 ⟨by omega, by omega⟩ ⟨by omega, by omega⟩ : ApartR hw lg _ _) (by omega))
  clear rmc XR
  clear c10_0 c10_1 c10_2 c10_3 c10_4 c10_5 c10_6 c10_7 k11
  have i6 : ¬ (1 : Int) + yn + ym + rn < 0 := by omega
  go_wp2_with fail
  refine (eqRunS_all _ _ g0 c0 _ _ gw cw nN rn pg pw ff XN.out hbN hrn _ RG.out RW.out).mono ?_
  rintro e w12 ⟨rfl, k12⟩
  have B12 := Lib.hid (B11.out.trans ((ba (by go_grown) k12 : Below w11.heap.size w11 w12).mono B11.out.size))
  have hs12 := k12.size
  try simp at hs12
  have l12_0 : w.heap.size < w12.heap.size := by omega
  have l12_1 : w.heap.size + 1 < w12.heap.size := by omega
  have l12_2 : w4.heap.size < w12.heap.size := by omega
  have l12_3 : w5.heap.size < w12.heap.size := by omega
  have c12_0 := cl_below (b := w.heap.size) (o := 0) (v := .slice ya yn yc) (by first | (with_reducible assumption) | (simp [go_sem, *]; done)) (by first | (with_reducible assumption) | (simp; done) | (simp <;> omega)) k12
  have c12_1 := cl_below (b := w.heap.size) (o := 1) (v := .slice yb ym yd) (by first | (with_reducible assumption) | (simp [go_sem, *]; done)) (by first | (with_reducible assumption) | (simp; done) | (simp <;> omega)) k12
  have c12_2 := cl_below (b := w.heap.size + 1) (o := 0) (v := .int .i64 rx) (by first | (with_reducible assumption) | (simp [go_sem, *]; done)) (by first | (with_reducible assumption) | (simp; done) | (simp <;> omega)) k12
  have c12_3 := cl_below (b := w.heap.size + 1) (o := 1) (v := .slice ra rn rc) (by first | (with_reducible assumption) | (simp [go_sem, *]; done)) (by first | (with_reducible assumption) | (simp; done) | (simp <;> omega)) k12
  have c12_4 := cl_below (b := w4.heap.size) (o := 0) (v := .slice (some ⟨gx, 0, none⟩) yn yn) (by first | (with_reducible assumption) | (simp [go_sem, *]; done)) (by first | (with_reducible assumption) | (simp; done) | (simp <;> omega)) k12
  have c12_5 := cl_below (b := w4.heap.size) (o := 1) (v := .slice (some ⟨hx, 0, none⟩) ym ym) (by first | (with_reducible assumption) | (simp [go_sem, *]; done)) (by first | (with_reducible assumption) | (simp; done) | (simp <;> omega)) k12
  have c12_6 := cl_below (b := w5.heap.size) (o := 0) (v := .int .i64 rx) (by first | (with_reducible assumption) | (simp [go_sem, *]; done)) (by first | (with_reducible assumption) | (simp; done) | (simp <;> omega)) k12
  have c12_7 := cl_below (b := w5.heap.size) (o := 1) (v := .slice (some ⟨gr, 0, none⟩) rn rn) (by first | (with_reducible assumption) | (simp [go_sem, *]; done)) (by first | (with_reducible assumption) | (simp; done) | (simp <;> omega)) k12
  have RW := Lib.hid (RW.out.keep (ba (by go_grown) k12 : Below w11.heap.size w11 w12))
  have RG := Lib.hid (RG.out.keep (ba (by go_grown) k12 : Below w11.heap.size w11 w12))
  clear c11_0 c11_1 c11_2 c11_3 c11_4 c11_5 c11_6 c11_7 k12
  go_wp2_with fail
  refine (markRunS_at lg hg g0 c0 nN rn pg ff XN.out hbN hrn IG.out _ RG.out).mono ?_
  rintro e w13 ⟨rfl, rmg, k13⟩
  have B13 := Lib.hid (B12.out.trans (k13.below (N := w.heap.size) B12.out.size (by omega)))
  have hs13 := k13.size
  have l13_0 : w.heap.size < w13.heap.size := by omega
  have l13_1 : w.heap.size + 1 < w13.heap.size := by omega
  have l13_2 : w4.heap.size < w13.heap.size := by omega
  have l13_3 : w5.heap.size < w13.heap.size := by omega
  have c13_0 := (k13.cell (a := ⟨w.heap.size, 0, none⟩) (by show w.heap.size < _; omega) (by show w.heap.size < _ ∨ _ ≤ w.heap.size; omega)).trans c12_0
  have c13_1 := (k13.cell (a := ⟨w.heap.size, 1, none⟩) (by show w.heap.size < _; omega) (by show w.heap.size < _ ∨ _ ≤ w.heap.size; omega)).trans c12_1
  have c13_2 := (k13.cell (a := ⟨w.heap.size + 1, 0, none⟩) (by show w.heap.size + 1 < _; omega) (by show w.heap.size + 1 < _ ∨ _ ≤ w.heap.size + 1; omega)).trans c12_2
  have c13_3 := (k13.cell (a := ⟨w.heap.size + 1, 1, none⟩) (by show w.heap.size + 1 < _; omega) (by show w.heap.size + 1 < _ ∨ _ ≤ w.heap.size + 1; omega)).trans c12_3
  have c13_4 := (k13.cell (a := ⟨w4.heap.size, 0, none⟩) (by show w4.heap.size < _; omega) (by show w4.heap.size < _ ∨ _ ≤ w4.heap.size; omega)).trans c12_4
  have c13_5 := (k13.cell (a := ⟨w4.heap.size, 1, none⟩) (by show w4.heap.size < _; omega) (by show w4.heap.size < _ ∨ _ ≤ w4.heap.size; omega)).trans c12_5
  have c13_6 := (k13.cell (a := ⟨w5.heap.size, 0, none⟩) (by show w5.heap.size < _; omega) (by show w5.heap.size < _ ∨ _ ≤ w5.heap.size; omega)).trans c12_6
  have c13_7 := (k13.cell (a := ⟨w5.heap.size, 1, none⟩) (by show w5.heap.size < _; omega) (by show w5.heap.size < _ ∨ _ ≤ w5.heap.size; omega)).trans c12_7
  have RW := Lib.hid (RW.out.apart k13 (by omega))
  have RM := Lib.hid rmg
  clear rmg RG
  clear c12_0 c12_1 c12_2 c12_3 c12_4 c12_5 c12_6 c12_7 k13
  have HE := Lib.hid (fun w0 (hr : RwAt w0 lg hg g0 nN rn pg (mkF rn)) => heldRunS_at lg hg g0 c0 nN rn pg hbN hrn w0 hr)
  generalize mkQ rn nN = qq at *
  have i7 : ¬ ((qq : Nat) : Int) < 0 := by omega
  go_wp2_with fail
  refine (HE.out _ RM.out).mono ?_
  rintro e w' ⟨rfl, rfl⟩
  have TY := Lib.hid (fun w' (hw : Below w13.heap.size w13 w') => toYard_any ya yb yn yc ym yd yk yr Y1.out Y2.out (by omega) (by omega) w' w.heap.size (Nat.le_trans B13.out.size hw.size) (Y5.out.below (Nat.le_refl _) (B13.out.trans (hw.mono B13.out.size))) (Y6.out.below (Nat.le_refl _) (B13.out.trans (hw.mono B13.out.size))))
  have TR := Lib.hid (fun w' (hw : Below w13.heap.size w13 w') => toRun_any rx ra rn rc rs R1.out (by omega) w' w.heap.size (Nat.le_trans B13.out.size hw.size) (R3.out.below (Nat.le_refl _) (B13.out.trans (hw.mono B13.out.size))))
  go_upto_region 1 with fail
  have hS0 := And.intro c13_0 (And.intro c13_1 (And.intro c13_2 c13_3))
  go_region_held3 (fun w' => w'.cell? ⟨w.heap.size, 0, none⟩ = some (.slice ya yn yc) ∧ w'.cell? ⟨w.heap.size, 1, none⟩ = some (.slice yb ym yd) ∧ w'.cell? ⟨w.heap.size + 1, 0, none⟩ = some (.int .i64 rx) ∧ w'.cell? ⟨w.heap.size + 1, 1, none⟩ = some (.slice ra rn rc))
    (first | (with_reducible assumption) | (with_reducible exact yy_drew hS0) | (with_reducible exact yy_drew (yy_alloc hS0 _)) | (with_reducible exact yy_alloc (yy_drew hS0) _) | (with_reducible refine yy_drew ?_; with_reducible assumption) | (with_reducible refine yy_alloc ?_ _; with_reducible assumption) | (with_reducible refine yy_re (by with_reducible assumption) ?_ ?_ _; (focus first | (with_reducible assumption) | omega | (simp; done) | (simp; omega)); (focus first | (with_reducible assumption) | omega | (simp; done) | (simp; omega))) | (with_reducible refine yy_below ?_ ?_ ?_ h1; (focus first | (with_reducible assumption) | (with_reducible refine yy_undrew ?_; with_reducible assumption)); (focus first | (with_reducible assumption) | omega | (simp; done) | (simp; omega)); (focus first | (with_reducible assumption) | omega | (simp; done) | (simp; omega))) | ((repeat (with_reducible refine yy_set ?_ _ _ ?_ ?_; rotate_left 1; (focus first | (with_reducible assumption) | omega | (simp; done) | (simp; omega)); (focus first | (with_reducible assumption) | omega | (simp; done) | (simp; omega)))); with_reducible assumption))
    (first | (go_at_call 18; (with_reducible refine Calls.mono (TY.out _ ?_) ?_); (focus (go_grown; done)); rintro e wA ⟨gA, hA, rfl, _, _, rA, rB, h1⟩; (try with_reducible replace h1 := undrew h1); (try have QR := Lib.hid (QR.out.keep (ba (by go_grown) h1))); have hBwA : Below w13.heap.size w13 wA := ba (by go_grown) h1; obtain ⟨hcwA, hfwA⟩ := bcell h1; have hqwA := h1.size; (try simp at hqwA); have hz0wA : w.heap.size < wA.heap.size := (by omega); have he0wA : w.heap.size ≤ wA.heap.size := (by omega); have hz1wA : w.heap.size + 1 < wA.heap.size := (by omega); have he1wA : w.heap.size + 1 ≤ wA.heap.size := (by omega); (try have hywBwA : wB.heap.size < wA.heap.size := (by omega)); (try have hxwBwA : wB.heap.size ≤ wA.heap.size := (by omega)); (try have hywCwA : wC.heap.size < wA.heap.size := (by omega)); (try have hxwCwA : wC.heap.size ≤ wA.heap.size := (by omega)); (try have hywDwA : wD.heap.size < wA.heap.size := (by omega)); (try have hxwDwA : wD.heap.size ≤ wA.heap.size := (by omega)); (try have hywEwA : wE.heap.size < wA.heap.size := (by omega)); (try have hxwEwA : wE.heap.size ≤ wA.heap.size := (by omega)); have QA := Lib.hid rA; have QB := Lib.hid rB; clear rA rB) | (go_at_call 23; (with_reducible refine Calls.mono (TR.out _ ?_) ?_); (focus (go_grown; done)); rintro e wB ⟨gB, rfl, _, rC, h1⟩; (try with_reducible replace h1 := undrew h1); (try have QA := Lib.hid (QA.out.keep (ba (by go_grown) h1))); (try have QB := Lib.hid (QB.out.keep (ba (by go_grown) h1))); have hBwB : Below w13.heap.size w13 wB := ba (by go_grown) h1; obtain ⟨hcwB, hfwB⟩ := bcell h1; have hqwB := h1.size; (try simp at hqwB); have hz0wB : w.heap.size < wB.heap.size := (by omega); have he0wB : w.heap.size ≤ wB.heap.size := (by omega); have hz1wB : w.heap.size + 1 < wB.heap.size := (by omega); have he1wB : w.heap.size + 1 ≤ wB.heap.size := (by omega); (try have hywAwB : wA.heap.size < wB.heap.size := (by omega)); (try have hxwAwB : wA.heap.size ≤ wB.heap.size := (by omega)); (try have hywCwB : wC.heap.size < wB.heap.size := (by omega)); (try have hxwCwB : wC.heap.size ≤ wB.heap.size := (by omega)); (try have hywDwB : wD.heap.size < wB.heap.size := (by omega)); (try have hxwDwB : wD.heap.size ≤ wB.heap.size := (by omega)); (try have hywEwB : wE.heap.size < wB.heap.size := (by omega)); (try have hxwEwB : wE.heap.size ≤ wB.heap.size := (by omega)); have QR := Lib.hid rC; clear rC) | (go_at_call 47; (with_reducible refine Calls.mono (IMC.out _ _ _ _ ?_ ?_ ?_) ?_); (focus (exact QA.out.keep (by go_grown))); (focus (exact QB.out.keep (by go_grown))); (focus (exact QR.out.keep (by go_grown))); rintro e wE ⟨gF, cF, lF, hF, pF, rfl, glF, rF, _, h1⟩; (try with_reducible replace h1 := undrew h1); have hBwE : Below w13.heap.size w13 wE := ba (by go_grown) h1; obtain ⟨hcwE, hfwE⟩ := bcell h1; have hqwE := h1.size; (try simp at hqwE); have hz0wE : w.heap.size < wE.heap.size := (by omega); have he0wE : w.heap.size ≤ wE.heap.size := (by omega); have hz1wE : w.heap.size + 1 < wE.heap.size := (by omega); have he1wE : w.heap.size + 1 ≤ wE.heap.size := (by omega); (try have hywAwE : wA.heap.size < wE.heap.size := (by omega)); (try have hxwAwE : wA.heap.size ≤ wE.heap.size := (by omega)); (try have hywBwE : wB.heap.size < wE.heap.size := (by omega)); (try have hxwBwE : wB.heap.size ≤ wE.heap.size := (by omega)); (try have hywCwE : wC.heap.size < wE.heap.size := (by omega)); (try have hxwCwE : wC.heap.size ≤ wE.heap.size := (by omega)); (try have hywDwE : wD.heap.size < wE.heap.size := (by omega)); (try have hxwDwE : wD.heap.size ≤ wE.heap.size := (by omega))))
  all_goals
    have RF := Lib.hid rF
    have RW2 := Lib.hid (RW.out.keep hBwE)
    have RM2 := Lib.hid (RM.out.keep hBwE)
    have BE := Lib.hid (B13.out.trans (hBwE.mono B13.out.size))
    clear hS0 h1 hcwA hfwA hcwB hfwB hcwE hfwE hBwA hBwB hBwE QA QB QR rF c13_0 c13_1 c13_2 c13_3 c13_4 c13_5 c13_6 c13_7
    go_wp2_with fail
    refine (eqRunS_all _ _ gF cF _ _ gw cw nN rn pF pw ff XN.out hbN hrn _ RF.out RW2.out).mono ?_
    rintro e wG ⟨rfl, kG⟩
    have BG := Lib.hid (BE.out.trans (kG.mono BE.out.size))
    have RM3 := Lib.hid (RM2.out.keep kG)
    clear kG
    go_wp2_with fail
    refine (HE.out _ RM3.out).mono ?_
    rintro e w' ⟨rfl, rfl⟩
    go_wp2_with fail
    go_ret
    exact ⟨rfl, BG.out⟩

set_option maxRecDepth 100000 in
theorem walk (w : World) (ya yb : Option Addr) (yn yc ym yd : Nat) (yk yr : List Int) (y1 : yk.length = yn) (y2 : yr.length = ym) (y3 : yn ≤ maxLen) (y4 : ym ≤ maxLen) (y5 : RdA w.heap.size w ya yk) (y6 : RdA w.heap.size w yb yr) (rx : Int) (ra : Option Addr) (rn rc : Nat) (rs : List Int) (r1 : rs.length = rn) (r2 : rn ≤ maxLen) (r3 : RdA w.heap.size w ra rs) (r4 : (Lit.int .i64 rx).wf = true) :
    Calls Try.prog 12 #[.agg #[.slice ya yn yc, .slice yb ym yd], .agg #[.int .i64 rx, .slice ra rn rc]] w fun e w' => e = .returned (.bool true) ∧ Below w.heap.size w w' := by
  cases hb : rnB yk yr rx rs
  · exact walk_nil w ya yb yn yc ym yd yk yr y1 y2 y3 y4 y5 y6 rx ra rn rc rs r1 r2 r3 r4 false
      (fun a1 a2 a3 g h p w' H1 H2 H3 => spBack_no rx g yn h ym p rn yn ym rn yk yr rs y1 y2 r1 (by omega) (by omega) (by omega) hb w' H1 H2 H3)
      (fun a1 a2 a3 g h p w' H1 H2 H3 => imBack_no rx g yn h ym p rn yn ym rn yk yr rs y1 y2 r1 (by omega) (by omega) (by omega) hb w' H1 H2 H3)
  · obtain ⟨hg, a, rfl, ho⟩ := (run_iff yk yr rx rs).1 hb
    by_cases hne : bk6 yk yr a rs = []
    · exact walk_nil w ya yb yn yc ym yd yk yr y1 y2 y3 y4 y5 y6 (a : Nat) ra rn rc rs r1 r2 r3 r4 true
        (fun a1 a2 a3 g h p w' H1 H2 H3 => spBack_nil y1 y2 r1 hg ho hne w' H1 H2 H3)
        (fun a1 a2 a3 g h p w' H1 H2 H3 => imBack_nil y1 y2 r1 hg ho hne w' H1 H2 H3)
    · exact walk_yes w ya yb yn yc ym yd yk yr y1 y2 y3 y4 y5 y6 (a : Nat) ra rn rc rs r1 r2 r3 r4 (bk6 yk yr a rs).length (rwF (bk6 yk yr a rs)) (rw_lens (bk_lens r1)) (bk_len6 _ _ _ _) (by have := hg.n6; have := ho.len; omega)
        (fun a1 a2 a3 g h p w' H1 H2 H3 => spBack_rw y1 y2 r1 hg ho hne w' H1 H2 H3)
        (fun a1 a2 a3 g h p w' H1 H2 H3 => imBack_rw y1 y2 r1 hg ho hne w' H1 H2 H3)

set_option maxRecDepth 100000 in
theorem lifted (os : Os) (started : os.Started) (H : Type) (enc : TypeId × Value → H) :
    ReturnsInHanded {} Try.checked os 12 .any (Rows.fnExactBackRunSpec.pre6 enc Try.prog Try.f12 Rows.fnExactBackRunRow.domain false) (Rows.fnExactBackRunSpec.post enc Try.prog Try.f12 false true false false) := by
  refine returnsInHanded_of_change (C := Try.checked) Try.own started (by kernel_rfl) Try.func12
    (ChangeSpec.witness6 (enc := enc) (C := Try.checked) false ⟨#[], #[.agg #[.slice none 0 0, .slice none 0 0], .agg #[.int .i64 0, .slice none 0 0]], []⟩ 8 (by kernel_rfl) (by kernel_rfl) (by kernel_rfl) (by kernel_rfl)) ?_
  intro W base args ds gs before hval0 hW _ _
  have hval : ∀ (j : Nat) t v, Try.f12.params[j]? = some t → args[j]? = some v → Value.okWide Try.prog W .any base t v := hval0
  have hW0 := hW
  obtain ⟨p, q, hA0, hV, rfl, _, _⟩ := hW
  have hA : DataW.TrodAll enc Try.prog W 0 (fun _ => true) true Try.f12.params.toList args.toList ds p := hA0
  rw [Try.params12] at hA hval
  obtain ⟨v0, v1, d0, d1, p0, p1, rfl, rfl, rfl, h0, h1⟩ := trodAll_two hA
  obtain ⟨ya, yb, yn, yc, ym, yd, yk, yr, rfl, y1, y2, y3, y4, y5, y6⟩ := open_yard (hval 0 24 v0 rfl rfl) h0
  obtain ⟨rx, ra, rn, rc, rs, rfl, r1, r2, r3, r4⟩ := open_run (hval 1 32 v1 rfl rfl) h1
  refine (walk W ya yb yn yc ym yd yk yr y1 y2 y3 y4 y5 y6 rx ra rn rc rs r1 r2 r3 r4).mono fun e W' ⟨he, hw⟩ => ?_
  subst he
  exact ⟨_, rfl, law_post Try.laidOut (by kernel_rfl) rfl Try.underlying4 rfl rfl hW0 hw⟩

theorem holds : Rows.FnExactBackRunSaid :=
  OpenClaim.holds_of_wide 12 Try.f12 rfl rfl rfl rfl rfl rfl rfl ⟨rfl, rfl, rfl, rfl, rfl⟩ rfl rfl rfl rfl rfl (by kernel_rfl) Try.func12 (by kernel_rfl)
    (of_decide_eq_true (by kernel_rfl)) (by unfold Func.isWrapper; first | (rw [if_pos (by decide +kernel)]; kernel_rfl) | (rw [if_neg (by decide +kernel)]; exact ⟨rfl, rfl⟩))
    (fun os started H enc _ => lifted os started H enc)

end Go.Proofs.Ytoaccnpkobbaaaa.lBackRun
