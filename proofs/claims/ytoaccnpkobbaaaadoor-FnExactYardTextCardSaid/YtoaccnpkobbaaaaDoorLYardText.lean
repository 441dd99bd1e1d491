/- For every input the law FnExactYardText returns true, and its arguments read afterwards as they read before. Condition, tied by the card to the program's text: the listed tables of Go's library read as their text lays them (this proof reads none). -/
import Derived.Test.YtoaccnpkobbaaaaDoorKitY
import Derived.Test.YtoaccnpkobbaaaaDoorYLd
import Derived.Test.YtoaccnpkobbaaaaDoorClY
import Derived.Test.YtoaccnpkobbaaaaDoorYxB
import Derived.Lib.Hide
import Derived.Test.YtoaccnpkobbaaaaDoorTie
import Derived.Test.YtoaccnpkobbaaaaDoorCards
import Derived.OpenShut
import Derived.LaidMore
import Derived.Lay
import Derived.SevenTiedAt
import Derived.Stop.Joined
import Derived.Deep.RegionHeld3
import Derived.Deep.DeepCutAuto
namespace Go.Proofs.YtoaccnpkobbaaaaDoor.lYardText
open Go.ChangeShapes Go.WideShapes Go.ChangeAt Go.RowKit Go.Joins Yd

set_option linter.unusedVariables false

set_option maxRecDepth 100000 in
set_option maxHeartbeats 3200000 in
theorem walk (w : World) (ya yb : Option Addr) (yn yc ym yd : Nat) (yk yr : List Int) (y1 : yk.length = yn) (y2 : yr.length = ym) (y3 : yn ≤ maxLen) (y4 : ym ≤ maxLen) (y5 : RdA w.heap.size w ya yk) (y6 : RdA w.heap.size w yb yr) :
    Calls Tryd.prog 3 #[.agg #[.slice ya yn yc, .slice yb ym yd]] w fun e w' => e = .returned (.bool true) ∧ Below w.heap.size w w' := by
  unfold maxLen at y3 y4
  by_cases fit : (yn : Int) + ym ≤ 1048576
  case neg =>
    go_enter Tryd.func3, Tryd.ntmps3
    go_wp2_with fail
    refine (szYard_no _ _ _ _ _ _ _ (by decide) (by decide) (by omega) (by omega) (by omega) _).mono ?_
    rintro e w2 ⟨rfl, h2⟩
    have hB2 : Below w.heap.size w w2 := ba (by go_grown) h2
    clear h2
    go_wp2_with fail
    go_ret
    exact ⟨rfl, hB2⟩
  have i4 : ¬ (1048576 : Int) - yn - ym < 0 := by omega
  have Y1 := Lib.hid y1
  have Y2 := Lib.hid y2
  have Y5 := Lib.hid y5
  have Y6 := Lib.hid y6
  clear y1 y2 y5 y6
  have SPC := Lib.hid (fun g h w' H1 H2 => spYardText g yn h ym yn ym yk yr Y1.out Y2.out (by omega) (by omega) w' H1 H2)
  have IMC := Lib.hid (fun g h w' H1 H2 => imYardText g yn h ym yn ym yk yr Y1.out Y2.out (by omega) (by omega) w' H1 H2)
  go_enter Tryd.func3, Tryd.ntmps3
  go_wp2_with fail
  refine (szYard_fit _ _ _ _ _ _ _ (by decide) (by decide) fit _).mono ?_
  rintro e w1 ⟨rfl, k1⟩
  have B1 := Lib.hid (ba (by go_grown) k1 : Below w.heap.size w w1)
  have hs1 := k1.size
  try simp at hs1
  have l1_0 : w.heap.size < w1.heap.size := by omega
  have c1_0 := cl_below (b := w.heap.size) (o := 0) (v := .slice ya yn yc) (by first | (with_reducible assumption) | (simp [go_sem, *]; done)) (by first | (with_reducible assumption) | (simp; done) | (simp <;> omega)) k1
  have c1_1 := cl_below (b := w.heap.size) (o := 1) (v := .slice yb ym yd) (by first | (with_reducible assumption) | (simp [go_sem, *]; done)) (by first | (with_reducible assumption) | (simp; done) | (simp <;> omega)) k1
  clear k1
  go_wp2_with fail
  refine (toYard_any ya yb yn yc ym yd yk yr Y1.out Y2.out (by omega) (by omega) _ w.heap.size (B1.out).size (Y5.out.below (Nat.le_refl _) (B1.out)) (Y6.out.below (Nat.le_refl _) (B1.out))).mono ?_
  rintro e w2 ⟨g2, h2, rfl, gl2, gh2, ra2, rb2, k2⟩
  have B2 := Lib.hid (B1.out.trans ((ba (by go_grown) k2 : Below w1.heap.size w1 w2).mono B1.out.size))
  have hs2 := k2.size
  try simp at hs2
  have l2_0 : w.heap.size < w2.heap.size := by omega
  have c2_0 := cl_below (b := w.heap.size) (o := 0) (v := .slice ya yn yc) (by first | (with_reducible assumption) | (simp [go_sem, *]; done)) (by first | (with_reducible assumption) | (simp; done) | (simp <;> omega)) k2
  have c2_1 := cl_below (b := w.heap.size) (o := 1) (v := .slice yb ym yd) (by first | (with_reducible assumption) | (simp [go_sem, *]; done)) (by first | (with_reducible assumption) | (simp; done) | (simp <;> omega)) k2
  have RA := Lib.hid ra2
  have RB := Lib.hid rb2
  clear ra2 rb2
  clear c1_0 c1_1 k2
  go_wp2_with fail
  refine (SPC.out g2 h2 _ RA.out RB.out).mono ?_
  rintro e w3 ⟨rfl, k3⟩
  have B3 := Lib.hid (B2.out.trans ((ba (by go_grown) k3 : Below w2.heap.size w2 w3).mono B2.out.size))
  have hs3 := k3.size
  try simp at hs3
  have l3_0 : w.heap.size < w3.heap.size := by omega
  have c3_0 := cl_below (b := w.heap.size) (o := 0) (v := .slice ya yn yc) (by first | (with_reducible assumption) | (simp [go_sem, *]; done)) (by first | (with_reducible assumption) | (simp; done) | (simp <;> omega)) k3
  have c3_1 := cl_below (b := w.heap.size) (o := 1) (v := .slice yb ym yd) (by first | (with_reducible assumption) | (simp [go_sem, *]; done)) (by first | (with_reducible assumption) | (simp; done) | (simp <;> omega)) k3
  clear c2_0 c2_1 k3
  go_wp2_with fail
  refine (toYard_any ya yb yn yc ym yd yk yr Y1.out Y2.out (by omega) (by omega) _ w.heap.size (B3.out).size (Y5.out.below (Nat.le_refl _) (B3.out)) (Y6.out.below (Nat.le_refl _) (B3.out))).mono ?_
  rintro e w4 ⟨g4, h4, rfl, gl4, gh4, ra4, rb4, k4⟩
  have B4 := Lib.hid (B3.out.trans ((ba (by go_grown) k4 : Below w3.heap.size w3 w4).mono B3.out.size))
  have hs4 := k4.size
  try simp at hs4
  have l4_0 : w.heap.size < w4.heap.size := by omega
  have c4_0 := cl_below (b := w.heap.size) (o := 0) (v := .slice ya yn yc) (by first | (with_reducible assumption) | (simp [go_sem, *]; done)) (by first | (with_reducible assumption) | (simp; done) | (simp <;> omega)) k4
  have c4_1 := cl_below (b := w.heap.size) (o := 1) (v := .slice yb ym yd) (by first | (with_reducible assumption) | (simp [go_sem, *]; done)) (by first | (with_reducible assumption) | (simp; done) | (simp <;> omega)) k4
  have XA := Lib.hid ra4
  have XB := Lib.hid rb4
  clear ra4 rb4
  clear c3_0 c3_1 k4
  go_wp2_with fail
  refine (IMC.out g4 h4 _ (XA.out.keep (by go_grown)) (XB.out.keep (by go_grown))).mono ?_
  rintro e w5 ⟨rfl, k5⟩
  have B5 := Lib.hid (B4.out.trans ((ba (by go_grown) k5 : Below w4.heap.size w4 w5).mono B4.out.size))
  have hs5 := k5.size
  try simp at hs5
  have l5_0 : w.heap.size < w5.heap.size := by omega
  have l5_1 : w4.heap.size < w5.heap.size := by omega
  have c5_0 := cl_below (b := w.heap.size) (o := 0) (v := .slice ya yn yc) (by first | (with_reducible assumption) | (simp [go_sem, *]; done)) (by first | (with_reducible assumption) | (simp; done) | (simp <;> omega)) k5
  have c5_1 := cl_below (b := w.heap.size) (o := 1) (v := .slice yb ym yd) (by first | (with_reducible assumption) | (simp [go_sem, *]; done)) (by first | (with_reducible assumption) | (simp; done) | (simp <;> omega)) k5
  have c5_2 := cl_below (b := w4.heap.size) (o := 0) (v := .slice (some ⟨g4, 0, none⟩) yn yn) (by first | (with_reducible assumption) | (simp [go_sem, *]; done)) (by first | (with_reducible assumption) | (simp; done) | (simp <;> omega)) k5
  have c5_3 := cl_below (b := w4.heap.size) (o := 1) (v := .slice (some ⟨h4, 0, none⟩) ym ym) (by first | (with_reducible assumption) | (simp [go_sem, *]; done)) (by first | (with_reducible assumption) | (simp; done) | (simp <;> omega)) k5
  have XA := Lib.hid (XA.out.keep (ba (by go_grown) k5 : Below w4.heap.size w4 w5))
  have XB := Lib.hid (XB.out.keep (ba (by go_grown) k5 : Below w4.heap.size w4 w5))
  clear c4_0 c4_1 k5
  go_upto_region 1 with fail
  have hS0 := And.intro c5_2 (And.intro c5_3 (And.intro c5_0 c5_1))
  have TY := Lib.hid (fun w' (hw : Below w5.heap.size w5 w') => toYard_any ya yb yn yc ym yd yk yr Y1.out Y2.out (by omega) (by omega) w' w.heap.size (Nat.le_trans B5.out.size hw.size) (Y5.out.below (Nat.le_refl _) (B5.out.trans (hw.mono B5.out.size))) (Y6.out.below (Nat.le_refl _) (B5.out.trans (hw.mono B5.out.size))))
  have EY := Lib.hid (fun g h w' (hw : Below w5.heap.size w5 w') (q1 : RL w' g yn yk) (q2 : RL w' h ym yr) => eqYard_same g4 yn h4 ym g yn h ym yn ym yk yr Y1.out Y2.out (by omega) (by omega) w' (XA.out.keep hw) (XB.out.keep hw) q1 q2)
  go_region_held3 (fun w' => w'.cell? ⟨w4.heap.size, 0, none⟩ = some (.slice (some ⟨g4, 0, none⟩) yn yn) ∧ w'.cell? ⟨w4.heap.size, 1, none⟩ = some (.slice (some ⟨h4, 0, none⟩) ym ym) ∧ w'.cell? ⟨w.heap.size, 0, none⟩ = some (.slice ya yn yc) ∧ w'.cell? ⟨w.heap.size, 1, none⟩ = some (.slice yb ym yd))
    (first | (with_reducible assumption) | (with_reducible exact yy_drew hS0) | (with_reducible exact yy_drew (yy_alloc hS0 _)) | (with_reducible exact yy_alloc (yy_drew hS0) _) | (with_reducible refine yy_drew ?_; with_reducible assumption) | (with_reducible refine yy_alloc ?_ _; with_reducible assumption) | (with_reducible refine yy_re (by with_reducible assumption) ?_ ?_ _; (focus first | (with_reducible assumption) | omega | (simp; done) | (simp; omega)); (focus first | (with_reducible assumption) | omega | (simp; done) | (simp; omega))) | (with_reducible refine yy_below ?_ ?_ ?_ h1; (focus first | (with_reducible assumption) | (with_reducible refine yy_undrew ?_; with_reducible assumption)); (focus first | (with_reducible assumption) | omega | (simp; done) | (simp; omega)); (focus first | (with_reducible assumption) | omega | (simp; done) | (simp; omega))) | ((repeat (with_reducible refine yy_set ?_ _ _ ?_ ?_; rotate_left 1; (focus first | (with_reducible assumption) | omega | (simp; done) | (simp; omega)); (focus first | (with_reducible assumption) | omega | (simp; done) | (simp; omega)))); with_reducible assumption))
    (first | (go_at_call 7; (with_reducible refine Calls.mono (TY.out _ ?_) ?_); (focus (go_grown; done)); rintro e wA ⟨gA, hA, rfl, _, _, rA, rB, h1⟩; (try with_reducible replace h1 := undrew h1); (try have QR := Lib.hid (QR.out.keep (ba (by go_grown) h1))); have hBwA : Below w5.heap.size w5 wA := ba (by go_grown) h1; obtain ⟨hcwA, hfwA⟩ := bcell h1; have hqwA := h1.size; (try simp at hqwA); have hz0wA : w4.heap.size < wA.heap.size := (by omega); have he0wA : w4.heap.size ≤ wA.heap.size := (by omega); have hz1wA : w.heap.size < wA.heap.size := (by omega); have he1wA : w.heap.size ≤ wA.heap.size := (by omega); (try have hywBwA : wB.heap.size < wA.heap.size := (by omega)); (try have hxwBwA : wB.heap.size ≤ wA.heap.size := (by omega)); (try have hywCwA : wC.heap.size < wA.heap.size := (by omega)); (try have hxwCwA : wC.heap.size ≤ wA.heap.size := (by omega)); (try have hywDwA : wD.heap.size < wA.heap.size := (by omega)); (try have hxwDwA : wD.heap.size ≤ wA.heap.size := (by omega)); have QA := Lib.hid rA; have QB := Lib.hid rB; clear rA rB) | (go_at_call 9; (with_reducible refine Calls.mono (EY.out _ _ _ ?_ ?_ ?_) ?_); (focus (go_grown; done)); (focus (exact QA.out.keep (by go_grown))); (focus (exact QB.out.keep (by go_grown))); rintro e wC ⟨rfl, h1⟩; (try with_reducible replace h1 := undrew h1); have hBwC : Below w5.heap.size w5 wC := ba (by go_grown) h1; obtain ⟨hcwC, hfwC⟩ := bcell h1; have hqwC := h1.size; (try simp at hqwC); have hz0wC : w4.heap.size < wC.heap.size := (by omega); have he0wC : w4.heap.size ≤ wC.heap.size := (by omega); have hz1wC : w.heap.size < wC.heap.size := (by omega); have he1wC : w.heap.size ≤ wC.heap.size := (by omega); (try have hywAwC : wA.heap.size < wC.heap.size := (by omega)); (try have hxwAwC : wA.heap.size ≤ wC.heap.size := (by omega)); (try have hywBwC : wB.heap.size < wC.heap.size := (by omega)); (try have hxwBwC : wB.heap.size ≤ wC.heap.size := (by omega)); (try have hywDwC : wD.heap.size < wC.heap.size := (by omega)); (try have hxwDwC : wD.heap.size ≤ wC.heap.size := (by omega))))
  all_goals
    go_wp2_with fail
    go_ret
    exact ⟨rfl, B5.out.trans (Below.mono (by go_grown : Below w5.heap.size w5 _) B5.out.size)⟩

theorem laid_met (os : Os) (args : Array Value) : laidMetH Tryd.prog Rows.fnExactYardTextRow.laid ((World.laidAll Tryd.prog os Rows.fnExactYardTextRow.laid).forCall (fun _ _ => 0) ⟨#[], args, []⟩).memory := by
  rw [MakeChecks.laidMetH_plain _ _ _ (by kernel_rfl)]
  exact laidMet_laidAll _ (by kernel_rfl) (by kernel_rfl)

set_option maxRecDepth 100000 in
theorem lifted (os : Os) (started : os.Started) (H : Type) (enc : TypeId × Value → H) :
    ReturnsInHanded {} Tryd.checked os 3 .any (fun w args => (Rows.fnExactYardTextSpec.pre enc Tryd.prog Tryd.f3 Rows.fnExactYardTextRow.domain false w args ∧ laidMetH Tryd.prog Rows.fnExactYardTextRow.laid w) ∧ sizedMet enc Tryd.prog Tryd.f3 (OpenSpec.ofChange Rows.fnExactYardTextSpec) false w args)
      (Rows.fnExactYardTextSpec.post enc Tryd.prog Tryd.f3 false true false false) := by
  refine returnsInHanded_of_change_and (C := Tryd.checked) (X := fun w _ => laidMetH Tryd.prog Rows.fnExactYardTextRow.laid w) (fun _ _ _ hh h => h.of_heap hh) Tryd.own started (by kernel_rfl) Tryd.func3
    (ChangeSpec.witness_shaped (enc := enc) (C := Tryd.checked) (os := os) (X := fun w _ => laidMetH Tryd.prog Rows.fnExactYardTextRow.laid w) false (World.laidAll Tryd.prog os Rows.fnExactYardTextRow.laid) #[.agg #[.slice none 0 0, .slice none 0 0]] 8 (World.laidAll_os _ _ _)
      (World.shaped_of_ZipB (by kernel_rfl) (by kernel_rfl)) (by kernel_rfl) (by kernel_rfl) (by kernel_rfl) (laid_met os _)) ?_
  intro W base args ds gs before hval0 hW _ _ hL _
  have hval : ∀ (j : Nat) t v, Tryd.f3.params[j]? = some t → args[j]? = some v → Value.okWide Tryd.prog W .any base t v := hval0
  have hW0 := hW
  obtain ⟨p, q, hA0, hV, rfl, _, _⟩ := hW
  have hA : DataW.TrodAll enc Tryd.prog W 0 (fun _ => true) true Tryd.f3.params.toList args.toList ds p := hA0
  rw [Tryd.params3] at hA hval
  obtain ⟨v0, d0, rfl, rfl, h0⟩ := trodAll_one hA
  obtain ⟨ya, yb, yn, yc, ym, yd, yk, yr, rfl, y1, y2, y3, y4, y5, y6⟩ := open_yard (hval 0 24 v0 rfl rfl) h0
  refine (walk W ya yb yn yc ym yd yk yr y1 y2 y3 y4 y5 y6).mono fun e W' ⟨he, hw⟩ => ?_
  subst he
  exact ⟨_, rfl, law_post Tryd.laidOut (by kernel_rfl) rfl Tryd.underlying4 rfl rfl hW0 hw⟩

theorem holds : Rows.FnExactYardTextSaid :=
  OpenClaim.holds_of_wide 3 Tryd.f3 rfl rfl rfl rfl rfl rfl rfl ⟨rfl, rfl, rfl, rfl, rfl⟩ rfl rfl rfl rfl rfl (by kernel_rfl) Tryd.func3 (by kernel_rfl)
    (of_decide_eq_true (by kernel_rfl)) (by unfold Func.isWrapper; first | (rw [if_pos (by decide +kernel)]; kernel_rfl) | (rw [if_neg (by decide +kernel)]; exact ⟨rfl, rfl⟩))
    (fun os started H enc _ => lifted os started H enc)

theorem card_holds : Rows.FnExactYardTextCardSaid :=
  Claim7.holds_tied_plain_at .later [] [.data, .data, .data] true (true, "c5764f841c4a9241cdfc4ab8e56613f10e7e9b02a2817ff8a84486c71877aff2") true holds (fun _ h => by cases h) (by kernel_rfl) (fun _ h => by cases h) fnExactYardText_row_tie rfl ⟨rfl, rfl⟩ (by kernel_rfl) rfl
    (fun f fn hf hfn => by
      obtain rfl : f = 3 := Option.some.inj ((show Tryd.prog.funcNamed "loop.example/g01217/laws.FnExactYardText" = some 3 by kernel_rfl).symm.trans hf) |>.symm
      obtain rfl : fn = Tryd.f3 := (Option.some.inj (Tryd.func3.symm.trans hfn)).symm
      exact ⟨by kernel_rfl, fun j t ht => by
        rw [Tryd.params3] at ht
        have hm : t ∈ [24] := by simpa using Array.mem_of_getElem? ht
        have hall : ([24].all fun u => !Tryd.prog.wantsStandIn u) = true := by kernel_rfl
        exact (show Tryd.prog.wantsStandIn t = false by simpa using List.all_eq_true.1 hall t hm)⟩)
    (by kernel_rfl)

end Go.Proofs.YtoaccnpkobbaaaaDoor.lYardText
