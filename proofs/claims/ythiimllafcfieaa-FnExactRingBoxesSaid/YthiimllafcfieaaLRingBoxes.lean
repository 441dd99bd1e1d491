/- For every input the law FnExactRingBoxes returns true, and its arguments read afterwards as they read before. Conditions: none. -/
import Derived.Test.YthiimllafcfieaaQ8
import Derived.Lib.Hide
import Derived.ChangeMaps5
namespace Go.Proofs.Ythiimllafcfieaa.lRingBoxes
open Go.ChangeShapes Go.WideShapes Go.ChangeAt Go.RowKit Go.Joins Go.ChangeMaps

set_option linter.unusedVariables false

theorem rowKB {w w' : World} {g n m : Nat} {k : Int} (h : RowK w g n k) (hg : g < m) (hb : Below m w w') : RowK w' g n k := fun j hj => by
  rw [hb.cell (p := ⟨g, j, none⟩) hg]; exact h j hj

set_option maxRecDepth 100000 in
set_option maxHeartbeats 1600000 in
theorem walk0 (n : Int) (l : List Bq) (b : Bool) (hl : l.length ≤ 900000)
    (c1 : ∀ w, Calls Try.prog 35 #[.int .i64 n] w (BXPost l b w))
    (c2 : ∀ w, Calls Try.prog 36 #[.int .i64 n] w (BXPost l b w)) (w : World) :
    Calls Try.prog 11 #[.int .i64 n] w fun e w' => e = .returned (.bool true) ∧ Below w.heap.size w w' := by
  have C1 := Lib.hid c1
  have C2 := Lib.hid c2
  clear c1 c2
  have i3 : ¬ (1 : Int) + 2 * (l.length : Int) < 0 := by omega
  go_enter Try.func11, Try.ntmps11
  go_wp2_with fail
  refine (C1.out _).mono ?_
  rintro e w1 ⟨vw, rfl, o1, hb1⟩
  have S1 := Lib.hid (boxV_own o1)
  have O1 := Lib.hid o1
  have B1 := Lib.hid hb1
  clear o1 hb1
  go_wp2_with fail
  refine (C2.out _).mono ?_
  rintro e w2 ⟨vg, rfl, o2, hb2⟩
  have hap := own_apart O1.out o2 (Nat.le_refl _)
  have T2 := Lib.hid (boxV_own o2)
  have F2 := Lib.hid (freeB_own o2)
  have G2 := Lib.hid (fun g hg => (o2.lt g hg).2)
  have G1 := Lib.hid (fun g hg => (o2.lt g hg).1)
  have S2 := Lib.hid (S1.out.below hb2)
  have B2 := Lib.hid (B1.out.trans (hb2.mono B1.out.size))
  obtain ⟨av, cv, rfl⟩ := own_formC o2
  have AP := Lib.hid hap
  clear o2 hb2 hap
  go_wp2_with fail
  refine (eqBoxV_same _ _ l (by omega) _ T2.out S2.out).mono ?_
  rintro e w3 ⟨rfl, hb3⟩
  have T3 := Lib.hid (T2.out.below hb3)
  have S3 := Lib.hid (S2.out.below hb3)
  have F3 := Lib.hid (fun g hg => (show FreeR w3 g (l.length * 2) from fun j hj => by rw [hb3.frozen (p := ⟨g, j, none⟩) (G2.out g hg)]; exact F2.out g hg j hj))
  have B3 := Lib.hid (B2.out.trans (hb3.mono B2.out.size))
  have hz3 := hb3.size
  clear hb3
  go_wp2_with fail
  refine (markBoxV _ l hl _ T3.out F3.out).mono ?_
  rintro e w4 ⟨rfl, hK, hg4⟩
  have S4 := Lib.hid (S3.out.grown hg4 AP.out)
  have K4 := Lib.hid (show l.length = 0 ∨ ∃ g, av = some ⟨g, 0, none⟩ ∧ g < w4.heap.size ∧ RowK w4 g (l.length * 2) 1 by
    obtain ⟨av', cap', h, h'⟩ := T3.out
    injection h with h
    subst h
    rcases h' with h' | ⟨g, rfl, hg, _⟩
    · exact .inl (by rw [h']; rfl)
    · exact .inr ⟨g, rfl, Nat.lt_of_lt_of_le hg hg4.size, hK g rfl⟩)
  have B4 := Lib.hid (B3.out.grown hg4 B3.out.size (fun k hk => Nat.le_trans B1.out.size (G1.out k hk)))
  clear hK hg4
  go_wp2_with fail
  refine (heldBoxV av l.length cv hl _ K4.out).mono ?_
  rintro e w5 ⟨rfl, hb5⟩
  have S5 := Lib.hid (S4.out.below hb5)
  have K5 := Lib.hid (show l.length = 0 ∨ ∃ g, av = some ⟨g, 0, none⟩ ∧ g < w5.heap.size ∧ RowK w5 g (l.length * 2) 1 from K4.out.imp id (fun ⟨g, h1, h2, h3⟩ => ⟨g, h1, Nat.lt_of_lt_of_le h2 hb5.size, rowKB h3 h2 hb5⟩))
  have B5 := Lib.hid (B4.out.trans (hb5.mono B4.out.size))
  clear hb5
  go_wp2_with fail
  refine (C2.out _).mono ?_
  rintro e w6 ⟨vh, rfl, o6, hb6⟩
  have T6 := Lib.hid (boxV_own o6)
  have S6 := Lib.hid (S5.out.below hb6)
  have K6 := Lib.hid (show l.length = 0 ∨ ∃ g, av = some ⟨g, 0, none⟩ ∧ g < w6.heap.size ∧ RowK w6 g (l.length * 2) 1 from K5.out.imp id (fun ⟨g, h1, h2, h3⟩ => ⟨g, h1, Nat.lt_of_lt_of_le h2 hb6.size, rowKB h3 h2 hb6⟩))
  have B6 := Lib.hid (B5.out.trans (hb6.mono B5.out.size))
  clear o6 hb6
  go_wp2_with fail
  refine (eqBoxV_same _ _ l (by omega) _ T6.out S6.out).mono ?_
  rintro e w7 ⟨rfl, hb7⟩
  have K7 := Lib.hid (show l.length = 0 ∨ ∃ g, av = some ⟨g, 0, none⟩ ∧ g < w7.heap.size ∧ RowK w7 g (l.length * 2) 1 from K6.out.imp id (fun ⟨g, h1, h2, h3⟩ => ⟨g, h1, Nat.lt_of_lt_of_le h2 hb7.size, rowKB h3 h2 hb7⟩))
  have B7 := Lib.hid (B6.out.trans (hb7.mono B6.out.size))
  clear hb7
  go_wp2_with fail
  refine (heldBoxV av l.length cv hl _ K7.out).mono ?_
  rintro e w8 ⟨rfl, hb8⟩
  have B8 := Lib.hid (B7.out.trans (hb8.mono B7.out.size))
  clear hb8
  go_wp2_with fail
  all_goals go_returns
  all_goals exact ⟨rfl, B8.out⟩

set_option maxRecDepth 100000 in
theorem walk (n : Int) (w : World) :
    Calls Try.prog 11 #[.int .i64 n] w fun e w' => e = .returned (.bool true) ∧ Below w.heap.size w w' := by
  exact walk0 n (rbR n) (rbG n) (Nat.le_trans (rbR_le n) (by decide)) (spRingBoxes n) (imRingBoxes n) w

set_option maxRecDepth 100000 in
theorem lifted (os : Os) (started : os.Started) (H : Type) (enc : TypeId × Value → H) :
    ReturnsInHanded {} Try.checked os 11 .any (Rows.fnExactRingBoxesSpec.pre6 enc Try.prog Try.f11 Rows.fnExactRingBoxesRow.domain false) (Rows.fnExactRingBoxesSpec.post enc Try.prog Try.f11 false true false false) := by
  refine returnsInHanded_of_change (C := Try.checked) Try.own started (by kernel_rfl) Try.func11
    (ChangeSpec.witness6 (enc := enc) (C := Try.checked) false ⟨#[], #[.int .i64 0], []⟩ 8 (by kernel_rfl) (by kernel_rfl) (by kernel_rfl) (by kernel_rfl)) ?_
  intro W base args ds gs before hval0 hW _ _
  have hval : ∀ (j : Nat) t v, Try.f11.params[j]? = some t → args[j]? = some v → Value.okWide Try.prog W .any base t v := hval0
  have hW0 := hW
  obtain ⟨p, q, hA0, hV, rfl, _, _⟩ := hW
  have hA : DataW.TrodAll enc Try.prog W 0 (fun _ => true) true Try.f11.params.toList args.toList ds p := hA0
  rw [Try.params11] at hA hval
  obtain ⟨v0, d0, rfl, rfl, h0⟩ := trodAll_one hA
  obtain ⟨n, rfl, _, _, wn⟩ := open_int Try.underlying3 (hval 0 3 v0 rfl rfl) h0
  refine (walk n W).mono fun e W' ⟨he, hw⟩ => ?_
  subst he
  exact ⟨_, rfl, law_post Try.laidOut (by kernel_rfl) rfl Try.underlying4 rfl rfl hW0 hw⟩

set_option maxRecDepth 100000 in
theorem closed : joinedFacts Try.prog 11 Try.f11 Rows.fnExactRingBoxesSpec Rows.fnExactRingBoxesRow = true := by
  unfold joinedFacts
  simp only [Bool.and_eq_true]
  repeat' (with_reducible apply And.intro)
  all_goals first | (with_reducible exact enter_ok) | (rw [make_ok]; kernel_rfl) | (rw [lifts_ok]; kernel_rfl) | kernel_rfl

theorem holds : Rows.FnExactRingBoxesSaid :=
  OpenClaim.holds_of_wide 11 Try.f11 rfl rfl rfl rfl rfl rfl rfl ⟨rfl, rfl, rfl, rfl, rfl⟩ rfl rfl rfl rfl rfl (by kernel_rfl) Try.func11 closed
    (of_decide_eq_true (by kernel_rfl)) (by unfold Func.isWrapper; first | (rw [if_pos (by decide +kernel)]; kernel_rfl) | (rw [if_neg (by decide +kernel)]; exact ⟨rfl, rfl⟩))
    (fun os started H enc _ => lifted os started H enc)

end Go.Proofs.Ythiimllafcfieaa.lRingBoxes
