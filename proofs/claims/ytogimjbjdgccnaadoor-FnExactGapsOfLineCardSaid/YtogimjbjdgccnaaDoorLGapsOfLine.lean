/- For every input the law FnExactGapsOfLine returns true, and its arguments read afterwards as they read before. Conditions: none. -/
import Derived.Test.YtogimjbjdgccnaaDoorKit
import Derived.Test.YtogimjbjdgccnaaDoorKitJ
import Derived.Test.YtogimjbjdgccnaaDoorIs3
import Derived.Test.YtogimjbjdgccnaaDoorNs
import Derived.Test.YtogimjbjdgccnaaDoorGpI
import Derived.Lib.Hide
import Derived.ChangeMaps5
import Derived.Test.YtogimjbjdgccnaaDoorTie
import Derived.Test.YtogimjbjdgccnaaDoorCards
import Derived.OpenShut
import Derived.LaidMore
import Derived.Lay
import Derived.SevenTiedAt
import Derived.Stop.Joined
namespace Go.Proofs.YtogimjbjdgccnaaDoor.lGapsOfLine
open Go.ChangeShapes Go.WideShapes Go.ChangeAt Go.RowKit Go.Joins Go.ChangeMaps

set_option linter.unusedVariables false

theorem formN {W : World} {B : Nat} {e : TypeId} {v : Value} (h : W.ownsRow B e 1 v ([] : List Int).length (([] : List Int).map (Value.int .i64))) : ∃ av cv, v = .slice av 0 cv := by
  rcases h.2 with ⟨h, _⟩ | ⟨g, cap, cur, h, _⟩
  · exact ⟨none, 0, h⟩
  · exact ⟨_, _, h⟩

set_option maxRecDepth 100000 in
set_option maxHeartbeats 1600000 in
theorem walk_nil (s : ByteArray) (bs : s.size ≤ 1048576) (bb : Bool)
    (c1 : ∀ w, Calls Tryd.prog 32 #[.string s] w (NSPost [] bb w))
    (c2 : ∀ w, Calls Tryd.prog 33 #[.string s] w (NSPost [] bb w)) (w : World) :
    Calls Tryd.prog 10 #[.string s] w fun e w' => e = .returned (.bool true) ∧ Below w.heap.size w w' := by
  have C1 := Lib.hid c1
  have C2 := Lib.hid c2
  clear c1 c2
  go_enter Tryd.func10, Tryd.ntmps10
  go_wp2_with fail
  refine (C1.out _).mono ?_
  rintro e w1 ⟨vw, rfl, o1, hb1⟩
  obtain ⟨a1, d1, rfl⟩ := formN o1
  have B1 := Lib.hid hb1
  clear o1 hb1
  go_wp2_with fail
  refine (C2.out _).mono ?_
  rintro e w2 ⟨vg, rfl, o2, hb2⟩
  obtain ⟨a2, d2, rfl⟩ := formN o2
  have B2 := Lib.hid (B1.out.trans (hb2.mono B1.out.size))
  clear o2 hb2
  go_wp2_with (first | ((with_reducible refine (eqIntS_zero _ _ _ _ _).mono ?_); rintro e w' ⟨rfl, rfl⟩) | ((with_reducible refine (markIntS_zero _ _ _).mono ?_); rintro e w' ⟨rfl, rfl⟩) | ((with_reducible refine (heldIntS_zero _ _ _).mono ?_); rintro e w' ⟨rfl, rfl⟩))
  refine (C2.out _).mono ?_
  rintro e w3 ⟨vh, rfl, o3, hb3⟩
  obtain ⟨a3, d3, rfl⟩ := formN o3
  have B3 := Lib.hid (B2.out.trans (hb3.mono B2.out.size))
  clear o3 hb3
  go_wp2_with (first | ((with_reducible refine (eqIntS_zero _ _ _ _ _).mono ?_); rintro e w' ⟨rfl, rfl⟩) | ((with_reducible refine (markIntS_zero _ _ _).mono ?_); rintro e w' ⟨rfl, rfl⟩) | ((with_reducible refine (heldIntS_zero _ _ _).mono ?_); rintro e w' ⟨rfl, rfl⟩))
  all_goals go_returns
  all_goals exact ⟨rfl, B3.out⟩

set_option maxRecDepth 100000 in
set_option maxHeartbeats 1600000 in
theorem walk_yes (s : ByteArray) (bs : s.size ≤ 1048576) (xs : List Int) (nN : Nat) (bb : Bool) (hn : xs.length = nN) (hb : nN ≤ 1000000) (hn0 : 0 < nN)
    (c1 : ∀ w, Calls Tryd.prog 32 #[.string s] w (NSPost xs bb w))
    (c2 : ∀ w, Calls Tryd.prog 33 #[.string s] w (NSPost xs bb w)) (w : World) :
    Calls Tryd.prog 10 #[.string s] w fun e w' => e = .returned (.bool true) ∧ Below w.heap.size w w' := by
  have C1 := Lib.hid c1
  have C2 := Lib.hid c2
  have HN := Lib.hid hn
  clear c1 c2 hn
  go_enter Tryd.func10, Tryd.ntmps10
  go_wp2_with fail
  refine (C1.out _).mono ?_
  rintro e w1 ⟨vw, rfl, hO1, hb1⟩
  rw [HN.out] at hO1
  obtain ⟨gw, cw, rfl, _, _⟩ := hO1.form hn0
  have hgw := (hO1.lt gw rfl).2
  have hgw0 := (hO1.lt gw rfl).1
  have HW1 := Lib.hid (rowI_of hO1 HN.out)
  have HB1 := Lib.hid hb1
  have hz1 := hb1.size
  clear hO1 hb1
  go_wp2_with fail
  refine (C2.out _).mono ?_
  rintro e w2 ⟨vg, rfl, hO2, hb2⟩
  rw [HN.out] at hO2
  obtain ⟨g, c, rfl, _, _⟩ := hO2.form hn0
  have hg := (hO2.lt g rfl).2
  have hg0 := (hO2.lt g rfl).1
  have HG2 := Lib.hid (rowI_of hO2 HN.out)
  have HF2 := Lib.hid (freeR_of hO2)
  have HW2 := Lib.hid (HW1.out.below hgw hb2)
  have HB2 := Lib.hid (HB1.out.trans (hb2.mono hz1))
  have hz2 := hb2.size
  clear hO2 hb2
  go_wp2_with fail
  refine (eqIntS_same g c gw cw nN xs HN.out hb _ HG2.out HW2.out).mono ?_
  rintro e w3 ⟨rfl, hb3⟩
  have HG3 := Lib.hid (HG2.out.below hg hb3)
  have HF3 := Lib.hid (freeR_below HF2.out hg hb3)
  have HW3 := Lib.hid (HW2.out.below (by omega) hb3)
  have HB3 := Lib.hid (HB2.out.trans (hb3.mono (by omega)))
  have hz3 := hb3.size
  clear hb3
  go_wp2_with fail
  refine (markIntS_any g c nN xs HN.out hb _ HG3.out HF3.out).mono ?_
  rintro e w4 ⟨rfl, hK4, hG4⟩
  have HK4 := Lib.hid hK4
  have HW4 := Lib.hid (HW3.out.grown hG4 (by intro e; injection e with e; omega))
  have HB4 := Lib.hid (HB3.out.grown hG4 (by omega) (fun k hk => by injection hk with hk; omega))
  have hz4 := hG4.size
  clear hK4 hG4
  go_wp2_with fail
  refine (heldIntS_any g c nN hb _ HK4.out).mono ?_
  rintro e w5 ⟨rfl, rfl⟩
  go_wp2_with fail
  refine (C2.out _).mono ?_
  rintro e w6 ⟨vh, rfl, hO6, hb6⟩
  rw [HN.out] at hO6
  obtain ⟨h, d, rfl, _, _⟩ := hO6.form hn0
  have hh := (hO6.lt h rfl).2
  have HH6 := Lib.hid (rowI_of hO6 HN.out)
  have HW6 := Lib.hid (HW4.out.below (by omega) hb6)
  have HK6 := Lib.hid (HK4.out.below (by omega) hb6)
  have HB6 := Lib.hid (HB4.out.trans (hb6.mono (by omega)))
  have hz6 := hb6.size
  clear hO6 hb6
  go_wp2_with fail
  refine (eqIntS_same h d gw cw nN xs HN.out hb _ HH6.out HW6.out).mono ?_
  rintro e w7 ⟨rfl, hb7⟩
  have HK7 := Lib.hid (HK6.out.below (by omega) hb7)
  have HB7 := Lib.hid (HB6.out.trans (hb7.mono (by omega)))
  clear hb7
  go_wp2_with fail
  refine (heldIntS_any g c nN hb _ HK7.out).mono ?_
  rintro e w8 ⟨rfl, rfl⟩
  go_wp2_with fail
  all_goals go_returns
  all_goals exact ⟨rfl, HB7.out⟩

set_option maxRecDepth 100000 in
theorem walk (s : ByteArray) (hs : s.size ≤ maxLen) (w : World) :
    Calls Tryd.prog 10 #[.string s] w fun e w' => e = .returned (.bool true) ∧ Below w.heap.size w w' := by
  by_cases bs : s.size ≤ 1048576
  · skip
    have c1 := fun w => spGapsOfLine s bs w
    have c2 := fun w => imGapsOfLine s bs w
    have hbd := GapsOfLine_bd s bs
    generalize gpR s = xs at *
    cases xs with
    | nil => exact walk_nil s bs _ c1 c2 w
    | cons x xs => exact walk_yes s bs (x :: xs) _ _ rfl hbd (by simp) c1 c2 w
  · have hgt : 1048576 < s.size := by omega
    unfold maxLen at hs
    go_enter Tryd.func10, Tryd.ntmps10
    go_wp2_with fail
    all_goals go_returns
    all_goals exact ⟨rfl, by go_grown⟩

theorem laid_met (os : Os) (args : Array Value) : laidMetH Tryd.prog Rows.fnExactGapsOfLineRow.laid ((World.laidAll Tryd.prog os Rows.fnExactGapsOfLineRow.laid).forCall (fun _ _ => 0) ⟨#[], args, []⟩).memory := by
  rw [MakeChecks.laidMetH_plain _ _ _ (by kernel_rfl)]
  exact laidMet_laidAll _ (by kernel_rfl) (by kernel_rfl)

set_option maxRecDepth 100000 in
theorem lifted (os : Os) (started : os.Started) (H : Type) (enc : TypeId × Value → H) :
    ReturnsInHanded {} Tryd.checked os 10 .any (fun w args => (Rows.fnExactGapsOfLineSpec.pre enc Tryd.prog Tryd.f10 Rows.fnExactGapsOfLineRow.domain false w args ∧ laidMetH Tryd.prog Rows.fnExactGapsOfLineRow.laid w) ∧ sizedMet enc Tryd.prog Tryd.f10 (OpenSpec.ofChange Rows.fnExactGapsOfLineSpec) false w args)
      (Rows.fnExactGapsOfLineSpec.post enc Tryd.prog Tryd.f10 false true false false) := by
  refine returnsInHanded_of_change_and (C := Tryd.checked) (X := fun w _ => laidMetH Tryd.prog Rows.fnExactGapsOfLineRow.laid w) (fun _ _ _ hh h => h.of_heap hh) Tryd.own started (by kernel_rfl) Tryd.func10
    (ChangeSpec.witness_shaped (enc := enc) (C := Tryd.checked) (os := os) (X := fun w _ => laidMetH Tryd.prog Rows.fnExactGapsOfLineRow.laid w) false (World.laidAll Tryd.prog os Rows.fnExactGapsOfLineRow.laid) #[.string ByteArray.empty] 8 (World.laidAll_os _ _ _)
      (World.shaped_of_ZipB (by kernel_rfl) (by kernel_rfl)) (by kernel_rfl) (by kernel_rfl) (by kernel_rfl) (laid_met os _)) ?_
  intro W base args ds gs before hval0 hW _ _ hL _
  have hval : ∀ (j : Nat) t v, Tryd.f10.params[j]? = some t → args[j]? = some v → Value.okWide Tryd.prog W .any base t v := hval0
  have hW0 := hW
  obtain ⟨p, q, hA0, hV, rfl, _, _⟩ := hW
  have hA : DataW.TrodAll enc Tryd.prog W 0 (fun _ => true) true Tryd.f10.params.toList args.toList ds p := hA0
  rw [Tryd.params10] at hA hval
  obtain ⟨v0, d0, rfl, rfl, h0⟩ := trodAll_one hA
  obtain ⟨s, rfl, _, _, hs⟩ := open_string Tryd.underlying9 (hval 0 9 v0 rfl rfl) h0
  refine (walk s hs W).mono fun e W' ⟨he, hw⟩ => ?_
  subst he
  exact ⟨_, rfl, law_post Tryd.laidOut (by kernel_rfl) rfl Tryd.underlying4 rfl rfl hW0 hw⟩

set_option maxRecDepth 100000 in
theorem closed : joinedFacts Tryd.prog 10 Tryd.f10 Rows.fnExactGapsOfLineSpec Rows.fnExactGapsOfLineRow = true := by
  unfold joinedFacts
  simp only [Bool.and_eq_true]
  repeat' (with_reducible apply And.intro)
  all_goals first | (with_reducible exact enter_ok) | (rw [make_ok]; kernel_rfl) | (rw [lifts_ok]; kernel_rfl) | kernel_rfl

theorem holds : Rows.FnExactGapsOfLineSaid :=
  OpenClaim.holds_of_wide 10 Tryd.f10 rfl rfl rfl rfl rfl rfl rfl ⟨rfl, rfl, rfl, rfl, rfl⟩ rfl rfl rfl rfl rfl (by kernel_rfl) Tryd.func10 closed
    (of_decide_eq_true (by kernel_rfl)) (by unfold Func.isWrapper; first | (rw [if_pos (by decide +kernel)]; kernel_rfl) | (rw [if_neg (by decide +kernel)]; exact ⟨rfl, rfl⟩))
    (fun os started H enc _ => lifted os started H enc)

theorem card_holds : Rows.FnExactGapsOfLineCardSaid :=
  Claim7.holds_tied_plain_at .later [] [.data, .pinned] true (true, "e9eb03f97b7f5129e724e630203a3e9c1c4cef927500a400d1930cc61c47d334") false holds (fun _ h => by cases h) (by kernel_rfl) (fun _ h => by cases h) fnExactGapsOfLine_row_tie rfl ⟨rfl, rfl⟩ main_ok rfl
    (fun f fn hf hfn => by
      obtain rfl : f = 10 := Option.some.inj ((show Tryd.prog.funcNamed "loop.example/g01217/laws.FnExactGapsOfLine" = some 10 by kernel_rfl).symm.trans hf) |>.symm
      obtain rfl : fn = Tryd.f10 := (Option.some.inj (Tryd.func10.symm.trans hfn)).symm
      exact ⟨by kernel_rfl, fun j t ht => by
        rw [Tryd.params10] at ht
        have hm : t ∈ [9] := by simpa using Array.mem_of_getElem? ht
        have hall : ([9].all fun u => !Tryd.prog.wantsStandIn u) = true := by kernel_rfl
        exact (show Tryd.prog.wantsStandIn t = false by simpa using List.all_eq_true.1 hall t hm)⟩)
    (by kernel_rfl)

end Go.Proofs.YtogimjbjdgccnaaDoor.lGapsOfLine
