/- For every input the law FnExactJointsOf returns true, and its arguments read afterwards as they read before. Conditions: none. -/
import Derived.Test.YtpaimngepmfemabKit
import Derived.Test.YtpaimngepmfemabPs
import Derived.Lib.Hide
import Derived.ChangeMaps5
namespace Go.Proofs.Ytpaimngepmfemab.lJointsOf
open Go.ChangeShapes Go.WideShapes Go.ChangeAt Go.RowKit Go.Joins Go.ChangeMaps

set_option linter.unusedVariables false

set_option maxRecDepth 100000 in
set_option maxHeartbeats 1600000 in
theorem walk_no (s : ByteArray) (hs : s.size ≤ 1048576)
    (c1 : ∀ w, Calls Try.prog 12 #[.string s] w fun e w' => e = .returned (.tuple #[.slice none 0 0, .bool false]) ∧ w = w')
    (c2 : ∀ w, Calls Try.prog 13 #[.string s] w fun e w' => e = .returned (.tuple #[.slice none 0 0, .bool false]) ∧ w = w') (w : World) :
    Calls Try.prog 3 #[.string s] w fun e w' => e = .returned (.bool true) ∧ Below w.heap.size w w' := by
  have C1 := Lib.hid c1
  have C2 := Lib.hid c2
  clear c1 c2
  go_enter Try.func3, Try.ntmps3
  go_wp2_with (first | (go_at_call 12; refine (C1.out _).mono ?_; rintro e w' ⟨rfl, rfl⟩) | (go_at_call 13; refine (C2.out _).mono ?_; rintro e w' ⟨rfl, rfl⟩) | (go_at_call 14; refine (eqPointS_nil _).mono ?_; rintro e w' ⟨rfl, rfl⟩) | (go_at_call 15; refine (markPointS_nil _).mono ?_; rintro e w' ⟨rfl, rfl⟩) | (go_at_call 16; refine (heldPointS_nil _).mono ?_; rintro e w' ⟨rfl, rfl⟩))
  all_goals go_returns
  all_goals exact ⟨rfl, by go_grown⟩

def PtsPost (xs : List Sp) (n : Nat) (w : World) (e : Ending) (w' : World) : Prop :=
  ∃ g cap, e = .returned (.tuple #[.slice (some ⟨g, 0, none⟩) n cap, .bool true]) ∧ w'.ownsRow w.heap.size 34 4 (.slice (some ⟨g, 0, none⟩) n cap) n (ptCells xs) ∧ Below w.heap.size w w'

theorem jtGrown {w w' : World} {g : Nat} {row : Option Nat} {l : List Sp} (h : JtAt w g l) (hg : w.grownBy w' row) (hne : some g ≠ row) : JtAt w' g l := fun i p hp => by
  obtain ⟨a, b, c, d⟩ := h i p hp
  exact ⟨hg.cell a hne, hg.cell b hne, hg.cell c hne, hg.cell d hne⟩
theorem freeP_of {w : World} {B g n cap m : Nat} {e : TypeId} {xs : List Value} (h : w.ownsRow B e 4 (.slice (some ⟨g, 0, none⟩) n cap) n xs) : FreeR w g m := fun j _ => h.frozenAt j

set_option maxRecDepth 100000 in
set_option maxHeartbeats 1600000 in
theorem walk_yes (s : ByteArray) (hs : s.size ≤ 1048576) (xs : List Sp) (n : Nat) (hn : xs.length = n) (hb : n ≤ 1000000)
    (c1 : ∀ w, Calls Try.prog 12 #[.string s] w (PtsPost xs n w))
    (c2 : ∀ w, Calls Try.prog 13 #[.string s] w (PtsPost xs n w)) (w : World) :
    Calls Try.prog 3 #[.string s] w fun e w' => e = .returned (.bool true) ∧ Below w.heap.size w w' := by
  have C1 := Lib.hid c1
  have C2 := Lib.hid c2
  have HN := Lib.hid hn
  clear c1 c2 hn
  go_enter Try.func3, Try.ntmps3
  go_wp2_with fail
  refine (C1.out _).mono ?_
  rintro e w1 ⟨gw, cw, rfl, hO1, hb1⟩
  have hgw := (hO1.lt gw rfl).2
  have hgw0 := (hO1.lt gw rfl).1
  have HW1 := Lib.hid (jt_of hO1 HN.out)
  have HB1 := Lib.hid hb1
  have hz1 := hb1.size
  clear hO1 hb1
  go_wp2_with fail
  refine (C2.out _).mono ?_
  rintro e w2 ⟨g, c, rfl, hO2, hb2⟩
  have hg := (hO2.lt g rfl).2
  have hg0 := (hO2.lt g rfl).1
  have HG2 := Lib.hid (jt_of hO2 HN.out)
  have HF2 := Lib.hid (freeP_of (m := n * 4) hO2)
  have HW2 := Lib.hid (HW1.out.below hgw hb2)
  have HB2 := Lib.hid (HB1.out.trans (hb2.mono hz1))
  have hz2 := hb2.size
  clear hO2 hb2
  go_wp2_with fail
  refine (eqPointS_same g c gw cw n xs HN.out hb _ hg (by omega) HG2.out HW2.out).mono ?_
  rintro e w3 ⟨rfl, hb3⟩
  have HG3 := Lib.hid (HG2.out.below hg hb3)
  have HF3 := Lib.hid (freeR_below HF2.out hg hb3)
  have HW3 := Lib.hid (HW2.out.below (by omega) hb3)
  have HB3 := Lib.hid (HB2.out.trans (hb3.mono (by omega)))
  have hz3 := hb3.size
  clear hb3
  go_wp2_with fail
  refine (markPointS_any g c n xs HN.out hb _ HG3.out HF3.out).mono ?_
  rintro e w4 ⟨rfl, hK4, hG4⟩
  have HK4 := Lib.hid hK4
  have HW4 := Lib.hid (jtGrown HW3.out hG4 (by intro e; injection e with e; omega))
  have HB4 := Lib.hid (HB3.out.grown hG4 (by omega) (fun k hk => by injection hk with hk; omega))
  have hz4 := hG4.size
  clear hK4 hG4
  go_wp2_with fail
  refine (heldPointS_any g c n hb _ HK4.out).mono ?_
  rintro e w5 ⟨rfl, rfl⟩
  go_wp2_with fail
  refine (C2.out _).mono ?_
  rintro e w6 ⟨h, d, rfl, hO6, hb6⟩
  have hh := (hO6.lt h rfl).2
  have HH6 := Lib.hid (jt_of hO6 HN.out)
  have HW6 := Lib.hid (HW4.out.below (by omega) hb6)
  have HK6 := Lib.hid (HK4.out.below (by omega) hb6)
  have HB6 := Lib.hid (HB4.out.trans (hb6.mono (by omega)))
  have hz6 := hb6.size
  clear hO6 hb6
  go_wp2_with fail
  refine (eqPointS_same h d gw cw n xs HN.out hb _ hh (by omega) HH6.out HW6.out).mono ?_
  rintro e w7 ⟨rfl, hb7⟩
  have HK7 := Lib.hid (HK6.out.below (by omega) hb7)
  have HB7 := Lib.hid (HB6.out.trans (hb7.mono (by omega)))
  clear hb7
  go_wp2_with fail
  refine (heldPointS_any g c n hb _ HK7.out).mono ?_
  rintro e w8 ⟨rfl, rfl⟩
  go_wp2_with fail
  all_goals go_returns
  all_goals exact ⟨rfl, HB7.out⟩

set_option maxRecDepth 100000 in
theorem walk (s : ByteArray) (hs : s.size ≤ maxLen) (w : World) :
    Calls Try.prog 3 #[.string s] w fun e w' => e = .returned (.bool true) ∧ Below w.heap.size w w' := by
  by_cases bs : s.size ≤ 1048576
  · cases ht : tkB s
    · exact walk_no s bs (spJointsOf_no s bs ht) (imJointsOf_no s bs ht) w
    · exact walk_yes s bs _ _ (lays_lenA sp0 s) (by have := tkB_size ht; omega) (spJointsOf_yes s ht) (imJointsOf_yes s ht) w
  · have hgt : 1048576 < s.size := by omega
    unfold maxLen at hs
    go_enter Try.func3, Try.ntmps3
    go_wp2_with fail
    all_goals go_returns
    all_goals exact ⟨rfl, by go_grown⟩

set_option maxRecDepth 100000 in
theorem lifted (os : Os) (started : os.Started) (H : Type) (enc : TypeId × Value → H) :
    ReturnsInHanded {} Try.checked os 3 .any (Rows.fnExactJointsOfSpec.pre6 enc Try.prog Try.f3 Rows.fnExactJointsOfRow.domain false) (Rows.fnExactJointsOfSpec.post enc Try.prog Try.f3 false true false false) := by
  refine returnsInHanded_of_change (C := Try.checked) Try.own started (by kernel_rfl) Try.func3
    (ChangeSpec.witness6 (enc := enc) (C := Try.checked) false ⟨#[], #[.string ByteArray.empty], []⟩ 8 (by kernel_rfl) (by kernel_rfl) (by kernel_rfl) (by kernel_rfl)) ?_
  intro W base args ds gs before hval0 hW _ _
  have hval : ∀ (j : Nat) t v, Try.f3.params[j]? = some t → args[j]? = some v → Value.okWide Try.prog W .any base t v := hval0
  have hW0 := hW
  obtain ⟨p, q, hA0, hV, rfl, _, _⟩ := hW
  have hA : DataW.TrodAll enc Try.prog W 0 (fun _ => true) true Try.f3.params.toList args.toList ds p := hA0
  rw [Try.params3] at hA hval
  obtain ⟨v0, d0, rfl, rfl, h0⟩ := trodAll_one hA
  obtain ⟨s, rfl, _, _, hs⟩ := open_string Try.underlying9 (hval 0 9 v0 rfl rfl) h0
  refine (walk s hs W).mono fun e W' ⟨he, hw⟩ => ?_
  subst he
  exact ⟨_, rfl, law_post Try.laidOut (by kernel_rfl) rfl Try.underlying4 rfl rfl hW0 hw⟩

theorem holds : Rows.FnExactJointsOfSaid :=
  OpenClaim.holds_of_wide 3 Try.f3 rfl rfl rfl rfl rfl rfl rfl ⟨rfl, rfl, rfl, rfl, rfl⟩ rfl rfl rfl rfl rfl (by kernel_rfl) Try.func3 (by kernel_rfl)
    (of_decide_eq_true (by kernel_rfl)) (by unfold Func.isWrapper; first | (rw [if_pos (by decide +kernel)]; kernel_rfl) | (rw [if_neg (by decide +kernel)]; exact ⟨rfl, rfl⟩))
    (fun os started H enc _ => lifted os started H enc)

end Go.Proofs.Ytpaimngepmfemab.lJointsOf
