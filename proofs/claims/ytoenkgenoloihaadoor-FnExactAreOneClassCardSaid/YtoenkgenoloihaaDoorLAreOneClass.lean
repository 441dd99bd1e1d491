/- For every input the law FnExactAreOneClass returns true, and its arguments read afterwards as they read before. Conditions: none. -/
import Derived.Test.YtoenkgenoloihaaDoorKit
import Derived.Test.YtoenkgenoloihaaDoorVb
import Derived.Lib.Hide
import Derived.ChangeMaps5
import Derived.Test.YtoenkgenoloihaaDoorTie
import Derived.Test.YtoenkgenoloihaaDoorCards
import Derived.OpenShut
import Derived.LaidMore
import Derived.Lay
import Derived.SevenTiedAt
import Derived.Stop.Joined
namespace Go.Proofs.YtoenkgenoloihaaDoor.lAreOneClass
open Go.ChangeShapes Go.WideShapes Go.ChangeAt Go.RowKit Go.Joins Go.ChangeMaps

set_option maxRecDepth 100000 in
set_option maxHeartbeats 800000 in
theorem walk0 (a : ByteArray) (b : ByteArray) (ha : a.size ≤ 1048576) (hb : b.size ≤ 1048576) (R0 : Bool) (R1 : Bool) (w : World)
    (c1 : ∀ w, Calls Tryd.prog 27 #[.string a, .string b] w fun e w' => e = .returned (.tuple #[.bool R0, .bool R1]) ∧ Below w.heap.size w w')
    (c2 : ∀ w, Calls Tryd.prog 28 #[.string a, .string b] w fun e w' => e = .returned (.tuple #[.bool R0, .bool R1]) ∧ Below w.heap.size w w') :
    Calls Tryd.prog 9 #[.string a, .string b] w fun e w' => e = .returned (.bool true) ∧ Below w.heap.size w w' := by
  have C1 := Lib.hid c1
  have C2 := Lib.hid c2
  clear c1 c2
  go_enter Tryd.func9, Tryd.ntmps9
  go_wp2_with fail
  (go_at_call 27; (with_reducible refine (C1.out _).mono ?_); rintro e wB ⟨rfl, h1⟩; (try with_reducible replace h1 := undrew h1); have hB : Below w.heap.size w wB := ba (by go_grown) h1; obtain ⟨hcwB, hfwB⟩ := bcell h1; have hqwB := h1.size; (try simp at hqwB); )
  go_wp2_with fail
  (go_at_call 28; (with_reducible refine (C2.out _).mono ?_); rintro e wD ⟨rfl, h1⟩; (try with_reducible replace h1 := undrew h1); have hB : Below w.heap.size w wD := ba (by go_grown) h1; obtain ⟨hcwD, hfwD⟩ := bcell h1; have hqwD := h1.size; (try simp at hqwD); (try have hz0wD : wB.heap.size < wD.heap.size := (by omega)); (try have he0wD : wB.heap.size ≤ wD.heap.size := (by omega)))
  go_wp2_with fail
  all_goals go_returns
  all_goals exact ⟨rfl, by go_grown⟩

set_option maxRecDepth 100000 in
theorem walk (a : ByteArray) (ha : a.size ≤ maxLen) (b : ByteArray) (hb : b.size ≤ maxLen) (w : World) :
    Calls Tryd.prog 9 #[.string a, .string b] w fun e w' => e = .returned (.bool true) ∧ Below w.heap.size w w' := by
  by_cases ba : a.size ≤ 1048576
  · skip
    by_cases bb : b.size ≤ 1048576
    · skip
      exact walk0 a b ba bb _ _ w (spAreOneClass a b ba bb) (imAreOneClass a b ba bb)
    · have hgt : 1048576 < b.size := by omega
      unfold maxLen at ha
      unfold maxLen at hb
      go_enter Tryd.func9, Tryd.ntmps9
      go_wp2_with fail
      all_goals go_returns
      all_goals exact ⟨rfl, by go_grown⟩
  · have hgt : 1048576 < a.size := by omega
    unfold maxLen at ha
    unfold maxLen at hb
    go_enter Tryd.func9, Tryd.ntmps9
    go_wp2_with fail
    all_goals go_returns
    all_goals exact ⟨rfl, by go_grown⟩

theorem laid_met (os : Os) (args : Array Value) : laidMetH Tryd.prog Rows.fnExactAreOneClassRow.laid ((World.laidAll Tryd.prog os Rows.fnExactAreOneClassRow.laid).forCall (fun _ _ => 0) ⟨#[], args, []⟩).memory := by
  rw [MakeChecks.laidMetH_plain _ _ _ (by kernel_rfl)]
  exact laidMet_laidAll _ (by kernel_rfl) (by kernel_rfl)

set_option maxRecDepth 100000 in
theorem lifted (os : Os) (started : os.Started) (H : Type) (enc : TypeId × Value → H) :
    ReturnsInHanded {} Tryd.checked os 9 .any (fun w args => (Rows.fnExactAreOneClassSpec.pre enc Tryd.prog Tryd.f9 Rows.fnExactAreOneClassRow.domain false w args ∧ laidMetH Tryd.prog Rows.fnExactAreOneClassRow.laid w) ∧ sizedMet enc Tryd.prog Tryd.f9 (OpenSpec.ofChange Rows.fnExactAreOneClassSpec) false w args)
      (Rows.fnExactAreOneClassSpec.post enc Tryd.prog Tryd.f9 false true false false) := by
  refine returnsInHanded_of_change_and (C := Tryd.checked) (X := fun w _ => laidMetH Tryd.prog Rows.fnExactAreOneClassRow.laid w) (fun _ _ _ hh h => h.of_heap hh) Tryd.own started (by kernel_rfl) Tryd.func9
    (ChangeSpec.witness_shaped (enc := enc) (C := Tryd.checked) (os := os) (X := fun w _ => laidMetH Tryd.prog Rows.fnExactAreOneClassRow.laid w) false (World.laidAll Tryd.prog os Rows.fnExactAreOneClassRow.laid) #[.string ByteArray.empty, .string ByteArray.empty] 8 (World.laidAll_os _ _ _)
      (World.shaped_of_ZipB (by kernel_rfl) (by kernel_rfl)) (by kernel_rfl) (by kernel_rfl) (by kernel_rfl) (laid_met os _)) ?_
  intro W base args ds gs before hval0 hW _ _ hL _
  have hval : ∀ (j : Nat) t v, Tryd.f9.params[j]? = some t → args[j]? = some v → Value.okWide Tryd.prog W .any base t v := hval0
  have hW0 := hW
  obtain ⟨p, q, hA0, hV, rfl, _, _⟩ := hW
  have hA : DataW.TrodAll enc Tryd.prog W 0 (fun _ => true) true Tryd.f9.params.toList args.toList ds p := hA0
  rw [Tryd.params9] at hA hval
  obtain ⟨v0, v1, d0, d1, p0, p1, rfl, rfl, rfl, h0, h1⟩ := trodAll_two hA
  obtain ⟨a, rfl, _, _, ha⟩ := open_string Tryd.underlying9 (hval 0 9 v0 rfl rfl) h0
  obtain ⟨b, rfl, _, _, hb⟩ := open_string Tryd.underlying9 (hval 1 9 v1 rfl rfl) h1
  refine (walk a ha b hb W).mono fun e W' ⟨he, hw⟩ => ?_
  subst he
  exact ⟨_, rfl, law_post Tryd.laidOut (by kernel_rfl) rfl Tryd.underlying4 rfl rfl hW0 hw⟩

theorem holds : Rows.FnExactAreOneClassSaid :=
  OpenClaim.holds_of_wide 9 Tryd.f9 rfl rfl rfl rfl rfl rfl rfl ⟨rfl, rfl, rfl, rfl, rfl⟩ rfl rfl rfl rfl rfl (by kernel_rfl) Tryd.func9 (by kernel_rfl)
    (of_decide_eq_true (by kernel_rfl)) (by unfold Func.isWrapper; first | (rw [if_pos (by decide +kernel)]; kernel_rfl) | (rw [if_neg (by decide +kernel)]; exact ⟨rfl, rfl⟩))
    (fun os started H enc _ => lifted os started H enc)

theorem card_holds : Rows.FnExactAreOneClassCardSaid :=
  Claim7.holds_tied_plain_at .later [] [.data, .pinned] true (true, "4da384613340de1db6b6d1093d503736e05deae785cb920629ac0c83d5959fb2") false holds (fun _ h => by cases h) (by kernel_rfl) (fun _ h => by cases h) fnExactAreOneClass_row_tie rfl ⟨rfl, rfl⟩ (by kernel_rfl) rfl
    (fun f fn hf hfn => by
      obtain rfl : f = 9 := Option.some.inj ((show Tryd.prog.funcNamed "loop.example/g01217/laws.FnExactAreOneClass" = some 9 by kernel_rfl).symm.trans hf) |>.symm
      obtain rfl : fn = Tryd.f9 := (Option.some.inj (Tryd.func9.symm.trans hfn)).symm
      exact ⟨by kernel_rfl, fun j t ht => by
        rw [Tryd.params9] at ht
        have hm : t ∈ [9, 9] := by simpa using Array.mem_of_getElem? ht
        have hall : ([9, 9].all fun u => !Tryd.prog.wantsStandIn u) = true := by kernel_rfl
        exact (show Tryd.prog.wantsStandIn t = false by simpa using List.all_eq_true.1 hall t hm)⟩)
    (by kernel_rfl)

end Go.Proofs.YtoenkgenoloihaaDoor.lAreOneClass
