/- For every input the law FnExactCountRingsFrom returns true, and its arguments read afterwards as they read before. Conditions: none. -/
import Derived.Test.YtkmgcmgnaeamaaaGreatDoorQ6
import Derived.Lib.Hide
import Derived.ChangeMaps5
import Derived.Test.YtkmgcmgnaeamaaaGreatDoorTie
import Derived.Test.YtkmgcmgnaeamaaaGreatDoorCards
import Derived.OpenShut
import Derived.LaidMore
import Derived.Lay
import Derived.SevenTiedAt
import Derived.Stop.Joined
namespace Go.Proofs.YtkmgcmgnaeamaaaGreatDoor.lCountRingsFrom
open Go.ChangeShapes Go.WideShapes Go.ChangeAt Go.RowKit Go.Joins Go.Sort Go.ChangeMaps

set_option linter.unusedVariables false

set_option maxRecDepth 100000 in
set_option maxHeartbeats 1600000 in
theorem walk0 (b : Bq) (R0 : Int) (R1 : Bool) (w : World)
    (c1 : ∀ w, Calls Tryz.prog 5 #[bv b] w fun e w' => e = .returned (.tuple #[.int .i64 R0, .bool R1]) ∧ Below w.heap.size w w')
    (c2 : ∀ w, Calls Tryz.prog 7 #[bv b] w fun e w' => e = .returned (.tuple #[.int .i64 R0, .bool R1]) ∧ Below w.heap.size w w') :
    Calls Tryz.prog 3 #[bv b] w fun e w' => e = .returned (.bool true) ∧ Below w.heap.size w w' := by
  have C1 := Lib.hid c1
  have C2 := Lib.hid c2
  clear c1 c2
  go_enter Tryz.func3, Tryz.ntmps3
  go_wp2_with fail
  (go_at_call 6; (with_reducible refine (toBox_any b.x b.r _).mono ?_); rintro e wA ⟨rfl, h1⟩; (try with_reducible replace h1 := undrew h1); have hB : Below w.heap.size w wA := ba (by go_grown) h1; obtain ⟨hcwA, hfwA⟩ := bcell h1; have hqwA := h1.size; (try simp at hqwA); (try have hz0wA : w.heap.size < wA.heap.size := (by omega)); (try have he0wA : w.heap.size ≤ wA.heap.size := (by omega)))
  go_wp2_with fail
  (go_at_call 5; (with_reducible refine (C1.out _).mono ?_); rintro e wB ⟨rfl, h1⟩; (try with_reducible replace h1 := undrew h1); have hB : Below w.heap.size w wB := ba (by go_grown) h1; obtain ⟨hcwB, hfwB⟩ := bcell h1; have hqwB := h1.size; (try simp at hqwB); (try have hz0wB : w.heap.size < wB.heap.size := (by omega)); (try have he0wB : w.heap.size ≤ wB.heap.size := (by omega)); (try have hz1wB : wA.heap.size < wB.heap.size := (by omega)); (try have he1wB : wA.heap.size ≤ wB.heap.size := (by omega)))
  go_wp2_with fail
  (go_at_call 6; (with_reducible refine (toBox_any b.x b.r _).mono ?_); rintro e wC ⟨rfl, h1⟩; (try with_reducible replace h1 := undrew h1); have hB : Below w.heap.size w wC := ba (by go_grown) h1; obtain ⟨hcwC, hfwC⟩ := bcell h1; have hqwC := h1.size; (try simp at hqwC); (try have hz0wC : w.heap.size < wC.heap.size := (by omega)); (try have he0wC : w.heap.size ≤ wC.heap.size := (by omega)); (try have hz1wC : wB.heap.size < wC.heap.size := (by omega)); (try have he1wC : wB.heap.size ≤ wC.heap.size := (by omega)))
  go_wp2_with fail
  (go_at_call 7; (with_reducible refine (C2.out _).mono ?_); rintro e wD ⟨rfl, h1⟩; (try with_reducible replace h1 := undrew h1); have hB : Below w.heap.size w wD := ba (by go_grown) h1; obtain ⟨hcwD, hfwD⟩ := bcell h1; have hqwD := h1.size; (try simp at hqwD); (try have hz0wD : w.heap.size < wD.heap.size := (by omega)); (try have he0wD : w.heap.size ≤ wD.heap.size := (by omega)); (try have hz1wD : wB.heap.size < wD.heap.size := (by omega)); (try have he1wD : wB.heap.size ≤ wD.heap.size := (by omega)); (try have hz2wD : wC.heap.size < wD.heap.size := (by omega)); (try have he2wD : wC.heap.size ≤ wD.heap.size := (by omega)))
  go_wp2_with fail
  all_goals go_returns
  all_goals exact ⟨rfl, by go_grown⟩

set_option maxRecDepth 100000 in
theorem walk (b0 b1 : Int) (w : World) :
    Calls Tryz.prog 3 #[.agg #[.int .i64 b0, .int .i64 b1]] w fun e w' => e = .returned (.bool true) ∧ Below w.heap.size w w' := by
  exact walk0 ⟨b0, b1⟩ _ _ w (spCountRingsFrom ⟨b0, b1⟩) (imCountRingsFrom ⟨b0, b1⟩)

theorem laid_met (os : Os) (args : Array Value) : laidMetH Tryz.prog Rows.fnExactCountRingsFromRow.laid ((World.laidAll Tryz.prog os Rows.fnExactCountRingsFromRow.laid).forCall (fun _ _ => 0) ⟨#[], args, []⟩).memory := by
  rw [MakeChecks.laidMetH_plain _ _ _ (by kernel_rfl)]
  exact laidMet_laidAll _ (by kernel_rfl) (by kernel_rfl)

set_option maxRecDepth 100000 in
theorem lifted (os : Os) (started : os.Started) (H : Type) (enc : TypeId × Value → H) :
    ReturnsInHanded {} Tryz.checked os 3 .any (fun w args => (Rows.fnExactCountRingsFromSpec.pre enc Tryz.prog Tryz.f3 Rows.fnExactCountRingsFromRow.domain false w args ∧ laidMetH Tryz.prog Rows.fnExactCountRingsFromRow.laid w) ∧ sizedMet enc Tryz.prog Tryz.f3 (OpenSpec.ofChange Rows.fnExactCountRingsFromSpec) false w args)
      (Rows.fnExactCountRingsFromSpec.post enc Tryz.prog Tryz.f3 false true false false) := by
  refine returnsInHanded_of_change_and (C := Tryz.checked) (X := fun w _ => laidMetH Tryz.prog Rows.fnExactCountRingsFromRow.laid w) (fun _ _ _ hh h => h.of_heap hh) Tryz.own started (by kernel_rfl) Tryz.func3
    (ChangeSpec.witness_shaped (enc := enc) (C := Tryz.checked) (os := os) (X := fun w _ => laidMetH Tryz.prog Rows.fnExactCountRingsFromRow.laid w) false (World.laidAll Tryz.prog os Rows.fnExactCountRingsFromRow.laid) #[.agg #[.int .i64 0, .int .i64 0]] 8 (World.laidAll_os _ _ _)
      (World.shaped_of_ZipB (by kernel_rfl) (by kernel_rfl)) (by kernel_rfl) (by kernel_rfl) (by kernel_rfl) (laid_met os _)) ?_
  intro W base args ds gs before hval0 hW _ _ hL _
  have hval : ∀ (j : Nat) t v, Tryz.f3.params[j]? = some t → args[j]? = some v → Value.okWide Tryz.prog W .any base t v := hval0
  have hW0 := hW
  obtain ⟨p, q, hA0, hV, rfl, _, _⟩ := hW
  have hA : DataW.TrodAll enc Tryz.prog W 0 (fun _ => true) true Tryz.f3.params.toList args.toList ds p := hA0
  rw [Tryz.params3] at hA hval
  obtain ⟨v0, d0, rfl, rfl, h0⟩ := trodAll_one hA
  obtain ⟨b0, b1, rfl⟩ := open_box (hval 0 23 v0 rfl rfl) h0
  refine (walk b0 b1 W).mono fun e W' ⟨he, hw⟩ => ?_
  subst he
  exact ⟨_, rfl, law_post Tryz.laidOut (by kernel_rfl) rfl Tryz.underlying4 rfl rfl hW0 hw⟩

set_option maxRecDepth 100000 in
theorem closed : joinedFacts Tryz.prog 3 Tryz.f3 Rows.fnExactCountRingsFromSpec Rows.fnExactCountRingsFromRow = true := by
  unfold joinedFacts
  simp only [Bool.and_eq_true]
  repeat' (with_reducible apply And.intro)
  all_goals first | (with_reducible exact enter_ok) | (rw [make_ok]; kernel_rfl) | (rw [lifts_ok]; kernel_rfl) | kernel_rfl

theorem holds : Rows.FnExactCountRingsFromSaid :=
  OpenClaim.holds_of_wide 3 Tryz.f3 rfl rfl rfl rfl rfl rfl rfl ⟨rfl, rfl, rfl, rfl, rfl⟩ rfl rfl rfl rfl rfl (by kernel_rfl) Tryz.func3 closed
    (of_decide_eq_true (by kernel_rfl)) (by unfold Func.isWrapper; first | (rw [if_pos (by decide +kernel)]; kernel_rfl) | (rw [if_neg (by decide +kernel)]; exact ⟨rfl, rfl⟩))
    (fun os started H enc _ => lifted os started H enc)

theorem card_holds : Rows.FnExactCountRingsFromCardSaid :=
  Claim7.holds_tied_plain_at .later [] [.data, .pinned] true (true, "cb708dddb5c1d4ae9f7135e4d746cf2272c55c2c4c9462384a4bfb8332ca76a1") false holds (fun _ h => by cases h) (by kernel_rfl) (fun _ h => by cases h) fnExactCountRingsFrom_row_tie rfl ⟨rfl, rfl⟩ main_ok rfl
    (fun f fn hf hfn => by
      obtain rfl : f = 3 := Option.some.inj ((show Tryz.prog.funcNamed "loop.example/g01217/laws.FnExactCountRingsFrom" = some 3 by kernel_rfl).symm.trans hf) |>.symm
      obtain rfl : fn = Tryz.f3 := (Option.some.inj (Tryz.func3.symm.trans hfn)).symm
      exact ⟨by kernel_rfl, fun j t ht => by
        rw [Tryz.params3] at ht
        have hm : t ∈ [23] := by simpa using Array.mem_of_getElem? ht
        have hall : ([23].all fun u => !Tryz.prog.wantsStandIn u) = true := by kernel_rfl
        exact (show Tryz.prog.wantsStandIn t = false by simpa using List.all_eq_true.1 hall t hm)⟩)
    (by kernel_rfl)

end Go.Proofs.YtkmgcmgnaeamaaaGreatDoor.lCountRingsFrom
