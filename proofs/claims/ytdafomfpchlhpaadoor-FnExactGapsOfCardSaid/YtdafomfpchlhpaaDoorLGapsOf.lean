/- For every input the law FnExactGapsOf returns true, and its arguments read afterwards as they read before. Conditions: none. -/
import Derived.Test.YtdafomfpchlhpaaDoorKit
import Derived.Test.YtdafomfpchlhpaaDoorKitJ
import Derived.Test.YtdafomfpchlhpaaDoorShL
import Derived.Test.YtdafomfpchlhpaaDoorPzK
import Derived.Test.YtdafomfpchlhpaaDoorPzG
import Derived.Test.YtdafomfpchlhpaaDoorPzT
import Derived.Lib.Hide
import Derived.ChangeMaps5
import Derived.Test.YtdafomfpchlhpaaDoorTie
import Derived.Test.YtdafomfpchlhpaaDoorCards
import Derived.OpenShut
import Derived.LaidMore
import Derived.Lay
import Derived.SevenTiedAt
import Derived.Stop.Joined
namespace Go.Proofs.YtdafomfpchlhpaaDoor.lGapsOf
open Go.ChangeShapes Go.WideShapes Go.ChangeAt Go.RowKit Go.Joins Go.ChangeMaps

set_option linter.unusedVariables false

set_option maxRecDepth 100000 in
set_option maxHeartbeats 800000 in
theorem walk0 (p : Pz) (hp : p.t.size ≤ maxLen) (bp : p.t.size ≤ 1048576) (R0 : Int) (R1 : Bool) (w : World)
    (c1 : ∀ w, Calls Tryd.prog 22 #[pv p] w fun e w' => e = .returned (.tuple #[.int .i64 R0, .bool R1]) ∧ Below w.heap.size w w') (hM0 : MxL w)
    (c2 : ∀ w, MxL w → Calls Tryd.prog 23 #[pv p] w fun e w' => e = .returned (.tuple #[.int .i64 R0, .bool R1]) ∧ Below w.heap.size w w') :
    Calls Tryd.prog 4 #[pv p] w fun e w' => e = .returned (.bool true) ∧ Below w.heap.size w w' := by
  have C1 := Lib.hid c1
  have C2 := Lib.hid c2
  have hM := Lib.hid (fun W (hW : Below w.heap.size w W) => hM0.below hW)
  have SZ := Lib.hid (show ∀ w, Calls Tryd.prog 18 #[pv p, .int .i64 1048576] w fun e w' => e = .returned (.int .i64 (1048576 - (p.t.size : Int))) ∧ Below w.heap.size w w' from fun w => by
    have := szPuzzle_any p hp w
    rwa [if_neg (by omega)] at this)
  have TP := Lib.hid (toPuzzle_any p)
  clear hM0 c1 c2 hp
  obtain ⟨t, S, C⟩ := p
  simp only at bp SZ TP C1 C2
  go_enter Tryd.func4, Tryd.ntmps4
  go_wp2_with fail
  (go_at_call 18; (with_reducible refine (SZ.out _).mono ?_); rintro e wA ⟨rfl, h1⟩; (try with_reducible replace h1 := undrew h1); have hB : Below w.heap.size w wA := ba (by go_grown) h1; obtain ⟨hcwA, hfwA⟩ := bcell h1; have hqwA := h1.size; (try simp at hqwA); (try have hz0wA : w.heap.size < wA.heap.size := (by omega)); (try have he0wA : w.heap.size ≤ wA.heap.size := (by omega)))
  go_wp2_with fail
  (go_at_call 20; (with_reducible refine (TP.out _).mono ?_); rintro e wB ⟨rfl, h1⟩; (try with_reducible replace h1 := undrew h1); have hB : Below w.heap.size w wB := ba (by go_grown) h1; obtain ⟨hcwB, hfwB⟩ := bcell h1; have hqwB := h1.size; (try simp at hqwB); (try have hz0wB : w.heap.size < wB.heap.size := (by omega)); (try have he0wB : w.heap.size ≤ wB.heap.size := (by omega)); (try have hz1wB : wA.heap.size < wB.heap.size := (by omega)); (try have he1wB : wA.heap.size ≤ wB.heap.size := (by omega)))
  go_wp2_with fail
  (go_at_call 22; (with_reducible refine (C1.out _).mono ?_); rintro e wC ⟨rfl, h1⟩; (try with_reducible replace h1 := undrew h1); have hB : Below w.heap.size w wC := ba (by go_grown) h1; obtain ⟨hcwC, hfwC⟩ := bcell h1; have hqwC := h1.size; (try simp at hqwC); (try have hz0wC : w.heap.size < wC.heap.size := (by omega)); (try have he0wC : w.heap.size ≤ wC.heap.size := (by omega)); (try have hz1wC : wA.heap.size < wC.heap.size := (by omega)); (try have he1wC : wA.heap.size ≤ wC.heap.size := (by omega)); (try have hz2wC : wB.heap.size < wC.heap.size := (by omega)); (try have he2wC : wB.heap.size ≤ wC.heap.size := (by omega)))
  go_wp2_with fail
  (go_at_call 20; (with_reducible refine (TP.out _).mono ?_); rintro e wD ⟨rfl, h1⟩; (try with_reducible replace h1 := undrew h1); have hB : Below w.heap.size w wD := ba (by go_grown) h1; obtain ⟨hcwD, hfwD⟩ := bcell h1; have hqwD := h1.size; (try simp at hqwD); (try have hz0wD : w.heap.size < wD.heap.size := (by omega)); (try have he0wD : w.heap.size ≤ wD.heap.size := (by omega)); (try have hz1wD : wA.heap.size < wD.heap.size := (by omega)); (try have he1wD : wA.heap.size ≤ wD.heap.size := (by omega)); (try have hz2wD : wB.heap.size < wD.heap.size := (by omega)); (try have he2wD : wB.heap.size ≤ wD.heap.size := (by omega)); (try have hz3wD : wC.heap.size < wD.heap.size := (by omega)); (try have he3wD : wC.heap.size ≤ wD.heap.size := (by omega)))
  go_wp2_with fail
  (go_at_call 23; (with_reducible refine (C2.out _ (hM.out _ (by go_grown))).mono ?_); rintro e wE ⟨rfl, h1⟩; (try with_reducible replace h1 := undrew h1); have hB : Below w.heap.size w wE := ba (by go_grown) h1; obtain ⟨hcwE, hfwE⟩ := bcell h1; have hqwE := h1.size; (try simp at hqwE); (try have hz0wE : w.heap.size < wE.heap.size := (by omega)); (try have he0wE : w.heap.size ≤ wE.heap.size := (by omega)); (try have hz1wE : wA.heap.size < wE.heap.size := (by omega)); (try have he1wE : wA.heap.size ≤ wE.heap.size := (by omega)); (try have hz2wE : wB.heap.size < wE.heap.size := (by omega)); (try have he2wE : wB.heap.size ≤ wE.heap.size := (by omega)); (try have hz3wE : wC.heap.size < wE.heap.size := (by omega)); (try have he3wE : wC.heap.size ≤ wE.heap.size := (by omega)); (try have hz4wE : wD.heap.size < wE.heap.size := (by omega)); (try have he4wE : wD.heap.size ≤ wE.heap.size := (by omega)))
  go_wp2_with fail
  all_goals go_returns
  all_goals exact ⟨rfl, by go_grown⟩

set_option maxRecDepth 100000 in
theorem walk (p : Pz) (hp : p.t.size ≤ maxLen) (w : World) (hL : laidMetH Tryd.prog Rows.fnExactGapsOfRow.laid w) (hSh : w.ShapedOpen Tryd.prog) :
    Calls Tryd.prog 4 #[pv p] w fun e w' => e = .returned (.bool true) ∧ Below w.heap.size w w' := by
  obtain ⟨m, hm⟩ := maxLen_shaped hSh
  by_cases bp : 1048576 < p.t.size
  · have SZ := Lib.hid (show ∀ w, Calls Tryd.prog 18 #[pv p, .int .i64 1048576] w fun e w' => e = .returned (.int .i64 (-1)) ∧ Below w.heap.size w w' from fun w => by
      have := szPuzzle_any p hp w
      rwa [if_pos bp] at this)
    clear hL hm hSh hp
    obtain ⟨t, S, C⟩ := p
    go_enter Tryd.func4, Tryd.ntmps4
    go_wp2_with fail
    (go_at_call 18; (with_reducible refine (SZ.out _).mono ?_); rintro e wA ⟨rfl, h1⟩; (try with_reducible replace h1 := undrew h1); have hB : Below w.heap.size w wA := ba (by go_grown) h1; obtain ⟨hcwA, hfwA⟩ := bcell h1; have hqwA := h1.size; (try simp at hqwA); (try have hz0wA : w.heap.size < wA.heap.size := (by omega)); (try have he0wA : w.heap.size ≤ wA.heap.size := (by omega)))
    go_wp2_with fail
    all_goals go_returns
    all_goals exact ⟨rfl, by go_grown⟩
  exact walk0 p hp (by omega) _ _ w (fun W => spGapsOf p (by omega) W) ⟨m, hm⟩ (fun W hW => imGapsOf p (by omega) W hW)

theorem laid_met (os : Os) (args : Array Value) : laidMetH Tryd.prog Rows.fnExactGapsOfRow.laid ((World.laidAll Tryd.prog os Rows.fnExactGapsOfRow.laid).forCall (fun _ _ => 0) ⟨#[], args, []⟩).memory := by
  rw [MakeChecks.laidMetH_plain _ _ _ (by kernel_rfl)]
  exact laidMet_laidAll _ (by kernel_rfl) (by kernel_rfl)

set_option maxRecDepth 100000 in
theorem lifted (os : Os) (started : os.Started) (H : Type) (enc : TypeId × Value → H) :
    ReturnsInHanded {} Tryd.checked os 4 .any (fun w args => (Rows.fnExactGapsOfSpec.pre enc Tryd.prog Tryd.f4 Rows.fnExactGapsOfRow.domain false w args ∧ laidMetH Tryd.prog Rows.fnExactGapsOfRow.laid w) ∧ sizedMet enc Tryd.prog Tryd.f4 (OpenSpec.ofChange Rows.fnExactGapsOfSpec) false w args)
      (Rows.fnExactGapsOfSpec.post enc Tryd.prog Tryd.f4 false true false false) := by
  refine laid_shaped (C := Tryd.checked) (X := fun w _ => laidMetH Tryd.prog Rows.fnExactGapsOfRow.laid w) (fun _ _ _ hh h => h.of_heap hh) Tryd.own started (by kernel_rfl) Tryd.func4
    (ChangeSpec.witness_shaped (enc := enc) (C := Tryd.checked) (os := os) (X := fun w _ => laidMetH Tryd.prog Rows.fnExactGapsOfRow.laid w) false (World.laidAll Tryd.prog os Rows.fnExactGapsOfRow.laid) #[.agg #[.string ByteArray.empty, .int .i64 0, .int .i64 0]] 8 (World.laidAll_os _ _ _)
      (World.shaped_of_ZipB (by kernel_rfl) (by kernel_rfl)) (by kernel_rfl) (by kernel_rfl) (by kernel_rfl) (laid_met os _)) ?_
  intro W base args ds gs before hval0 hW _ _ hL hSh _
  have hval : ∀ (j : Nat) t v, Tryd.f4.params[j]? = some t → args[j]? = some v → Value.okWide Tryd.prog W .any base t v := hval0
  have hW0 := hW
  obtain ⟨p, q, hA0, hV, rfl, _, _⟩ := hW
  have hA : DataW.TrodAll enc Tryd.prog W 0 (fun _ => true) true Tryd.f4.params.toList args.toList ds p := hA0
  rw [Tryd.params4] at hA hval
  obtain ⟨v0, d0, rfl, rfl, h0⟩ := trodAll_one hA
  obtain ⟨p, rfl, hp⟩ := open_puzzle (hval 0 23 v0 rfl rfl) h0
  refine (walk p hp W hL hSh).mono fun e W' ⟨he, hw⟩ => ?_
  subst he
  exact ⟨_, rfl, law_post Tryd.laidOut (by kernel_rfl) rfl Tryd.underlying4 rfl rfl hW0 hw⟩

set_option maxRecDepth 100000 in
theorem closed : joinedFacts Tryd.prog 4 Tryd.f4 Rows.fnExactGapsOfSpec Rows.fnExactGapsOfRow = true := by
  unfold joinedFacts
  simp only [Bool.and_eq_true]
  repeat' (with_reducible apply And.intro)
  all_goals first | (with_reducible exact enter_ok) | (rw [make_ok]; kernel_rfl) | (rw [lifts_ok]; kernel_rfl) | kernel_rfl

theorem holds : Rows.FnExactGapsOfSaid :=
  OpenClaim.holds_of_wide 4 Tryd.f4 rfl rfl rfl rfl rfl rfl rfl ⟨rfl, rfl, rfl, rfl, rfl⟩ rfl rfl rfl rfl rfl (by kernel_rfl) Tryd.func4 closed
    (of_decide_eq_true (by kernel_rfl)) (by unfold Func.isWrapper; first | (rw [if_pos (by decide +kernel)]; kernel_rfl) | (rw [if_neg (by decide +kernel)]; exact ⟨rfl, rfl⟩))
    (fun os started H enc _ => lifted os started H enc)

theorem card_holds : Rows.FnExactGapsOfCardSaid :=
  Claim7.holds_tied_plain_at .later [] [.data, .pinned] true (true, "23f69cff491fa243e1ea19599e1a1d8f541bbc4a0eff738794e74cf47c7d74b2") true holds (fun _ h => by cases h) (by kernel_rfl) (fun _ h => by cases h) fnExactGapsOf_row_tie rfl ⟨rfl, rfl⟩ main_ok rfl
    (fun f fn hf hfn => by
      obtain rfl : f = 4 := Option.some.inj ((show Tryd.prog.funcNamed "loop.example/g01217/laws.FnExactGapsOf" = some 4 by kernel_rfl).symm.trans hf) |>.symm
      obtain rfl : fn = Tryd.f4 := (Option.some.inj (Tryd.func4.symm.trans hfn)).symm
      exact ⟨by kernel_rfl, fun j t ht => by
        rw [Tryd.params4] at ht
        have hm : t ∈ [23] := by simpa using Array.mem_of_getElem? ht
        have hall : ([23].all fun u => !Tryd.prog.wantsStandIn u) = true := by kernel_rfl
        exact (show Tryd.prog.wantsStandIn t = false by simpa using List.all_eq_true.1 hall t hm)⟩)
    (by kernel_rfl)

end Go.Proofs.YtdafomfpchlhpaaDoor.lGapsOf
