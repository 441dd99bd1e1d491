/- For every input the law FnExactCountLinesWith returns true, and its arguments read afterwards as they read before. Conditions: none. -/
import Derived.Test.YtogimjbjdgccnaaDoorKit
import Derived.Test.YtogimjbjdgccnaaDoorKitJ
import Derived.Test.YtogimjbjdgccnaaDoorCwR
import Derived.Lib.Hide
import Derived.ChangeMaps5
import Derived.Test.YtogimjbjdgccnaaDoorTie
import Derived.Test.YtogimjbjdgccnaaDoorCards
import Derived.OpenShut
import Derived.LaidMore
import Derived.Lay
import Derived.SevenTiedAt
import Derived.Stop.Joined
namespace Go.Proofs.YtogimjbjdgccnaaDoor.lCountLinesWith
open Go.ChangeShapes Go.WideShapes Go.ChangeAt Go.RowKit Go.Joins Go.ChangeMaps

set_option maxRecDepth 100000 in
set_option maxHeartbeats 800000 in
theorem walk0 (n : Int) (t : Int) (g : Int)  (R0 : Int) (R1 : Bool) (w : World)
    (c1 : ∀ w, Calls Tryd.prog 50 #[.int .i64 n, .int .i64 t, .int .i64 g] w fun e w' => e = .returned (.tuple #[.int .i64 R0, .bool R1]) ∧ Below w.heap.size w w')
    (c2 : ∀ w, Calls Tryd.prog 51 #[.int .i64 n, .int .i64 t, .int .i64 g] w fun e w' => e = .returned (.tuple #[.int .i64 R0, .bool R1]) ∧ Below w.heap.size w w') :
    Calls Tryd.prog 17 #[.int .i64 n, .int .i64 t, .int .i64 g] w fun e w' => e = .returned (.bool true) ∧ Below w.heap.size w w' := by
  have C1 := Lib.hid c1
  have C2 := Lib.hid c2
  clear c1 c2
  go_enter Tryd.func17, Tryd.ntmps17
  go_wp2_with fail
  (go_at_call 50; (with_reducible refine (C1.out _).mono ?_); rintro e wB ⟨rfl, h1⟩; (try with_reducible replace h1 := undrew h1); have hB : Below w.heap.size w wB := ba (by go_grown) h1; obtain ⟨hcwB, hfwB⟩ := bcell h1; have hqwB := h1.size; (try simp at hqwB); )
  go_wp2_with fail
  (go_at_call 51; (with_reducible refine (C2.out _).mono ?_); rintro e wD ⟨rfl, h1⟩; (try with_reducible replace h1 := undrew h1); have hB : Below w.heap.size w wD := ba (by go_grown) h1; obtain ⟨hcwD, hfwD⟩ := bcell h1; have hqwD := h1.size; (try simp at hqwD); (try have hz0wD : wB.heap.size < wD.heap.size := (by omega)); (try have he0wD : wB.heap.size ≤ wD.heap.size := (by omega)))
  go_wp2_with fail
  all_goals go_returns
  all_goals exact ⟨rfl, by go_grown⟩

set_option maxRecDepth 100000 in
theorem walk (n : Int) (t : Int) (g : Int) (w : World) :
    Calls Tryd.prog 17 #[.int .i64 n, .int .i64 t, .int .i64 g] w fun e w' => e = .returned (.bool true) ∧ Below w.heap.size w w' := by
  exact walk0 n t g  _ _ w (spCountLinesWith n t g ) (imCountLinesWith n t g )

theorem laid_met (os : Os) (args : Array Value) : laidMetH Tryd.prog Rows.fnExactCountLinesWithRow.laid ((World.laidAll Tryd.prog os Rows.fnExactCountLinesWithRow.laid).forCall (fun _ _ => 0) ⟨#[], args, []⟩).memory := by
  rw [MakeChecks.laidMetH_plain _ _ _ (by kernel_rfl)]
  exact laidMet_laidAll _ (by kernel_rfl) (by kernel_rfl)

set_option maxRecDepth 100000 in
theorem lifted (os : Os) (started : os.Started) (H : Type) (enc : TypeId × Value → H) :
    ReturnsInHanded {} Tryd.checked os 17 .any (fun w args => (Rows.fnExactCountLinesWithSpec.pre enc Tryd.prog Tryd.f17 Rows.fnExactCountLinesWithRow.domain false w args ∧ laidMetH Tryd.prog Rows.fnExactCountLinesWithRow.laid w) ∧ sizedMet enc Tryd.prog Tryd.f17 (OpenSpec.ofChange Rows.fnExactCountLinesWithSpec) false w args)
      (Rows.fnExactCountLinesWithSpec.post enc Tryd.prog Tryd.f17 false true false false) := by
  refine returnsInHanded_of_change_and (C := Tryd.checked) (X := fun w _ => laidMetH Tryd.prog Rows.fnExactCountLinesWithRow.laid w) (fun _ _ _ hh h => h.of_heap hh) Tryd.own started (by kernel_rfl) Tryd.func17
    (ChangeSpec.witness_shaped (enc := enc) (C := Tryd.checked) (os := os) (X := fun w _ => laidMetH Tryd.prog Rows.fnExactCountLinesWithRow.laid w) false (World.laidAll Tryd.prog os Rows.fnExactCountLinesWithRow.laid) #[.int .i64 0, .int .i64 0, .int .i64 0] 8 (World.laidAll_os _ _ _)
      (World.shaped_of_ZipB (by kernel_rfl) (by kernel_rfl)) (by kernel_rfl) (by kernel_rfl) (by kernel_rfl) (laid_met os _)) ?_
  intro W base args ds gs before hval0 hW _ _ hL _
  have hval : ∀ (j : Nat) t v, Tryd.f17.params[j]? = some t → args[j]? = some v → Value.okWide Tryd.prog W .any base t v := hval0
  have hW0 := hW
  obtain ⟨p, q, hA0, hV, rfl, _, _⟩ := hW
  have hA : DataW.TrodAll enc Tryd.prog W 0 (fun _ => true) true Tryd.f17.params.toList args.toList ds p := hA0
  rw [Tryd.params17] at hA hval
  obtain ⟨v0, v1, v2, d0, d1, d2, p0, p1, p2, rfl, rfl, rfl, h0, h1, h2⟩ := trodAll_three hA
  obtain ⟨n, rfl, _, _, wn⟩ := open_int Tryd.underlying3 (hval 0 3 v0 rfl rfl) h0
  obtain ⟨t, rfl, _, _, wt⟩ := open_int Tryd.underlying3 (hval 1 3 v1 rfl rfl) h1
  obtain ⟨g, rfl, _, _, wg⟩ := open_int Tryd.underlying3 (hval 2 3 v2 rfl rfl) h2
  refine (walk n t g W).mono fun e W' ⟨he, hw⟩ => ?_
  subst he
  exact ⟨_, rfl, law_post Tryd.laidOut (by kernel_rfl) rfl Tryd.underlying4 rfl rfl hW0 hw⟩

set_option maxRecDepth 100000 in
theorem closed : joinedFacts Tryd.prog 17 Tryd.f17 Rows.fnExactCountLinesWithSpec Rows.fnExactCountLinesWithRow = true := by
  unfold joinedFacts
  simp only [Bool.and_eq_true]
  repeat' (with_reducible apply And.intro)
  all_goals first | (with_reducible exact enter_ok) | (rw [make_ok]; kernel_rfl) | (rw [lifts_ok]; kernel_rfl) | kernel_rfl

theorem holds : Rows.FnExactCountLinesWithSaid :=
  OpenClaim.holds_of_wide 17 Tryd.f17 rfl rfl rfl rfl rfl rfl rfl ⟨rfl, rfl, rfl, rfl, rfl⟩ rfl rfl rfl rfl rfl (by kernel_rfl) Tryd.func17 closed
    (of_decide_eq_true (by kernel_rfl)) (by unfold Func.isWrapper; first | (rw [if_pos (by decide +kernel)]; kernel_rfl) | (rw [if_neg (by decide +kernel)]; exact ⟨rfl, rfl⟩))
    (fun os started H enc _ => lifted os started H enc)

theorem card_holds : Rows.FnExactCountLinesWithCardSaid :=
  Claim7.holds_tied_plain_at .later [] [.data, .pinned] true (true, "e9eb03f97b7f5129e724e630203a3e9c1c4cef927500a400d1930cc61c47d334") false holds (fun _ h => by cases h) (by kernel_rfl) (fun _ h => by cases h) fnExactCountLinesWith_row_tie rfl ⟨rfl, rfl⟩ main_ok rfl
    (fun f fn hf hfn => by
      obtain rfl : f = 17 := Option.some.inj ((show Tryd.prog.funcNamed "loop.example/g01217/laws.FnExactCountLinesWith" = some 17 by kernel_rfl).symm.trans hf) |>.symm
      obtain rfl : fn = Tryd.f17 := (Option.some.inj (Tryd.func17.symm.trans hfn)).symm
      exact ⟨by kernel_rfl, fun j t ht => by
        rw [Tryd.params17] at ht
        have hm : t ∈ [3, 3, 3] := by simpa using Array.mem_of_getElem? ht
        have hall : ([3, 3, 3].all fun u => !Tryd.prog.wantsStandIn u) = true := by kernel_rfl
        exact (show Tryd.prog.wantsStandIn t = false by simpa using List.all_eq_true.1 hall t hm)⟩)
    (by kernel_rfl)

end Go.Proofs.YtogimjbjdgccnaaDoor.lCountLinesWith
