/- For every input the law FnExactParsePoint returns true, and its arguments read afterwards as they read before. Condition, tied by the card to the program's text: the listed variables of Go's library (strconv's two errors and its powers of ten among them) read as their text lays them. -/
import Derived.Test.YtamojnbhnbeecaaDoorKit
import Derived.Test.YtamojnbhnbeecaaDoorPpC
import Derived.Test.YtamojnbhnbeecaaDoorLaE
import Derived.Test.YtamojnbhnbeecaaDoorLaT
import Derived.Test.YtamojnbhnbeecaaDoorShL
import Derived.Lib.Hide
import Derived.ChangeMaps5
import Derived.Test.YtamojnbhnbeecaaDoorTie
import Derived.Test.YtamojnbhnbeecaaDoorCards
import Derived.OpenShut
import Derived.LaidMore
import Derived.Lay
import Derived.SevenTiedAt
import Derived.Stop.Joined
namespace Go.Proofs.YtamojnbhnbeecaaDoor.lParsePoint
open Go.ChangeShapes Go.WideShapes Go.ChangeAt Go.RowKit Go.Joins Go.ChangeMaps

set_option maxRecDepth 100000 in
set_option maxHeartbeats 800000 in
theorem walk0 (s : ByteArray) (hs : s.size ≤ 1048576) (R0a R0b R0c R0d : Int) (R1 : Bool) (w : World)
    (c1 : ∀ w, Calls Tryd.prog 8 #[.string s] w fun e w' => e = .returned (.tuple #[.agg #[.int .i64 R0a, .int .i64 R0b, .int .i64 R0c, .int .i64 R0d], .bool R1]) ∧ Below w.heap.size w w')
    (c2 : ∀ W, Below w.heap.size w W → Calls Tryd.prog 9 #[.string s] W fun e w' => e = .returned (.tuple #[.agg #[.int .i64 R0a, .int .i64 R0b, .int .i64 R0c, .int .i64 R0d], .bool R1]) ∧ Below W.heap.size W w') :
    Calls Tryd.prog 4 #[.string s] w fun e w' => e = .returned (.bool true) ∧ Below w.heap.size w w' := by
  have C1 := Lib.hid c1
  have C2 := Lib.hid c2
  clear c1 c2
  go_enter Tryd.func4, Tryd.ntmps4
  go_wp2_with fail
  (go_at_call 8; (with_reducible refine (C1.out _).mono ?_); rintro e wB ⟨rfl, h1⟩; (try with_reducible replace h1 := undrew h1); have hB : Below w.heap.size w wB := ba (by go_grown) h1; obtain ⟨hcwB, hfwB⟩ := bcell h1; have hqwB := h1.size; (try simp at hqwB); )
  go_wp2_with fail
  (go_at_call 9; (with_reducible refine (C2.out _ (by go_grown)).mono ?_); rintro e wD ⟨rfl, h1⟩; (try with_reducible replace h1 := undrew h1); have hB : Below w.heap.size w wD := ba (by go_grown) h1; obtain ⟨hcwD, hfwD⟩ := bcell h1; have hqwD := h1.size; (try simp at hqwD); (try have hz0wD : wB.heap.size < wD.heap.size := (by omega)); (try have he0wD : wB.heap.size ≤ wD.heap.size := (by omega)))
  go_wp2_with fail
  (go_at_call 10; (with_reducible refine (eqPoint_same _ _ _ _ _).mono ?_); rintro e wE ⟨rfl, h1⟩; (try with_reducible replace h1 := undrew h1); have hB : Below w.heap.size w wE := ba (by go_grown) h1; obtain ⟨hcwE, hfwE⟩ := bcell h1; have hqwE := h1.size; (try simp at hqwE); (try have hz0wE : wB.heap.size < wE.heap.size := (by omega)); (try have he0wE : wB.heap.size ≤ wE.heap.size := (by omega)))
  go_wp2_with fail
  all_goals go_returns
  all_goals exact ⟨rfl, by go_grown⟩

set_option maxRecDepth 100000 in
theorem walk (s : ByteArray) (hs : s.size ≤ maxLen) (w : World) (hL : laidMetH Tryd.prog Rows.fnExactParsePointRow.laid w) (hSh : w.ShapedOpen Tryd.prog) :
    Calls Tryd.prog 4 #[.string s] w fun e w' => e = .returned (.bool true) ∧ Below w.heap.size w w' := by
  rw [MakeChecks.laidMetH_plain _ _ _ (by kernel_rfl)] at hL
  have ht := pow10_laid (r := Rows.fnExactParsePointRow.laid.drop 3) hL
  obtain ⟨t1, p1, t2, p2, hv1, hv2⟩ := errs (r := Rows.fnExactParsePointRow.laid.drop 6) hL
  obtain ⟨m, hm⟩ := maxLen_shaped hSh
  have hlt : 3 < w.heap.size := World.block_lt_of_cell? _ _ hm
  by_cases bs : s.size ≤ 1048576
  · exact walk0 s bs _ _ _ _ _ w (spParsePoint s bs) (fun W hW => imParsePoint bs ((hW.cell (p := ⟨3, 0, none⟩) hlt).trans hm) (Go.Joins.var_stays (g := 0) (by kernel_rfl) hv1 hW (Nat.le_refl _)) (Go.Joins.var_stays (g := 1) (by kernel_rfl) hv2 hW (Nat.le_refl _)) (Go.Joins.tab_stays (g := 2) (by kernel_rfl) ht hW (Nat.le_refl _)))
  · have hgt : 1048576 < s.size := by omega
    unfold maxLen at hs
    clear hL ht hv1 hv2 hm hlt hSh
    go_enter Tryd.func4, Tryd.ntmps4
    go_wp2_with fail
    all_goals go_returns
    all_goals exact ⟨rfl, by go_grown⟩

theorem laid_met (os : Os) (args : Array Value) : laidMetH Tryd.prog Rows.fnExactParsePointRow.laid ((World.laidAll Tryd.prog os Rows.fnExactParsePointRow.laid).forCall (fun _ _ => 0) ⟨#[], args, []⟩).memory := by
  rw [MakeChecks.laidMetH_plain _ _ _ (by kernel_rfl)]
  exact laidMet_laidAll _ (by kernel_rfl) (by kernel_rfl)

set_option maxRecDepth 100000 in
theorem lifted (os : Os) (started : os.Started) (H : Type) (enc : TypeId × Value → H) :
    ReturnsInHanded {} Tryd.checked os 4 .any (fun w args => (Rows.fnExactParsePointSpec.pre enc Tryd.prog Tryd.f4 Rows.fnExactParsePointRow.domain false w args ∧ laidMetH Tryd.prog Rows.fnExactParsePointRow.laid w) ∧ sizedMet enc Tryd.prog Tryd.f4 (OpenSpec.ofChange Rows.fnExactParsePointSpec) false w args)
      (Rows.fnExactParsePointSpec.post enc Tryd.prog Tryd.f4 false true false false) := by
  refine laid_shaped (C := Tryd.checked) (X := fun w _ => laidMetH Tryd.prog Rows.fnExactParsePointRow.laid w) (fun _ _ _ hh h => h.of_heap hh) Tryd.own started (by kernel_rfl) Tryd.func4
    (ChangeSpec.witness_shaped (enc := enc) (C := Tryd.checked) (os := os) (X := fun w _ => laidMetH Tryd.prog Rows.fnExactParsePointRow.laid w) false (World.laidAll Tryd.prog os Rows.fnExactParsePointRow.laid) #[.string ByteArray.empty] 8 (World.laidAll_os _ _ _)
      (World.shaped_of_ZipB (by kernel_rfl) (by kernel_rfl)) (by kernel_rfl) (by kernel_rfl) (by kernel_rfl) (laid_met os _)) ?_
  intro W base args ds gs before hval0 hW _ _ hL hSh _
  have hval : ∀ (j : Nat) t v, Tryd.f4.params[j]? = some t → args[j]? = some v → Value.okWide Tryd.prog W .any base t v := hval0
  have hW0 := hW
  obtain ⟨p, q, hA0, hV, rfl, _, _⟩ := hW
  have hA : DataW.TrodAll enc Tryd.prog W 0 (fun _ => true) true Tryd.f4.params.toList args.toList ds p := hA0
  rw [Tryd.params4] at hA hval
  obtain ⟨v0, d0, rfl, rfl, h0⟩ := trodAll_one hA
  obtain ⟨s, rfl, _, _, hs⟩ := open_string Tryd.underlying9 (hval 0 9 v0 rfl rfl) h0
  refine (walk s hs W hL hSh).mono fun e W' ⟨he, hw⟩ => ?_
  subst he
  exact ⟨_, rfl, law_post Tryd.laidOut (by kernel_rfl) rfl Tryd.underlying4 rfl rfl hW0 hw⟩

theorem holds : Rows.FnExactParsePointSaid :=
  OpenClaim.holds_of_wide 4 Tryd.f4 rfl rfl rfl rfl rfl rfl rfl ⟨rfl, rfl, rfl, rfl, rfl⟩ rfl rfl rfl rfl rfl (by kernel_rfl) Tryd.func4 (by kernel_rfl)
    (of_decide_eq_true (by kernel_rfl)) (by unfold Func.isWrapper; first | (rw [if_pos (by decide +kernel)]; kernel_rfl) | (rw [if_neg (by decide +kernel)]; exact ⟨rfl, rfl⟩))
    (fun os started H enc _ => lifted os started H enc)

theorem card_holds : Rows.FnExactParsePointCardSaid :=
  Claim7.holds_tied_plain_at .later [] [.data, .data, .data, .data, .sentinel, .sentinel, .pinned] true (true, "6c5612460c539b00909a751d7614b26239c80a845131fc0cfda749aff915bae8") true holds (fun _ h => by cases h) (by kernel_rfl) (fun _ h => by cases h) fnExactParsePoint_row_tie rfl ⟨rfl, rfl⟩ (by kernel_rfl) rfl
    (fun f fn hf hfn => by
      obtain rfl : f = 4 := Option.some.inj ((show Tryd.prog.funcNamed "loop.example/g01217/laws.FnExactParsePoint" = some 4 by kernel_rfl).symm.trans hf) |>.symm
      obtain rfl : fn = Tryd.f4 := (Option.some.inj (Tryd.func4.symm.trans hfn)).symm
      exact ⟨by kernel_rfl, fun j t ht => by
        rw [Tryd.params4] at ht
        have hm : t ∈ [9] := by simpa using Array.mem_of_getElem? ht
        have hall : ([9].all fun u => !Tryd.prog.wantsStandIn u) = true := by kernel_rfl
        exact (show Tryd.prog.wantsStandIn t = false by simpa using List.all_eq_true.1 hall t hm)⟩)
    (by kernel_rfl)

end Go.Proofs.YtamojnbhnbeecaaDoor.lParsePoint
