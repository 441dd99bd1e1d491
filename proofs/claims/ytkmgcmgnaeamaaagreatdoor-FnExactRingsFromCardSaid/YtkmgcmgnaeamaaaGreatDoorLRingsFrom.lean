/- For every input the law FnExactRingsFrom returns true, and its arguments read afterwards as they read before. Conditions: none. -/
import Derived.Test.YtkmgcmgnaeamaaaGreatDoorQ6
import Derived.Lib.Hide
import Derived.ChangeMaps5
import Derived.Test.YtkmgcmgnaeamaaaGreatDoorTie
import Derived.Test.YtkmgcmgnaeamaaaGreatDoorCards
import Derived.OpenShut
import Derived.LaidMore
import Derived.Lay
import Derived.SevenTiedAt
import Derived.Stop.Joined
namespace Go.Proofs.YtkmgcmgnaeamaaaGreatDoor.lRingsFrom
open Go.ChangeShapes Go.WideShapes Go.ChangeAt Go.RowKit Go.Joins Go.ChangeMaps

set_option linter.unusedVariables false

set_option maxRecDepth 100000 in
set_option maxHeartbeats 1600000 in
theorem walk0 (n : Bq) (l : List (List UInt8)) (b : Bool) (hl : l.length ≤ 900000)
    (c1 : ∀ w, Calls Tryz.prog 8 #[bv n] w (STPost l b w))
    (c2 : ∀ w, Calls Tryz.prog 9 #[bv n] w (STPost l b w)) (w : World) :
    Calls Tryz.prog 4 #[bv n] w fun e w' => e = .returned (.bool true) ∧ Below w.heap.size w w' := by
  have C1 := Lib.hid c1
  have C2 := Lib.hid c2
  clear c1 c2
  go_enter Tryz.func4, Tryz.ntmps4
  go_wp2_with fail
  (go_at_call 6; (with_reducible refine (toBox_any n.x n.r _).mono ?_); rintro e wT ⟨rfl, h1⟩; (try with_reducible replace h1 := undrew h1); have hB : Below w.heap.size w wT := ba (by go_grown) h1; obtain ⟨hcwT, hfwT⟩ := bcell h1; have hqwT := h1.size; (try simp at hqwT); (try have hz0wT : w.heap.size < wT.heap.size := (by omega)); (try have he0wT : w.heap.size ≤ wT.heap.size := (by omega)))
  have BT := Lib.hid hB
  have d0 : wT.cell? ⟨w.heap.size, 0, none⟩ = some (.int .i64 n.x) := by go_simp
  have d1 : wT.cell? ⟨w.heap.size, 1, none⟩ = some (.int .i64 n.r) := by go_simp
  have CT := Lib.hid (And.intro d0 d1)
  clear hB h1 hcwT hfwT d0 d1
  go_wp2_with fail
  refine (C1.out _).mono ?_
  rintro e w1 ⟨vw, rfl, o1, hb1⟩
  have hs1 := hb1.size
  have C1x := Lib.hid (show w1.cell? ⟨w.heap.size, 0, none⟩ = some (.int .i64 n.x) ∧ w1.cell? ⟨w.heap.size, 1, none⟩ = some (.int .i64 n.r) from ⟨by rw [hb1.cell (p := ⟨w.heap.size, 0, none⟩) (by show w.heap.size < _; omega)]; exact CT.out.1, by rw [hb1.cell (p := ⟨w.heap.size, 1, none⟩) (by show w.heap.size < _; omega)]; exact CT.out.2⟩)
  have S1 := Lib.hid (strV_own o1)
  have O1 := Lib.hid o1
  have hB := ba BT.out hb1
  obtain ⟨d0, d1⟩ := C1x.out
  clear o1 hb1
  go_wp2_with fail
  (go_at_call 6; (with_reducible refine (toBox_any n.x n.r _).mono ?_); rintro e wU ⟨rfl, h1⟩; (try with_reducible replace h1 := undrew h1); have hB : Below w.heap.size w wU := ba (by go_grown) h1; obtain ⟨hcwU, hfwU⟩ := bcell h1; have hqwU := h1.size; (try simp at hqwU); (try have hz0wU : w.heap.size < wU.heap.size := (by omega)); (try have he0wU : w.heap.size ≤ wU.heap.size := (by omega)); (try have hz1wU : w1.heap.size < wU.heap.size := (by omega)); (try have he1wU : w1.heap.size ≤ wU.heap.size := (by omega)))
  have B1 := Lib.hid hB
  have S1u := Lib.hid (S1.out.below h1)
  have hz1 := h1.size
  have CU := Lib.hid (show wU.cell? ⟨w.heap.size, 0, none⟩ = some (.int .i64 n.x) ∧ wU.cell? ⟨w.heap.size, 1, none⟩ = some (.int .i64 n.r) from ⟨by rw [h1.cell (p := ⟨w.heap.size, 0, none⟩) (by show w.heap.size < _; omega)]; exact C1x.out.1, by rw [h1.cell (p := ⟨w.heap.size, 1, none⟩) (by show w.heap.size < _; omega)]; exact C1x.out.2⟩)
  clear h1 hcwU hfwU d0 d1 hB
  go_wp2_with fail
  refine (C2.out _).mono ?_
  rintro e w2 ⟨vg, rfl, o2, hb2⟩
  have hap := own_apart O1.out o2 hz1
  have hs2 := hb2.size
  have C2x := Lib.hid (show w2.cell? ⟨w.heap.size, 0, none⟩ = some (.int .i64 n.x) ∧ w2.cell? ⟨w.heap.size, 1, none⟩ = some (.int .i64 n.r) from ⟨by rw [hb2.cell (p := ⟨w.heap.size, 0, none⟩) (by show w.heap.size < _; omega)]; exact CU.out.1, by rw [hb2.cell (p := ⟨w.heap.size, 1, none⟩) (by show w.heap.size < _; omega)]; exact CU.out.2⟩)
  have T2 := Lib.hid (strV_own o2)
  have F2 := Lib.hid (free_own o2)
  have G2 := Lib.hid (fun g hg => (o2.lt g hg).2)
  have G1 := Lib.hid (fun g hg => (o2.lt g hg).1)
  have S2 := Lib.hid (S1u.out.below hb2)
  have B2 := Lib.hid (B1.out.trans (hb2.mono B1.out.size))
  obtain ⟨av, cv, rfl⟩ := own_formC o2
  have AP := Lib.hid hap
  clear o2 hb2 hap
  go_wp2_with fail
  refine (eqStringS_same _ _ l (by omega) _ T2.out S2.out).mono ?_
  rintro e w3 ⟨rfl, hb3⟩
  have T3 := Lib.hid (T2.out.below hb3)
  have S3 := Lib.hid (S2.out.below hb3)
  have F3 := Lib.hid (fun g hg => (show FreeR w3 g l.length from fun j hj => by rw [hb3.frozen (p := ⟨g, j, none⟩) (G2.out g hg)]; exact F2.out g hg j hj))
  have B3 := Lib.hid (B2.out.trans (hb3.mono B2.out.size))
  have hz3 := hb3.size
  have C3x := Lib.hid (show w3.cell? ⟨w.heap.size, 0, none⟩ = some (.int .i64 n.x) ∧ w3.cell? ⟨w.heap.size, 1, none⟩ = some (.int .i64 n.r) from ⟨by rw [hb3.cell (p := ⟨w.heap.size, 0, none⟩) (by show w.heap.size < _; omega)]; exact C2x.out.1, by rw [hb3.cell (p := ⟨w.heap.size, 1, none⟩) (by show w.heap.size < _; omega)]; exact C2x.out.2⟩)
  clear hb3
  go_wp2_with fail
  refine (markStringS_any _ l hl _ T3.out F3.out).mono ?_
  rintro e w4 ⟨rfl, hK, hg4⟩
  have S4 := Lib.hid (S3.out.grown hg4 AP.out)
  have K4 := Lib.hid (show l.length = 0 ∨ ∃ g, av = some ⟨g, 0, none⟩ ∧ g < w4.heap.size ∧ MkAt w4 g l.length 1 by
    obtain ⟨av', cap', h, h'⟩ := T3.out
    injection h with h
    subst h
    rcases h' with h' | ⟨g, rfl, hg, _⟩
    · exact .inl (by rw [h']; rfl)
    · exact .inr ⟨g, rfl, Nat.lt_of_lt_of_le hg hg4.size, hK g rfl⟩)
  have B4 := Lib.hid (B3.out.grown hg4 B3.out.size (fun k hk => Nat.le_trans B1.out.size (G1.out k hk)))
  have hz4 := hg4.size
  have C4x := Lib.hid (show w4.cell? ⟨w.heap.size, 0, none⟩ = some (.int .i64 n.x) ∧ w4.cell? ⟨w.heap.size, 1, none⟩ = some (.int .i64 n.r) from ⟨hg4.cell C3x.out.1 (fun e => by have h : wU.heap.size ≤ w.heap.size := G1.out w.heap.size e.symm; omega), hg4.cell C3x.out.2 (fun e => by have h : wU.heap.size ≤ w.heap.size := G1.out w.heap.size e.symm; omega)⟩)
  clear hK hg4
  go_wp2_with fail
  refine (heldStringS_any av l.length cv hl _ K4.out).mono ?_
  rintro e w5 ⟨rfl, hb5⟩
  have S5 := Lib.hid (S4.out.below hb5)
  have K5 := Lib.hid (show l.length = 0 ∨ ∃ g, av = some ⟨g, 0, none⟩ ∧ g < w5.heap.size ∧ MkAt w5 g l.length 1 from K4.out.imp id (fun ⟨g, h1, h2, h3⟩ => ⟨g, h1, Nat.lt_of_lt_of_le h2 hb5.size, h3.below h2 hb5⟩))
  have hz5 := hb5.size
  have C5x := Lib.hid (show w5.cell? ⟨w.heap.size, 0, none⟩ = some (.int .i64 n.x) ∧ w5.cell? ⟨w.heap.size, 1, none⟩ = some (.int .i64 n.r) from ⟨by rw [hb5.cell (p := ⟨w.heap.size, 0, none⟩) (by show w.heap.size < _; omega)]; exact C4x.out.1, by rw [hb5.cell (p := ⟨w.heap.size, 1, none⟩) (by show w.heap.size < _; omega)]; exact C4x.out.2⟩)
  have hB := B4.out.trans (hb5.mono B4.out.size)
  obtain ⟨d0, d1⟩ := C5x.out
  clear hb5
  go_wp2_with fail
  (go_at_call 6; (with_reducible refine (toBox_any n.x n.r _).mono ?_); rintro e wV ⟨rfl, h1⟩; (try with_reducible replace h1 := undrew h1); have hB : Below w.heap.size w wV := ba (by go_grown) h1; obtain ⟨hcwV, hfwV⟩ := bcell h1; have hqwV := h1.size; (try simp at hqwV); (try have hz0wV : w.heap.size < wV.heap.size := (by omega)); (try have he0wV : w.heap.size ≤ wV.heap.size := (by omega)))
  have B5 := Lib.hid hB
  have S5v := Lib.hid (S5.out.below h1)
  have K5v := Lib.hid (show l.length = 0 ∨ ∃ g, av = some ⟨g, 0, none⟩ ∧ g < wV.heap.size ∧ MkAt wV g l.length 1 from K5.out.imp id (fun ⟨g, h2, h3, h4⟩ => ⟨g, h2, Nat.lt_of_lt_of_le h3 h1.size, h4.below h3 h1⟩))
  clear h1 hcwV hfwV d0 d1 hB
  go_wp2_with fail
  refine (C2.out _).mono ?_
  rintro e w6 ⟨vh, rfl, o6, hb6⟩
  have T6 := Lib.hid (strV_own o6)
  have S6 := Lib.hid (S5v.out.below hb6)
  have K6 := Lib.hid (show l.length = 0 ∨ ∃ g, av = some ⟨g, 0, none⟩ ∧ g < w6.heap.size ∧ MkAt w6 g l.length 1 from K5v.out.imp id (fun ⟨g, h1, h2, h3⟩ => ⟨g, h1, Nat.lt_of_lt_of_le h2 hb6.size, h3.below h2 hb6⟩))
  have B6 := Lib.hid (B5.out.trans (hb6.mono B5.out.size))
  clear o6 hb6
  go_wp2_with fail
  refine (eqStringS_same _ _ l (by omega) _ T6.out S6.out).mono ?_
  rintro e w7 ⟨rfl, hb7⟩
  have K7 := Lib.hid (show l.length = 0 ∨ ∃ g, av = some ⟨g, 0, none⟩ ∧ g < w7.heap.size ∧ MkAt w7 g l.length 1 from K6.out.imp id (fun ⟨g, h1, h2, h3⟩ => ⟨g, h1, Nat.lt_of_lt_of_le h2 hb7.size, h3.below h2 hb7⟩))
  have B7 := Lib.hid (B6.out.trans (hb7.mono B6.out.size))
  clear hb7
  go_wp2_with fail
  refine (heldStringS_any av l.length cv hl _ K7.out).mono ?_
  rintro e w8 ⟨rfl, hb8⟩
  have B8 := Lib.hid (B7.out.trans (hb8.mono B7.out.size))
  clear hb8
  go_wp2_with fail
  all_goals go_returns
  all_goals exact ⟨rfl, B8.out⟩

set_option maxRecDepth 100000 in
theorem walk (b0 b1 : Int) (w : World) :
    Calls Tryz.prog 4 #[.agg #[.int .i64 b0, .int .i64 b1]] w fun e w' => e = .returned (.bool true) ∧ Below w.heap.size w w' :=
  walk0 ⟨b0, b1⟩ (rfR ⟨b0, b1⟩) (rfG ⟨b0, b1⟩) (rfR_len _) (spRingsFrom _) (imRingsFrom _) w

theorem laid_met (os : Os) (args : Array Value) : laidMetH Tryz.prog Rows.fnExactRingsFromRow.laid ((World.laidAll Tryz.prog os Rows.fnExactRingsFromRow.laid).forCall (fun _ _ => 0) ⟨#[], args, []⟩).memory := by
  rw [MakeChecks.laidMetH_plain _ _ _ (by kernel_rfl)]
  exact laidMet_laidAll _ (by kernel_rfl) (by kernel_rfl)

set_option maxRecDepth 100000 in
theorem lifted (os : Os) (started : os.Started) (H : Type) (enc : TypeId × Value → H) :
    ReturnsInHanded {} Tryz.checked os 4 .any (fun w args => (Rows.fnExactRingsFromSpec.pre enc Tryz.prog Tryz.f4 Rows.fnExactRingsFromRow.domain false w args ∧ laidMetH Tryz.prog Rows.fnExactRingsFromRow.laid w) ∧ sizedMet enc Tryz.prog Tryz.f4 (OpenSpec.ofChange Rows.fnExactRingsFromSpec) false w args)
      (Rows.fnExactRingsFromSpec.post enc Tryz.prog Tryz.f4 false true false false) := by
  refine returnsInHanded_of_change_and (C := Tryz.checked) (X := fun w _ => laidMetH Tryz.prog Rows.fnExactRingsFromRow.laid w) (fun _ _ _ hh h => h.of_heap hh) Tryz.own started (by kernel_rfl) Tryz.func4
    (ChangeSpec.witness_shaped (enc := enc) (C := Tryz.checked) (os := os) (X := fun w _ => laidMetH Tryz.prog Rows.fnExactRingsFromRow.laid w) false (World.laidAll Tryz.prog os Rows.fnExactRingsFromRow.laid) #[.agg #[.int .i64 0, .int .i64 0]] 8 (World.laidAll_os _ _ _)
      (World.shaped_of_ZipB (by kernel_rfl) (by kernel_rfl)) (by kernel_rfl) (by kernel_rfl) (by kernel_rfl) (laid_met os _)) ?_
  intro W base args ds gs before hval0 hW _ _ hL _
  have hval : ∀ (j : Nat) t v, Tryz.f4.params[j]? = some t → args[j]? = some v → Value.okWide Tryz.prog W .any base t v := hval0
  have hW0 := hW
  obtain ⟨p, q, hA0, hV, rfl, _, _⟩ := hW
  have hA : DataW.TrodAll enc Tryz.prog W 0 (fun _ => true) true Tryz.f4.params.toList args.toList ds p := hA0
  rw [Tryz.params4] at hA hval
  obtain ⟨v0, d0, rfl, rfl, h0⟩ := trodAll_one hA
  obtain ⟨b0, b1, rfl⟩ := open_box (hval 0 23 v0 rfl rfl) h0
  refine (walk b0 b1 W).mono fun e W' ⟨he, hw⟩ => ?_
  subst he
  exact ⟨_, rfl, law_post Tryz.laidOut (by kernel_rfl) rfl Tryz.underlying4 rfl rfl hW0 hw⟩

set_option maxRecDepth 100000 in
theorem closed : joinedFacts Tryz.prog 4 Tryz.f4 Rows.fnExactRingsFromSpec Rows.fnExactRingsFromRow = true := by
  unfold joinedFacts
  simp only [Bool.and_eq_true]
  repeat' (with_reducible apply And.intro)
  all_goals first | (with_reducible exact enter_ok) | (rw [make_ok]; kernel_rfl) | (rw [lifts_ok]; kernel_rfl) | kernel_rfl

theorem holds : Rows.FnExactRingsFromSaid :=
  OpenClaim.holds_of_wide 4 Tryz.f4 rfl rfl rfl rfl rfl rfl rfl ⟨rfl, rfl, rfl, rfl, rfl⟩ rfl rfl rfl rfl rfl (by kernel_rfl) Tryz.func4 closed
    (of_decide_eq_true (by kernel_rfl)) (by unfold Func.isWrapper; first | (rw [if_pos (by decide +kernel)]; kernel_rfl) | (rw [if_neg (by decide +kernel)]; exact ⟨rfl, rfl⟩))
    (fun os started H enc _ => lifted os started H enc)

theorem card_holds : Rows.FnExactRingsFromCardSaid :=
  Claim7.holds_tied_plain_at .later [] [.data, .pinned] true (true, "cb708dddb5c1d4ae9f7135e4d746cf2272c55c2c4c9462384a4bfb8332ca76a1") false holds (fun _ h => by cases h) (by kernel_rfl) (fun _ h => by cases h) fnExactRingsFrom_row_tie rfl ⟨rfl, rfl⟩ main_ok rfl
    (fun f fn hf hfn => by
      obtain rfl : f = 4 := Option.some.inj ((show Tryz.prog.funcNamed "loop.example/g01217/laws.FnExactRingsFrom" = some 4 by kernel_rfl).symm.trans hf) |>.symm
      obtain rfl : fn = Tryz.f4 := (Option.some.inj (Tryz.func4.symm.trans hfn)).symm
      exact ⟨by kernel_rfl, fun j t ht => by
        rw [Tryz.params4] at ht
        have hm : t ∈ [23] := by simpa using Array.mem_of_getElem? ht
        have hall : ([23].all fun u => !Tryz.prog.wantsStandIn u) = true := by kernel_rfl
        exact (show Tryz.prog.wantsStandIn t = false by simpa using List.all_eq_true.1 hall t hm)⟩)
    (by kernel_rfl)

end Go.Proofs.YtkmgcmgnaeamaaaGreatDoor.lRingsFrom
