/- For every input the law FnExactFourHull returns true, and its arguments read afterwards as they read before. Conditions: none. -/
import Derived.Test.YtppbbcckijcckaaU2
namespace Go.Proofs.Ytppbbcckijcckaa.lFourHull
open Go.ChangeShapes Go.WideShapes Go.ChangeAt Go.RowKit Go.Joins Go.Sort

set_option linter.unusedVariables false

theorem rowAl {w : World} {g : Nat} {l : List Pn} (h : RowP w g l) (hg : g < w.heap.size) (o : Obj) : RowP (w.alloc o) g l := h.below hg ((Below.refl _ w).alloc (Nat.le_refl _) o)

set_option maxRecDepth 100000 in
set_option maxHeartbeats 1600000 in
theorem walk (w : World) (pa : Option Addr) (pn pc : Nat) (pl : List Pn) (p1 : pl.length = pn) (p2 : pn ≤ maxLen) (p3 : PdA w.heap.size w pa pl) :
    Calls Try.prog 15 #[.slice pa pn pc] w fun e w' => e = .returned (.bool true) ∧ Below w.heap.size w w' := by
  have hmx : pn ≤ 9223372036854775807 := by unfold maxLen at p2; exact p2
  have SZ := szPointS_any pa pn pc 1048576 (by omega) (by omega) hmx
  by_cases hfit : pn ≤ 1048576
  · rw [if_pos (by omega)] at SZ
    have i1 : ¬ (1048576 : Int) - pn < 0 := by omega
    have C1 := Lib.hid (fun (W : World) (g : Nat) (hg : g < W.heap.size) (h : RowP W g pl) => spFourHull g pn pn pl p1 hfit W hg h)
    have C2 := Lib.hid (fun (W : World) (g : Nat) (hg : g < W.heap.size) (h : RowP W g pl) => imFourHull g pn pn pl p1 hfit W hg h)
    have TP := Lib.hid (fun (W : World) (hW : Below w.heap.size w W) => toPointS_any pa pn pc pl p1 hfit W w.heap.size hW.size (p3.below (Nat.le_refl _) hW))
    have EQ := Lib.hid (fun (W : World) (g g' : Nat) => eqPointS_same g pn g' pn pn pl p1 (by omega) W)
    generalize fhS pl = S at *
    generalize plsB pl = ok at *
    clear p1 p2 p3 hmx
    go_enter Try.func15, Try.ntmps15
    go_wp2_with (go_at_call 39; refine (SZ _).mono ?_; rintro e w' ⟨rfl, rfl⟩)
    (go_at_call 41; (with_reducible refine Calls.mono (TP.out _ ?_) ?_); (focus (go_grown; done)); rintro e w1 ⟨rfl, r1, m1, h1⟩; (try with_reducible replace h1 := undrew h1); have hB : Below w.heap.size w w1 := ba (by go_grown) h1; obtain ⟨hcw1, hfw1⟩ := bcell h1; have hqw1 := h1.size; (try simp at hqw1); (try have hz0w1 : w.heap.size < w1.heap.size := (by omega)); (try have he0w1 : w.heap.size ≤ w1.heap.size := (by omega)); have R1 := Lib.hid r1; have g1 := m1.1; have hB1 := Lib.hid hB; clear r1 m1 hcw1 hfw1 hB)
    go_wp2_with fail
    refine (C1.out _ _ g1 R1.out).mono ?_
    rintro e w2 ⟨rfl, h2⟩
    have hB : Below w.heap.size w w2 := ba hB1.out h2
    have hz2 := h2.size
    have y2 : w.heap.size < w2.heap.size := by omega
    clear h2
    go_wp2_with fail
    (go_at_call 41; (with_reducible refine Calls.mono (TP.out _ ?_) ?_); (focus (go_grown; done)); rintro e w3 ⟨rfl, r3, m3, h1⟩; (try with_reducible replace h1 := undrew h1); have hB : Below w.heap.size w w3 := ba (by go_grown) h1; obtain ⟨hcw3, hfw3⟩ := bcell h1; have hqw3 := h1.size; (try simp at hqw3); (try have hz0w3 : w.heap.size < w3.heap.size := (by omega)); (try have he0w3 : w.heap.size ≤ w3.heap.size := (by omega)); (try have hz1w3 : w2.heap.size < w3.heap.size := (by omega)); (try have he1w3 : w2.heap.size ≤ w3.heap.size := (by omega)); (simp only [World.size_alloc] at r3 m3); have R3 := Lib.hid r3; have g3 := m3.1; clear r3 m3)
    go_wp2_with fail
    refine (C2.out _ _ g3 R3.out).mono ?_
    rintro e w4 ⟨rfl, h4⟩
    have R4 := Lib.hid (R3.out.below g3 h4)
    have hz4 := h4.size
    obtain ⟨hc4, hf4⟩ := bcell h4
    have hB4 : Below w.heap.size w w4 := ba hB h4
    have x0 : w2.heap.size < w4.heap.size := by omega
    have x1 : w2.heap.size + 1 < w4.heap.size := by omega
    have x3 : w.heap.size < w4.heap.size := by omega
    clear hB
    go_wp2_with fail
    (go_at_call 26; (with_reducible refine (eqSurd_same S.x S.r _).mono ?_); rintro e w5 ⟨rfl, h1⟩; (try with_reducible replace h1 := undrew h1); have hB : Below w.heap.size w w5 := ba (by go_grown) h1; obtain ⟨hcw5, hfw5⟩ := bcell h1; have hqw5 := h1.size; (try simp at hqw5); (try have hz0w5 : w.heap.size < w5.heap.size := (by omega)); (try have he0w5 : w.heap.size ≤ w5.heap.size := (by omega)); (try have hz1w5 : w2.heap.size < w5.heap.size := (by omega)); (try have he1w5 : w2.heap.size ≤ w5.heap.size := (by omega)); (try have hz2w5 : w2.heap.size + 1 < w5.heap.size := (by omega)); (try have he2w5 : w2.heap.size + 1 ≤ w5.heap.size := (by omega)); (try have hz3w5 : w4.heap.size < w5.heap.size := (by omega)); (try have he3w5 : w4.heap.size ≤ w5.heap.size := (by omega)); have R6 := Lib.hid ((rowAl R4.out x1 _).below (by simp; omega) h1))
    go_wp2_with fail
    (go_at_call 41; (with_reducible refine Calls.mono (TP.out _ ?_) ?_); (focus (go_grown; done)); rintro e w7 ⟨rfl, r7, m7, h1⟩; (try with_reducible replace h1 := undrew h1); have hB : Below w.heap.size w w7 := ba (by go_grown) h1; obtain ⟨hcw7, hfw7⟩ := bcell h1; have hqw7 := h1.size; (try simp at hqw7); (try have hz0w7 : w.heap.size < w7.heap.size := (by omega)); (try have he0w7 : w.heap.size ≤ w7.heap.size := (by omega)); (try have hz1w7 : w2.heap.size + 1 < w7.heap.size := (by omega)); (try have he1w7 : w2.heap.size + 1 ≤ w7.heap.size := (by omega)); have R7 := Lib.hid r7; have g7 := m7.1; have S7 := Lib.hid (R6.out.below (by omega) h1); clear r7 m7)
    go_wp2_with fail
    refine (EQ.out _ _ _ (by omega) g7 S7.out R7.out).mono ?_
    rintro e w8 ⟨rfl, h8⟩
    go_wp2_with fail
    go_returns
    exact ⟨rfl, ba hB h8⟩
  · rw [if_neg (by omega)] at SZ
    go_enter Try.func15, Try.ntmps15
    go_wp2_with (go_at_call 39; refine (SZ _).mono ?_; rintro e w' ⟨rfl, rfl⟩)
    go_returns
    exact ⟨rfl, by go_grown⟩

set_option maxRecDepth 100000 in
theorem lifted (os : Os) (started : os.Started) (H : Type) (enc : TypeId × Value → H) :
    ReturnsInHanded {} Try.checked os 15 .any (Rows.fnExactFourHullSpec.pre6 enc Try.prog Try.f15 Rows.fnExactFourHullRow.domain false) (Rows.fnExactFourHullSpec.post enc Try.prog Try.f15 false true false false) := by
  refine returnsInHanded_of_change (C := Try.checked) Try.own started (by kernel_rfl) Try.func15
    (ChangeSpec.witness6 (enc := enc) (C := Try.checked) false ⟨#[], #[.slice none 0 0], []⟩ 8 (by kernel_rfl) (by kernel_rfl) (by kernel_rfl) (by kernel_rfl)) ?_
  intro W base args ds gs before hval0 hW _ _
  have hval : ∀ (j : Nat) t v, Try.f15.params[j]? = some t → args[j]? = some v → Value.okWide Try.prog W .any base t v := hval0
  have hW0 := hW
  obtain ⟨p, q, hA0, hV, rfl, _, _⟩ := hW
  have hA : DataW.TrodAll enc Try.prog W 0 (fun _ => true) true Try.f15.params.toList args.toList ds p := hA0
  rw [Try.params15] at hA hval
  obtain ⟨v0, d0, rfl, rfl, h0⟩ := trodAll_one hA
  obtain ⟨pa, pn, pc, pl, rfl, p1, p2, p3⟩ := open_points (hval 0 45 v0 rfl rfl) h0
  refine (walk W pa pn pc pl p1 p2 p3).mono fun e W' ⟨he, hw⟩ => ?_
  subst he
  exact ⟨_, rfl, law_post Try.laidOut (by kernel_rfl) rfl Try.underlying4 rfl rfl hW0 hw⟩

set_option maxRecDepth 100000 in
theorem closed : joinedFacts Try.prog 15 Try.f15 Rows.fnExactFourHullSpec Rows.fnExactFourHullRow = true := by
  unfold joinedFacts
  simp only [Bool.and_eq_true]
  repeat' (with_reducible apply And.intro)
  all_goals first | (with_reducible exact enter_ok) | (rw [make_ok]; kernel_rfl) | (rw [lifts_ok]; kernel_rfl) | kernel_rfl

theorem holds : Rows.FnExactFourHullSaid :=
  OpenClaim.holds_of_wide 15 Try.f15 rfl rfl rfl rfl rfl rfl rfl ⟨rfl, rfl, rfl, rfl, rfl⟩ rfl rfl rfl rfl rfl (by kernel_rfl) Try.func15 closed
    (of_decide_eq_true (by kernel_rfl)) (by unfold Func.isWrapper; first | (rw [if_pos (by decide +kernel)]; kernel_rfl) | (rw [if_neg (by decide +kernel)]; exact ⟨rfl, rfl⟩))
    (fun os started H enc _ => lifted os started H enc)

end Go.Proofs.Ytppbbcckijcckaa.lFourHull
