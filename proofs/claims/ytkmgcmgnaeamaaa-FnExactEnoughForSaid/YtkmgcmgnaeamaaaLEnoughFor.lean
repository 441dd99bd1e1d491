/- For every input the law FnExactEnoughFor returns true, and its arguments read afterwards as they read before. Conditions: none. -/
import Derived.Test.YtkmgcmgnaeamaaaR1
import Derived.Lib.Hide
import Derived.ChangeMaps5
namespace Go.Proofs.Ytkmgcmgnaeamaaa.lEnoughFor
open Go.ChangeShapes Go.WideShapes Go.ChangeAt Go.RowKit Go.Joins Go.Sort

set_option linter.unusedVariables false

set_option maxRecDepth 100000 in
set_option maxHeartbeats 800000 in
theorem eqStringT_same (g c g' c' n : Nat) (l : List (List UInt8)) (hn : l.length = n) (hb : n ≤ 2000000) (w : World) (hg : g < w.heap.size) (hg' : g' < w.heap.size) (h1 : StrAt w g l) (h2 : StrAt w g' l) :
    Calls Try.prog 30 #[.slice (some ⟨g, 0, none⟩) n c, .slice (some ⟨g', 0, none⟩) n c'] w fun e w' => e = .returned (.bool true) ∧ Below w.heap.size w w' := by
  have HN := Lib.hid hn
  have H1 := Lib.hid h1
  have H2 := Lib.hid h2
  clear hn h1 h2
  go_enter Try.func30, Try.ntmps30
  go_wp2_with fail
  go_loopw [5] (fun i wr => ∃ k : Nat, k ≤ n ∧ i = .int .i64 k ∧ Below w.heap.size w wr) (fun i _ => n - (intOf i).toNat)
  case atStart => exact ⟨0, Nat.zero_le _, rfl, Below.refl _ _⟩
  case round =>
    obtain ⟨k, hk, rfl, hB⟩ := hrel
    have HB := Lib.hid hB
    by_cases hlt : k < n
    · obtain ⟨x, hx⟩ : ∃ x, l[k]? = some x := ⟨_, List.getElem?_eq_getElem (by rw [HN.out]; exact hlt)⟩
      have c0 := (H1.out.below hg hB) k x hx
      have d0 := (H2.out.below hg' hB) k x hx
      have i1 : (0 : Int) ≤ (k : Int) := by omega
      have i2 : (k : Int) < (n : Int) := by omega
      clear hB hx
      go_wp2_with fail
      go_quiet (fail)
      go_wp2_with fail
      go_roundw
      case rel => exact ⟨k + 1, by omega, by go_num, HB.out.trans (below_drawn _ _)⟩
      case measure => simp [intOf]; omega
    · clear hB
      go_wp2_with fail
      go_ret
      exact ⟨rfl, HB.out⟩

set_option maxRecDepth 100000 in
set_option maxHeartbeats 1600000 in
theorem walk (w : World) (pa : Option Addr) (pn pc : Nat) (pl : List (List UInt8)) (p1 : pl.length = pn) (p2 : pn ≤ maxLen) (p3 : TxA w.heap.size w pa pl) :
    Calls Try.prog 7 #[.slice pa pn pc] w fun e w' => e = .returned (.bool true) ∧ Below w.heap.size w w' := by
  have C1 := Lib.hid (fun (hn : pn ≤ 1048576) (hu : ∀ u ∈ pl, u.length ≤ 1048576) (W : World) (g : Nat) (h : RT W g pn pl) => spEnoughFor g pn pn pl p1 hn hu W h.1 (h.str p1))
  have C2 := Lib.hid (fun (hn : pn ≤ 1048576) (hu : ∀ u ∈ pl, u.length ≤ 1048576) (W : World) (g : Nat) (h : RT W g pn pl) => imEnoughFor g pn pn pl p1 hn hu W h.1 (h.str p1))
  have TP := Lib.hid (fun (hn : pn ≤ 1048576) (W : World) (hW : Below w.heap.size w W) => toStringS_any pa pn pc pl p1 (by omega) W w.heap.size hW.size (p3.below (Nat.le_refl _) hW))
  have EQ := Lib.hid (fun (hn : pn ≤ 1048576) (W : World) (g g' : Nat) (h1 : RT W g pn pl) (h2 : RT W g' pn pl) => eqStringT_same g pn g' pn pn pl p1 (by omega) W h1.1 h2.1 (h1.str p1) (h2.str p1))
  have SZ := szStringS_any pa pn pc pl p1 p2 w w.heap.size p3
  generalize enR pl = R at *
  generalize enG pl = G at *
  clear p1 p3 p2
  go_enter Try.func7, Try.ntmps7
  go_wp2_with fail
  refine SZ.mono ?_
  rintro e w0 ⟨⟨r, rfl, hr⟩, rfl⟩
  rcases hr with hr | ⟨hr0, hn, hu⟩
  · go_wp2_with fail
    go_returns
    exact ⟨rfl, by go_grown⟩
  have hr : ¬ r < 0 := by omega
  replace C1 := Lib.hid (C1.out hn hu)
  replace C2 := Lib.hid (C2.out hn hu)
  replace TP := Lib.hid (TP.out hn)
  replace EQ := Lib.hid (EQ.out hn)
  clear SZ hn hu hr0
  go_wp2_with fail
  (go_at_call 28; (with_reducible refine Calls.mono (TP.out _ ?_) ?_); (focus (go_grown; done)); rintro e w1 ⟨rfl, r1, h1⟩; (try with_reducible replace h1 := undrew h1); have hB : Below w.heap.size w w1 := ba (by go_grown) h1; obtain ⟨hcw1, hfw1⟩ := bcell h1; have hqw1 := h1.size; (try simp at hqw1); (try have hz0w1 : w.heap.size < w1.heap.size := (by omega)); (try have he0w1 : w.heap.size ≤ w1.heap.size := (by omega)); have R1 := Lib.hid r1; have hB1 := Lib.hid hB; clear r1 hcw1 hfw1 hB)
  go_wp2_with fail
  refine (C1.out _ _ R1.out).mono ?_
  rintro e w2 ⟨rfl, h2⟩
  have hB : Below w.heap.size w w2 := ba hB1.out h2
  have hz2 := h2.size
  clear h2
  go_wp2_with fail
  (go_at_call 28; (with_reducible refine Calls.mono (TP.out _ ?_) ?_); (focus (go_grown; done)); rintro e w3 ⟨rfl, r3, h1⟩; (try with_reducible replace h1 := undrew h1); have hB : Below w.heap.size w w3 := ba (by go_grown) h1; obtain ⟨hcw3, hfw3⟩ := bcell h1; have hqw3 := h1.size; (try simp at hqw3); (try have hz0w3 : w.heap.size < w3.heap.size := (by omega)); (try have he0w3 : w.heap.size ≤ w3.heap.size := (by omega)); (try have hz1w3 : w2.heap.size < w3.heap.size := (by omega)); (try have he1w3 : w2.heap.size ≤ w3.heap.size := (by omega)); have R3 := Lib.hid (show RT w3 (w2.heap.size + 1) pn pl from (by simpa using r3)); have e0 : w3.cell? ⟨w2.heap.size, 0, none⟩ = some (.int .i64 R.x) := (by go_simp); have e1 : w3.cell? ⟨w2.heap.size, 1, none⟩ = some (.int .i64 R.r) := (by go_simp); have hB3 := Lib.hid hB; have hz3 : w2.heap.size + 1 < w3.heap.size := R3.out.1; clear r3 hcw3 hfw3 h1 hB)
  go_wp2_with fail
  refine (C2.out _ _ R3.out).mono ?_
  rintro e w4 ⟨rfl, h4⟩
  have hB : Below w.heap.size w w4 := ba hB3.out h4
  have R4 := Lib.hid (R3.out.below (by omega) h4)
  have f0 := h4.cell (p := ⟨w2.heap.size, 0, none⟩) (by show w2.heap.size < _; omega)
  have f1 := h4.cell (p := ⟨w2.heap.size, 1, none⟩) (by show w2.heap.size < _; omega)
  rw [e0] at f0
  rw [e1] at f1
  have hz4 := h4.size
  have hz5 : w2.heap.size < w4.heap.size := by omega
  clear h4 e0 e1
  go_wp2_with fail
  (go_at_call 21; (with_reducible refine (eqBox_same R.x R.r _).mono ?_); rintro e w5 ⟨rfl, h1⟩; (try with_reducible replace h1 := undrew h1); have hB : Below w.heap.size w w5 := ba (by go_grown) h1; obtain ⟨hcw5, hfw5⟩ := bcell h1; have hqw5 := h1.size; (try simp at hqw5); (try have hz0w5 : w.heap.size < w5.heap.size := (by omega)); (try have he0w5 : w.heap.size ≤ w5.heap.size := (by omega)); (try have hz1w5 : w2.heap.size < w5.heap.size := (by omega)); (try have he1w5 : w2.heap.size ≤ w5.heap.size := (by omega)); (try have hz2w5 : w2.heap.size + 1 < w5.heap.size := (by omega)); (try have he2w5 : w2.heap.size + 1 ≤ w5.heap.size := (by omega)))
  have R5 := Lib.hid ((R4.out.below (show _ < w4.heap.size by omega) ((Below.refl _ w4).alloc (Nat.le_refl _) _)).below (by simp; omega) h1)
  have hB5 := hB
  clear h1 hcw5 hfw5 f0 f1 hB
  go_wp2_with fail
  (go_at_call 28; (with_reducible refine Calls.mono (TP.out _ ?_) ?_); (focus (go_grown; done)); rintro e w6 ⟨rfl, r6, h1⟩; (try with_reducible replace h1 := undrew h1); have hB : Below w.heap.size w w6 := ba (by go_grown) h1; obtain ⟨hcw6, hfw6⟩ := bcell h1; have hqw6 := h1.size; (try simp at hqw6); (try have hz0w6 : w.heap.size < w6.heap.size := (by omega)); (try have he0w6 : w.heap.size ≤ w6.heap.size := (by omega)); have R6 := Lib.hid r6; have S6 := Lib.hid (R5.out.below (by omega) h1); have hB6 := Lib.hid hB; clear r6 hcw6 hfw6 h1 hB hB5)
  go_wp2_with fail
  refine (EQ.out _ _ _ S6.out R6.out).mono ?_
  rintro e w7 ⟨rfl, h7⟩
  have hB : Below w.heap.size w w7 := ba hB6.out h7
  clear h7
  go_wp2_with fail
  all_goals go_returns
  all_goals exact ⟨rfl, hB⟩

set_option maxRecDepth 100000 in
theorem lifted (os : Os) (started : os.Started) (H : Type) (enc : TypeId × Value → H) :
    ReturnsInHanded {} Try.checked os 7 .any (Rows.fnExactEnoughForSpec.pre6 enc Try.prog Try.f7 Rows.fnExactEnoughForRow.domain false) (Rows.fnExactEnoughForSpec.post enc Try.prog Try.f7 false true false false) := by
  refine returnsInHanded_of_change (C := Try.checked) Try.own started (by kernel_rfl) Try.func7
    (ChangeSpec.witness6 (enc := enc) (C := Try.checked) false ⟨#[], #[.slice none 0 0], []⟩ 8 (by kernel_rfl) (by kernel_rfl) (by kernel_rfl) (by kernel_rfl)) ?_
  intro W base args ds gs before hval0 hW _ _
  have hval : ∀ (j : Nat) t v, Try.f7.params[j]? = some t → args[j]? = some v → Value.okWide Try.prog W .any base t v := hval0
  have hW0 := hW
  obtain ⟨p, q, hA0, hV, rfl, _, _⟩ := hW
  have hA : DataW.TrodAll enc Try.prog W 0 (fun _ => true) true Try.f7.params.toList args.toList ds p := hA0
  rw [Try.params7] at hA hval
  obtain ⟨v0, d0, rfl, rfl, h0⟩ := trodAll_one hA
  obtain ⟨pa, pn, pc, pl, rfl, p1, p2, p3⟩ := open_texts (hval 0 36 v0 rfl rfl) h0
  refine (walk W pa pn pc pl p1 p2 p3).mono fun e W' ⟨he, hw⟩ => ?_
  subst he
  exact ⟨_, rfl, law_post Try.laidOut (by kernel_rfl) rfl Try.underlying4 rfl rfl hW0 hw⟩

set_option maxRecDepth 100000 in
theorem closed : joinedFacts Try.prog 7 Try.f7 Rows.fnExactEnoughForSpec Rows.fnExactEnoughForRow = true := by
  unfold joinedFacts
  simp only [Bool.and_eq_true]
  repeat' (with_reducible apply And.intro)
  all_goals first | (with_reducible exact enter_ok) | (rw [make_ok]; kernel_rfl) | (rw [lifts_ok]; kernel_rfl) | kernel_rfl

theorem holds : Rows.FnExactEnoughForSaid :=
  OpenClaim.holds_of_wide 7 Try.f7 rfl rfl rfl rfl rfl rfl rfl ⟨rfl, rfl, rfl, rfl, rfl⟩ rfl rfl rfl rfl rfl (by kernel_rfl) Try.func7 closed
    (of_decide_eq_true (by kernel_rfl)) (by unfold Func.isWrapper; first | (rw [if_pos (by decide +kernel)]; kernel_rfl) | (rw [if_neg (by decide +kernel)]; exact ⟨rfl, rfl⟩))
    (fun os started H enc _ => lifted os started H enc)

end Go.Proofs.Ytkmgcmgnaeamaaa.lEnoughFor
