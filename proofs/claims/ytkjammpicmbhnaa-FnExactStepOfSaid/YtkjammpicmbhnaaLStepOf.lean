/- For every input the law FnExactStepOf returns true, and its arguments read afterwards as they read before. Conditions: none. -/
import Derived.Test.YtkjammpicmbhnaaKit
import Derived.Test.YtkjammpicmbhnaaPtIm
import Derived.ChangeMaps5
namespace Go.Proofs.Ytkjammpicmbhnaa.lStepOf
open Go.ChangeShapes Go.WideShapes Go.ChangeAt Go.RowKit Go.Joins Go.ChangeMaps

theorem one_of {s : ByteArray} {c : UInt8} (h : s.toList = [c]) : s = ⟨#[c]⟩ := by
  rw [ByteArray.toList_eq] at h
  obtain ⟨⟨d⟩⟩ := s
  simp at h
  rw [h]

theorem one_size {s : ByteArray} (h : s.size = 1) : ∃ c, s = ⟨#[c]⟩ := by
  obtain ⟨⟨d⟩⟩ := s
  match d, h with
  | [c], _ => exact ⟨c, rfl⟩

set_option maxRecDepth 100000 in
set_option maxHeartbeats 800000 in
theorem spStepOf_no (s : ByteArray) (hs : s.size ≤ 1048576) (h : Int) (n1 : (s.toList == [83]) = false) (n2 : (s.toList == [76]) = false) (n3 : (s.toList == [82]) = false) (w : World) :
    Calls Try.prog 30 #[.string s, .int .i64 h] w fun e w' => e = .returned (.tuple #[.agg #[.int .i64 0, .int .i64 0, .int .i64 0, .int .i64 0], .int .i64 0, .bool false]) ∧ Below w.heap.size w w' := by
  by_cases h1 : s.size = 1
  · obtain ⟨c, rfl⟩ := one_size h1
    have hp : pcB (((⟨#[c]⟩ : ByteArray)[0].toNat : Nat) : Int) = false := by
      rw [ByteArray.toList_eq] at n1 n2 n3
      simp at n1 n2 n3
      have e : (⟨#[c]⟩ : ByteArray)[0] = c := rfl
      rw [e]
      have k1 : c.toNat ≠ 83 := fun k => n1 (UInt8.toNat_inj.1 k)
      have k2 : c.toNat ≠ 76 := fun k => n2 (UInt8.toNat_inj.1 k)
      have k3 : c.toNat ≠ 82 := fun k => n3 (UInt8.toNat_inj.1 k)
      simp only [pcB, decide_eq_false_iff_not]
      omega
    clear n1 n2 n3 hs
    go_enter Try.func30, Try.ntmps30
    go_wp2_with (first | (go_at_call 51; refine (ptPiece_any _ _).mono ?_; rintro e w' ⟨rfl, rfl⟩) | (go_at_call 49; refine (ptIs_any _ _).mono ?_; rintro e w' ⟨rfl, rfl⟩))
    refine bodyPost_ret (by simp [results, Try.results30, go_sem, *]; try rfl) rfl ?_
    exact ⟨rfl, by go_grown⟩
  · have hl : ((s.size : Int) == 1) = false := by simp; omega
    have hl2 : ((s.size : Int) != 1) = true := by simp; omega
    clear n1 n2 n3
    go_enter Try.func30, Try.ntmps30
    go_wp2_with (first | (go_at_call 51; refine (ptPiece_any _ _).mono ?_; rintro e w' ⟨rfl, rfl⟩) | (go_at_call 49; refine (ptIs_any _ _).mono ?_; rintro e w' ⟨rfl, rfl⟩))
    all_goals
      refine bodyPost_ret (by simp [results, Try.results30, go_sem, *]; try rfl) rfl ?_
      exact ⟨rfl, by go_grown⟩

set_option maxRecDepth 100000 in
set_option maxHeartbeats 800000 in
theorem walk0 (s : ByteArray) (hs : s.size ≤ 1048576) (h : Int) (A : Int) (A0 A1 A2 A3 : Int) (b : Bool) (w : World)
    (c1 : ∀ w, Calls Try.prog 30 #[.string s, .int .i64 h] w fun e w' => e = .returned (.tuple #[.agg #[.int .i64 A0, .int .i64 A1, .int .i64 A2, .int .i64 A3], .int .i64 A, .bool b]) ∧ Below w.heap.size w w')
    (c2 : ∀ w, Calls Try.prog 31 #[.string s, .int .i64 h] w fun e w' => e = .returned (.tuple #[.agg #[.int .i64 A0, .int .i64 A1, .int .i64 A2, .int .i64 A3], .int .i64 A, .bool b]) ∧ Below w.heap.size w w') :
    Calls Try.prog 11 #[.string s, .int .i64 h] w fun e w' => e = .returned (.bool true) ∧ Below w.heap.size w w' := by
  have C1 := Lib.hid c1
  have C2 := Lib.hid c2
  clear c1 c2
  go_enter Try.func11, Try.ntmps11
  go_wp2_with fail
  (go_at_call 30; (with_reducible refine (C1.out _).mono ?_); rintro e wB ⟨rfl, h1⟩; (try with_reducible replace h1 := undrew h1); have hB : Below w.heap.size w wB := ba (by go_grown) h1; obtain ⟨hcwB, hfwB⟩ := bcell h1; have hqwB := h1.size; (try simp at hqwB); )
  go_wp2_with fail
  (go_at_call 31; (with_reducible refine (C2.out _).mono ?_); rintro e wD ⟨rfl, h1⟩; (try with_reducible replace h1 := undrew h1); have hB : Below w.heap.size w wD := ba (by go_grown) h1; obtain ⟨hcwD, hfwD⟩ := bcell h1; have hqwD := h1.size; (try simp at hqwD); (try have hz0wD : wB.heap.size < wD.heap.size := (by omega)); (try have he0wD : wB.heap.size ≤ wD.heap.size := (by omega)))
  go_wp2_with fail
  (go_at_call 17; (with_reducible refine (eqPoint_same _ _ _ _ _).mono ?_); rintro e wE ⟨rfl, h1⟩; (try with_reducible replace h1 := undrew h1); have hB : Below w.heap.size w wE := ba (by go_grown) h1; obtain ⟨hcwE, hfwE⟩ := bcell h1; have hqwE := h1.size; (try simp at hqwE); (try have hz0wE : wB.heap.size < wE.heap.size := (by omega)); (try have he0wE : wB.heap.size ≤ wE.heap.size := (by omega)))
  go_wp2_with fail
  all_goals go_returns
  all_goals exact ⟨rfl, by go_grown⟩

set_option maxRecDepth 100000 in
theorem walk (s : ByteArray) (hs : s.size ≤ maxLen) (h : Int) (w : World) :
    Calls Try.prog 11 #[.string s, .int .i64 h] w fun e w' => e = .returned (.bool true) ∧ Below w.heap.size w w' := by
  by_cases hb : s.size ≤ 1048576
  · by_cases e1 : s.toList = [83]
    · obtain rfl := one_of e1
      exact walk0 _ hb h _ _ _ _ _ _ w (spStepOf_S h) (imStepOf_S h)
    by_cases e2 : s.toList = [76]
    · obtain rfl := one_of e2
      exact walk0 _ hb h _ _ _ _ _ _ w (spStepOf_L h) (imStepOf_L h)
    by_cases e3 : s.toList = [82]
    · obtain rfl := one_of e3
      exact walk0 _ hb h _ _ _ _ _ _ w (spStepOf_R h) (imStepOf_R h)
    have n1 : (s.toList == [83]) = false := by simpa using e1
    have n2 : (s.toList == [76]) = false := by simpa using e2
    have n3 : (s.toList == [82]) = false := by simpa using e3
    exact walk0 _ hb h _ _ _ _ _ _ w (spStepOf_no s hb h n1 n2 n3) (imStepOf_no s h n1 n2 n3)
  · have hgt : 1048576 < s.size := by omega
    unfold maxLen at hs
    go_enter Try.func11, Try.ntmps11
    go_wp2_with fail
    all_goals go_returns
    all_goals exact ⟨rfl, by go_grown⟩

set_option maxRecDepth 100000 in
theorem lifted (os : Os) (started : os.Started) (H : Type) (enc : TypeId × Value → H) :
    ReturnsInHanded {} Try.checked os 11 .any (Rows.fnExactStepOfSpec.pre6 enc Try.prog Try.f11 Rows.fnExactStepOfRow.domain false) (Rows.fnExactStepOfSpec.post enc Try.prog Try.f11 false true false false) := by
  refine returnsInHanded_of_change (C := Try.checked) Try.own started (by kernel_rfl) Try.func11
    (ChangeSpec.witness6 (enc := enc) (C := Try.checked) false ⟨#[], #[.string ByteArray.empty, .int .i64 0], []⟩ 8 (by kernel_rfl) (by kernel_rfl) (by kernel_rfl) (by kernel_rfl)) ?_
  intro W base args ds gs before hval0 hW _ _
  have hval : ∀ (j : Nat) t v, Try.f11.params[j]? = some t → args[j]? = some v → Value.okWide Try.prog W .any base t v := hval0
  have hW0 := hW
  obtain ⟨p, q, hA0, hV, rfl, _, _⟩ := hW
  have hA : DataW.TrodAll enc Try.prog W 0 (fun _ => true) true Try.f11.params.toList args.toList ds p := hA0
  rw [Try.params11] at hA hval
  obtain ⟨v0, v1, d0, d1, p0, p1, rfl, rfl, rfl, h0, h1⟩ := trodAll_two hA
  obtain ⟨s, rfl, _, _, hs⟩ := open_string Try.underlying9 (hval 0 9 v0 rfl rfl) h0
  obtain ⟨h, rfl, _, _, wh⟩ := open_int Try.underlying3 (hval 1 3 v1 rfl rfl) h1
  refine (walk s hs h W).mono fun e W' ⟨he, hw⟩ => ?_
  subst he
  exact ⟨_, rfl, law_post Try.laidOut (by kernel_rfl) rfl Try.underlying4 rfl rfl hW0 hw⟩

theorem holds : Rows.FnExactStepOfSaid :=
  OpenClaim.holds_of_wide 11 Try.f11 rfl rfl rfl rfl rfl rfl rfl ⟨rfl, rfl, rfl, rfl, rfl⟩ rfl rfl rfl rfl rfl (by kernel_rfl) Try.func11 (by kernel_rfl)
    (of_decide_eq_true (by kernel_rfl)) (by unfold Func.isWrapper; first | (rw [if_pos (by decide +kernel)]; kernel_rfl) | (rw [if_neg (by decide +kernel)]; exact ⟨rfl, rfl⟩))
    (fun os started H enc _ => lifted os started H enc)

end Go.Proofs.Ytkjammpicmbhnaa.lStepOf
