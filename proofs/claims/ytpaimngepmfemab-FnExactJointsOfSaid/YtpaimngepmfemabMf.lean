/- Contracts: meetings in the program: the first one, and how many. -/
import Derived.Test.YtpaimngepmfemabMe
import Derived.Test.YtpaimngepmfemabSn
namespace Go.Proofs.Ytpaimngepmfemab
open Go.ChangeShapes Go.WideShapes Go.ChangeAt Go.RowKit

set_option linter.unusedVariables false

theorem jt_of {W : World} {B n g cap : Nat} {e : TypeId} {l : List Sp} (h : W.ownsRow B e 4 (.slice (some ⟨g, 0, none⟩) n cap) n (ptCells l)) (hn : l.length = n) : JtAt W g l := fun i p hp => own_pt h hn hp

theorem own_cap {W : World} {B n g cap size : Nat} {e : TypeId} {xs : List Value} (h : W.ownsRow B e size (.slice (some ⟨g, 0, none⟩) n cap) n xs) : n ≤ cap ∧ cap ≤ maxLen := by
  rcases h.2 with ⟨h, _⟩ | ⟨g', cap', cur, h, _, _, h1, h2, _⟩
  · cases h
  · injection h with _ _ h3
    subst h3
    exact ⟨h1, h2⟩

theorem own_form {W : World} {B n size : Nat} {e : TypeId} {v : Value} {xs : List Value} (h : W.ownsRow B e size v n xs) : ∃ av cv, v = .slice av n cv := by
  rcases h.2 with ⟨h, h0⟩ | ⟨g, cap, cur, h, _⟩
  · exact ⟨none, 0, by rw [h, h0]⟩
  · exact ⟨_, _, h⟩

set_option maxRecDepth 100000 in
set_option maxHeartbeats 800000 in
theorem imCountMeetings (s : ByteArray) (hs : s.size ≤ 1048576) (w : World) :
    Calls Try.prog 33 #[.string s] w fun e w' => e = .returned (.tuple #[.int .i64 ((prsS s).length : Nat), .bool (tkB s)]) ∧ Below w.heap.size w w' := by
  cases ht : tkB s
  · have HP := Lib.hid (prsS_no ht)
    go_enter Try.func33, Try.ntmps33
    go_wp2_with (go_at_call 13; refine (imJointsOf_no s hs ht _).mono ?_; rintro e w' ⟨rfl, rfl⟩)
    go_ret2
    exact ⟨by rw [HP.out]; rfl, Below.refl _ _⟩
  have h40 := tkB_size ht
  have HP := Lib.hid (prsS_yes ht)
  have hL := lays_lenA sp0 s
  go_enter Try.func33, Try.ntmps33
  go_wp2_with fail
  refine (imJointsOf_yes s ht _).mono ?_
  rintro e w1 ⟨g, cap, rfl, hO, hb1⟩
  simp only [okT]
  generalize lays sp0 s.data.toList = l at HP hO hL
  have hm2 : (s.size + 1) * (s.size + 1) ≤ 2000 := by
    have : (s.size + 1) * (s.size + 1) ≤ 41 * 41 := Nat.mul_le_mul (by omega) (by omega)
    omega
  have hv := meetings_any g (s.size + 1) cap ((s.size + 1) * (s.size + 1)) l hL (by omega) hm2 w1 (hO.lt g rfl).2 (jt_of hO hL) (own_cap hO).1 (own_cap hO).2
  have hpl := prs_length l
  rw [hL] at hpl
  have HT := Lib.hid (take_allM hpl)
  have hcast : (((s.size + 1) * (s.size + 1) : Nat) : Int) = ((s.size : Int) + 1) * ((s.size : Int) + 1) := by push_cast; rfl
  rw [hcast] at hv
  have h0 : 0 ≤ ((s.size : Int) + 1) * ((s.size : Int) + 1) := by rw [← hcast]; omega
  have h1 : ((s.size : Int) + 1) * ((s.size : Int) + 1) ≤ 2000 := by rw [← hcast]; omega
  have HV := Lib.hid hv
  have HB := Lib.hid hb1
  clear hO hb1 hL hv hcast
  go_wp2_with fail
  refine HV.out.mono ?_
  rintro e w2 ⟨v, rfl, hM, hb2⟩
  rw [HT.out] at hM
  obtain ⟨av, cv, rfl⟩ := own_form hM
  have HB2 := Lib.hid (HB.out.trans (hb2.mono HB.out.size))
  clear hM hb2
  go_wp2_with fail
  go_ret2
  exact ⟨by rw [HP.out]; rfl, HB2.out⟩

set_option maxRecDepth 100000 in
set_option maxHeartbeats 800000 in
theorem imFirstMeeting (s : ByteArray) (hs : s.size ≤ 1048576) (w : World) :
    Calls Try.prog 31 #[.string s] w fun e w' => e = .returned (.tuple #[.int .i64 (fI (prsS s)), .int .i64 (fJ (prsS s)), .bool (fB (prsS s))]) ∧ Below w.heap.size w w' := by
  cases ht : tkB s
  · have HP := Lib.hid (prsS_no ht)
    go_enter Try.func31, Try.ntmps31
    go_wp2_with (go_at_call 13; refine (imJointsOf_no s hs ht _).mono ?_; rintro e w' ⟨rfl, rfl⟩)
    go_ret3
    exact ⟨ret_no HP.out, Below.refl _ _⟩
  have h40 := tkB_size ht
  have HP := Lib.hid (prsS_yes ht)
  have hL := lays_lenA sp0 s
  go_enter Try.func31, Try.ntmps31
  go_wp2_with fail
  refine (imJointsOf_yes s ht _).mono ?_
  rintro e w1 ⟨g, cap, rfl, hO, hb1⟩
  simp only [okT]
  generalize lays sp0 s.data.toList = l at HP hO hL
  have hv := meetings_any g (s.size + 1) cap 1 l hL (by omega) (by omega) w1 (hO.lt g rfl).2 (jt_of hO hL) (own_cap hO).1 (own_cap hO).2
  have HV := Lib.hid hv
  have HB := Lib.hid hb1
  clear hO hb1 hL hv
  go_wp2_with fail
  refine HV.out.mono ?_
  rintro e w2 ⟨v, rfl, hM, hb2⟩
  have HB2 := Lib.hid (HB.out.trans (hb2.mono HB.out.size))
  clear hb2
  generalize prs l = ps at HP hM
  cases ps with
  | nil =>
    simp only [List.take_nil, List.length_nil] at hM
    obtain ⟨av, cv, rfl⟩ := own_form hM
    clear hM
    go_wp2_with fail
    go_ret3
    exact ⟨ret_no HP.out, HB2.out⟩
  | cons p ps =>
    obtain ⟨i, j⟩ := p
    simp only [List.take_succ_cons, List.take_zero, List.length_cons, List.length_nil, Nat.zero_add] at hM
    obtain ⟨gm, cm, rfl, _⟩ := hM.form (by omega)
    have c0 : w2.cell? ⟨gm, 0, none⟩ = some (.int .i64 ((i : Nat) : Int)) := by rw [hM.cellAt 0 (by omega)]; rfl
    have c1 : w2.cell? ⟨gm, 1, none⟩ = some (.int .i64 ((j : Nat) : Int)) := by rw [hM.cellAt 1 (by omega)]; rfl
    clear hM
    go_wp2_with fail
    go_quiet (fail)
    go_wp2_with fail
    go_ret3
    exact ⟨ret_one HP.out, HB2.out.trans ⟨rfl, rfl, rfl, Nat.le_refl _, fun _ _ => rfl⟩⟩

end Go.Proofs.Ytpaimngepmfemab
