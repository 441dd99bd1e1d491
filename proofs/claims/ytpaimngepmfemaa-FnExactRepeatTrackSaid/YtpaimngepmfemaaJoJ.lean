/- Contracts: JoinTracks and CutTrack of the model and of the program. -/
import Derived.Test.YtpaimngepmfemaaJo
import Derived.Test.YtpaimngepmfemaaIn

import Derived.Laws.Concat
namespace Go.Proofs.Ytpaimngepmfemaa
open Go.ChangeShapes Go.WideShapes Go.ChangeAt Go.RowKit

theorem append_ofL (a b : ByteArray) : a ++ b = ofL (a.data.toList ++ b.data.toList) := by
  rw [← ofL_append, ofL_self, ofL_self]
theorem jo2_yes {a b : ByteArray} (ha : tkB a = true) (hb : tkB b = true) (h : a.size + b.size ≤ 40) : joB [a, b] = true ∧ joS [a, b] = a ++ b := by
  have h1 : a.size ≤ 40 := by omega
  have : joL [a, b] [] = some (a.data.toList ++ b.data.toList) := by simp [joL, ha, hb, h, h1]
  refine ⟨(jo_some this).1, ?_⟩
  rw [(jo_some this).2, append_ofL]
  rfl
theorem jo2_no {a b : ByteArray} (h : tkB a = false ∨ tkB b = false ∨ ¬ a.size + b.size ≤ 40) : joB [a, b] = false ∧ joS [a, b] = ⟨#[]⟩ := by
  refine jo_none ?_
  rcases h with h | h | h
  · simp [joL, h]
  · simp [joL, h]
  · simp only [joL, List.nil_append, size_list, List.length_nil, Nat.zero_add]
    split
    · split
      · rename_i h1 h2
        simp only [Bool.and_eq_true, decide_eq_true_eq] at h2
        exact absurd h2.2 h
      · rfl
    · rfl

set_option maxRecDepth 100000 in
theorem spJoinTracks (a b : ByteArray) (ha : a.size ≤ 1048576) (hb : b.size ≤ 1048576) (w : World) :
    Calls Try.prog 21 #[.string a, .string b] w fun e w' => e = .returned (.tuple #[.string (joS [a, b]), .bool (joB [a, b])]) ∧ Below w.heap.size w w' := by
  cases ta : tkB a
  · obtain ⟨r1, r2⟩ := jo2_no (a := a) (b := b) (.inl ta)
    have R1 := Lib.hid r1
    have R2 := Lib.hid r2
    clear r1 r2
    go_enter Try.func21, Try.ntmps21
    go_wp2_with (go_at_call 27; refine (tkGood_any a ha _).mono ?_; rintro e w' ⟨rfl, rfl⟩)
    go_ret2
    exact ⟨ret_jo R1.out R2.out, Below.refl _ _⟩
  cases tb : tkB b
  · obtain ⟨r1, r2⟩ := jo2_no (a := a) (b := b) (.inr (.inl tb))
    have R1 := Lib.hid r1
    have R2 := Lib.hid r2
    clear r1 r2
    go_enter Try.func21, Try.ntmps21
    go_wp2_with (go_at_call 27; first | ((with_reducible refine (tkGood_any a ha _).mono ?_); rintro e w' ⟨rfl, rfl⟩) | ((with_reducible refine (tkGood_any b hb _).mono ?_); rintro e w' ⟨rfl, rfl⟩))
    go_ret2
    exact ⟨ret_jo R1.out R2.out, Below.refl _ _⟩
  have za := tkB_size ta
  have zb := tkB_size tb
  by_cases h40 : a.size + b.size ≤ 40
  · obtain ⟨r1, r2⟩ := jo2_yes ta tb h40
    have R1 := Lib.hid r1
    have R2 := Lib.hid r2
    clear r1 r2
    go_enter Try.func21, Try.ntmps21
    go_wp2_with (go_at_call 27; first | ((with_reducible refine (tkGood_any a ha _).mono ?_); rintro e w' ⟨rfl, rfl⟩) | ((with_reducible refine (tkGood_any b hb _).mono ?_); rintro e w' ⟨rfl, rfl⟩))
    go_ret2
    exact ⟨ret_jo R1.out R2.out, Below.refl _ _⟩
  · obtain ⟨r1, r2⟩ := jo2_no (a := a) (b := b) (.inr (.inr h40))
    have R1 := Lib.hid r1
    have R2 := Lib.hid r2
    have h41 : 40 < a.size + b.size := by omega
    clear r1 r2
    go_enter Try.func21, Try.ntmps21
    go_wp2_with (go_at_call 27; first | ((with_reducible refine (tkGood_any a ha _).mono ?_); rintro e w' ⟨rfl, rfl⟩) | ((with_reducible refine (tkGood_any b hb _).mono ?_); rintro e w' ⟨rfl, rfl⟩))
    go_ret2
    exact ⟨ret_jo R1.out R2.out, Below.refl _ _⟩

set_option maxRecDepth 100000 in
theorem imJoinTracks (a b : ByteArray) (ha : a.size ≤ 1048576) (hb : b.size ≤ 1048576) (w : World) :
    Calls Try.prog 22 #[.string a, .string b] w fun e w' => e = .returned (.tuple #[.string (joS [a, b]), .bool (joB [a, b])]) ∧ Below w.heap.size w w' := by
  go_enter Try.func22, Try.ntmps22
  go_wp2_with fail
  refine (joined_any w.heap.size 0 2 2 [a, b] _ rfl (by omega) (by intro x hx; simp at hx; rcases hx with rfl | rfl <;> assumption) (by simp) (by
    intro j x hx
    match j, hx with
    | 0, hx => simp at hx; subst hx; go_simp
    | 1, hx => simp at hx; subst hx; go_simp)).mono ?_
  rintro e w1 ⟨rfl, hb1⟩
  have HB := Lib.hid (ba (by go_grown) hb1 : Below w.heap.size w w1)
  clear hb1
  go_wp2_with fail
  go_ret2
  exact ⟨rfl, HB.out⟩

theorem tkB_ext {s : ByteArray} (h : tkB s = true) (i j : Nat) : tkB (s.extract i j) = true := by
  have hl := tkB_list h
  have hz := tkB_size h
  simp only [tkB, Bool.and_eq_true, decide_eq_true_eq, List.all_eq_true]
  refine ⟨by rw [ByteArray.size_extract]; omega, fun c hc => hl c ?_⟩
  rw [Lib.extract_data] at hc
  exact List.mem_of_mem_drop (List.mem_of_mem_take hc)
theorem jo1 {s : ByteArray} (h : tkB s = true) : joB [s] = true ∧ joS [s] = s := by
  have hz := tkB_size h
  have : joL [s] [] = some s.data.toList := by simp [joL, h, hz]
  exact ⟨(jo_some this).1, (jo_some this).2.trans (ofL_self s)⟩

def cutB (s : ByteArray) (i j : Int) : Bool := tkB s && (inB j 0 s.size && inB i 0 j)
def cutS (s : ByteArray) (i j : Int) : ByteArray := cond (cutB s i j) (s.extract i.toNat j.toNat) ⟨#[]⟩

theorem ret_cut {s x : ByteArray} {i j : Int} {b : Bool} (hb : cutB s i j = b) (hs : cutS s i j = x) : Ending.returned (.tuple #[.string x, .bool b]) = Ending.returned (.tuple #[.string (cutS s i j), .bool (cutB s i j)]) := by rw [hb, hs]

set_option maxRecDepth 100000 in
theorem spCutTrack (s : ByteArray) (i j : Int) (hs : s.size ≤ 1048576) (w : World) :
    Calls Try.prog 25 #[.string s, .int .i64 i, .int .i64 j] w fun e w' => e = .returned (.tuple #[.string (cutS s i j), .bool (cutB s i j)]) ∧ Below w.heap.size w w' := by
  cases ts : tkB s
  · have R1 := Lib.hid (show cutB s i j = false by simp [cutB, ts])
    have R2 := Lib.hid (show cutS s i j = ⟨#[]⟩ by simp [cutS, cutB, ts])
    go_enter Try.func25, Try.ntmps25
    go_wp2_with (go_at_call 27; refine (tkGood_any s hs _).mono ?_; rintro e w' ⟨rfl, rfl⟩)
    go_ret2
    exact ⟨ret_cut R1.out R2.out, Below.refl _ _⟩
  cases h1 : inB j 0 s.size
  · have R1 := Lib.hid (show cutB s i j = false by simp [cutB, h1])
    have R2 := Lib.hid (show cutS s i j = ⟨#[]⟩ by simp [cutS, cutB, h1])
    go_enter Try.func25, Try.ntmps25
    go_wp2_with (first | (go_at_call 27; refine (tkGood_any s hs _).mono ?_; rintro e w' ⟨rfl, rfl⟩) | (go_at_call 38; refine (l1In_any _ _ _ _).mono ?_; rintro e w' ⟨rfl, rfl⟩))
    go_ret2
    exact ⟨ret_cut R1.out R2.out, Below.refl _ _⟩
  cases h2 : inB i 0 j
  · have R1 := Lib.hid (show cutB s i j = false by simp [cutB, h2])
    have R2 := Lib.hid (show cutS s i j = ⟨#[]⟩ by simp [cutS, cutB, h2])
    go_enter Try.func25, Try.ntmps25
    go_wp2_with (first | (go_at_call 27; refine (tkGood_any s hs _).mono ?_; rintro e w' ⟨rfl, rfl⟩) | (go_at_call 38; refine (l1In_any _ _ _ _).mono ?_; rintro e w' ⟨rfl, rfl⟩))
    go_ret2
    exact ⟨ret_cut R1.out R2.out, Below.refl _ _⟩
  · have R1 := Lib.hid (show cutB s i j = true by simp [cutB, ts, h1, h2])
    have R2 := Lib.hid (show cutS s i j = s.extract i.toNat j.toNat by simp [cutS, cutB, ts, h1, h2])
    have g1 : 0 ≤ j ∧ j ≤ s.size := by simpa [inB] using h1
    have g2 : 0 ≤ i ∧ i ≤ j := by simpa [inB] using h2
    obtain ⟨a, rfl⟩ : ∃ a : Nat, i = a := ⟨i.toNat, by omega⟩
    obtain ⟨b, rfl⟩ : ∃ b : Nat, j = b := ⟨j.toNat, by omega⟩
    have k1 : a ≤ b := by omega
    have k2 : b ≤ s.size := by omega
    clear g1 g2
    go_enter Try.func25, Try.ntmps25
    go_wp2_with (first | (go_at_call 27; refine (tkGood_any s hs _).mono ?_; rintro e w' ⟨rfl, rfl⟩) | (go_at_call 38; refine (l1In_any _ _ _ _).mono ?_; rintro e w' ⟨rfl, rfl⟩))
    go_ret2
    exact ⟨ret_cut R1.out (R2.out.trans (by simp)), Below.refl _ _⟩

set_option maxRecDepth 100000 in
theorem imCutTrack (s : ByteArray) (i j : Int) (hs : s.size ≤ 1048576) (w : World) :
    Calls Try.prog 26 #[.string s, .int .i64 i, .int .i64 j] w fun e w' => e = .returned (.tuple #[.string (cutS s i j), .bool (cutB s i j)]) ∧ Below w.heap.size w w' := by
  cases ts : tkB s
  · have R1 := Lib.hid (show cutB s i j = false by simp [cutB, ts])
    have R2 := Lib.hid (show cutS s i j = ⟨#[]⟩ by simp [cutS, cutB, ts])
    go_enter Try.func26, Try.ntmps26
    go_wp2_with (go_at_call 12; refine (imIsTrack_any s hs _).mono ?_; rintro e w' ⟨rfl, rfl⟩)
    go_ret2
    exact ⟨ret_cut R1.out R2.out, Below.refl _ _⟩
  by_cases g : (0 ≤ i ∧ i ≤ j) ∧ j ≤ s.size
  · obtain ⟨⟨g1, g2⟩, g3⟩ := g
    obtain ⟨a, rfl⟩ : ∃ a : Nat, i = a := ⟨i.toNat, by omega⟩
    obtain ⟨b, rfl⟩ : ∃ b : Nat, j = b := ⟨j.toNat, by omega⟩
    have k1 : a ≤ b := by omega
    have k2 : b ≤ s.size := by omega
    have R1 := Lib.hid (show cutB s a b = true by simp [cutB, ts, inB]; omega)
    have R2 := Lib.hid (show cutS s a b = s.extract a b by simp [cutS, R1.out])
    have ht := tkB_ext ts a b
    obtain ⟨r1, r2⟩ := jo1 ht
    have J1 := Lib.hid r1
    have J2 := Lib.hid r2
    have hx : (s.extract a b).size ≤ 1048576 := by have := tkB_size ht; omega
    clear r1 r2 ht g1 g2 g3
    go_enter Try.func26, Try.ntmps26
    go_wp2_with (go_at_call 12; refine (imIsTrack_any s hs _).mono ?_; rintro e w' ⟨rfl, rfl⟩)
    refine (joined_any w.heap.size 0 1 1 [s.extract a b] _ rfl (by omega) (by intro x hx'; simp at hx'; rw [hx']; exact hx) (by simp) (by
      intro j x hx
      match j, hx with
      | 0, hx => simp at hx; subst hx; go_simp)).mono ?_
    rintro e w1 ⟨rfl, hb1⟩
    have HB := Lib.hid (ba (by go_grown) hb1 : Below w.heap.size w w1)
    clear hb1
    go_wp2_with fail
    go_ret2
    exact ⟨ret_cut (R1.out.trans J1.out.symm) (R2.out.trans J2.out.symm), HB.out⟩
  · have g' : i < 0 ∨ (¬ i < 0 ∧ j < i) ∨ (¬ i < 0 ∧ ¬ j < i ∧ (s.size : Int) < j) := by omega
    have R1 := Lib.hid (show cutB s i j = false by simp [cutB, ts, inB]; omega)
    have R2 := Lib.hid (show cutS s i j = ⟨#[]⟩ by simp [cutS, R1.out])
    clear g
    rcases g' with g | ⟨g1, g⟩ | ⟨g1, g2, g⟩
    all_goals
      go_enter Try.func26, Try.ntmps26
      go_wp2_with (go_at_call 12; refine (imIsTrack_any s hs _).mono ?_; rintro e w' ⟨rfl, rfl⟩)
      go_ret2
      exact ⟨ret_cut R1.out R2.out, Below.refl _ _⟩

end Go.Proofs.Ytpaimngepmfemaa
