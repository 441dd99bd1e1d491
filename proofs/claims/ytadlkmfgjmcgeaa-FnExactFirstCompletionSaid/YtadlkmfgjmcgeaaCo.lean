/- Contracts: the texts that complete a track, in the model and in the program. -/
import Derived.Test.YtadlkmfgjmcgeaaSs
import Derived.Test.YtadlkmfgjmcgeaaRn
import Derived.Test.YtadlkmfgjmcgeaaCc
namespace Go.Proofs.Ytadlkmfgjmcgeaa
open Go.ChangeShapes Go.WideShapes Go.ChangeAt Go.RowKit

set_option linter.unusedVariables false

def coB (s : ByteArray) (n : Int) : Bool := tkB s && (inB n 0 7 && decide ((s.size : Int) + n ≤ 40))
def coL (s : ByteArray) (n : Int) : List (List UInt8) := cond (coB s n) (cond (decide ((s.size : Int) + n = 0)) [] (clsL (enS s) n.toNat)) []
theorem co_no {s : ByteArray} {n : Int} (h : coB s n = false) : coL s n = [] := by simp [coL, h]
theorem co_zero {s : ByteArray} {n : Int} (h : (s.size : Int) + n = 0) : coL s n = [] := by simp [coL, h]
theorem co_yes {s : ByteArray} {n : Int} (h : coB s n = true) (h0 : ¬ (s.size : Int) + n = 0) : coL s n = clsL (enS s) n.toNat := by simp [coL, h, h0]
theorem co_len (s : ByteArray) (n : Int) : (coL s n).length ≤ 2187 := by
  cases h : coB s n
  · rw [co_no h]; exact Nat.zero_le _
  · by_cases h0 : (s.size : Int) + n = 0
    · rw [co_zero h0]; exact Nat.zero_le _
    · rw [co_yes h h0]
      simp only [coB, inB, Bool.and_eq_true, decide_eq_true_eq] at h
      have h1 := cls_len (enS s) n.toNat
      have h2 : 3 ^ n.toNat ≤ 3 ^ 7 := Nat.pow_le_pow_right (by decide) (by omega)
      exact Nat.le_trans h1 h2
theorem enS_ok {s : ByteArray} (h : tkB s = true) : (enS s).okB 80 := by
  rw [enS_yes h]
  have h40 := tkB_size h
  have hl := size_list s
  exact (fin_ok sp0_ok s.data.toList).mono (by omega)

theorem stCo {s : ByteArray} {n : Int} {v : Value} {l : List (List UInt8)} {w w' : World} (hb : coB s n = true) (hl : coL s n = l) (ho : w'.ownsRow w.heap.size 9 1 v l.length (strV l)) (hB : Below w.heap.size w w') :
    STPost (coL s n) (coB s n) w (.returned (.tuple #[v, .bool true])) w' := ⟨v, by rw [hb], by rw [hl]; exact ho, hB⟩
theorem stCoNo {s : ByteArray} {n : Int} {w w' : World} (hb : coB s n = false) (hB : Below w.heap.size w w') :
    STPost (coL s n) (coB s n) w (.returned (.tuple #[.slice none 0 0, .bool false])) w' := by rw [hb, co_no hb]; exact stNo hB

set_option maxRecDepth 100000 in
set_option maxHeartbeats 800000 in
theorem spAdded (s : ByteArray) (n : Int) (hs : s.size ≤ 1048576) (w : World) : Calls Try.prog 55 #[.string s, .int .i64 n] w (STPost (coL s n) (coB s n) w) := by
  cases ht : tkB s
  · have hb := Lib.hid (show coB s n = false by simp [coB, ht])
    go_enter Try.func55, Try.ntmps55
    go_wp2_with (go_at_call 36; refine (tkGood_any s hs _).mono ?_; rintro e w' ⟨rfl, rfl⟩)
    go_ret2
    exact stCoNo hb.out (by go_grown)
  cases h1 : inB n 0 7
  · have hb := Lib.hid (show coB s n = false by simp [coB, h1])
    go_enter Try.func55, Try.ntmps55
    go_wp2_with (first | (go_at_call 36; refine (tkGood_any s hs _).mono ?_; rintro e w' ⟨rfl, rfl⟩) | (go_at_call 46; refine (l1In_any _ _ _ _).mono ?_; rintro e w' ⟨rfl, rfl⟩))
    go_ret2
    exact stCoNo hb.out (by go_grown)
  have g1 : 0 ≤ n ∧ n ≤ 7 := by simpa [inB] using h1
  obtain ⟨m, rfl⟩ : ∃ m : Nat, n = m := ⟨n.toNat, by omega⟩
  have h40 := tkB_size ht
  by_cases h2 : s.size + m ≤ 40
  · have hb := Lib.hid (show coB s m = true by simp [coB, ht, h1]; omega)
    have h2' : ¬ (40 : Int) < (s.size : Int) + (m : Int) := by omega
    by_cases h3 : s.size + m = 0
    · have hl := Lib.hid (co_zero (s := s) (n := (m : Int)) (by omega))
      have h3' : (s.size : Int) + (m : Int) = 0 := by omega
      go_enter Try.func55, Try.ntmps55
      go_wp2_with (first | (go_at_call 36; refine (tkGood_any s hs _).mono ?_; rintro e w' ⟨rfl, rfl⟩) | (go_at_call 46; refine (l1In_any _ _ _ _).mono ?_; rintro e w' ⟨rfl, rfl⟩))
      go_ret2
      exact stCo hb.out hl.out (World.ownsRow_nil _ _ _ _) (by go_grown)
    · have h3' : ¬ (s.size : Int) + (m : Int) = 0 := by omega
      have hl := Lib.hid (co_yes hb.out h3')
      rw [Int.toNat_natCast] at hl
      have hok := enS_ok ht
      have P := Lib.hid (clAll_any m (by omega) (enS s) (hok.mono (by omega)))
      have TE := Lib.hid (tkEnd_yes s ht)
      generalize enS s = p at hl P TE
      obtain ⟨x0, x1, x2, x3, x4⟩ := p
      clear hok
      go_enter Try.func55, Try.ntmps55
      go_wp2_with (first | (go_at_call 36; refine (tkGood_any s hs _).mono ?_; rintro e w' ⟨rfl, rfl⟩) | (go_at_call 46; refine (l1In_any _ _ _ _).mono ?_; rintro e w' ⟨rfl, rfl⟩))
      refine (TE.out _).mono ?_
      rintro e w1 ⟨rfl, hb1⟩
      have HB1 := Lib.hid hb1
      have hz := hb1.size
      clear hb1
      go_wp2_with fail
      refine (P.out _).mono ?_
      rintro e w2 ⟨v, rfl, o2, hb2⟩
      have O2 := Lib.hid (own_lessP o2 (B' := w.heap.size) (by simp; omega))
      have HB2 := Lib.hid ((HB1.out.alloc hz _).trans (hb2.mono (by simp; omega)))
      clear o2 hb2
      go_wp2_with fail
      go_ret2
      exact stCo hb.out hl.out O2.out HB2.out
  · have hb := Lib.hid (show coB s m = false by simp [coB]; omega)
    have h2' : (40 : Int) < (s.size : Int) + (m : Int) := by omega
    go_enter Try.func55, Try.ntmps55
    go_wp2_with (first | (go_at_call 36; refine (tkGood_any s hs _).mono ?_; rintro e w' ⟨rfl, rfl⟩) | (go_at_call 46; refine (l1In_any _ _ _ _).mono ?_; rintro e w' ⟨rfl, rfl⟩))
    go_ret2
    exact stCoNo hb.out (by go_grown)

set_option maxRecDepth 100000 in
set_option maxHeartbeats 800000 in
theorem imCompl (s : ByteArray) (n : Int) (hs : s.size ≤ 1048576) (w : World) : Calls Try.prog 56 #[.string s, .int .i64 n] w (STPost (coL s n) (coB s n) w) := by
  have hc := endOf_any s hs
  cases ht : tkB s
  · have hb := Lib.hid (show coB s n = false by simp [coB, ht])
    rw [ht] at hc
    generalize enS s = p at hc
    obtain ⟨x0, x1, x2, x3, x4⟩ := p
    have HC := Lib.hid hc
    clear hc ht
    go_enter Try.func56, Try.ntmps56
    go_wp2_with fail
    (go_at_call 60; (with_reducible refine (HC.out _).mono ?_); rintro e wA ⟨rfl, h1⟩; (try with_reducible replace h1 := undrew h1); have hB : Below w.heap.size w wA := ba (by go_grown) h1; obtain ⟨hcwA, hfwA⟩ := bcell h1; have hqwA := h1.size; (try simp at hqwA); )
    go_wp2_with fail
    go_ret2
    exact stCoNo hb.out (by go_grown)
  rw [ht] at hc
  have hok := enS_ok ht
  cases h1 : inB n 0 7
  · have hb := Lib.hid (show coB s n = false by simp [coB, h1])
    generalize enS s = p at hc
    obtain ⟨x0, x1, x2, x3, x4⟩ := p
    have HC := Lib.hid hc
    clear hc ht hok
    go_enter Try.func56, Try.ntmps56
    go_wp2_with fail
    (go_at_call 60; (with_reducible refine (HC.out _).mono ?_); rintro e wA ⟨rfl, h1⟩; (try with_reducible replace h1 := undrew h1); have hB : Below w.heap.size w wA := ba (by go_grown) h1; obtain ⟨hcwA, hfwA⟩ := bcell h1; have hqwA := h1.size; (try simp at hqwA); )
    go_wp2_with (go_at_call 47; refine (isInRange_any _ _ _ _).mono ?_; rintro e w' ⟨rfl, rfl⟩)
    go_ret2
    exact stCoNo hb.out (by go_grown)
  have g1 : 0 ≤ n ∧ n ≤ 7 := by simpa [inB] using h1
  obtain ⟨m, rfl⟩ : ∃ m : Nat, n = m := ⟨n.toNat, by omega⟩
  have h40 := tkB_size ht
  by_cases h2 : s.size + m ≤ 40
  · have hb := Lib.hid (show coB s m = true by simp [coB, ht, h1]; omega)
    have h2' : ¬ (40 : Int) < (s.size : Int) + (m : Int) := by omega
    by_cases h3 : s.size + m = 0
    · have hl := Lib.hid (co_zero (s := s) (n := (m : Int)) (by omega))
      have h3' : (s.size : Int) + (m : Int) = 0 := by omega
      generalize enS s = p at hc
      obtain ⟨x0, x1, x2, x3, x4⟩ := p
      have HC := Lib.hid hc
      clear hc ht hok
      go_enter Try.func56, Try.ntmps56
      go_wp2_with fail
      (go_at_call 60; (with_reducible refine (HC.out _).mono ?_); rintro e wA ⟨rfl, h1⟩; (try with_reducible replace h1 := undrew h1); have hB : Below w.heap.size w wA := ba (by go_grown) h1; obtain ⟨hcwA, hfwA⟩ := bcell h1; have hqwA := h1.size; (try simp at hqwA); )
      go_wp2_with (go_at_call 47; refine (isInRange_any _ _ _ _).mono ?_; rintro e w' ⟨rfl, rfl⟩)
      go_ret2
      exact stCo hb.out hl.out (World.ownsRow_nil _ _ _ _) (by go_grown)
    · have h3' : ¬ (s.size : Int) + (m : Int) = 0 := by omega
      have hl := Lib.hid (co_yes hb.out h3')
      rw [Int.toNat_natCast] at hl
      have P := Lib.hid (closings_any (enS s) (hok.mono (by omega)) m (by omega))
      generalize enS s = p at hl P hc
      obtain ⟨x0, x1, x2, x3, x4⟩ := p
      have HC := Lib.hid hc
      clear hok hc ht
      go_enter Try.func56, Try.ntmps56
      go_wp2_with fail
      refine (HC.out _).mono ?_
      rintro e w1 ⟨rfl, hb1⟩
      have HB1 := Lib.hid hb1
      have hz := hb1.size
      clear hb1
      go_wp2_with (go_at_call 47; refine (isInRange_any _ _ _ _).mono ?_; rintro e w' ⟨rfl, rfl⟩)
      refine (P.out _).mono ?_
      rintro e w2 ⟨v, rfl, o2, hb2⟩
      have O2 := Lib.hid (own_lessP o2 (B' := w.heap.size) (by simp; omega))
      have HB2 := Lib.hid ((HB1.out.alloc hz _).trans (hb2.mono (by simp; omega)))
      clear o2 hb2
      go_wp2_with fail
      go_ret2
      exact stCo hb.out hl.out O2.out HB2.out
  · have hb := Lib.hid (show coB s m = false by simp [coB]; omega)
    have h2' : (40 : Int) < (s.size : Int) + (m : Int) := by omega
    generalize enS s = p at hc
    obtain ⟨x0, x1, x2, x3, x4⟩ := p
    have HC := Lib.hid hc
    clear hc ht hok
    go_enter Try.func56, Try.ntmps56
    go_wp2_with fail
    (go_at_call 60; (with_reducible refine (HC.out _).mono ?_); rintro e wA ⟨rfl, h1⟩; (try with_reducible replace h1 := undrew h1); have hB : Below w.heap.size w wA := ba (by go_grown) h1; obtain ⟨hcwA, hfwA⟩ := bcell h1; have hqwA := h1.size; (try simp at hqwA); )
    go_wp2_with (go_at_call 47; refine (isInRange_any _ _ _ _).mono ?_; rintro e w' ⟨rfl, rfl⟩)
    go_ret2
    exact stCoNo hb.out (by go_grown)

end Go.Proofs.Ytadlkmfgjmcgeaa
