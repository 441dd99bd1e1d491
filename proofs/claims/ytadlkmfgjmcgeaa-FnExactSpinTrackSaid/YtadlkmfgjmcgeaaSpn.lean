/- Contracts: a closed track spun. -/
import Derived.Test.YtadlkmfgjmcgeaaCc
import Derived.Test.YtadlkmfgjmcgeaaRn
import Derived.Test.YtadlkmfgjmcgeaaJoJ
import Derived.Deep.QuietTactic
import Derived.BigQuiet
import Derived.Deep.RegionHeld3
namespace Go.Proofs.Ytadlkmfgjmcgeaa
open Go.ChangeShapes Go.WideShapes Go.ChangeAt Go.RowKit

def snB (s : ByteArray) (k : Int) : Bool := clB s && inB k 0 ((s.size : Int) - 1)
def snS (s : ByteArray) (k : Int) : ByteArray := cond (snB s k) (s.extract k.toNat s.size ++ s.extract 0 k.toNat) ⟨#[]⟩

theorem ret_sn {s x : ByteArray} {k : Int} {b : Bool} (hb : snB s k = b) (hs : snS s k = x) : Ending.returned (.tuple #[.string x, .bool b]) = Ending.returned (.tuple #[.string (snS s k), .bool (snB s k)]) := by rw [hb, hs]

set_option maxRecDepth 100000 in
theorem spSpinTrack (s : ByteArray) (k : Int) (hs : s.size ≤ 1048576) (w : World) :
    Calls Try.prog 19 #[.string s, .int .i64 k] w fun e w' => e = .returned (.tuple #[.string (snS s k), .bool (snB s k)]) ∧ Below w.heap.size w w' := by
  have HC := Lib.hid (clGood_any s hs)
  cases tc : clB s
  · have R1 := Lib.hid (show snB s k = false by simp [snB, tc])
    have R2 := Lib.hid (show snS s k = ⟨#[]⟩ by simp [snS, snB, tc])
    rw [tc] at HC
    go_enter Try.func19, Try.ntmps19
    go_wp2_with (go_at_call 40; (with_reducible refine (HC.out _).mono ?_); rintro e wA ⟨rfl, h1⟩; (try with_reducible replace h1 := undrew h1); have hB : Below w.heap.size w wA := ba (by go_grown) h1; obtain ⟨hcwA, hfwA⟩ := bcell h1; have hqwA := h1.size; (try simp at hqwA); )
    go_ret2
    exact ⟨ret_sn R1.out R2.out, by go_grown⟩
  rw [tc] at HC
  cases h1 : inB k 0 ((s.size : Int) - 1)
  · have R1 := Lib.hid (show snB s k = false by simp [snB, h1])
    have R2 := Lib.hid (show snS s k = ⟨#[]⟩ by simp [snS, snB, h1])
    go_enter Try.func19, Try.ntmps19
    go_wp2_with (first | (go_at_call 40; (with_reducible refine (HC.out _).mono ?_); rintro e wA ⟨rfl, h1⟩; (try with_reducible replace h1 := undrew h1); have hB : Below w.heap.size w wA := ba (by go_grown) h1; obtain ⟨hcwA, hfwA⟩ := bcell h1; have hqwA := h1.size; (try simp at hqwA); ) | (go_at_call 46; refine (l1In_any _ _ _ _).mono ?_; rintro e w' ⟨rfl, rfl⟩))
    go_ret2
    exact ⟨ret_sn R1.out R2.out, by go_grown⟩
  · have R1 := Lib.hid (show snB s k = true by simp [snB, tc, h1])
    have R2 := Lib.hid (show snS s k = s.extract k.toNat s.size ++ s.extract 0 k.toNat by simp [snS, snB, tc, h1])
    have g1 : 0 ≤ k ∧ k ≤ (s.size : Int) - 1 := by simpa [inB] using h1
    obtain ⟨a, rfl⟩ : ∃ a : Nat, k = a := ⟨k.toNat, by omega⟩
    have k1 : a < s.size := by omega
    have h40 := tkB_size (clB_tk tc)
    have i1 : (0 : Int) ≤ (a : Int) := by omega
    have i2 : (a : Int) ≤ (s.size : Int) := by omega
    have e1 : (s.extract a s.size).size ≤ 40 := by rw [ByteArray.size_extract]; omega
    have e2 : (s.extract 0 a).size ≤ 40 := by rw [ByteArray.size_extract]; omega
    clear g1
    go_enter Try.func19, Try.ntmps19
    go_wp2_with (first | (go_at_call 40; (with_reducible refine (HC.out _).mono ?_); rintro e wA ⟨rfl, h1⟩; (try with_reducible replace h1 := undrew h1); have hB : Below w.heap.size w wA := ba (by go_grown) h1; obtain ⟨hcwA, hfwA⟩ := bcell h1; have hqwA := h1.size; (try simp at hqwA); ) | (go_at_call 46; refine (l1In_any _ _ _ _).mono ?_; rintro e w' ⟨rfl, rfl⟩))
    go_quiet (fail)
    go_wp2_with fail
    go_ret2
    exact ⟨ret_sn R1.out (R2.out.trans (by simp)), (by go_grown : Below w.heap.size w wA).trans ⟨rfl, rfl, rfl, Nat.le_refl _, fun _ _ => rfl⟩⟩

theorem joined_two (bk : Nat) (a b : ByteArray) (w : World) (ha : a.size ≤ 1048576) (hb : b.size ≤ 1048576) (hbk : bk < w.heap.size) (h0 : w.cell? ⟨bk, 0, none⟩ = some (.string a)) (h1 : w.cell? ⟨bk, 1, none⟩ = some (.string b)) :
    Calls Try.prog 48 #[.slice (some ⟨bk, 0, none⟩) 2 2] w fun e w' => e = .returned (.tuple #[.string (joS [a, b]), .bool (joB [a, b])]) ∧ Below w.heap.size w w' :=
  joined_any bk 0 2 2 [a, b] w rfl (by omega) (by intro x hx; simp at hx; rcases hx with rfl | rfl <;> assumption) hbk (by
    intro j x hx
    match j, hx with
    | 0, hx => simp at hx; subst hx; exact h0
    | 1, hx => simp at hx; subst hx; exact h1)

set_option maxRecDepth 100000 in
theorem imSpinTrack (s : ByteArray) (k : Int) (hs : s.size ≤ 1048576) (w : World) :
    Calls Try.prog 20 #[.string s, .int .i64 k] w fun e w' => e = .returned (.tuple #[.string (snS s k), .bool (snB s k)]) ∧ Below w.heap.size w w' := by
  have HC := Lib.hid (isClosed_any s hs)
  cases tc : clB s
  · have R1 := Lib.hid (show snB s k = false by simp [snB, tc])
    have R2 := Lib.hid (show snS s k = ⟨#[]⟩ by simp [snS, snB, tc])
    rw [tc] at HC
    go_enter Try.func20, Try.ntmps20
    go_wp2_with (go_at_call 38; (with_reducible refine (HC.out _).mono ?_); rintro e wA ⟨rfl, h1⟩; (try with_reducible replace h1 := undrew h1); have hB : Below w.heap.size w wA := ba (by go_grown) h1; obtain ⟨hcwA, hfwA⟩ := bcell h1; have hqwA := h1.size; (try simp at hqwA); )
    go_ret2
    exact ⟨ret_sn R1.out R2.out, by go_grown⟩
  rw [tc] at HC
  cases h1 : inB k 0 ((s.size : Int) - 1)
  · have R1 := Lib.hid (show snB s k = false by simp [snB, h1])
    have R2 := Lib.hid (show snS s k = ⟨#[]⟩ by simp [snS, snB, h1])
    go_enter Try.func20, Try.ntmps20
    go_wp2_with (first | (go_at_call 38; (with_reducible refine (HC.out _).mono ?_); rintro e wA ⟨rfl, h1⟩; (try with_reducible replace h1 := undrew h1); have hB : Below w.heap.size w wA := ba (by go_grown) h1; obtain ⟨hcwA, hfwA⟩ := bcell h1; have hqwA := h1.size; (try simp at hqwA); ) | (go_at_call 47; refine (isInRange_any _ _ _ _).mono ?_; rintro e w' ⟨rfl, rfl⟩))
    go_ret2
    exact ⟨ret_sn R1.out R2.out, by go_grown⟩
  · have R1 := Lib.hid (show snB s k = true by simp [snB, tc, h1])
    have R2 := Lib.hid (show snS s k = s.extract k.toNat s.size ++ s.extract 0 k.toNat by simp [snS, snB, tc, h1])
    have g1 : 0 ≤ k ∧ k ≤ (s.size : Int) - 1 := by simpa [inB] using h1
    obtain ⟨a, rfl⟩ : ∃ a : Nat, k = a := ⟨k.toNat, by omega⟩
    have k1 : a < s.size := by omega
    have ts := clB_tk tc
    have h40 := tkB_size ts
    have hx := tkB_ext ts a s.size
    have hy := tkB_ext ts 0 a
    obtain ⟨r1, r2⟩ := jo2_yes hx hy (by rw [ByteArray.size_extract, ByteArray.size_extract]; omega)
    have J1 := Lib.hid r1
    have J2 := Lib.hid r2
    have hxs : (s.extract a s.size).size ≤ 1048576 := by have := tkB_size hx; omega
    have hys : (s.extract 0 a).size ≤ 1048576 := by have := tkB_size hy; omega
    clear g1 r1 r2 hx hy
    go_enter Try.func20, Try.ntmps20
    go_wp2_with fail
    (go_at_call 38; (with_reducible refine (HC.out _).mono ?_); rintro e wA ⟨rfl, h1⟩; (try with_reducible replace h1 := undrew h1); have hB : Below w.heap.size w wA := ba (by go_grown) h1; obtain ⟨hcwA, hfwA⟩ := bcell h1; have hqwA := h1.size; (try simp at hqwA); )
    have i1 : (0 : Int) ≤ (a : Int) := by omega
    have i2 : (a : Int) ≤ (s.size : Int) := by omega
    go_wp2_with (go_at_call 47; refine (isInRange_any _ _ _ _).mono ?_; rintro e w' ⟨rfl, rfl⟩)
    go_region_held3 (fun _ => True) (trivial)
      ((go_at_call 48; (refine (joined_two _ _ _ _ hxs hys (by simp) (by go_simp) (by go_simp)).mono ?_); rintro e w1 ⟨rfl, hb1⟩; replace hb1 := undrew hb1))
    all_goals
      have HB := Lib.hid (ba (by go_grown) hb1 : Below w.heap.size w w1)
      go_wp2_with fail
      go_ret2
      exact ⟨ret_sn (R1.out.trans J1.out.symm) (R2.out.trans (by rw [J2.out]; simp)), HB.out⟩

end Go.Proofs.Ytadlkmfgjmcgeaa
