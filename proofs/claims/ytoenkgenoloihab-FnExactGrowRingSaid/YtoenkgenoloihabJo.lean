/- Contract: the program's 'joined'. -/
import Derived.Test.YtoenkgenoloihabTkL
import Derived.Test.YtoenkgenoloihabJoM
import Derived.Test.YtoenkgenoloihabBu
namespace Go.Proofs.Ytoenkgenoloihab
open Go.ChangeShapes Go.WideShapes Go.ChangeAt Go.RowKit

theorem len_any (B b : Nat) (l : List UInt8) (w : World) (h : Lib.IsBuilderF 79 5 B b (Lib.byteCells l) w) :
    Calls Try.prog 53 #[.pointer (some ⟨b, 0, none⟩)] w fun e w' => e = .returned (.int .i64 (l.length : Nat)) ∧ w = w' :=
  (Try.Builder_Len_f B b _ w h).mono fun _ _ h => ⟨by rw [h.1, Lib.byteCells_length], h.2.symm⟩

theorem ret_jo {xs : List ByteArray} {s : ByteArray} {b : Bool} (hb : joB xs = b) (hs : joS xs = s) : Ending.returned (.tuple #[.string s, .bool b]) = Ending.returned (.tuple #[.string (joS xs), .bool (joB xs)]) := by rw [hb, hs]

set_option maxRecDepth 100000 in
set_option maxHeartbeats 800000 in
theorem joined_any (bk o n cap : Nat) (xs : List ByteArray) (w : World) (hn : xs.length = n) (hn1 : n ≤ 1000000) (hs : ∀ x ∈ xs, x.size ≤ 1048576) (hbk : bk < w.heap.size)
    (hc : ∀ (j : Nat) x, xs[j]? = some x → w.cell? ⟨bk, o + j, none⟩ = some (.string x)) :
    Calls Try.prog 32 #[.slice (some ⟨bk, o, none⟩) n cap] w fun e w' => e = .returned (.tuple #[.string (joS xs), .bool (joB xs)]) ∧ Below w.heap.size w w' := by
  have HC := Lib.hid hc
  have HS := Lib.hid hs
  have HN := Lib.hid hn
  clear hc hs hn
  go_enter Try.func32, Try.ntmps32
  go_wp2_with fail
  go_loopw [9] (fun i wr => ∃ (k : Nat) (acc : List UInt8), k ≤ n ∧ i = .int .i64 k ∧ joL (xs.drop k) acc = joL xs [] ∧ acc.length ≤ 40 ∧ Lib.IsBuilderF 79 5 w.heap.size w.heap.size (Lib.byteCells acc) wr ∧ Below w.heap.size w wr) (fun i _ => n - (intOf i).toNat)
  case atStart => exact ⟨0, [], Nat.zero_le _, rfl, rfl, Nat.zero_le _, Lib.IsBuilderF.of (Lib.fresh_isBuilder _ _ w), (Below.refl _ _).alloc (Nat.le_refl _) _⟩
  case round =>
    obtain ⟨k, acc, hk, rfl, hj, ha, hI, hb⟩ := hrel
    have HJ := Lib.hid hj
    have HI := Lib.hid hI
    have HB := Lib.hid hb
    have hz : w.heap.size ≤ wr.heap.size := hb.size
    clear hj hI hb
    by_cases hlt : k < n
    · obtain ⟨x, hx⟩ : ∃ x, xs[k]? = some x := ⟨_, List.getElem?_eq_getElem (by rw [HN.out]; exact hlt)⟩
      have hxs : x.size ≤ 1048576 := HS.out x (List.mem_of_getElem? hx)
      have hcell : wr.cell? ⟨bk, o + k, none⟩ = some (.string x) := by rw [HB.out.cell (p := ⟨bk, o + k, none⟩) hbk]; exact HC.out k x hx
      have HX := Lib.hid hx
      clear hx
      cases ht : tkB x
      · have HT := Lib.hid (joL_no (acc := acc) HX.out (.inl ht))
        go_wp2_with (go_at_call 52; refine (imIsTrack_any x hxs _).mono ?_; rintro e w' ⟨rfl, rfl⟩)
        obtain ⟨r1, r2⟩ := jo_none (HJ.out.symm.trans HT.out)
        go_ret2
        exact ⟨ret_jo r1 r2, HB.out⟩
      · by_cases h40 : acc.length + x.size ≤ 40
        · have HT := Lib.hid (joL_yes (acc := acc) HX.out ht h40)
          go_wp2_with (first | (go_at_call 52; refine (imIsTrack_any x hxs _).mono ?_; rintro e w' ⟨rfl, rfl⟩) | (go_at_call 53; refine (len_any _ _ acc _ HI.out).mono ?_; rintro e w' ⟨rfl, rfl⟩) | (go_at_call 54; refine (write_any _ _ acc x _ HI.out (by omega) hz).mono ?_; rintro e w1 ⟨rfl, hI1, hb1⟩; have HI1 := Lib.hid hI1; have HB1 := Lib.hid hb1; clear hI1 hb1))
          go_roundw
          case rel => exact ⟨k + 1, acc ++ x.data.toList, by omega, by go_num, HT.out.symm.trans HJ.out, by rw [List.length_append, size_list]; exact h40, HI1.out, HB.out.trans HB1.out⟩
          case measure => simp [intOf]; omega
        · have HT := Lib.hid (joL_no (acc := acc) HX.out (.inr h40))
          have h41 : 40 < acc.length + x.size := by omega
          go_wp2_with (first | (go_at_call 52; refine (imIsTrack_any x hxs _).mono ?_; rintro e w' ⟨rfl, rfl⟩) | (go_at_call 53; refine (len_any _ _ acc _ HI.out).mono ?_; rintro e w' ⟨rfl, rfl⟩))
          obtain ⟨r1, r2⟩ := jo_none (HJ.out.symm.trans HT.out)
          go_ret2
          exact ⟨ret_jo r1 r2, HB.out⟩
    · have HT := Lib.hid (joL_end (xs := xs) (k := k) (acc := acc) (by rw [HN.out]; exact hlt))
      go_wp2_with (go_at_call 55; refine (Try.Builder_String_any_f w.heap.size w.heap.size acc _ HI.out hz).mono ?_; rintro e w1 ⟨rfl, _, hb1⟩; have HB1 := Lib.hid hb1; clear hb1)
      obtain ⟨r1, r2⟩ := jo_some (HJ.out.symm.trans HT.out)
      go_ret2
      exact ⟨ret_jo r1 r2, HB.out.trans HB1.out⟩

end Go.Proofs.Ytoenkgenoloihab
