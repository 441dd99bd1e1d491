/- Contracts: the winding of a closed track. -/
import Derived.Test.YtadlkmfgjmcgeaaCc
import Derived.Test.YtadlkmfgjmcgeaaTkCt
namespace Go.Proofs.Ytadlkmfgjmcgeaa
open Go.ChangeShapes Go.WideShapes Go.ChangeAt Go.RowKit

def wiR (s : ByteArray) : Int := cond (clB s) ((tuR s).tdiv 8) 0
theorem ret_wi {s : ByteArray} {x : Int} {b : Bool} (hb : clB s = b) (hs : wiR s = x) : Ending.returned (.tuple #[.int .i64 x, .bool b]) = Ending.returned (.tuple #[.int .i64 (wiR s), .bool (clB s)]) := by rw [hb, hs]

set_option maxRecDepth 100000 in
theorem spWindingOf (s : ByteArray) (hs : s.size ≤ 1048576) (w : World) :
    Calls Try.prog 15 #[.string s] w fun e w' => e = .returned (.tuple #[.int .i64 (wiR s), .bool (clB s)]) ∧ Below w.heap.size w w' := by
  cases hb : clB s
  · have R := Lib.hid (show wiR s = 0 by simp [wiR, hb])
    have HB := Lib.hid hb
    have HC := Lib.hid (clGood_any s hs)
    rw [hb] at HC
    clear hb
    go_enter Try.func15, Try.ntmps15
    go_wp2_with (go_at_call 40; (with_reducible refine (HC.out _).mono ?_); rintro e wA ⟨rfl, h1⟩; (try with_reducible replace h1 := undrew h1); have hB : Below w.heap.size w wA := ba (by go_grown) h1; obtain ⟨hcwA, hfwA⟩ := bcell h1; have hqwA := h1.size; (try simp at hqwA); )
    go_ret2
    exact ⟨by rw [R.out]; rfl, by go_grown⟩
  · have ht := clB_tk hb
    have h40 := tkB_size ht
    have n1 := cnt_le 76 s.data.toList
    have n2 := cnt_le 82 s.data.toList
    have hl := size_list s
    have R := Lib.hid (show wiR s = ((cnt 76 s.data.toList : Int) - (cnt 82 s.data.toList : Int)).tdiv 8 by simp [wiR, hb, tuR, ht])
    have HC := Lib.hid (clGood_any s hs)
    rw [hb] at HC
    clear hb
    go_enter Try.func15, Try.ntmps15
    go_wp2_with (first | (go_at_call 40; (with_reducible refine (HC.out _).mono ?_); rintro e wA ⟨rfl, h1⟩; (try with_reducible replace h1 := undrew h1); have hB : Below w.heap.size w wA := ba (by go_grown) h1; obtain ⟨hcwA, hfwA⟩ := bcell h1; have hqwA := h1.size; (try simp at hqwA); ) | (go_at_call 41; refine (tkCount_any s _ h40 _).mono ?_; rintro e w' ⟨rfl, rfl⟩))
    go_ret2
    exact ⟨by rw [R.out]; try simp, by go_grown⟩

set_option maxRecDepth 100000 in
theorem imWindingOf (s : ByteArray) (hs : s.size ≤ 1048576) (w : World) :
    Calls Try.prog 16 #[.string s] w fun e w' => e = .returned (.tuple #[.int .i64 (wiR s), .bool (clB s)]) ∧ Below w.heap.size w w' := by
  cases hb : clB s
  · have R := Lib.hid (show wiR s = 0 by simp [wiR, hb])
    have HC := Lib.hid (isClosed_any s hs)
    rw [hb] at HC
    clear hb
    go_enter Try.func16, Try.ntmps16
    go_wp2_with (go_at_call 38; (with_reducible refine (HC.out _).mono ?_); rintro e wA ⟨rfl, h1⟩; (try with_reducible replace h1 := undrew h1); have hB : Below w.heap.size w wA := ba (by go_grown) h1; obtain ⟨hcwA, hfwA⟩ := bcell h1; have hqwA := h1.size; (try simp at hqwA); )
    go_ret2
    exact ⟨by rw [R.out]; rfl, by go_grown⟩
  · have ht := clB_tk hb
    have R := Lib.hid (show wiR s = (tuR s).tdiv 8 by simp [wiR, hb])
    have HC := Lib.hid (isClosed_any s hs)
    rw [hb] at HC
    have HT := Lib.hid (imTurnOfTrack s hs)
    rw [ht] at HT
    have hb1 : -40 ≤ tuR s ∧ tuR s ≤ 40 := by
      have h40 := tkB_size ht
      have n1 := cnt_le 76 s.data.toList
      have n2 := cnt_le 82 s.data.toList
      have hl := size_list s
      simp only [tuR, ht, cond_true]
      omega
    generalize tuR s = t at R HT hb1
    obtain ⟨b1, b2⟩ := hb1
    clear hb
    go_enter Try.func16, Try.ntmps16
    go_wp2_with (first | (go_at_call 38; (with_reducible refine (HC.out _).mono ?_); rintro e wA ⟨rfl, h1⟩; (try with_reducible replace h1 := undrew h1); have hB : Below w.heap.size w wA := ba (by go_grown) h1; obtain ⟨hcwA, hfwA⟩ := bcell h1; have hqwA := h1.size; (try simp at hqwA); ) | (go_at_call 42; (with_reducible refine (HT.out _).mono ?_); rintro e wA ⟨rfl, h1⟩; (try with_reducible replace h1 := undrew h1); have hB : Below w.heap.size w wA := ba (by go_grown) h1; obtain ⟨hcwA, hfwA⟩ := bcell h1; have hqwA := h1.size; (try simp at hqwA); ))
    go_ret2
    exact ⟨by rw [R.out]; try simp, by go_grown⟩

end Go.Proofs.Ytadlkmfgjmcgeaa
