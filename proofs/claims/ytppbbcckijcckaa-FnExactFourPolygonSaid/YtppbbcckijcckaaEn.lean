/- Contracts: the program's stepsOf at what is no track, endOf and EndOf. -/
import Derived.Test.YtppbbcckijcckaaSo
namespace Go.Proofs.Ytppbbcckijcckaa
open Go.ChangeShapes Go.WideShapes Go.ChangeAt Go.RowKit

theorem stepsOf_no (s : ByteArray) (hs : s.size ≤ 1048576) (ht : tkB s = false) (w : World) :
    Calls Try.prog 135 #[.string s] w fun e w' => e = .returned (.tuple #[.slice none 0 0, .bool false]) ∧ w = w' := by
  go_enter Try.func135, Try.ntmps135
  go_wp2_with (go_at_call 80; refine (imIsTrack_any s hs _).mono ?_; rintro e w' ⟨rfl, rfl⟩)
  go_ret2
  exact ⟨rfl, rfl⟩

/-- The end of a track, the step at 0 for what is none. -/
def enS (s : ByteArray) : Sp := cond (tkB s) (fin sp0 s.data.toList) sp0

theorem enS_yes {s : ByteArray} (h : tkB s = true) : enS s = fin sp0 s.data.toList := by simp [enS, h]

theorem enS_no {s : ByteArray} (h : tkB s = false) : enS s = sp0 := by simp [enS, h]

set_option maxRecDepth 100000 in
theorem endOf_any (s : ByteArray) (hs : s.size ≤ 1048576) (w : World) :
    Calls Try.prog 117 #[.string s] w fun e w' => e = .returned (.tuple #[.agg #[.int .i64 (enS s).x0, .int .i64 (enS s).x1, .int .i64 (enS s).x2, .int .i64 (enS s).x3, .int .i64 (enS s).h], .bool (tkB s)]) ∧ Below w.heap.size w w' := by
  cases ht : tkB s
  · have HE := Lib.hid (enS_no ht)
    go_enter Try.func117, Try.ntmps117
    go_wp2_with (go_at_call 135; refine (stepsOf_no s hs ht _).mono ?_; rintro e w' ⟨rfl, rfl⟩)
    refine bodyPost_ret (by simp [results, Try.results117, go_sem, *]; try rfl) rfl ?_
    exact ⟨by rw [HE.out]; rfl, by go_grown⟩
  · have h40 := tkB_size ht
    have hL := lays_at s s.size (Nat.le_refl _)
    have hn := lays_len s s.size (Nat.le_refl _)
    rw [take_all s (by omega)] at hL hn
    have HE := Lib.hid (enS_yes ht)
    generalize hf : fin sp0 s.data.toList = p at HE hL
    have HN := Lib.hid hn
    have HL := Lib.hid hL
    clear hf hn hL
    obtain ⟨x0, x1, x2, x3, h⟩ := p
    go_enter Try.func117, Try.ntmps117
    go_wp2_with fail
    refine (stepsOf_yes s ht _).mono ?_
    rintro e w1 ⟨g, cap, rfl, hO, hb1⟩
    obtain ⟨c0, c1, c2, c3, c4⟩ := own_sp hO HN.out HL.out
    have HB := Lib.hid (ba (by go_grown) hb1 : Below w.heap.size w w1)
    obtain ⟨hc1, hf1⟩ := bcell hb1
    have hz := hb1.size
    simp at hz
    have hz0 : w.heap.size < w1.heap.size := by omega
    clear hO hb1
    go_wp2_with fail
    refine bodyPost_ret (by simp [results, Try.results117, go_sem, *]; try rfl) rfl ?_
    have hB := HB.out
    exact ⟨by rw [HE.out], by go_grown⟩

end Go.Proofs.Ytppbbcckijcckaa
