/- Contracts: how often a piece is in a track, in the model and in Go's library. -/
import Derived.Test.YtpaimngepmfemaaTkL
import Derived.Test.YtpaimngepmfemaaShelf
import Derived.Deep.QuietTactic
import Derived.BigQuiet
namespace Go.Proofs.Ytpaimngepmfemaa
open Go.ChangeShapes Go.WideShapes Go.ChangeAt Go.RowKit

theorem ext_toList (s : ByteArray) (k : Nat) (h : k < s.size) : (s.extract k (k + 1)).toList = [s[k]] := by
  rw [ext_one s k h, ByteArray.toList_eq]

set_option maxRecDepth 100000 in
theorem tkCount_any (s : ByteArray) (c : UInt8) (hs : s.size ≤ 40) (w : World) :
    Calls Try.prog 29 #[.string s, .string ⟨#[c]⟩] w fun e w' => e = .returned (.int .i64 (cnt c s.data.toList : Nat)) ∧ w = w' := by
  go_enter Try.func29, Try.ntmps29
  go_wp2_with fail
  go_loop [5, 6] (fun n i => ∃ k : Nat, k ≤ s.size ∧ i = .int .i64 k ∧ n = .int .i64 (cnt c (s.data.toList.take k) : Nat)) (fun _ i => s.size - (intOf i).toNat)
  case atStart => exact ⟨0, Nat.zero_le _, rfl, rfl⟩
  case round =>
    obtain ⟨k, hk, rfl, rfl⟩ := hrel
    have hle := cnt_le c (s.data.toList.take k)
    have hl : (s.data.toList.take k).length ≤ k := List.length_take_le _ _
    by_cases hlt : k < s.size
    · have hx : (s.extract k (k + 1)).toList = [s[k]] := ext_toList s k hlt
      go_wp2_with fail
      · have h : (s[k] == c) = true := by assumption
        go_round
        case rel => exact ⟨k + 1, by omega, by go_num, by rw [take_snoc s k hlt, cnt_snoc, if_pos h]; go_num⟩
        case measure => simp [intOf]; omega
      · have h : (s[k] == c) = false := by assumption
        go_round
        case rel => exact ⟨k + 1, by omega, by go_num, by rw [take_snoc s k hlt, cnt_snoc, if_neg (by simp [h])]; rfl⟩
        case measure => simp [intOf]; omega
    · go_wp2_with fail
      go_ret
      exact ⟨by rw [take_all s hlt]; rfl, rfl⟩

theorem count_any (s : ByteArray) (c : UInt8) (w : World) :
    Calls Try.prog 30 #[.string s, .string ⟨#[c]⟩] w fun e w' => e = .returned (.int .i64 (cnt c s.data.toList : Nat)) ∧ w = w' :=
  (Try.strings_Count_one s c w).mono fun _ _ h => ⟨h.1, h.2.symm⟩

def tuR (s : ByteArray) : Int := cond (tkB s) ((cnt 76 s.data.toList : Int) - (cnt 82 s.data.toList : Int)) 0

theorem size_list (s : ByteArray) : s.data.toList.length = s.size := by simp

set_option maxRecDepth 100000 in
theorem spTurnOfTrack (s : ByteArray) (hs : s.size ≤ 1048576) (w : World) :
    Calls Try.prog 13 #[.string s] w fun e w' => e = .returned (.tuple #[.int .i64 (tuR s), .bool (tkB s)]) ∧ Below w.heap.size w w' := by
  cases hb : tkB s
  · go_enter Try.func13, Try.ntmps13
    go_wp2_with (go_at_call 27; refine (tkGood_any s hs _).mono ?_; rintro e w' ⟨rfl, rfl⟩)
    go_ret2
    exact ⟨by simp [tuR, hb], Below.refl _ _⟩
  · have h40 := tkB_size hb
    have n1 := cnt_le 76 s.data.toList
    have n2 := cnt_le 82 s.data.toList
    have hl := size_list s
    go_enter Try.func13, Try.ntmps13
    go_wp2_with (first | (go_at_call 27; refine (tkGood_any s hs _).mono ?_; rintro e w' ⟨rfl, rfl⟩) | (go_at_call 29; refine (tkCount_any s _ h40 _).mono ?_; rintro e w' ⟨rfl, rfl⟩))
    go_ret2
    exact ⟨by simp [tuR, hb], Below.refl _ _⟩

set_option maxRecDepth 100000 in
theorem imTurnOfTrack (s : ByteArray) (hs : s.size ≤ 1048576) (w : World) :
    Calls Try.prog 14 #[.string s] w fun e w' => e = .returned (.tuple #[.int .i64 (tuR s), .bool (tkB s)]) ∧ Below w.heap.size w w' := by
  cases hb : tkB s
  · go_enter Try.func14, Try.ntmps14
    go_wp2_with (go_at_call 12; refine (imIsTrack_any s hs _).mono ?_; rintro e w' ⟨rfl, rfl⟩)
    go_ret2
    exact ⟨by simp [tuR, hb], Below.refl _ _⟩
  · have h40 := tkB_size hb
    have n1 := cnt_le 76 s.data.toList
    have n2 := cnt_le 82 s.data.toList
    have hl := size_list s
    go_enter Try.func14, Try.ntmps14
    go_wp2_with (first | (go_at_call 12; refine (imIsTrack_any s hs _).mono ?_; rintro e w' ⟨rfl, rfl⟩) | (go_at_call 30; refine (count_any s _ _).mono ?_; rintro e w' ⟨rfl, rfl⟩))
    go_ret2
    exact ⟨by simp [tuR, hb], Below.refl _ _⟩

theorem one_size {s : ByteArray} (h : s.size = 1) : ∃ c, s = ⟨#[c]⟩ := by
  obtain ⟨⟨d⟩⟩ := s
  match d, h with
  | [c], _ => exact ⟨c, rfl⟩

/-- A text is a piece. -/
def pcS (p : ByteArray) : Bool := p.toList == [83] || (p.toList == [76] || p.toList == [82])
def cpR (s p : ByteArray) : Int := cond (tkB s && pcS p) (cnt (p.toList.headD 0) s.data.toList : Int) 0

theorem pcS_one (c : UInt8) : pcS ⟨#[c]⟩ = pcb c := by
  simp [pcS, pcb, ByteArray.toList_eq]
theorem pcS_size {p : ByteArray} (h : pcS p = true) : ∃ c, p = ⟨#[c]⟩ ∧ pcb c = true := by
  simp only [pcS, Bool.or_eq_true, beq_iff_eq, ByteArray.toList_eq] at h
  obtain ⟨⟨l⟩⟩ := p
  rcases h with h | h | h <;> (simp at h; subst h; exact ⟨_, rfl, by decide⟩)
theorem pcS_no {p : ByteArray} (h : pcS p = false) : (p.toList == [83]) = false ∧ (p.toList == [76]) = false ∧ (p.toList == [82]) = false := by
  simpa [pcS, Bool.or_eq_false_iff] using h

set_option maxRecDepth 100000 in
theorem spCountPiece (s p : ByteArray) (hs : s.size ≤ 1048576) (hp : p.size ≤ 1048576) (w : World) :
    Calls Try.prog 15 #[.string s, .string p] w fun e w' => e = .returned (.tuple #[.int .i64 (cpR s p), .bool (tkB s && pcS p)]) ∧ Below w.heap.size w w' := by
  cases hb : tkB s
  · go_enter Try.func15, Try.ntmps15
    go_wp2_with (go_at_call 27; refine (tkGood_any s hs _).mono ?_; rintro e w' ⟨rfl, rfl⟩)
    go_ret2
    exact ⟨by simp [cpR, hb], Below.refl _ _⟩
  · have h40 := tkB_size hb
    cases hpc : pcS p
    · by_cases h1 : p.size = 1
      · obtain ⟨c, rfl⟩ := one_size h1
        have hpc2 : pcB (((⟨#[c]⟩ : ByteArray)[0].toNat : Nat) : Int) = false := by
          have e : (⟨#[c]⟩ : ByteArray)[0] = c := rfl
          rw [e, pcB_pcb, ← pcS_one]; exact hpc
        have HP := Lib.hid hpc
        clear hpc hp
        go_enter Try.func15, Try.ntmps15
        go_wp2_with (first | (go_at_call 27; refine (tkGood_any s hs _).mono ?_; rintro e w' ⟨rfl, rfl⟩) | (go_at_call 31; refine (ptPiece_any _ _).mono ?_; rintro e w' ⟨rfl, rfl⟩))
        go_ret2
        exact ⟨by simp [cpR, HP.out], Below.refl _ _⟩
      · have hl : ((p.size : Int) == 1) = false := by simp; omega
        have hl2 : ((p.size : Int) != 1) = true := by simp; omega
        have HP := Lib.hid hpc
        clear hpc
        go_enter Try.func15, Try.ntmps15
        go_wp2_with (go_at_call 27; refine (tkGood_any s hs _).mono ?_; rintro e w' ⟨rfl, rfl⟩)
        go_ret2
        exact ⟨by simp [cpR, HP.out], Below.refl _ _⟩
    · obtain ⟨c, rfl, hc⟩ := pcS_size hpc
      have h1 : (⟨#[c]⟩ : ByteArray).size = 1 := rfl
      have hpc2 : pcB (((⟨#[c]⟩ : ByteArray)[0].toNat : Nat) : Int) = true := by
        have e : (⟨#[c]⟩ : ByteArray)[0] = c := rfl
        rw [e, pcB_pcb]; exact hc
      have HP := Lib.hid hpc
      clear hpc hc hp
      go_enter Try.func15, Try.ntmps15
      go_wp2_with (first | (go_at_call 27; refine (tkGood_any s hs _).mono ?_; rintro e w' ⟨rfl, rfl⟩) | (go_at_call 31; refine (ptPiece_any _ _).mono ?_; rintro e w' ⟨rfl, rfl⟩) | (go_at_call 29; refine (tkCount_any s _ h40 _).mono ?_; rintro e w' ⟨rfl, rfl⟩))
      go_ret2
      exact ⟨by simp [cpR, hb, HP.out, ByteArray.toList_eq], Below.refl _ _⟩

set_option maxRecDepth 100000 in
theorem imCountPiece (s p : ByteArray) (hs : s.size ≤ 1048576) (hp : p.size ≤ 1048576) (w : World) :
    Calls Try.prog 16 #[.string s, .string p] w fun e w' => e = .returned (.tuple #[.int .i64 (cpR s p), .bool (tkB s && pcS p)]) ∧ Below w.heap.size w w' := by
  cases hb : tkB s
  · go_enter Try.func16, Try.ntmps16
    go_wp2_with (go_at_call 12; refine (imIsTrack_any s hs _).mono ?_; rintro e w' ⟨rfl, rfl⟩)
    go_ret2
    exact ⟨by simp [cpR, hb], Below.refl _ _⟩
  · cases hpc : pcS p
    · obtain ⟨n1, n2, n3⟩ := pcS_no hpc
      have HP := Lib.hid hpc
      have N1 := Lib.hid n1
      have N2 := Lib.hid n2
      have N3 := Lib.hid n3
      clear hpc n1 n2 n3
      go_enter Try.func16, Try.ntmps16
      go_wp2_with (first | (go_at_call 12; refine (imIsTrack_any s hs _).mono ?_; rintro e w' ⟨rfl, rfl⟩) | (go_at_call 28; refine (lay_no p N1.out N2.out N3.out _).mono ?_; rintro e w' ⟨rfl, rfl⟩))
      go_ret2
      exact ⟨by simp [cpR, HP.out], Below.refl _ _⟩
    · obtain ⟨c, rfl, hc⟩ := pcS_size hpc
      obtain ⟨g, hg, hl⟩ := lay_cases (x := ⟨#[c]⟩) rfl hc w
      have HL := Lib.hid hl
      have HP := Lib.hid hpc
      clear hl hpc hc hp
      rcases hg with rfl | rfl | rfl
      all_goals
        go_enter Try.func16, Try.ntmps16
        go_wp2_with (first | (go_at_call 12; refine (imIsTrack_any s hs _).mono ?_; rintro e w' ⟨rfl, rfl⟩) | (go_at_call 28; refine (HL.out).mono ?_; rintro e w' ⟨rfl, rfl⟩) | (go_at_call 30; refine (count_any s _ _).mono ?_; rintro e w' ⟨rfl, rfl⟩))
        go_ret2
        exact ⟨by simp [cpR, hb, HP.out, ByteArray.toList_eq], Below.refl _ _⟩

end Go.Proofs.Ytpaimngepmfemaa
