/- Contracts: meetings in the model: the first one, and how many. -/
import Derived.Test.YtpaimngepmfemabJt
import Derived.Test.YtpaimngepmfemabMeM
import Derived.Deep.QuietTactic
import Derived.BigQuiet
namespace Go.Proofs.Ytpaimngepmfemab
open Go.ChangeShapes Go.WideShapes Go.ChangeAt Go.RowKit

set_option linter.unusedVariables false

def prsS (s : ByteArray) : List (Nat × Nat) := cond (tkB s) (prs (lays sp0 s.data.toList)) []
theorem prsS_yes {s : ByteArray} (h : tkB s = true) : prsS s = prs (lays sp0 s.data.toList) := by simp [prsS, h]
theorem prsS_no {s : ByteArray} (h : tkB s = false) : prsS s = [] := by simp [prsS, h]
def fI (l : List (Nat × Nat)) : Int := (l.head?.map fun p => (p.1 : Int)).getD 0
def fJ (l : List (Nat × Nat)) : Int := (l.head?.map fun p => (p.2 : Int)).getD 0
def fB (l : List (Nat × Nat)) : Bool := l.head?.isSome
theorem ret_fm {l : List (Nat × Nat)} {i j : Int} {b : Bool} (h1 : fI l = i) (h2 : fJ l = j) (h3 : fB l = b) : Ending.returned (.tuple #[.int .i64 i, .int .i64 j, .bool b]) = Ending.returned (.tuple #[.int .i64 (fI l), .int .i64 (fJ l), .bool (fB l)]) := by rw [h1, h2, h3]
theorem ret_no {l : List (Nat × Nat)} (h : l = []) : Ending.returned (.tuple #[.int .i64 0, .int .i64 0, .bool false]) = Ending.returned (.tuple #[.int .i64 (fI l), .int .i64 (fJ l), .bool (fB l)]) := by subst h; rfl
theorem ret_one {l r : List (Nat × Nat)} {i j : Nat} (h : l = (i, j) :: r) : Ending.returned (.tuple #[.int .i64 (i : Nat), .int .i64 (j : Nat), .bool true]) = Ending.returned (.tuple #[.int .i64 (fI l), .int .i64 (fJ l), .bool (fB l)]) := by subst h; rfl

set_option maxRecDepth 100000 in
set_option maxHeartbeats 1600000 in
theorem spFirstMeeting (s : ByteArray) (hs : s.size ≤ 1048576) (w : World) :
    Calls Try.prog 30 #[.string s] w fun e w' => e = .returned (.tuple #[.int .i64 (fI (prsS s)), .int .i64 (fJ (prsS s)), .bool (fB (prsS s))]) ∧ Below w.heap.size w w' := by
  cases ht : tkB s
  · have HP := Lib.hid (prsS_no ht)
    go_enter Try.func30, Try.ntmps30
    go_wp2_with (go_at_call 39; refine (tkGood_any s hs _).mono ?_; rintro e w' ⟨rfl, rfl⟩)
    go_ret3
    exact ⟨ret_no HP.out, Below.refl _ _⟩
  have h40 := tkB_size ht
  have HP := Lib.hid (prsS_yes ht)
  have hL := lays_lenA sp0 s
  go_enter Try.func30, Try.ntmps30
  go_wp2_with (go_at_call 39; refine (tkGood_any s hs _).mono ?_; rintro e w' ⟨rfl, rfl⟩)
  refine (tkJoints_yes s ht _).mono ?_
  rintro e w1 ⟨g, cap, rfl, hO, hb1⟩
  generalize lays sp0 s.data.toList = l at HP hO hL
  have HL := Lib.hid hL
  have HO := Lib.hid hO
  have HB := Lib.hid hb1
  clear hO hb1 hL
  go_wp2_with fail
  go_loopw [15] (fun i wr => ∃ (j : Nat), j ≤ s.size + 1 ∧ i = .int .i64 j ∧ accM l j 0 = [] ∧ wr.ownsRow w.heap.size 34 4 (.slice (some ⟨g, 0, none⟩) (s.size + 1) cap) (s.size + 1) (ptCells l) ∧ Below w.heap.size w wr) (fun i _ => s.size + 1 - (intOf i).toNat)
  case atStart => exact ⟨0, Nat.zero_le _, rfl, accM_zero l, HO.out, HB.out⟩
  case round =>
    obtain ⟨j, hj, rfl, hacc, hO, hb⟩ := hrel
    have HA := Lib.hid hacc
    have HO1 := Lib.hid hO
    have HB1 := Lib.hid hb
    clear hacc hO hb
    obtain ⟨wo, rfl⟩ : ∃ wo : World, wo = wr := ⟨_, rfl⟩
    by_cases hlt : j < s.size + 1
    · obtain ⟨q, hq⟩ : ∃ q, l[j]? = some q := ⟨_, List.getElem?_eq_getElem (by rw [HL.out]; exact hlt)⟩
      have HQ := Lib.hid hq
      clear hq
      go_wp2_with fail
      go_loopw [7] (fun i wr => ∃ (a : Nat), a ≤ j ∧ i = .int .i64 a ∧ accM l j a = [] ∧ wr.ownsRow w.heap.size 34 4 (.slice (some ⟨g, 0, none⟩) (s.size + 1) cap) (s.size + 1) (ptCells l) ∧ Below w.heap.size w wr) (fun i _ => j - (intOf i).toNat)
      case atStart => exact ⟨0, Nat.zero_le _, rfl, HA.out, HO1.out, HB1.out⟩
      case round =>
        obtain ⟨a, haj, rfl, hacc, hO, hb⟩ := hrel
        by_cases hla : a < j
        · obtain ⟨p, hp⟩ : ∃ p, l[a]? = some p := ⟨_, List.getElem?_eq_getElem (by rw [HL.out]; omega)⟩
          obtain ⟨c0, c1, c2, c3⟩ := own_pt hO HL.out hp
          obtain ⟨d0, d1, d2, d3⟩ := own_pt hO HL.out HQ.out
          have hm := mtA_at hp HQ.out
          obtain ⟨x0, x1, x2, x3, x4⟩ := p
          obtain ⟨y0, y1, y2, y3, y4⟩ := q
          simp only [ptE] at hm c0 c1 c2 c3 d0 d1 d2 d3
          have HA2 := Lib.hid hacc
          have HO2 := Lib.hid hO
          have HB2 := Lib.hid hb
          have i1 : (0 : Int) ≤ (a : Int) := by omega
          have i2 : (a : Int) < ((s.size + 1 : Nat) : Int) := by omega
          have i3 : (0 : Int) ≤ (j : Int) := by omega
          have i4 : (j : Int) < ((s.size + 1 : Nat) : Int) := by omega
          cases hv : (x0 == y0 && (x1 == y1 && (x2 == y2 && x3 == y3)))
          · rw [hv] at hm
            have HM := Lib.hid hm
            clear hp hacc hO hb hm
            go_wp2_with fail
            go_quiet (fail)
            go_wp2_with fail
            go_roundw
            case rel => exact ⟨a + 1, by omega, by go_num, by rw [accM_no HM.out]; exact HA2.out, HO2.out, HB2.out.trans ⟨rfl, rfl, rfl, Nat.le_refl _, fun _ _ => rfl⟩⟩
            case measure => simp [intOf]; omega
          · rw [hv] at hm
            have HM := Lib.hid hm
            clear hp hacc hO hb hm
            go_wp2_with fail
            go_quiet (fail)
            go_wp2_with fail
            obtain ⟨r, hr⟩ := accM_pre (l := l) (j := j) (i := a + 1) (by rw [HL.out]; omega) (by omega)
            rw [accM_yes HM.out, HA2.out] at hr
            go_ret3
            exact ⟨ret_one (HP.out.trans hr), HB2.out.trans ⟨rfl, rfl, rfl, Nat.le_refl _, fun _ _ => rfl⟩⟩
        · obtain rfl : a = j := by omega
          have HA2 := Lib.hid hacc
          have HO2 := Lib.hid hO
          have HB2 := Lib.hid hb
          clear hacc hO hb
          go_wp2_with fail
          go_roundw
          case rel => exact ⟨a + 1, by omega, by go_num, by rw [← accM_next]; exact HA2.out, HO2.out, HB2.out⟩
          case measure => simp [intOf]; omega
    · obtain rfl : j = s.size + 1 := by omega
      have HE := Lib.hid (accM_end l)
      go_wp2_with fail
      go_ret3
      exact ⟨ret_no (by rw [HP.out, ← HE.out, HL.out]; exact HA.out), HB1.out⟩

end Go.Proofs.Ytpaimngepmfemab
