/- Contracts: how many meetings there are, in the model. -/
import Derived.Test.YtpaimngepmfemabSm
import Derived.Deep.QuietTactic
import Derived.BigQuiet
namespace Go.Proofs.Ytpaimngepmfemab
open Go.ChangeShapes Go.WideShapes Go.ChangeAt Go.RowKit

set_option linter.unusedVariables false

set_option maxRecDepth 100000 in
set_option maxHeartbeats 1600000 in
theorem spCountMeetings (s : ByteArray) (hs : s.size ≤ 1048576) (w : World) :
    Calls Try.prog 32 #[.string s] w fun e w' => e = .returned (.tuple #[.int .i64 ((prsS s).length : Nat), .bool (tkB s)]) ∧ Below w.heap.size w w' := by
  cases ht : tkB s
  · have HP := Lib.hid (prsS_no ht)
    go_enter Try.func32, Try.ntmps32
    go_wp2_with (go_at_call 39; refine (tkGood_any s hs _).mono ?_; rintro e w' ⟨rfl, rfl⟩)
    go_ret2
    exact ⟨by rw [HP.out]; rfl, Below.refl _ _⟩
  have h40 := tkB_size ht
  have HP := Lib.hid (prsS_yes ht)
  have hL := lays_lenA sp0 s
  have hbig : ∀ l : List Sp, l.length = s.size + 1 → ∀ j a, j < l.length → a ≤ j → (accM l j a).length ≤ 2000 := fun l hl j a hj ha => by
    obtain ⟨r, hr⟩ := accM_pre hj ha
    have h1 := prs_length l
    rw [hr, List.length_append, hl] at h1
    have h2 : (s.size + 1) * (s.size + 1) ≤ 41 * 41 := Nat.mul_le_mul (by omega) (by omega)
    omega
  have HBIG := Lib.hid hbig
  clear hbig
  go_enter Try.func32, Try.ntmps32
  go_wp2_with (go_at_call 39; refine (tkGood_any s hs _).mono ?_; rintro e w' ⟨rfl, rfl⟩)
  refine (tkJoints_yes s ht _).mono ?_
  rintro e w1 ⟨g, cap, rfl, hO, hb1⟩
  generalize lays sp0 s.data.toList = l at HP hO hL
  have HL := Lib.hid hL
  have HO := Lib.hid hO
  have HB := Lib.hid hb1
  clear hO hb1 hL
  go_wp2_with fail
  go_loopw [5, 15] (fun c i wr => ∃ (j : Nat), j ≤ s.size + 1 ∧ i = .int .i64 j ∧ c = .int .i64 ((accM l j 0).length : Nat) ∧ wr.ownsRow w.heap.size 34 4 (.slice (some ⟨g, 0, none⟩) (s.size + 1) cap) (s.size + 1) (ptCells l) ∧ Below w.heap.size w wr) (fun _ i _ => s.size + 1 - (intOf i).toNat)
  case atStart => exact ⟨0, Nat.zero_le _, rfl, rfl, HO.out, HB.out⟩
  case round =>
    obtain ⟨j, hj, rfl, rfl, hO, hb⟩ := hrel
    have HO1 := Lib.hid hO
    have HB1 := Lib.hid hb
    clear hO hb
    obtain ⟨wo, rfl⟩ : ∃ wo : World, wo = wr := ⟨_, rfl⟩
    by_cases hlt : j < s.size + 1
    · obtain ⟨q, hq⟩ : ∃ q, l[j]? = some q := ⟨_, List.getElem?_eq_getElem (by rw [HL.out]; exact hlt)⟩
      have HQ := Lib.hid hq
      clear hq
      go_wp2_with fail
      go_loopw [5, 7] (fun c i wr => ∃ (a : Nat), a ≤ j ∧ i = .int .i64 a ∧ c = .int .i64 ((accM l j a).length : Nat) ∧ wr.ownsRow w.heap.size 34 4 (.slice (some ⟨g, 0, none⟩) (s.size + 1) cap) (s.size + 1) (ptCells l) ∧ Below w.heap.size w wr) (fun _ i _ => j - (intOf i).toNat)
      case atStart => exact ⟨0, Nat.zero_le _, rfl, rfl, HO1.out, HB1.out⟩
      case round =>
        obtain ⟨a, haj, rfl, rfl, hO, hb⟩ := hrel
        have hsm := HBIG.out l HL.out j a (by rw [HL.out]; exact hlt) haj
        by_cases hla : a < j
        · obtain ⟨p, hp⟩ : ∃ p, l[a]? = some p := ⟨_, List.getElem?_eq_getElem (by rw [HL.out]; omega)⟩
          obtain ⟨c0, c1, c2, c3⟩ := own_pt hO HL.out hp
          obtain ⟨d0, d1, d2, d3⟩ := own_pt hO HL.out HQ.out
          have hm := mtA_at hp HQ.out
          obtain ⟨x0, x1, x2, x3, x4⟩ := p
          obtain ⟨y0, y1, y2, y3, y4⟩ := q
          simp only [ptE] at hm c0 c1 c2 c3 d0 d1 d2 d3
          have HO2 := Lib.hid hO
          have HB2 := Lib.hid hb
          have i1 : (0 : Int) ≤ (a : Int) := by omega
          have i2 : (a : Int) < ((s.size + 1 : Nat) : Int) := by omega
          have i3 : (0 : Int) ≤ (j : Int) := by omega
          have i4 : (j : Int) < ((s.size + 1 : Nat) : Int) := by omega
          cases hv : (x0 == y0 && (x1 == y1 && (x2 == y2 && x3 == y3)))
          · rw [hv] at hm
            have HM := Lib.hid hm
            clear hp hO hb hm
            go_wp2_with fail
            go_quiet (fail)
            go_wp2_with fail
            go_roundw
            case rel => exact ⟨a + 1, by omega, by go_num, by rw [accM_no HM.out], HO2.out, HB2.out.trans ⟨rfl, rfl, rfl, Nat.le_refl _, fun _ _ => rfl⟩⟩
            case measure => simp [intOf]; omega
          · rw [hv] at hm
            have HM := Lib.hid hm
            clear hp hO hb hm
            go_wp2_with fail
            go_quiet (fail)
            go_wp2_with fail
            go_roundw
            case rel => exact ⟨a + 1, by omega, by go_num, by rw [accM_yes HM.out, List.length_append]; go_num, HO2.out, HB2.out.trans ⟨rfl, rfl, rfl, Nat.le_refl _, fun _ _ => rfl⟩⟩
            case measure => simp [intOf]; omega
        · obtain rfl : a = j := by omega
          have HO2 := Lib.hid hO
          have HB2 := Lib.hid hb
          clear hO hb
          go_wp2_with fail
          go_roundw
          case rel => exact ⟨a + 1, by omega, by go_num, by rw [← accM_next], HO2.out, HB2.out⟩
          case measure => simp [intOf]; omega
    · obtain rfl : j = s.size + 1 := by omega
      have HE := Lib.hid (accM_end l)
      go_wp2_with fail
      go_ret2
      exact ⟨by rw [HP.out, ← HE.out, HL.out]; rfl, HB1.out⟩

end Go.Proofs.Ytpaimngepmfemab
