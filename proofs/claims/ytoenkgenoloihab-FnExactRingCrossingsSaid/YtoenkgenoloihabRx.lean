/- Contracts: crossings of a ring. -/
import Derived.Test.YtoenkgenoloihabRi
import Derived.Test.YtoenkgenoloihabMe
import Derived.Deep.QuietTactic
import Derived.BigQuiet
namespace Go.Proofs.Ytoenkgenoloihab
open Go.ChangeShapes Go.WideShapes Go.ChangeAt Go.RowKit

set_option linter.unusedVariables false

def rxI (s : ByteArray) : Int := cond (clB s) ((prs ((lays sp0 s.data.toList).take s.size)).length : Nat) 0

theorem ret_rx {s : ByteArray} {x : Int} {b : Bool} (hb : clB s = b) (hs : rxI s = x) : Ending.returned (.tuple #[.int .i64 x, .bool b]) = Ending.returned (.tuple #[.int .i64 (rxI s), .bool (clB s)]) := by rw [hb, hs]

theorem own_capX {W : World} {B n g cap size : Nat} {e : TypeId} {xs : List Value} (h : W.ownsRow B e size (.slice (some ⟨g, 0, none⟩) n cap) n xs) : n ≤ cap ∧ cap ≤ maxLen := by
  rcases h.2 with ⟨h, _⟩ | ⟨g', cap', cur, h, _, _, h1, h2, _⟩
  · cases h
  · injection h with _ _ h3
    subst h3
    exact ⟨h1, h2⟩

theorem own_formX {W : World} {B n size : Nat} {e : TypeId} {v : Value} {xs : List Value} (h : W.ownsRow B e size v n xs) : ∃ av cv, v = .slice av n cv := by
  rcases h.2 with ⟨h, h0⟩ | ⟨g, cap, cur, h, _⟩
  · exact ⟨none, 0, by rw [h, h0]⟩
  · exact ⟨_, _, h⟩

theorem jt_ofX {W : World} {B n g cap : Nat} {e : TypeId} {l : List Sp} (h : W.ownsRow B e 4 (.slice (some ⟨g, 0, none⟩) n cap) n (ptCells l)) (hn : l.length = n) : JtAt W g l := fun i p hp => own_pt h hn hp

theorem jt_take {W : World} {g m : Nat} {l : List Sp} (h : JtAt W g l) : JtAt W g (l.take m) := fun i p hp => h i p (by
  rw [List.getElem?_take] at hp
  split at hp
  · exact hp
  · cases hp)

set_option maxRecDepth 100000 in
set_option maxHeartbeats 1600000 in
theorem spRingCrossings (s : ByteArray) (hs : s.size ≤ 1048576) (w : World) :
    Calls Try.prog 13 #[.string s] w fun e w' => e = .returned (.tuple #[.int .i64 (rxI s), .bool (clB s)]) ∧ Below w.heap.size w w' := by
  have HC := Lib.hid (csRing_any s hs)
  cases tc : clB s
  · have R := Lib.hid (show rxI s = 0 by simp [rxI, tc])
    rw [tc] at HC
    go_enter Try.func13, Try.ntmps13
    go_wp2_with (go_at_call 24; (with_reducible refine (HC.out _).mono ?_); rintro e wA ⟨rfl, h1⟩; (try with_reducible replace h1 := undrew h1); have hB : Below w.heap.size w wA := ba (by go_grown) h1; obtain ⟨hcwA, hfwA⟩ := bcell h1; have hqwA := h1.size; (try simp at hqwA); )
    go_ret2
    exact ⟨by rw [R.out]; rfl, by go_grown⟩
  have ht := clB_tk tc
  have h40 := tkB_size ht
  rw [tc] at HC
  have hR : rxI s = ((prs ((lays sp0 s.data.toList).take s.size)).length : Nat) := by simp [rxI, tc]
  have hL := lays_lenA sp0 s
  have hbig : ∀ l : List Sp, l.length = s.size → ∀ j a, j < l.length → a ≤ j → (accM l j a).length ≤ 2000 := fun l hl j a hj ha => by
    obtain ⟨r, hr⟩ := accM_pre hj ha
    have h1 := prs_length l
    rw [hr, List.length_append, hl] at h1
    have h2 : s.size * s.size ≤ 41 * 41 := Nat.mul_le_mul (by omega) (by omega)
    omega
  have HBIG := Lib.hid hbig
  clear hbig
  go_enter Try.func13, Try.ntmps13
  go_wp2_with (go_at_call 24; (with_reducible refine (HC.out _).mono ?_); rintro e wA ⟨rfl, h1⟩; (try with_reducible replace h1 := undrew h1); have hB : Below w.heap.size w wA := ba (by go_grown) h1; obtain ⟨hcwA, hfwA⟩ := bcell h1; have hqwA := h1.size; (try simp at hqwA); )
  refine (tkJoints_yes s ht _).mono ?_
  rintro e w1 ⟨g, cap, rfl, hO, hb1⟩
  generalize lays sp0 s.data.toList = l0 at hR hO hL
  obtain ⟨hcp, hcp2⟩ := own_capX hO
  have hg := (hO.lt g rfl).2
  have HJ := Lib.hid (jt_take (m := s.size) (jt_ofX hO hL))
  have HB := Lib.hid (ba (by go_grown) hb1 : Below w.heap.size w w1)
  have hL2 : (l0.take s.size).length = s.size := by rw [List.length_take, hL]; omega
  clear hO hb1 hL
  generalize l0.take s.size = l at *
  have HR := Lib.hid hR
  have HL := Lib.hid hL2
  have i9 : (0 : Int) ≤ (s.size : Int) := by omega
  have i8 : (s.size : Int) ≤ (cap : Int) := by omega
  clear hR hL2
  go_wp2_with fail
  go_loopw [5, 18] (fun c i wr => ∃ (j : Nat), j ≤ s.size ∧ i = .int .i64 j ∧ c = .int .i64 ((accM l j 0).length : Nat) ∧ Below w1.heap.size w1 wr) (fun _ i _ => s.size - (intOf i).toNat)
  case atStart => exact ⟨0, Nat.zero_le _, rfl, rfl, Below.refl _ _⟩
  case round =>
    obtain ⟨j, hj, rfl, rfl, hb⟩ := hrel
    have HB1 := Lib.hid hb
    clear hb
    obtain ⟨wo, rfl⟩ : ∃ wo : World, wo = wr := ⟨_, rfl⟩
    by_cases hlt : j < s.size
    · obtain ⟨q, hq⟩ : ∃ q, l[j]? = some q := ⟨_, List.getElem?_eq_getElem (by rw [HL.out]; exact hlt)⟩
      have HQ := Lib.hid hq
      clear hq
      go_wp2_with fail
      go_loopw [5, 7] (fun c i wr => ∃ (a : Nat), a ≤ j ∧ i = .int .i64 a ∧ c = .int .i64 ((accM l j a).length : Nat) ∧ Below w1.heap.size w1 wr) (fun _ i _ => j - (intOf i).toNat)
      case atStart => exact ⟨0, Nat.zero_le _, rfl, rfl, HB1.out⟩
      case round =>
        obtain ⟨a, haj, rfl, rfl, hb⟩ := hrel
        have hsm := HBIG.out l HL.out j a (by rw [HL.out]; exact hlt) haj
        by_cases hla : a < j
        · obtain ⟨p, hp⟩ : ∃ p, l[a]? = some p := ⟨_, List.getElem?_eq_getElem (by rw [HL.out]; omega)⟩
          obtain ⟨c0, c1, c2, c3⟩ := (HJ.out.below hg hb) a p hp
          obtain ⟨d0, d1, d2, d3⟩ := (HJ.out.below hg hb) j q HQ.out
          have hm := mtA_at hp HQ.out
          obtain ⟨x0, x1, x2, x3, x4⟩ := p
          obtain ⟨y0, y1, y2, y3, y4⟩ := q
          simp only [ptE] at hm c0 c1 c2 c3 d0 d1 d2 d3
          have HB2 := Lib.hid hb
          have i1 : (0 : Int) ≤ (a : Int) := by omega
          have i2 : (a : Int) < (s.size : Int) := by omega
          have i3 : (0 : Int) ≤ (j : Int) := by omega
          have i4 : (j : Int) < (s.size : Int) := by omega
          cases hv : (x0 == y0 && (x1 == y1 && (x2 == y2 && x3 == y3)))
          · rw [hv] at hm
            have HM := Lib.hid hm
            clear hp hb hm
            go_wp2_with fail
            go_quiet (fail)
            go_wp2_with fail
            go_roundw
            case rel => exact ⟨a + 1, by omega, by go_num, by rw [accM_no HM.out], HB2.out.trans ⟨rfl, rfl, rfl, Nat.le_refl _, fun _ _ => rfl⟩⟩
            case measure => simp [intOf]; omega
          · rw [hv] at hm
            have HM := Lib.hid hm
            clear hp hb hm
            go_wp2_with fail
            go_quiet (fail)
            go_wp2_with fail
            go_roundw
            case rel => exact ⟨a + 1, by omega, by go_num, by rw [accM_yes HM.out, List.length_append]; go_num, HB2.out.trans ⟨rfl, rfl, rfl, Nat.le_refl _, fun _ _ => rfl⟩⟩
            case measure => simp [intOf]; omega
        · obtain rfl : a = j := by omega
          have HB2 := Lib.hid hb
          clear hb
          go_wp2_with fail
          go_roundw
          case rel => exact ⟨a + 1, by omega, by go_num, by rw [← accM_next], HB2.out⟩
          case measure => simp [intOf]; omega
    · obtain rfl : j = s.size := by omega
      have HE := Lib.hid (accM_end l)
      go_wp2_with fail
      go_ret2
      exact ⟨by rw [HR.out, ← HE.out, HL.out]; rfl, HB.out.trans (HB1.out.mono HB.out.size)⟩

set_option maxRecDepth 100000 in
set_option maxHeartbeats 800000 in
theorem imRingCrossings (s : ByteArray) (hs : s.size ≤ 1048576) (w : World) :
    Calls Try.prog 14 #[.string s] w fun e w' => e = .returned (.tuple #[.int .i64 (rxI s), .bool (clB s)]) ∧ Below w.heap.size w w' := by
  have HC := Lib.hid (imIsRing s hs)
  cases tc : clB s
  · have R := Lib.hid (show rxI s = 0 by simp [rxI, tc])
    rw [tc] at HC
    go_enter Try.func14, Try.ntmps14
    go_wp2_with (go_at_call 10; (with_reducible refine (HC.out _).mono ?_); rintro e wA ⟨rfl, h1⟩; (try with_reducible replace h1 := undrew h1); have hB : Below w.heap.size w wA := ba (by go_grown) h1; obtain ⟨hcwA, hfwA⟩ := bcell h1; have hqwA := h1.size; (try simp at hqwA); )
    go_ret2
    exact ⟨by rw [R.out]; rfl, by go_grown⟩
  have ht := clB_tk tc
  have h40 := tkB_size ht
  rw [tc] at HC
  have hR : rxI s = ((prs ((lays sp0 s.data.toList).take s.size)).length : Nat) := by simp [rxI, tc]
  have hL := lays_lenA sp0 s
  go_enter Try.func14, Try.ntmps14
  go_wp2_with (go_at_call 10; (with_reducible refine (HC.out _).mono ?_); rintro e wA ⟨rfl, h1⟩; (try with_reducible replace h1 := undrew h1); have hB : Below w.heap.size w wA := ba (by go_grown) h1; obtain ⟨hcwA, hfwA⟩ := bcell h1; have hqwA := h1.size; (try simp at hqwA); )
  refine (imJointsOf_yes s ht _).mono ?_
  rintro e w1 ⟨g, cap, rfl, hO, hb1⟩
  simp only [okT]
  generalize lays sp0 s.data.toList = l0 at hR hO hL
  have hm2 : s.size * s.size ≤ 2000 := by
    have : s.size * s.size ≤ 40 * 40 := Nat.mul_le_mul (by omega) (by omega)
    omega
  have hL2 : (l0.take s.size).length = s.size := by rw [List.length_take, hL]; omega
  have hcp := own_capX hO
  have hv := meetings_any g s.size cap (s.size * s.size) (l0.take s.size) hL2 (by omega) hm2 w1 (hO.lt g rfl).2 (jt_take (jt_ofX hO hL)) (by omega) hcp.2
  have hpl := prs_length (l0.take s.size)
  rw [hL2] at hpl
  have HT := Lib.hid (take_allM hpl)
  have hcast : ((s.size * s.size : Nat) : Int) = (s.size : Int) * (s.size : Int) := by push_cast; rfl
  rw [hcast] at hv
  have h0 : 0 ≤ (s.size : Int) * (s.size : Int) := by rw [← hcast]; omega
  have h1 : (s.size : Int) * (s.size : Int) ≤ 2000 := by rw [← hcast]; omega
  have HV := Lib.hid hv
  have HB := Lib.hid (ba (by go_grown) hb1 : Below w.heap.size w w1)
  have HR := Lib.hid hR
  have i9 : (0 : Int) ≤ (s.size : Int) := by omega
  have i8 : (s.size : Int) ≤ (cap : Int) := by omega
  clear hO hb1 hL hv hcast hR hL2 hcp
  go_wp2_with fail
  refine HV.out.mono ?_
  rintro e w2 ⟨v, rfl, hM, hb2⟩
  rw [HT.out] at hM
  obtain ⟨av, cv, rfl⟩ := own_formX hM
  have HB2 := Lib.hid (HB.out.trans (hb2.mono HB.out.size))
  clear hM hb2
  go_wp2_with fail
  go_ret2
  exact ⟨by rw [HR.out]; rfl, HB2.out⟩

end Go.Proofs.Ytoenkgenoloihab
