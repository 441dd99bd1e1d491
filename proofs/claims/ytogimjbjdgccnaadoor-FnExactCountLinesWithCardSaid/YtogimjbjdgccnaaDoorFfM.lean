/- Contracts of the model: all signals green; the first tick in front of which they are. -/
import Derived.Test.YtogimjbjdgccnaaDoorTkQ
import Derived.Test.YtogimjbjdgccnaaDoorTmI
namespace Go.Proofs.YtogimjbjdgccnaaDoor
open Go.ChangeShapes Go.WideShapes Go.ChangeAt Go.RowKit
open Ln

set_option linter.unusedVariables false

theorem fre_all {l : List UInt8} {gp : Nat} (h : ∀ k, k < l.length → (tr l k && !grn l gp k) = false) : fre l gp = true := by
  rw [fre, List.all_eq_true]
  intro k hk
  rw [h k (List.mem_range.1 hk)]
  rfl

theorem fre_one {l : List UInt8} {gp k : Nat} (hk : k < l.length) (h1 : tr l k = true) (h2 : grn l gp k = false) : fre l gp = false := by
  cases h : fre l gp
  · rfl
  · rw [fre, List.all_eq_true] at h
    have := h k (List.mem_range.2 hk)
    rw [h1, h2] at this
    cases this

set_option maxRecDepth 100000 in
set_option maxHeartbeats 800000 in
theorem tnFree_any (s : ByteArray) (gp : Nat) (hl : LnOk s.data.toList) (hg1 : 1 ≤ gp) (hg3 : gp ≤ 3) (w : World) :
    Calls Tryd.prog 74 #[.string s, .int .i64 gp] w fun e w' => e = .returned (.bool (fre s.data.toList gp)) ∧ w = w' := by
  have hz := sz_list s
  have hs : s.size ≤ 24 := by rw [← hz]; exact hl.n24
  have GR := Lib.hid (fun k (h : k < s.size) => tnGreen_any s k gp hl h hg1 hg3)
  have FA := Lib.hid (fun (h : ∀ k, k < s.size → (tr s.data.toList k && !grn s.data.toList gp k) = false) => fre_all (l := s.data.toList) (gp := gp) (by rw [hz]; exact h))
  have FO := Lib.hid (fun k (h : k < s.size) (a : tr s.data.toList k = true) (b : grn s.data.toList gp k = false) => fre_one (l := s.data.toList) (gp := gp) (k := k) (by rw [hz]; exact h) a b)
  have HL := Lib.hid hl
  clear hl hz
  go_enter Tryd.func74, Tryd.ntmps74
  go_wp2_with fail
  go_loop [5] (fun i => ∃ k : Nat, k ≤ s.size ∧ i = .int .i64 k ∧ Hid (∀ j, j < k → (tr s.data.toList j && !grn s.data.toList gp j) = false)) (fun i => s.size - (intOf i).toNat)
  case atStart => exact ⟨0, Nat.zero_le _, rfl, Lib.hid fun j hj => absurd hj (by omega)⟩
  case round =>
    obtain ⟨k, hk, rfl, hN⟩ := hrel
    by_cases hlt : k < s.size
    · have ST := Lib.hid (fun (h : (tr s.data.toList k && !grn s.data.toList gp k) = false) => Lib.hid (fun j (hj : j < k + 1) => show (tr s.data.toList j && !grn s.data.toList gp j) = false by
        by_cases e : j = k
        · rw [e]; exact h
        · exact hN.out j (by omega)))
      rcases ln_byte HL.out hlt with ⟨h1, h2⟩ | ⟨h1, h2⟩
      · have b1 := byte_T h2
        have G1 := GR.out k hlt
        cases hg : grn s.data.toList gp k
        · rw [hg] at G1
          have E := Lib.hid (FO.out k hlt h1 hg)
          clear h1 h2 hg
          go_wp2_with (go_at_call 58; refine (G1 _).mono ?_; rintro e w' ⟨rfl, rfl⟩)
          go_ret
          exact ⟨congrArg (fun b => Ending.returned (.bool b)) E.out.symm, rfl⟩
        · rw [hg] at G1
          have E := Lib.hid (ST.out (by rw [h1, hg]; rfl))
          clear h1 h2 hg
          go_wp2_with (go_at_call 58; refine (G1 _).mono ?_; rintro e w' ⟨rfl, rfl⟩)
          go_round
          case rel => exact ⟨k + 1, by omega, by go_num, E.out⟩
          case measure => simp [intOf]; omega
      · have b1 := byte_E h2
        have E := Lib.hid (ST.out (by rw [h1]; rfl))
        clear h1 h2
        go_wp2_with fail
        go_round
        case rel => exact ⟨k + 1, by omega, by go_num, E.out⟩
        case measure => simp [intOf]; omega
    · obtain rfl : k = s.size := by omega
      have E := Lib.hid (FA.out hN.out)
      go_wp2_with fail
      go_ret
      exact ⟨congrArg (fun b => Ending.returned (.bool b)) E.out.symm, rfl⟩

theorem tnFree_on (l : List UInt8) (gp : Nat) (hl : LnOk l) (hg1 : 1 ≤ gp) (hg3 : gp ≤ 3) (w : World) :
    Calls Tryd.prog 74 #[.string (ofL l), .int .i64 gp] w fun e w' => e = .returned (.bool (fre l gp)) ∧ w = w' := by
  have := tnFree_any (ofL l) gp (by rw [ofL_list]; exact hl) hg1 hg3 w
  rwa [ofL_list] at this

set_option maxRecDepth 100000 in
set_option maxHeartbeats 1600000 in
theorem spFirstFree (s : ByteArray) (g : Int) (hs : s.size ≤ 1048576) (w : World) :
    Calls Tryd.prog 42 #[.string s, .int .i64 g] w fun e w' => e = .returned (.tuple #[.int .i64 (ffI s g), .bool (ffB s g)]) ∧ Below w.heap.size w w' := by
  have TA := tnAsked_any s g hs
  rw [show (lnB s.data.toList && inB g 1 3) = askB s g from rfl] at TA
  cases hb : askB s g
  · rw [hb] at TA
    have HR := Lib.hid (ffR_no hb)
    clear hb
    go_enter Tryd.func42, Tryd.ntmps42
    go_wp2_with (go_at_call 57; refine (TA _).mono ?_; rintro e w' ⟨rfl, rfl⟩)
    go_ret2
    exact ⟨rI (by rw [ffI, HR.out]; rfl) (by rw [ffB, HR.out]; rfl), Below.refl _ _⟩
  · obtain ⟨hl, gp, rfl, n1, n3⟩ := ask_yes hb
    rw [hb] at TA
    obtain ⟨p, q, hP⟩ := per_ex hl gp
    have hR := ffR_yes hb hP
    have TR := Lib.hid (tnTrains_any s hl)
    by_cases hc : cnt 84 s.data.toList = 0
    · rw [ffO_none hc] at hR
      have HR := Lib.hid hR
      rw [hc] at TR
      clear hb hl hP hR hc
      go_enter Tryd.func42, Tryd.ntmps42
      go_wp2_with (first | (go_at_call 57; refine (TA _).mono ?_; rintro e w' ⟨rfl, rfl⟩) | (go_at_call 55; refine (TR.out _).mono ?_; rintro e w' ⟨rfl, rfl⟩))
      go_ret2
      exact ⟨rI (by rw [ffI, HR.out]; rfl) (by rw [ffB, HR.out]; rfl), Below.refl _ _⟩
    · have tp := tnPeriod_any s.data.toList gp p q hl n1 n3 hP
      rw [of_list] at tp
      have TP := Lib.hid tp
      have HR := Lib.hid hR
      have hc0 : ¬ ((cnt 84 s.data.toList : Nat) : Int) = 0 := by omega
      have TT := Lib.hid (fun k => tnTick_on (orb s.data.toList gp k) gp (orb_ok hl gp k) n1 n3)
      have TF := Lib.hid (fun k => tnFree_on (orb s.data.toList gp k) gp (orb_ok hl gp k) n1 n3)
      have HIT := Lib.hid (fun k (hk : k < p) (hn : ∀ i, i < k → fre (orb s.data.toList gp i) gp = false) (hy : fre (orb s.data.toList gp k) gp = true) => ffO_at hc hk hn hy)
      have MISS := Lib.hid (fun (h : ∀ k, k < p → fre (orb s.data.toList gp k) gp = false) => ffO_all h)
      have OLD := Lib.hid (show fre (orb s.data.toList gp p) gp = fre (orb s.data.toList gp q) gp by rw [hP.2.2.1])
      have E2 := Lib.hid (fun k => show orb s.data.toList gp (k + 1) = tk (orb s.data.toList gp k) gp from rfl)
      have L0 := Lib.hid (show s = ofL (orb s.data.toList gp 0) from (of_list s).symm)
      have hqp := hP.1
      have hp := hP.2.1
      have w1 : IntKind.i64.wrap ((q : Int) + ((p : Int) - (q : Int))) = (p : Int) := by rw [IntKind.wrap_i64] <;> omega
      clear hb hl hP hR hc tp
      obtain ⟨l, hl⟩ : ∃ l, s.data.toList = l := ⟨_, rfl⟩
      rw [hl] at TR TP HR TT TF HIT MISS OLD E2 L0 hc0
      clear hl
      go_enter Tryd.func42, Tryd.ntmps42
      go_wp2_with (first | (go_at_call 57; refine (TA _).mono ?_; rintro e w' ⟨rfl, rfl⟩) | (go_at_call 55; refine (TR.out _).mono ?_; rintro e w' ⟨rfl, rfl⟩))
      refine (TP.out _).mono ?_
      rintro e w1 ⟨rfl, h1⟩
      have H1 := Lib.hid h1
      clear h1
      go_wp2_with fail
      go_loopw [0, 9] (fun a i wr => ∃ k : Nat, k ≤ p + 1 ∧ i = .int .i64 k ∧ a = .string (ofL (orb l gp k)) ∧ Hid (∀ j, j < k → fre (orb l gp j) gp = false) ∧ Below w.heap.size w wr) (fun _ i _ => p + 1 - (intOf i).toNat)
      case atStart => exact ⟨0, Nat.zero_le _, rfl, by rw [← L0.out], Lib.hid fun j hj => absurd hj (by omega), H1.out⟩
      case round =>
        obtain ⟨k, hk, rfl, rfl, hN, hB⟩ := hrel
        have HB := Lib.hid hB
        clear hB
        have TFk := TF.out k
        by_cases hlt : k < p + 1
        · have hle : (k : Int) ≤ (p : Int) := by omega
          cases hf : fre (orb l gp k) gp
          · rw [hf] at TFk
            have ST := Lib.hid (fun j (hj : j < k + 1) => show fre (orb l gp j) gp = false by
              by_cases e : j = k
              · rw [e]; exact hf
              · exact hN.out j (by omega))
            have TTk := Lib.hid (TT.out k)
            clear hf
            go_wp2_with (go_at_call 74; refine (TFk _).mono ?_; rintro e w' ⟨rfl, rfl⟩)
            refine (TTk.out _).mono ?_
            rintro e w2 ⟨rfl, h2⟩
            have HB2 := Lib.hid (HB.out.trans (h2.mono HB.out.size))
            clear h2
            go_wp2_with fail
            go_roundw
            case rel => exact ⟨k + 1, by omega, by go_num, by rw [E2.out], ST, HB2.out⟩
            case measure => simp [intOf]; omega
          · rw [hf] at TFk
            have hkp : k < p := by
              refine Classical.byContradiction fun hn => ?_
              have e : k = p := by omega
              rw [e, OLD.out, hN.out q (by omega)] at hf
              cases hf
            have E := Lib.hid (HR.out.trans (HIT.out k hkp hN.out hf))
            clear hf
            go_wp2_with (go_at_call 74; refine (TFk _).mono ?_; rintro e w' ⟨rfl, rfl⟩)
            go_ret2
            exact ⟨rI (by rw [ffI, E.out]; rfl) (by rw [ffB, E.out]; rfl), HB.out⟩
        · obtain rfl : k = p + 1 := by omega
          have hgt : ¬ ((p + 1 : Nat) : Int) ≤ (p : Int) := by omega
          have E := Lib.hid (HR.out.trans (MISS.out fun j hj => hN.out j (by omega)))
          go_wp2_with fail
          go_ret2
          exact ⟨rI (by rw [ffI, E.out]; rfl) (by rw [ffB, E.out]; rfl), HB.out⟩

end Go.Proofs.YtogimjbjdgccnaaDoor
