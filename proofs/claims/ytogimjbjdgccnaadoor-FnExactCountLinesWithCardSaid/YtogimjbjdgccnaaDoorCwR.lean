/- Lines counted: the program's contract. -/
import Derived.Test.YtogimjbjdgccnaaDoorCwQ
namespace Go.Proofs.YtogimjbjdgccnaaDoor
open Go.ChangeShapes Go.WideShapes Go.ChangeAt Go.RowKit
open Ln

set_option linter.unusedVariables false

theorem take_cnt {t gp k : Nat} {L : List (List UInt8)} {l : List UInt8} (h : L[k]? = some l) : (L.take (k + 1)).countP (cwP t gp) = (L.take k).countP (cwP t gp) + (if cwP t gp l then 1 else 0) := by
  rw [List.take_add_one, h, List.countP_append]
  simp [List.countP_cons]

theorem fre_dec (l : List UInt8) (gp : Nat) : fre l gp = !decide (cnt 114 (sg l gp) ≠ 0) := by
  have b := fre_iff l gp
  by_cases e : cnt 114 (sg l gp) = 0
  · rw [b.2 e, e]; rfl
  · cases h : fre l gp
    · simp [e]
    · exact absurd (b.1 h) e

theorem ask_on {l : List UInt8} {gp : Nat} (hl : LnOk l) (h1 : 1 ≤ gp) (h3 : gp ≤ 3) : askB (ofL l) gp = true := by
  rw [askB, ofL_list, (lnB_iff l).2 hl]
  simp [inB]
  omega

set_option maxRecDepth 100000 in
set_option maxHeartbeats 3200000 in
theorem imCw_yes (n t gp : Nat) (hn1 : 1 ≤ n) (hn : n ≤ 10) (ht : t ≤ n) (hg1 : 1 ≤ gp) (hg3 : gp ≤ 3) (w : World) :
    Calls Tryd.prog 51 #[.int .i64 n, .int .i64 t, .int .i64 gp] w fun e w' => e = .returned (.tuple #[.int .i64 (cwN n t gp : Nat), .bool true]) ∧ Below w.heap.size w w' := by
  have I1 := isInRange_any n 1 10
  have I2 := isInRange_any t 0 n
  have I3 := isInRange_any gp 1 3
  rw [show inB (n : Int) 1 10 = true by simp [inB]; omega] at I1
  rw [show inB (t : Int) 0 n = true by simp [inB]; omega] at I2
  rw [show inB (gp : Int) 1 3 = true by simp [inB]; omega] at I3
  have LO := Lib.hid (linesOf_any n hn)
  have EN := Lib.hid (show (allL n).countP (cwP t gp) = cwN n t gp from rfl)
  have LE := Lib.hid (allL_len n)
  have P2 := Lib.hid (show 2 ^ n ≤ 1024 from Nat.pow_le_pow_right (n := 2) (by decide) hn)
  have OK := Lib.hid (fun l (h : l ∈ allL n) => show LnOk l by obtain ⟨m, rfl⟩ := allL_in h; exact dgL_ok hn1 (by omega) m)
  have SG := Lib.hid (fun l (h : l ∈ allL n) w => show Calls Tryd.prog 23 #[.string (ofL l), .int .i64 gp] w fun e w' => e = .returned (.tuple #[.string (ofL (sg l gp)), .bool true]) ∧ Below w.heap.size w w' by
    have hl : LnOk l := OK.out l h
    have ha := ask_on (gp := gp) hl hg1 hg3
    have := imSignalsOf (ofL l) gp (by rw [ofL_size]; have := hl.n24; omega) w
    rw [sgR_yes ha, ha, ofL_list] at this
    exact this)
  have CT := Lib.hid (fun l w => show Calls Tryd.prog 56 #[.string (ofL l), .string ⟨#[84]⟩] w fun e w' => e = .returned (.int .i64 (cnt 84 l : Nat)) ∧ w = w' by
    have := count_any (ofL l) 84 w
    rwa [ofL_list] at this)
  have HS := Lib.hid (fun l w => has_any (sg l gp) 114 w)
  have FD := Lib.hid (fun l => fre_dec l gp)
  generalize allL n = L at *
  obtain ⟨N, hN⟩ : ∃ N, 2 ^ n = N := ⟨_, rfl⟩
  rw [hN] at LO LE P2
  go_enter Tryd.func51, Tryd.ntmps51
  go_wp2_with (first | (go_at_call 53; (with_reducible refine Calls.mono (I1 _) ?_); rintro e w' ⟨rfl, rfl⟩) | (go_at_call 53; (with_reducible refine Calls.mono (I2 _) ?_); rintro e w' ⟨rfl, rfl⟩) | (go_at_call 53; (with_reducible refine Calls.mono (I3 _) ?_); rintro e w' ⟨rfl, rfl⟩))
  refine (LO.out _).mono ?_
  rintro e w1 ⟨⟨g, cap, rfl, hg1', hg2, hgc, hcell⟩, h1⟩
  have HC := Lib.hid hcell
  have H1 := Lib.hid h1
  have p2 := P2.out
  clear hcell h1
  go_wp2_with fail
  go_loopw [8, 30] (fun o i wr => ∃ k : Nat, k ≤ N ∧ i = .int .i64 k ∧ o = .int .i64 ((L.take k).countP (cwP t gp) : Nat) ∧ Below w1.heap.size w1 wr) (fun _ i _ => N - (intOf i).toNat)
  case atStart => exact ⟨0, Nat.zero_le _, rfl, rfl, Below.refl _ _⟩
  case round =>
    obtain ⟨k, hk, rfl, rfl, hB⟩ := hrel
    have HB := Lib.hid hB
    have zb := hB.size
    have k0 : (0 : Int) ≤ (k : Int) := by omega
    have kl : (L.take k).countP (cwP t gp) ≤ k := Nat.le_trans List.countP_le_length (List.length_take_le _ _)
    by_cases hlt : k < N
    · obtain ⟨l, hl⟩ : ∃ l, L[k]? = some l := ⟨_, List.getElem?_eq_getElem (by rw [LE.out]; exact hlt)⟩
      have hm := List.mem_of_getElem? hl
      have hc2 := (hB.cell (p := ⟨g, k, none⟩) hg2).trans (HC.out k (.string (ofL l)) (by rw [alV, List.getElem?_map, hl]; rfl))
      have SGl := Lib.hid (SG.out l hm)
      have CTl := CT.out l
      have HSl := HS.out l
      have ks := take_cnt (t := t) (gp := gp) hl
      have cl : cnt 84 l ≤ 24 := Nat.le_trans (cnt_le _ _) (OK.out l hm).n24
      rw [cwP, FD.out] at ks
      clear hB hl hm
      generalize (L.take k).countP (cwP t gp) = K0 at *
      generalize cnt 84 l = C at *
      generalize decide (cnt 114 (sg l gp) ≠ 0) = F at *
      generalize ofL (sg l gp) = T at *
      generalize ofL l = S at *
      by_cases hc : C = t
      · have hc' : ((C : Int) == (t : Int)) = true := by rw [beq_iff_eq]; omega
        cases F
        · have KE := Lib.hid (show (L.take (k + 1)).countP (cwP t gp) = K0 + 1 by rw [ks, hc]; simp)
          go_wp2_with fail
          refine (SGl.out _).mono ?_
          rintro e w2 ⟨rfl, h2⟩
          have HB2 := Lib.hid (HB.out.trans (h2.mono zb))
          clear h2
          go_wp2_with (first | (go_at_call 56; refine (CTl _).mono ?_; rintro e w' ⟨rfl, rfl⟩) | (go_at_call 75; refine (HSl _).mono ?_; rintro e w' ⟨rfl, rfl⟩))
          go_roundw
          case rel => exact ⟨k + 1, by omega, by go_num, by rw [KE.out]; go_num, HB2.out⟩
          case measure => simp [intOf]; omega
        · have KE := Lib.hid (show (L.take (k + 1)).countP (cwP t gp) = K0 by rw [ks]; simp)
          go_wp2_with fail
          refine (SGl.out _).mono ?_
          rintro e w2 ⟨rfl, h2⟩
          have HB2 := Lib.hid (HB.out.trans (h2.mono zb))
          clear h2
          go_wp2_with (first | (go_at_call 56; refine (CTl _).mono ?_; rintro e w' ⟨rfl, rfl⟩) | (go_at_call 75; refine (HSl _).mono ?_; rintro e w' ⟨rfl, rfl⟩))
          go_roundw
          case rel => exact ⟨k + 1, by omega, by go_num, by rw [KE.out], HB2.out⟩
          case measure => simp [intOf]; omega
      · have hc' : ((C : Int) == (t : Int)) = false := beq_eq_false_iff_ne.2 (by omega)
        have KE := Lib.hid (show (L.take (k + 1)).countP (cwP t gp) = K0 by rw [ks]; simp [hc])
        go_wp2_with fail
        refine (SGl.out _).mono ?_
        rintro e w2 ⟨rfl, h2⟩
        have HB2 := Lib.hid (HB.out.trans (h2.mono zb))
        clear h2
        go_wp2_with (first | (go_at_call 56; refine (CTl _).mono ?_; rintro e w' ⟨rfl, rfl⟩) | (go_at_call 75; refine (HSl _).mono ?_; rintro e w' ⟨rfl, rfl⟩))
        go_roundw
        case rel => exact ⟨k + 1, by omega, by go_num, by rw [KE.out], HB2.out⟩
        case measure => simp [intOf]; omega
    · obtain rfl : k = N := by omega
      have hta : (L.take k).countP (cwP t gp) = cwN n t gp := by rw [List.take_of_length_le (by rw [LE.out]; exact Nat.le_refl _), EN.out]
      have HB2 := Lib.hid (H1.out.trans (HB.out.mono H1.out.size))
      have HT := Lib.hid hta
      clear hta hB
      go_wp2_with fail
      go_ret2
      exact ⟨rI (by rw [HT.out]) rfl, HB2.out⟩

theorem imCountLinesWith (n t g : Int) (w : World) :
    Calls Tryd.prog 51 #[.int .i64 n, .int .i64 t, .int .i64 g] w fun e w' => e = .returned (.tuple #[.int .i64 (cwR n t g), .bool (cwB n t g)]) ∧ Below w.heap.size w w' := by
  have I1 := isInRange_any n 1 10
  have I2 := isInRange_any t 0 n
  have I3 := isInRange_any g 1 3
  cases h1 : inB n 1 10
  · rw [h1] at I1
    have B := Lib.hid (show cwB n t g = false by rw [cwB, h1]; rfl)
    clear h1
    go_enter Tryd.func51, Tryd.ntmps51
    go_wp2_with (go_at_call 53; refine (I1 _).mono ?_; rintro e w' ⟨rfl, rfl⟩)
    go_ret2
    exact ⟨ret_cw B.out (cw_no B.out), Below.refl _ _⟩
  · rw [h1] at I1
    cases h2 : inB t 0 n
    · rw [h2] at I2
      have B := Lib.hid (show cwB n t g = false by rw [cwB, h1, h2]; rfl)
      clear h1 h2
      go_enter Tryd.func51, Tryd.ntmps51
      go_wp2_with (first | (go_at_call 53; (with_reducible refine Calls.mono (I1 _) ?_); rintro e w' ⟨rfl, rfl⟩) | (go_at_call 53; (with_reducible refine Calls.mono (I2 _) ?_); rintro e w' ⟨rfl, rfl⟩))
      go_ret2
      exact ⟨ret_cw B.out (cw_no B.out), Below.refl _ _⟩
    · rw [h2] at I2
      cases h3 : inB g 1 3
      · rw [h3] at I3
        have B := Lib.hid (show cwB n t g = false by rw [cwB, h1, h2, h3]; rfl)
        clear h1 h2 h3
        go_enter Tryd.func51, Tryd.ntmps51
        go_wp2_with (first | (go_at_call 53; (with_reducible refine Calls.mono (I1 _) ?_); rintro e w' ⟨rfl, rfl⟩) | (go_at_call 53; (with_reducible refine Calls.mono (I2 _) ?_); rintro e w' ⟨rfl, rfl⟩) | (go_at_call 53; (with_reducible refine Calls.mono (I3 _) ?_); rintro e w' ⟨rfl, rfl⟩))
        go_ret2
        exact ⟨ret_cw B.out (cw_no B.out), Below.refl _ _⟩
      · have B := show cwB n t g = true by rw [cwB, h1, h2, h3]; rfl
        simp only [inB, decide_eq_true_eq] at h1 h2 h3
        obtain ⟨a, rfl⟩ : ∃ a : Nat, n = a := ⟨n.toNat, by omega⟩
        obtain ⟨b, rfl⟩ : ∃ b : Nat, t = b := ⟨t.toNat, by omega⟩
        obtain ⟨c, rfl⟩ : ∃ c : Nat, g = c := ⟨g.toNat, by omega⟩
        have R : cwR a b c = (cwN a b c : Nat) := by rw [cwR, B]; rfl
        rw [B, R]
        exact imCw_yes a b c (by omega) (by omega) (by omega) (by omega) (by omega) w

end Go.Proofs.YtogimjbjdgccnaaDoor
