/- Contracts: the model's reading of numbers. -/
import Derived.Test.YtoaccnpkobbaaaaDoorRdM
import Derived.Test.YtoaccnpkobbaaaaDoorIn
import Derived.BigQuiet
import Derived.WalkSpells
namespace Go.Proofs.YtoaccnpkobbaaaaDoor
open Go.ChangeShapes Go.WideShapes Go.ChangeAt Go.RowKit

set_option linter.unusedVariables false

theorem gt_of {s : ByteArray} {i : Nat} {c : UInt8} (h : s.data.toList[i]? = some c) (hi : i < s.size) : s[i]'hi = c := by
  obtain ⟨h1, h2⟩ := List.getElem?_eq_some_iff.1 h
  exact h2

theorem rd_bad {s : ByteArray} {i : Nat} {c : UInt8} (h : s.data.toList[i]? = some c) (hc : isG c = false) : rdB s.data.toList = false := by
  have : s.data.toList.all isG = false := by
    rw [List.all_eq_false]
    exact ⟨c, List.mem_of_getElem? h, by simp [hc]⟩
  simp [rdB, this]

set_option maxRecDepth 100000 in
set_option maxHeartbeats 1600000 in
theorem l1Read_any (s : ByteArray) (hs : s.size ≤ 1048576) (w : World) :
    Calls Tryd.prog 25 #[.string s] w fun e w' => e = .returned (.int .i64 (rdV s.data.toList)) ∧ Below w.heap.size w w' := by
  cases hin : inB s.size 1 6
  · have HR := Lib.hid (rdV_no (l := s.data.toList) (by
      have h2 : ¬ (1 ≤ s.data.toList.length ∧ s.data.toList.length ≤ 6) := by
        intro h
        rw [size_list] at h
        have h3 : inB s.size 1 6 = true := by simp only [inB, decide_eq_true_eq]; omega
        rw [hin] at h3; cases h3
      simp only [rdB, h2, decide_false, Bool.false_and]))
    go_enter Tryd.func25, Tryd.ntmps25
    go_wp2_with (go_at_call 32; refine (l1In_any _ _ _ _).mono ?_; rintro e w' ⟨rfl, rfl⟩)
    go_ret
    exact ⟨by rw [HR.out]; rfl, by go_grown⟩
  · have hb : 1 ≤ s.size ∧ s.size ≤ 6 := by
      simp only [inB, decide_eq_true_eq] at hin
      omega
    obtain ⟨c0, hc0⟩ : ∃ c, s.data.toList[0]? = some c := ⟨_, List.getElem?_eq_getElem (by rw [size_list]; omega)⟩
    have g0 : ∀ h : 0 < s.size, s[0]'h = c0 := fun h => gt_of hc0 h
    have hh : s.data.toList.head? = some c0 := by rw [List.head?_eq_getElem?]; exact hc0
    have k0 : (0 : Int) < (s.size : Int) := by omega
    by_cases hz : c0 = 48 ∧ 1 < s.size
    · have HR := Lib.hid (rdV_no (l := s.data.toList) (by
        have h2 : (decide (s.data.toList.head? = some 48) && decide (1 < s.data.toList.length)) = true := by rw [hh, hz.1, size_list]; simp [hz.2]
        simp only [rdB, h2, Bool.not_true, Bool.and_false, Bool.false_and]))
      have m1 : (1 : Int) < (s.size : Int) := by omega
      have m2 : ((c0.toNat : Int) == 48) = true := by rw [hz.1]; rfl
      clear hz hh hc0
      go_enter Tryd.func25, Tryd.ntmps25
      go_wp2_with (go_at_call 32; refine (l1In_any _ _ _ _).mono ?_; rintro e w' ⟨rfl, rfl⟩)
      go_ret
      exact ⟨by rw [HR.out]; rfl, by go_grown⟩
    have HZ := Lib.hid hz
    have HRB := Lib.hid (show s.data.toList.all isG = true → rdB s.data.toList = true by
      intro h
      have h2 : (decide (s.data.toList.head? = some 48) && decide (1 < s.data.toList.length)) = false := by
        rw [Bool.and_eq_false_iff, decide_eq_false_iff_not, decide_eq_false_iff_not, size_list, hh]
        by_cases h3 : c0 = 48
        · exact .inr (fun h4 => hz ⟨h3, h4⟩)
        · exact .inl (fun h4 => h3 (Option.some.inj h4))
      rw [rdB, h2, h]
      simp only [Bool.not_false, Bool.and_true, decide_eq_true_eq, size_list]
      exact hb)
    have hcond : (¬ (c0 = 48) ∧ ((c0.toNat : Int) == 48) = false) ∨ ((c0.toNat : Int) == 48) = true ∧ ¬ (1 : Int) < (s.size : Int) := by
      by_cases h3 : c0 = 48
      · exact .inr ⟨by rw [h3]; rfl, fun h4 => hz ⟨h3, by omega⟩⟩
      · refine .inl ⟨h3, ?_⟩
        simp only [beq_eq_false_iff_ne, ne_eq]
        intro h4
        apply h3
        rw [← UInt8.toNat_inj]
        have h48 : (48 : UInt8).toNat = 48 := rfl
        omega
    clear hz hh hc0
    rcases hcond with ⟨_, m2⟩ | ⟨m2, m3⟩
    all_goals
      go_enter Tryd.func25, Tryd.ntmps25
      go_wp2_with (go_at_call 32; refine (l1In_any _ _ _ _).mono ?_; rintro e w' ⟨rfl, rfl⟩)
      go_loopw [3, 4] (fun v3 v4 wr => ∃ i N : Nat, i ≤ s.size ∧ v4 = .int .i64 (i : Int) ∧ v3 = .int .i64 (N : Int) ∧ N = gval (s.data.toList.take i) ∧ (∀ c ∈ s.data.toList.take i, isG c = true) ∧ Below w.heap.size w wr) (fun _ v4 _ => s.size - (intOf v4).toNat)
      case atStart => exact ⟨0, 0, Nat.zero_le _, rfl, rfl, rfl, by simp, Below.refl _ _⟩
      case round =>
        obtain ⟨i, N, hi, rfl, rfl, hN, hG, hbw⟩ := hrel
        have hNb : N < 1000000 := by
          have h1 := gval_lt i (s.data.toList.take i) (by rw [List.length_take, size_list]; omega) hG
          have h2 : 10 ^ i ≤ 10 ^ 6 := Nat.pow_le_pow_right (by decide) (by omega)
          omega
        have HG := Lib.hid hG
        have HN := Lib.hid hN
        by_cases hlt : i < s.size
        · obtain ⟨d, hd⟩ : ∃ d, s.data.toList[i]? = some d := ⟨_, List.getElem?_eq_getElem (by rw [size_list]; exact hlt)⟩
          have gd : ∀ h : i < s.size, s[i]'h = d := fun h => gt_of hd h
          have HD := Lib.hid hd
          have n0 : (0 : Int) ≤ (i : Int) := by omega
          have n1 : (i : Int) < (s.size : Int) := by omega
          cases hg : isG d
          · have HR := Lib.hid (rdV_no (rd_bad hd hg))
            have hor : (d.toNat : Int) < 48 ∨ (¬ (d.toNat : Int) < 48 ∧ (57 : Int) < (d.toNat : Int)) := by
              simp only [isG, decide_eq_false_iff_not] at hg
              omega
            clear hd hg hN hG
            rcases hor with n2 | ⟨n2, n3⟩
            all_goals
              go_wp2_with fail
              go_ret
              exact ⟨by rw [HR.out]; rfl, hbw⟩
          · obtain ⟨q1, q2⟩ := isG_bd hg
            have n2 : ¬ (d.toNat : Int) < 48 := by omega
            have n3 : ¬ (57 : Int) < (d.toNat : Int) := by omega
            obtain ⟨M, hM⟩ : ∃ M, 10 * N = M := ⟨_, rfl⟩
            obtain ⟨q, hq⟩ : ∃ q, d.toNat - 48 = q := ⟨_, rfl⟩
            have w1 : IntKind.i64.wrap (10 * (N : Int)) = (M : Int) := by rw [IntKind.wrap_i64]; omega
            have w2 : IntKind.u8.wrap ((d.toNat : Int) - 48) = (q : Int) := by rw [IntKind.wrap_u8]; omega
            have w3 : IntKind.i64.wrap (q : Int) = (q : Int) := by rw [IntKind.wrap_i64]; omega
            have w4 : IntKind.i64.wrap ((M : Int) + (q : Int)) = ((M + q : Nat) : Int) := by rw [IntKind.wrap_i64]; omega
            have w5 : IntKind.i64.wrap ((i : Int) + 1) = ((i + 1 : Nat) : Int) := by rw [IntKind.wrap_i64]; omega
            have e1 : s.data.toList.take (i + 1) = s.data.toList.take i ++ [d] := by
              obtain ⟨h1, h2⟩ := List.getElem?_eq_some_iff.1 hd
              rw [List.take_succ_eq_append_getElem h1, h2]
            have H3 := Lib.hid (show M + q = gval (s.data.toList.take (i + 1)) by rw [e1, gval_snoc, ← hN, hM, hq])
            have H4 := Lib.hid (show ∀ c ∈ s.data.toList.take (i + 1), isG c = true by
              rw [e1]
              intro c hc
              rcases List.mem_append.1 hc with hc | hc
              · exact hG c hc
              · rw [List.mem_singleton.1 hc]; exact hg)
            clear hd hg hN hG hM hq e1
            go_wp2_with fail
            exact ⟨⟨i + 1, M + q, by omega, by go_num, by go_num, H3.out, H4.out, hbw⟩, by simp [intOf]; omega⟩
        · have HR := Lib.hid (show rdV s.data.toList = (N : Int) by
            have e1 : s.data.toList.take i = s.data.toList := List.take_of_length_le (by rw [size_list]; omega)
            rw [e1] at hN hG
            rw [rdV_yes (HRB.out (List.all_eq_true.2 hG)), hN])
          have n1 : ¬ (i : Int) < (s.size : Int) := by omega
          clear hN hG
          go_wp2_with fail
          go_ret
          exact ⟨by rw [HR.out]; rfl, hbw⟩

theorem ret_pi {l : List UInt8} {n : Int} {b : Bool} (hn : piV l = n) (hb : piB l = b) : Ending.returned (.tuple #[.int .i64 n, .bool b]) = Ending.returned (.tuple #[.int .i64 (piV l), .bool (piB l)]) := by rw [hn, hb]

theorem rdV_bd (l : List UInt8) : -1 ≤ rdV l ∧ rdV l ≤ 999999 := by
  cases h : rdB l
  · rw [rdV_no h]; omega
  · rw [rdV_yes h]
    have := (rd_back h).2
    omega

theorem rdB_V (l : List UInt8) : rdB l = decide (0 ≤ rdV l) := by
  cases h : rdB l
  · rw [rdV_no h]; rfl
  · rw [rdV_yes h]; simp

theorem ex_tail {s : ByteArray} {d : UInt8} {l : List UInt8} (h : s.data.toList = d :: l) : s.extract 1 s.size = ofL l := by
  have h2 : (s.extract 1 s.size).data.toList = l := by
    rw [Lib.extract_data, h]
    have : s.size = l.length + 1 := by rw [← size_list, h]; rfl
    simp [this]
  rw [← ofL_self (s.extract 1 s.size), h2]

end Go.Proofs.YtoaccnpkobbaaaaDoor
