/- Contracts of the model and of the program: which texts are lines, how many trains are on them; of the model: which signals are green. -/
import Derived.Test.YtogimjbjdgccnaaDoorLnT
import Derived.Test.YtogimjbjdgccnaaDoorRn
import Derived.Test.YtogimjbjdgccnaaDoorShelf
import Derived.Test.YtogimjbjdgccnaaDoorCrA
import Derived.Shelf.Strings.SlTrimAscii
import Derived.WalkSpells
namespace Go.Proofs.YtogimjbjdgccnaaDoor
open Go.ChangeShapes Go.WideShapes Go.ChangeAt Go.RowKit
open Ln

set_option linter.unusedVariables false

theorem sz_list (s : ByteArray) : s.data.toList.length = s.size := by simp

theorem at_list (s : ByteArray) (k : Nat) (h : k < s.size) : s.data.toList[k]? = some s[k] := by
  rw [List.getElem?_eq_getElem (by rw [sz_list]; exact h)]; rfl

theorem tr_at (s : ByteArray) (k : Nat) (h : k < s.size) : tr s.data.toList k = (s[k] == 84) := tr_of (at_list s k h)
where tr_of {l : List UInt8} {i : Nat} {c : UInt8} (h : l[i]? = some c) : tr l i = (c == 84) := by rw [tr, List.getD, h]; rfl

theorem byte_T {c : UInt8} (h : c = 84) : ((c.toNat : Nat) : Int) = 84 := by rw [h]; rfl

theorem byte_E {c : UInt8} (h : c = 46) : ((c.toNat : Nat) : Int) = 46 := by rw [h]; rfl

theorem byte_nT {c : UInt8} (h : c ≠ 84) : (((c.toNat : Nat) : Int) == 84) = false := by
  rw [beq_eq_false_iff_ne]
  intro e
  exact h (UInt8.toNat_inj.1 (by show c.toNat = 84; omega))

theorem byte_nE {c : UInt8} (h : c ≠ 46) : (((c.toNat : Nat) : Int) == 46) = false := by
  rw [beq_eq_false_iff_ne]
  intro e
  exact h (UInt8.toNat_inj.1 (by show c.toNat = 46; omega))

/-- A byte of a line. -/
theorem ln_byte {s : ByteArray} (h : LnOk s.data.toList) {k : Nat} (hk : k < s.size) : (tr s.data.toList k = true ∧ s[k] = 84) ∨ (tr s.data.toList k = false ∧ s[k] = 46) := by
  rcases h.tt k _ (at_list s k hk) with e | e
  · left; rw [tr_at s k hk, e]; exact ⟨rfl, rfl⟩
  · right; rw [tr_at s k hk, e]; exact ⟨rfl, rfl⟩

theorem lnB_no {s : ByteArray} {k : Nat} (h : k < s.size) (h1 : s[k] ≠ 84) (h2 : s[k] ≠ 46) : lnB s.data.toList = false := by
  have hm : s[k] ∈ s.data.toList := List.mem_of_getElem? (at_list s k h)
  have : s.data.toList.all lnb = false := by
    rw [List.all_eq_false]
    exact ⟨s[k], hm, by simp [lnb, h1, h2]⟩
  simp [lnB, this]

theorem lnB_out {s : ByteArray} (h : inB s.size 1 24 = false) : lnB s.data.toList = false := by
  simp only [inB, decide_eq_false_iff_not] at h
  have : ¬ (1 ≤ s.size ∧ s.size ≤ 24) := by omega
  simp [lnB, this]

theorem lnB_in {s : ByteArray} (h : inB s.size 1 24 = true) : lnB s.data.toList = s.data.toList.all lnb := by
  simp only [inB, decide_eq_true_eq] at h
  have : 1 ≤ s.size ∧ s.size ≤ 24 := by omega
  simp [lnB, this]

set_option maxRecDepth 100000 in
theorem tnGood_any (s : ByteArray) (hs : s.size ≤ 1048576) (w : World) :
    Calls Tryd.prog 52 #[.string s] w fun e w' => e = .returned (.bool (lnB s.data.toList)) ∧ w = w' := by
  cases hi : inB s.size 1 24
  · have HO := Lib.hid (lnB_out hi)
    go_enter Tryd.func52, Tryd.ntmps52
    go_wp2_with (go_at_call 77; refine (l1In_any _ _ _ _).mono ?_; rintro e w' ⟨rfl, rfl⟩)
    go_ret
    exact ⟨by rw [HO.out]; rfl, rfl⟩
  · have HO := Lib.hid (lnB_in hi)
    go_enter Tryd.func52, Tryd.ntmps52
    go_wp2_with (go_at_call 77; refine (l1In_any _ _ _ _).mono ?_; rintro e w' ⟨rfl, rfl⟩)
    go_loop [3] (fun i => ∃ k : Nat, k ≤ s.size ∧ i = .int .i64 k ∧ ∀ j c, j < k → s.data.toList[j]? = some c → lnb c = true) (fun i => s.size - (intOf i).toNat)
    case atStart => exact ⟨0, Nat.zero_le _, rfl, fun j c hj => absurd hj (by omega)⟩
    case round =>
      obtain ⟨k, hk, rfl, hall⟩ := hrel
      have HA := Lib.hid hall
      clear hall
      by_cases hlt : k < s.size
      · have hat := at_list s k hlt
        by_cases h1 : s[k] = 84
        · have HN := Lib.hid (show ∀ j c, j < k + 1 → s.data.toList[j]? = some c → lnb c = true from fun j c hj hc => by
            by_cases e : j = k
            · subst e; rw [hat] at hc; injection hc with hc; rw [← hc, h1]; rfl
            · exact HA.out j c (by omega) hc)
          have b1 := byte_T h1
          clear hat h1
          go_wp2_with fail
          go_round
          case rel => exact ⟨k + 1, by omega, by go_num, HN.out⟩
          case measure => simp [intOf]; omega
        · by_cases h2 : s[k] = 46
          · have HN := Lib.hid (show ∀ j c, j < k + 1 → s.data.toList[j]? = some c → lnb c = true from fun j c hj hc => by
              by_cases e : j = k
              · subst e; rw [hat] at hc; injection hc with hc; rw [← hc, h2]; rfl
              · exact HA.out j c (by omega) hc)
            have b1 := byte_E h2
            clear hat h1 h2
            go_wp2_with fail
            go_round
            case rel => exact ⟨k + 1, by omega, by go_num, HN.out⟩
            case measure => simp [intOf]; omega
          · have HR := Lib.hid (lnB_no hlt h1 h2)
            have b1 := byte_nT h1
            have b2 := byte_nE h2
            have b3 : (((s[k].toNat : Nat) : Int) != 84) = true := by rw [bne, b1]; rfl
            have b4 : (((s[k].toNat : Nat) : Int) != 46) = true := by rw [bne, b2]; rfl
            clear hat h1 h2
            go_wp2_with fail
            go_ret
            exact ⟨by rw [HR.out]; rfl, rfl⟩
      · have HR := Lib.hid (show lnB s.data.toList = true from HO.out.trans (List.all_eq_true.2 fun c hc => by
          obtain ⟨j, hj⟩ := List.getElem?_of_mem hc
          have := (List.getElem?_eq_some_iff.1 hj).1
          rw [sz_list] at this
          exact HA.out j c (by omega) hj))
        go_wp2_with fail
        go_ret
        exact ⟨by rw [HR.out]; rfl, rfl⟩

set_option maxRecDepth 100000 in
theorem trim_any (s : ByteArray) (hs : s.size ≤ 1048576) (w : World) :
    Calls Tryd.prog 54 #[.string s, .string ⟨#[84, 46]⟩] w fun e w' => e = .returned (.string ⟨(Lib.trimS s.data.toList [84, 46]).toArray⟩) ∧ Below w.heap.size w w' :=
  Any.strings_Trim_laid Tryd.lays160 (by kernel_rfl) s ⟨#[84, 46]⟩ w (by omega) (by decide) (ascii_of_all (by decide))

set_option maxRecDepth 100000 in
theorem imIsLine (s : ByteArray) (hs : s.size ≤ 1048576) (w : World) :
    Calls Tryd.prog 19 #[.string s] w fun e w' => e = .returned (.bool (lnB s.data.toList)) ∧ Below w.heap.size w w' := by
  cases hi : inB s.size 1 24
  · have HO := Lib.hid (lnB_out hi)
    go_enter Tryd.func19, Tryd.ntmps19
    go_wp2_with (go_at_call 53; refine (isInRange_any _ _ _ _).mono ?_; rintro e w' ⟨rfl, rfl⟩)
    go_ret
    exact ⟨by rw [HO.out]; rfl, Below.refl _ _⟩
  · have HO := Lib.hid (lnB_in hi)
    have hT := trim_any s hs
    obtain ⟨Y, hY⟩ : ∃ Y, (⟨(Lib.trimS s.data.toList [84, 46]).toArray⟩ : ByteArray) = Y := ⟨_, rfl⟩
    have hq : (Y.toList == []) = s.data.toList.all lnb := by
      rw [Bool.eq_iff_iff, beq_iff_eq, ByteArray.toList_eq, ← hY]
      simpa using trim_nil s.data.toList
    have hq2 : ([] == Y.toList) = s.data.toList.all lnb := by rw [← hq]; cases Y.toList <;> rfl
    rw [hY] at hT
    have HT := Lib.hid hT
    generalize s.data.toList.all lnb = R at *
    clear hT hY
    go_enter Tryd.func19, Tryd.ntmps19
    go_wp2_with (first | (go_at_call 53; refine (isInRange_any _ _ _ _).mono ?_; rintro e w' ⟨rfl, rfl⟩) | (go_at_call 54; refine (HT.out _).mono ?_; rintro e w1 ⟨rfl, h1⟩; have H1 := Lib.hid h1; clear h1))
    go_ret
    exact ⟨by rw [HO.out]; rfl, H1.out⟩

theorem tr_take {s : ByteArray} {k : Nat} (h : k < s.size) : cnt 84 (s.data.toList.take (k + 1)) = cnt 84 (s.data.toList.take k) + (if tr s.data.toList k then 1 else 0) := by
  rw [take_snoc s k h, cnt_snoc, tr_at s k h]

set_option maxRecDepth 100000 in
theorem tnTrains_any (s : ByteArray) (hl : LnOk s.data.toList) (w : World) :
    Calls Tryd.prog 55 #[.string s] w fun e w' => e = .returned (.int .i64 (cnt 84 s.data.toList : Nat)) ∧ w = w' := by
  have hs : s.size ≤ 24 := by rw [← sz_list]; exact hl.n24
  have HL := Lib.hid hl
  clear hl
  go_enter Tryd.func55, Tryd.ntmps55
  go_wp2_with fail
  go_loop [3, 4] (fun n i => ∃ k : Nat, k ≤ s.size ∧ i = .int .i64 k ∧ n = .int .i64 (cnt 84 (s.data.toList.take k) : Nat)) (fun _ i => s.size - (intOf i).toNat)
  case atStart => exact ⟨0, Nat.zero_le _, rfl, rfl⟩
  case round =>
    obtain ⟨k, hk, rfl, rfl⟩ := hrel
    have hle := cnt_le 84 (s.data.toList.take k)
    have hl : (s.data.toList.take k).length ≤ k := List.length_take_le _ _
    by_cases hlt : k < s.size
    · have HT := Lib.hid (tr_take hlt)
      rcases ln_byte HL.out hlt with ⟨h1, h2⟩ | ⟨h1, h2⟩
      · have b1 := byte_T h2
        have H1 := Lib.hid h1
        clear h1 h2
        go_wp2_with fail
        go_round
        case rel => exact ⟨k + 1, by omega, by go_num, by rw [HT.out, H1.out]; go_num⟩
        case measure => simp [intOf]; omega
      · have b1 := byte_E h2
        have H1 := Lib.hid h1
        clear h1 h2
        go_wp2_with fail
        go_round
        case rel => exact ⟨k + 1, by omega, by go_num, by rw [HT.out, H1.out]; rfl⟩
        case measure => simp [intOf]; omega
    · go_wp2_with fail
      go_ret
      exact ⟨by rw [take_all s hlt]; rfl, rfl⟩

set_option maxRecDepth 100000 in
theorem tnAsked_any (s : ByteArray) (g : Int) (hs : s.size ≤ 1048576) (w : World) :
    Calls Tryd.prog 57 #[.string s, .int .i64 g] w fun e w' => e = .returned (.bool (lnB s.data.toList && inB g 1 3)) ∧ w = w' := by
  cases hb : lnB s.data.toList
  · have HB := Lib.hid hb
    have TG := tnGood_any s hs
    rw [hb] at TG
    clear hb
    go_enter Tryd.func57, Tryd.ntmps57
    go_wp2_with (go_at_call 52; refine (TG _).mono ?_; rintro e w' ⟨rfl, rfl⟩)
    go_ret
    exact ⟨rfl, rfl⟩
  · have TG := tnGood_any s hs
    rw [hb] at TG
    clear hb
    go_enter Tryd.func57, Tryd.ntmps57
    go_wp2_with (first | (go_at_call 52; refine (TG _).mono ?_; rintro e w' ⟨rfl, rfl⟩) | (go_at_call 77; refine (l1In_any _ _ _ _).mono ?_; rintro e w' ⟨rfl, rfl⟩))
    go_ret
    exact ⟨rfl, rfl⟩

set_option maxRecDepth 100000 in
theorem tnGreen_any (s : ByteArray) (i gp : Nat) (hl : LnOk s.data.toList) (hi : i < s.size) (hg1 : 1 ≤ gp) (hg3 : gp ≤ 3) (w : World) :
    Calls Tryd.prog 58 #[.string s, .int .i64 i, .int .i64 gp] w fun e w' => e = .returned (.bool (grn s.data.toList gp i)) ∧ w = w' := by
  have hs : s.size ≤ 24 := by rw [← sz_list]; exact hl.n24
  have hz := sz_list s
  by_cases h1 : s.size = 1
  · have HG := Lib.hid (show grn s.data.toList gp i = false by rw [grn, hz, h1]; rfl)
    have hz1 : ((s.size : Int) == 1) = true := by rw [h1]; rfl
    clear hl hz h1
    go_enter Tryd.func58, Tryd.ntmps58
    go_wp2_with fail
    go_ret
    exact ⟨by rw [HG.out]; rfl, rfl⟩
  · have hz1 : ((s.size : Int) == 1) = false := by simp; omega
    have h2 : 2 ≤ s.size := by omega
    have HG := Lib.hid (show grn s.data.toList gp i = clr s.data.toList gp i by rw [grn, hz]; simp [h2])
    have CA := Lib.hid (fun (h : ∀ j, j < min gp (s.size - 1) → tr s.data.toList ((i + (j + 1)) % s.size) = false) => show clr s.data.toList gp i = true from clr_all (s := min gp (s.size - 1)) (by rw [hz]) (by rw [hz]; exact h))
    have CN := Lib.hid (fun (k : Nat) (hk : k < min gp (s.size - 1)) (h : tr s.data.toList ((i + (k + 1)) % s.size) = true) => show clr s.data.toList gp i = false from clr_not (s := min gp (s.size - 1)) (by rw [hz]) hk (by rw [hz]; exact h))
    have BY := Lib.hid (fun (j : Nat) (hj : j < s.size) => ln_byte hl hj)
    have n0 : ((s.size : Int) == 0) = false := beq_eq_false_iff_ne.2 (by omega)
    clear hl hz h1
    go_enter Tryd.func58, Tryd.ntmps58
    go_wp2_with fail
    go_loop [8] (fun v => ∃ k : Nat, k ≤ min gp (s.size - 1) ∧ v = .int .i64 ((k : Int) + 1) ∧ ∀ j, j < k → tr s.data.toList ((i + (j + 1)) % s.size) = false) (fun v => gp + 1 - (intOf v).toNat)
    case atStart => exact ⟨0, Nat.zero_le _, rfl, fun j hj => absurd hj (by omega)⟩
    case round =>
      obtain ⟨k, hk, rfl, hall⟩ := hrel
      have HA := Lib.hid hall
      clear hall
      have k0 : (0 : Int) ≤ (k : Int) := by omega
      by_cases hlt : k < min gp (s.size - 1)
      · have c1 : (k : Int) + 1 ≤ (gp : Int) := by omega
        have c2 : (k : Int) + 1 < (s.size : Int) := by omega
        have hrm := rem_nat (i + (k + 1)) s.size
        rw [show ((i + (k + 1) : Nat) : Int) = (i : Int) + ((k : Int) + 1) by omega] at hrm
        have hml : (i + (k + 1)) % s.size < s.size := Nat.mod_lt _ (by omega)
        have hw1 : IntKind.i64.wrap ((i : Int) + ((k : Int) + 1)) = (i : Int) + ((k : Int) + 1) := by rw [IntKind.wrap_i64]; omega
        have HN := Lib.hid (fun (h : tr s.data.toList ((i + (k + 1)) % s.size) = false) => show ∀ j, j < k + 1 → tr s.data.toList ((i + (j + 1)) % s.size) = false from fun j hj => by
          by_cases e : j = k
          · rw [e]; exact h
          · exact HA.out j (by omega))
        have HY := Lib.hid (CN.out k hlt)
        have hby := BY.out _ hml
        generalize (i + (k + 1)) % s.size = m at *
        rcases hby with ⟨q1, q2⟩ | ⟨q1, q2⟩
        · have b1 := byte_T q2
          have HR := Lib.hid (HY.out q1)
          clear q1 q2
          go_wp2_with fail
          go_ret
          exact ⟨by rw [HG.out, HR.out]; rfl, rfl⟩
        · have b1 := byte_E q2
          have HR := Lib.hid (HN.out q1)
          clear q1 q2
          go_wp2_with fail
          go_round
          case rel => exact ⟨k + 1, by omega, by go_num, HR.out⟩
          case measure => simp [intOf]; omega
      · have HR := Lib.hid (CA.out fun j hj => HA.out j (by omega))
        by_cases c1 : (k : Int) + 1 ≤ (gp : Int)
        · have c2 : ¬ ((k : Int) + 1 < (s.size : Int)) := by omega
          go_wp2_with fail
          go_ret
          exact ⟨by rw [HG.out, HR.out]; rfl, rfl⟩
        · go_wp2_with fail
          go_ret
          exact ⟨by rw [HG.out, HR.out]; rfl, rfl⟩

end Go.Proofs.YtogimjbjdgccnaaDoor
