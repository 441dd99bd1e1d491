/- Contract: the model's text of the runs of a track. -/
import Derived.Test.YtamojnbhnbeecabDoorRuA
import Derived.BigQuiet
import Derived.WalkSpells
namespace Go.Proofs.YtamojnbhnbeecabDoor
open Go.ChangeShapes Go.WideShapes Go.ChangeAt Go.RowKit

set_option linter.unusedVariables false

def oneC (c : UInt8) : ByteArray := ofL [c]
theorem bdn {B : Nat} {w w' : World} (h : Below B w w') (n : Nat) : Below B w (w'.drewN n) := h.trans ⟨rfl, rfl, rfl, Nat.le_refl _, fun _ _ => rfl⟩
theorem get_of {s : ByteArray} {i : Nat} {c : UInt8} (h : s.data.toList[i]? = some c) (hi : i < s.size) : s[i]'hi = c := by
  obtain ⟨h1, h2⟩ := List.getElem?_eq_some_iff.1 h
  exact h2
theorem ru_ext {s : ByteArray} {i : Nat} {c : UInt8} (h : s.data.toList[i]? = some c) : s.extract i (i + 1) = oneC c := by
  have hi : i < s.size := by
    obtain ⟨h1, _⟩ := List.getElem?_eq_some_iff.1 h
    rw [← size_list]
    exact h1
  rw [ext_one s i hi, get_of h hi]
  rfl

set_option maxRecDepth 100000 in
set_option maxHeartbeats 1600000 in
theorem tkRuns_any (s : ByteArray) (hs : s.size ≤ 40) (w : World) :
    Calls Tryd.prog 10 #[.string s] w fun e w' => e = .returned (.string (ruS s)) ∧ Below w.heap.size w w' := by
  by_cases hz : s.size = 0
  · have HR := Lib.hid (show ruS s = ⟨#[45]⟩ by simp [ruS, hz])
    have hE : s.toList.isEmpty = true := by rw [Lib.toList_data]; exact List.isEmpty_iff.2 (List.eq_nil_of_length_eq_zero (by rw [size_list]; exact hz))
    go_enter Tryd.func10, Tryd.ntmps10
    go_wp2_with fail
    go_ret
    exact ⟨by rw [HR.out]; rfl, by go_grown⟩
  have HR := Lib.hid (show ruS s = ofL (runs s.data.toList) by simp [ruS, hz])
  have hE : s.toList.isEmpty = false := by rw [Lib.toList_data]; cases h : s.data.toList with | nil => exact absurd (by rw [← size_list, h]; rfl) hz | cons a l => rfl
  go_enter Tryd.func10, Tryd.ntmps10
  go_wp2_with fail
  go_loopw [3, 4] (fun o v wr => ∃ (i : Nat) (acc : List UInt8), i ≤ s.size ∧ v = .int .i64 i ∧ o = .string (ofL acc) ∧ acc ++ runs (s.data.toList.drop i) = runs s.data.toList ∧ acc.length ≤ 3 * i ∧ Below w.heap.size w wr) (fun _ v _ => s.size - (intOf v).toNat)
  case atStart => exact ⟨0, [], Nat.zero_le _, rfl, rfl, rfl, Nat.zero_le _, by go_grown⟩
  case round =>
    obtain ⟨i, acc, hi, rfl, rfl, ha, hl, hb⟩ := hrel
    have HA := Lib.hid ha
    have HB := Lib.hid hb
    clear ha hb
    by_cases hlt : i < s.size
    · obtain ⟨c, hc⟩ : ∃ c, s.data.toList[i]? = some c := ⟨_, List.getElem?_eq_getElem (by rw [size_list]; exact hlt)⟩
      have HC := Lib.hid hc
      clear hc
      go_wp2_with fail
      go_loopw [5] (fun v wx => ∃ n : Nat, 1 ≤ n ∧ i + n ≤ s.size ∧ v = .int .i64 n ∧ (∀ j, j < n → s.data.toList[i + j]? = some c) ∧ Below w.heap.size w wx) (fun v _ => s.size - (intOf v).toNat)
      case atStart => exact ⟨1, Nat.le_refl _, hlt, rfl, fun j hj => by obtain rfl : j = 0 := by omega
                                                                        exact HC.out, HB.out⟩
      case round =>
        obtain ⟨n, hn1, hin, rfl, hr, hbx⟩ := hrel
        have HN := Lib.hid hr
        have HX := Lib.hid hbx
        clear hr hbx
        have hwr : IntKind.i64.wrap ((i : Int) + (n : Int)) = (i : Int) + (n : Int) := by rw [IntKind.wrap_i64]; omega
        have k0 : (0 : Int) ≤ (i : Int) := by omega
        have k1 : (i : Int) < (s.size : Int) := by omega
        have k2 : (0 : Int) ≤ (i : Int) + (n : Int) := by omega
        by_cases hlt2 : i + n < s.size
        · have k3 : (i : Int) + (n : Int) < (s.size : Int) := by omega
          have kt : ((i : Int) + (n : Int)).toNat = i + n := by omega
          obtain ⟨d, hd⟩ : ∃ d, s.data.toList[i + n]? = some d := ⟨_, List.getElem?_eq_getElem (by rw [size_list]; exact hlt2)⟩
          have HD := Lib.hid hd
          have gi : ∀ h : i < s.size, s[i]'h = c := fun h => get_of HC.out h
          have gn : ∀ h : i + n < s.size, s[i + n]'h = d := fun h => get_of HD.out h
          clear hd
          by_cases hdc : d = c
          · subst hdc
            go_wp2_with fail
            go_quiet (fail)
            go_wp2_with fail
            refine ⟨⟨n + 1, by omega, by omega, by go_num, fun j hj => ?_, bdn HX.out _⟩, by simp [intOf]; omega⟩
            rcases Nat.lt_or_ge j n with h | h
            · exact HN.out j h
            · obtain rfl : j = n := by omega
              exact HD.out
          · have hend : s.data.toList[i + n]? ≠ some c := by rw [HD.out]; exact fun h => hdc (Option.some.inj h)
            have hne : ((d.toNat : Int) == (c.toNat : Int)) = false := by
              simp only [beq_eq_false_iff_ne, ne_eq]
              exact fun h => hdc (UInt8.toNat_inj.1 (by omega))
            have HRUN := Lib.hid (run_end hn1 HN.out hend)
            have X1 : s.extract i (i + 1) = oneC c := ru_ext HC.out
            have z1 : (ofL acc).size ≤ 120 := by show acc.length ≤ 120; omega
            have z4 := digs_len (show n < 100 by omega)
            have z2 : (oneC c).size ≤ 1 := Nat.le_refl _
            have z3 : (ofL (Lib.decDigits n)).size ≤ 2 := dd_len (by omega)
            have k5 : (i : Int) + 1 ≤ (s.size : Int) := by omega
            have NC := Lib.hid (num_any n (by omega))
            by_cases h1 : 1 < n
            · have E := Lib.hid (show ofL acc ++ oneC c ++ ofL (Lib.decDigits n) = ofL (acc ++ (c :: digs n)) by rw [digs_many (by omega), oneC, ofL_append, ofL_append, List.append_assoc]; rfl)
              have h1' : (1 : Int) < (n : Int) := by omega
              go_wp2_with fail
              go_quiet (fail)
              go_wp2_with (go_at_call 19; refine (NC.out _).mono ?_; rintro e wA ⟨rfl, hA1⟩; have HBA := Lib.hid (ba (bdn HX.out _) hA1); clear hA1)
              exact ⟨⟨i + n, acc ++ (c :: digs n), by omega, by go_num, congrArg Value.string E.out, by rw [← HA.out, HRUN.out, List.append_assoc]; rfl, by rw [List.length_append, List.length_cons]; omega, HBA.out⟩, by simp [intOf]; omega⟩
            · have hn1e := Lib.hid (show n = 1 by omega)
              have E := Lib.hid (show ofL acc ++ oneC c = ofL (acc ++ (c :: digs n)) by rw [hn1e.out, digs_one, oneC, ofL_append])
              have h1' : ¬ (1 : Int) < (n : Int) := by omega
              go_wp2_with fail
              go_quiet (fail)
              go_wp2_with fail
              exact ⟨⟨i + n, acc ++ (c :: digs n), by omega, by go_num, congrArg Value.string E.out, by rw [← HA.out, HRUN.out, List.append_assoc]; rfl, by rw [List.length_append, List.length_cons]; omega, bdn HX.out _⟩, by simp [intOf]; omega⟩
        · have k3 : ¬ (i : Int) + (n : Int) < (s.size : Int) := by omega
          have kk : (i : Int) + (n : Int) = (s.size : Int) := by omega
          have hend : s.data.toList[i + n]? ≠ some c := by rw [List.getElem?_eq_none (by rw [size_list]; omega)]; simp
          have HRUN := Lib.hid (run_end hn1 HN.out hend)
          have X1 : s.extract i (i + 1) = oneC c := ru_ext HC.out
          have z1 : (ofL acc).size ≤ 120 := by show acc.length ≤ 120; omega
          have z4 := digs_len (show n < 100 by omega)
          have z2 : (oneC c).size ≤ 1 := Nat.le_refl _
          have z3 : (ofL (Lib.decDigits n)).size ≤ 2 := dd_len (by omega)
          have k5 : (i : Int) + 1 ≤ (s.size : Int) := by omega
          have NC := Lib.hid (num_any n (by omega))
          by_cases h1 : 1 < n
          · have E := Lib.hid (show ofL acc ++ oneC c ++ ofL (Lib.decDigits n) = ofL (acc ++ (c :: digs n)) by rw [digs_many (by omega), oneC, ofL_append, ofL_append, List.append_assoc]; rfl)
            have h1' : (1 : Int) < (n : Int) := by omega
            go_wp2_with fail
            go_quiet (fail)
            go_wp2_with (go_at_call 19; refine (NC.out _).mono ?_; rintro e wA ⟨rfl, hA1⟩; have HBA := Lib.hid (ba (bdn HX.out _) hA1); clear hA1)
            exact ⟨⟨i + n, acc ++ (c :: digs n), by omega, by go_num, congrArg Value.string E.out, by rw [← HA.out, HRUN.out, List.append_assoc]; rfl, by rw [List.length_append, List.length_cons]; omega, HBA.out⟩, by simp [intOf]; omega⟩
          · have hn1e := Lib.hid (show n = 1 by omega)
            have E := Lib.hid (show ofL acc ++ oneC c = ofL (acc ++ (c :: digs n)) by rw [hn1e.out, digs_one, oneC, ofL_append])
            have h1' : ¬ (1 : Int) < (n : Int) := by omega
            go_wp2_with fail
            go_quiet (fail)
            go_wp2_with fail
            exact ⟨⟨i + n, acc ++ (c :: digs n), by omega, by go_num, congrArg Value.string E.out, by rw [← HA.out, HRUN.out, List.append_assoc]; rfl, by rw [List.length_append, List.length_cons]; omega, bdn HX.out _⟩, by simp [intOf]; omega⟩
    · obtain rfl : i = s.size := by omega
      go_wp2_with fail
      go_ret
      exact ⟨by rw [HR.out, ← HA.out, List.drop_of_length_le (by rw [size_list]; exact Nat.le_refl _), runs_nil, List.append_nil]; rfl, HB.out⟩

end Go.Proofs.YtamojnbhnbeecabDoor
