/- Contracts: the library's strings.TrimLeft at a cutset of one ASCII byte. -/
import Derived.Test.YtamojnbhnbeecabDoorRuB
namespace Go.Proofs.YtamojnbhnbeecabDoor
open Go.ChangeShapes Go.WideShapes Go.ChangeAt Go.RowKit

set_option linter.unusedVariables false

theorem head_of {x : ByteArray} {d : UInt8} {l : List UInt8} (h : x.data.toList = d :: l) (hi : 0 < x.size) : x[0]'hi = d := get_of (by rw [h]; rfl) hi
theorem tail_of {x : ByteArray} {d : UInt8} {l : List UInt8} (h : x.data.toList = d :: l) : x.extract 1 x.size = ofL l := by
  have h2 : (x.extract 1 x.size).data.toList = l := by
    rw [Lib.extract_data, h]
    have : x.size = l.length + 1 := by rw [← size_list, h]; rfl
    simp [this]
  rw [← ofL_self (x.extract 1 x.size), h2]

set_option maxRecDepth 100000 in
set_option maxHeartbeats 1600000 in
theorem trimByte_any (s : ByteArray) (c : UInt8) (hs : s.size ≤ 1048576) (w : World) :
    Calls Tryd.prog 21 #[.string s, .int .u8 (c.toNat : Int)] w fun e w' => e = .returned (.string (ofL (s.data.toList.dropWhile (· == c)))) ∧ Below w.heap.size w w' := by
  go_enter Tryd.func21, Tryd.ntmps21
  go_wp2_with fail
  go_loopw [0] (fun v wr => ∃ x : ByteArray, v = .string x ∧ x.size ≤ s.size ∧ x.data.toList.dropWhile (· == c) = s.data.toList.dropWhile (· == c) ∧ Below w.heap.size w wr) (fun v _ => match v with | .string x => x.size | _ => 0)
  case atStart => exact ⟨s, rfl, Nat.le_refl _, rfl, Below.refl _ _⟩
  case round =>
    obtain ⟨x, rfl, hx, hd, hb⟩ := hrel
    have HD := Lib.hid hd
    have HB := Lib.hid hb
    clear hd hb
    cases hl : x.data.toList with
    | nil =>
      have hz : x.size = 0 := by rw [← size_list, hl]; rfl
      have HL := Lib.hid hl
      clear hl
      have hX := Lib.hid (show x = ofL [] by rw [← HL.out, ofL_self])
      go_wp2_with fail
      go_ret
      exact ⟨by rw [← HD.out, HL.out]; exact congrArg (fun z => Ending.returned (Value.string z)) hX.out, HB.out⟩
    | cons d l =>
      have hz : x.size = l.length + 1 := by rw [← size_list, hl]; rfl
      have k0 : (0 : Int) < (x.size : Int) := by omega
      have gi : ∀ h : 0 < x.size, x[0]'h = d := fun h => head_of hl h
      have X1 := tail_of hl
      have HL := Lib.hid hl
      clear hl
      by_cases hdc : d = c
      · subst hdc
        have X2 : x.extract 1 (l.length + 1) = ofL l := by rw [← hz]; exact X1
        have HE := Lib.hid X2
        go_wp2_with fail
        exact ⟨⟨ofL l, congrArg Value.string (by first | exact HE.out | rfl), by show l.length ≤ s.size; omega, by rw [← HD.out, HL.out]; simp [ofL], HB.out⟩, by show l.length < x.size; omega⟩
      · have hne : ((d.toNat : Int) == (c.toNat : Int)) = false := by
          simp only [beq_eq_false_iff_ne, ne_eq]
          exact fun h => hdc (UInt8.toNat_inj.1 (by omega))
        have hX := Lib.hid (show x = ofL (d :: l) by rw [← HL.out, ofL_self])
        go_wp2_with fail
        go_ret
        exact ⟨by rw [← HD.out, HL.out, List.dropWhile_cons_of_neg (by simpa using hdc)]; exact congrArg (fun z => Ending.returned (Value.string z)) hX.out, HB.out⟩

set_option maxRecDepth 100000 in
theorem trimLeft_any (s : ByteArray) (c : UInt8) (hc : c.toNat < 128) (hs : s.size ≤ 1048576) (h0 : 0 < s.size) (w : World) :
    Calls Tryd.prog 12 #[.string s, .string (oneC c)] w fun e w' => e = .returned (.string (ofL (s.data.toList.dropWhile (· == c)))) ∧ Below w.heap.size w w' := by
  have hE : s.toList.isEmpty = false := by rw [Lib.toList_data]; cases h : s.data.toList with | nil => exact absurd (by rw [← size_list, h]; rfl) (Nat.ne_of_gt h0) | cons a l => rfl
  have hE2 : (oneC c).toList.isEmpty = false := by rw [Lib.toList_data]; rfl
  have z1 : (oneC c).size = 1 := rfl
  have gi : ∀ h : 0 < (oneC c).size, (oneC c)[0]'h = c := fun h => rfl
  have k0 : (c.toNat : Int) < 128 := by omega
  have NC := Lib.hid (trimByte_any s c hs)
  go_enter Tryd.func12, Tryd.ntmps12
  go_wp2_with (go_at_call 21; refine (NC.out _).mono ?_; rintro e wA ⟨rfl, hA1⟩; have HBA := Lib.hid hA1; clear hA1)
  go_ret
  exact ⟨rfl, HBA.out⟩

end Go.Proofs.YtamojnbhnbeecabDoor
