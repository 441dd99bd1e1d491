/- Contracts: tracks mirrored and laid backward, in the model. -/
import Derived.Test.YtoenkgenoloihaaDoorTkL
import Derived.Laws.Concat
namespace Go.Proofs.YtoenkgenoloihaaDoor
open Go.ChangeShapes Go.WideShapes Go.ChangeAt Go.RowKit

theorem tkOther_any (x : ByteArray) (c : UInt8) (hx : x = ⟨#[c]⟩) (w : World) :
    Calls Tryd.prog 81 #[.string x] w fun e w' => e = .returned (.string ⟨#[mir c]⟩) ∧ w = w' := by
  subst hx
  by_cases h1 : c = 76
  · subst h1
    go_enter Tryd.func81, Tryd.ntmps81
    go_wp2
    go_ret
    exact ⟨rfl, rfl⟩
  by_cases h2 : c = 82
  · subst h2
    go_enter Tryd.func81, Tryd.ntmps81
    go_wp2
    go_ret
    exact ⟨rfl, rfl⟩
  have n1 : ((⟨#[c]⟩ : ByteArray).toList == [76]) = false := by simp [ByteArray.toList_eq, h1]
  have n2 : ((⟨#[c]⟩ : ByteArray).toList == [82]) = false := by simp [ByteArray.toList_eq, h2]
  have b1 : (c == 76) = false := by simpa using h1
  have b2 : (c == 82) = false := by simpa using h2
  have HM := Lib.hid (show mir c = c by simp [mir, h1, h2])
  clear h1 h2
  go_enter Tryd.func81, Tryd.ntmps81
  go_wp2
  go_ret
  exact ⟨by rw [HM.out]; rfl, rfl⟩

def miS (s : ByteArray) : ByteArray := ofL (s.data.toList.map mir)

def baS (s : ByteArray) : ByteArray := ofL (s.data.toList.reverse.map mir)

set_option maxRecDepth 100000 in
theorem tkMirror_any (s : ByteArray) (hs : s.size ≤ 40) (w : World) :
    Calls Tryd.prog 58 #[.string s] w fun e w' => e = .returned (.string (miS s)) ∧ w = w' := by
  go_enter Tryd.func58, Tryd.ntmps58
  go_wp2_with fail
  go_loop [3, 4] (fun t i => ∃ (k : Nat) (o : ByteArray), k ≤ s.size ∧ i = .int .i64 k ∧ t = .string o ∧ o = ofL ((s.data.toList.take k).map mir)) (fun _ i => s.size - (intOf i).toNat)
  case atStart => exact ⟨0, ⟨#[]⟩, Nat.zero_le _, rfl, rfl, rfl⟩
  case round =>
    obtain ⟨k, o, hk, rfl, rfl, ho⟩ := hrel
    have hz : o.size ≤ 40 := by
      have hl : (s.data.toList.take k).length ≤ k := List.length_take_le _ _
      rw [ho, ofL_size, List.length_map]; omega
    have HO := Lib.hid ho
    clear ho
    by_cases hlt : k < s.size
    · have HX := Lib.hid (ext_one s k hlt)
      go_wp2_with (go_at_call 81; refine (tkOther_any _ _ HX.out _).mono ?_; rintro e w' ⟨rfl, rfl⟩)
      go_round
      case rel => exact ⟨k + 1, o ++ ⟨#[mir s[k]]⟩, by omega, by go_num, rfl, by rw [HO.out, ofL_snoc, take_snoc s k hlt, List.map_append]; rfl⟩
      case measure => simp [intOf]; omega
    · go_wp2_with fail
      go_ret
      exact ⟨by rw [HO.out, take_all s hlt]; rfl, rfl⟩

theorem drop_cons (s : ByteArray) (m : Nat) (h : m < s.size) : (s.data.toList.drop m).reverse = (s.data.toList.drop (m + 1)).reverse ++ [s[m]] := by
  rw [List.drop_eq_getElem_cons (by simpa using h), List.reverse_cons]
  rfl

set_option maxRecDepth 100000 in
theorem tkBack_any (s : ByteArray) (hs : s.size ≤ 40) (w : World) :
    Calls Tryd.prog 61 #[.string s] w fun e w' => e = .returned (.string (baS s)) ∧ w = w' := by
  go_enter Tryd.func61, Tryd.ntmps61
  go_wp2_with fail
  go_loop [3, 4] (fun t i => ∃ (z : Int) (k : Nat) (o : ByteArray), k ≤ s.size ∧ z + 1 = k ∧ i = .int .i64 z ∧ t = .string o ∧ o = ofL ((s.data.toList.drop k).reverse.map mir)) (fun _ i => (intOf i + 1).toNat)
  case atStart => exact ⟨_, s.size, ⟨#[]⟩, Nat.le_refl _, by omega, rfl, rfl, by rw [List.drop_of_length_le (by simp)]; rfl⟩
  case round =>
    obtain ⟨z, k, o, hk, hzk, rfl, rfl, ho⟩ := hrel
    have hz : o.size ≤ 40 := by
      have hl : (s.data.toList.drop k).length ≤ s.size := by rw [List.length_drop, size_list]; omega
      rw [ho, ofL_size, List.length_map, List.length_reverse]; omega
    have HO := Lib.hid ho
    clear ho
    by_cases hlt : 0 ≤ z
    · obtain ⟨m, rfl⟩ : ∃ m : Nat, z = m := ⟨z.toNat, by omega⟩
      obtain rfl : k = m + 1 := by omega
      have hm : m < s.size := by omega
      have HX := Lib.hid (ext_one s m hm)
      clear hzk
      go_wp2_with (go_at_call 81; refine (tkOther_any _ _ HX.out _).mono ?_; rintro e w' ⟨rfl, rfl⟩)
      go_round
      case rel => exact ⟨_, m, o ++ ⟨#[mir s[m]]⟩, by omega, by omega, rfl, rfl, by rw [HO.out, ofL_snoc, drop_cons s m hm, List.map_append]; rfl⟩
      case measure => simp [intOf]
    · obtain rfl : k = 0 := by omega
      have hz1 : z < 0 := by omega
      clear hzk
      go_wp2_with fail
      go_ret
      exact ⟨by rw [HO.out]; first | done | rfl, rfl⟩

def miR (s : ByteArray) : ByteArray := cond (tkB s) (miS s) ⟨#[]⟩

def baR (s : ByteArray) : ByteArray := cond (tkB s) (baS s) ⟨#[]⟩

end Go.Proofs.YtoenkgenoloihaaDoor
