/- Contracts: which texts are tracks, in the model and in the program. -/
import Derived.Test.YtdafomfpchlhpaaDoorTkM
import Derived.Test.YtdafomfpchlhpaaDoorPc
import Derived.Test.YtdafomfpchlhpaaDoorLa
import Derived.WalkKit
import Derived.ProofKit
import Derived.Handy
import Derived.LoopTactic
import Derived.Lib.Hide
import Derived.Outline
import Derived.WalkSpells
namespace Go.Proofs.YtdafomfpchlhpaaDoor
open Go.ChangeShapes Go.WideShapes Go.ChangeAt Go.RowKit

theorem pcB_pcb (c : UInt8) : pcB ((c.toNat : Nat) : Int) = pcb c := by
  rw [Bool.eq_iff_iff]
  simp only [pcB, pcb, decide_eq_true_eq, Bool.or_eq_true, beq_iff_eq, ← UInt8.toNat_inj]
  constructor <;> (intro h; simp at h ⊢; omega)

theorem lay_L' (x : ByteArray) (hx : x = ⟨#[76]⟩) (w : World) :
    Calls Tryd.prog 73 #[.string x] w fun e w' => e = .returned (.func (Fn.func 98) #[] #[]) ∧ w = w' := by subst hx; exact lay_L w

theorem lay_R' (x : ByteArray) (hx : x = ⟨#[82]⟩) (w : World) :
    Calls Tryd.prog 73 #[.string x] w fun e w' => e = .returned (.func (Fn.func 99) #[] #[]) ∧ w = w' := by subst hx; exact lay_R w

theorem lay_S' (x : ByteArray) (hx : x = ⟨#[83]⟩) (w : World) :
    Calls Tryd.prog 73 #[.string x] w fun e w' => e = .returned (.func (Fn.func 97) #[] #[]) ∧ w = w' := by subst hx; exact lay_S w

theorem lay_N' (x : ByteArray) (c : UInt8) (hx : x = ⟨#[c]⟩) (hp : pcb c = false) (w : World) :
    Calls Tryd.prog 73 #[.string x] w fun e w' => e = .returned .nilFunc ∧ w = w' := by
  subst hx
  simp only [pcb, Bool.or_eq_false_iff, beq_eq_false_iff_ne] at hp
  obtain ⟨p1, p2, p3⟩ := hp
  exact lay_no _ (by simp [ByteArray.toList_eq, p1]) (by simp [ByteArray.toList_eq, p2]) (by simp [ByteArray.toList_eq, p3]) w

theorem lay_cases {x : ByteArray} {c : UInt8} (hx : x = ⟨#[c]⟩) (hp : pcb c = true) (w : World) :
    ∃ g : FuncId, (g = 97 ∨ g = 98 ∨ g = 99) ∧ Calls Tryd.prog 73 #[.string x] w fun e w' => e = .returned (.func (Fn.func g) #[] #[]) ∧ w = w' := by
  rcases pcb_cases hp with rfl | rfl | rfl
  · exact ⟨_, .inl rfl, lay_S' x hx w⟩
  · exact ⟨_, .inr (.inl rfl), lay_L' x hx w⟩
  · exact ⟨_, .inr (.inr rfl), lay_R' x hx w⟩

set_option maxRecDepth 100000 in
theorem tkGood_any (s : ByteArray) (hs : s.size ≤ 1048576) (w : World) :
    Calls Tryd.prog 59 #[.string s] w fun e w' => e = .returned (.bool (tkB s)) ∧ w = w' := by
  by_cases h40 : s.size ≤ 40
  · go_enter Tryd.func59, Tryd.ntmps59
    go_wp2_with fail
    go_loop [3] (fun i => ∃ k : Nat, k ≤ s.size ∧ i = .int .i64 k ∧ (s.data.toList.take k).all pcb = true) (fun i => s.size - (intOf i).toNat)
    case atStart => exact ⟨0, Nat.zero_le _, rfl, rfl⟩
    case round =>
      obtain ⟨k, hk, rfl, hall⟩ := hrel
      have HA := Lib.hid hall
      clear hall
      by_cases hlt : k < s.size
      · have he := pcB_pcb s[k]
        cases hp : pcb s[k]
        · have hp2 : pcB ((s[k].toNat : Nat) : Int) = false := he.trans hp
          have HP := Lib.hid hp
          clear he hp
          go_wp2_with (go_at_call 71; refine (ptPiece_any _ _).mono ?_; rintro e w' ⟨rfl, rfl⟩)
          go_ret
          exact ⟨by rw [tkB_no hlt HP.out]; rfl, rfl⟩
        · have hp2 : pcB ((s[k].toNat : Nat) : Int) = true := he.trans hp
          have HP := Lib.hid hp
          clear he hp
          go_wp2_with (go_at_call 71; refine (ptPiece_any _ _).mono ?_; rintro e w' ⟨rfl, rfl⟩)
          go_round
          case rel => exact ⟨k + 1, by omega, by go_num, all_snoc hlt HA.out HP.out⟩
          case measure => simp [intOf]; omega
      · go_wp2_with fail
        go_ret
        exact ⟨by rw [tkB_yes h40 hlt HA.out]; rfl, rfl⟩
  · have hgt : 40 < s.size := by omega
    go_enter Tryd.func59, Tryd.ntmps59
    go_wp2_with fail
    go_ret
    exact ⟨by rw [tkB_long h40]; rfl, rfl⟩

set_option maxRecDepth 100000 in
theorem imIsTrack_any (s : ByteArray) (hs : s.size ≤ 1048576) (w : World) :
    Calls Tryd.prog 56 #[.string s] w fun e w' => e = .returned (.bool (tkB s)) ∧ w = w' := by
  by_cases h40 : s.size ≤ 40
  · go_enter Tryd.func56, Tryd.ntmps56
    go_wp2_with fail
    go_loop [9] (fun i => ∃ k : Nat, k ≤ s.size ∧ i = .int .i64 k ∧ (s.data.toList.take k).all pcb = true) (fun i => s.size - (intOf i).toNat)
    case atStart => exact ⟨0, Nat.zero_le _, rfl, rfl⟩
    case round =>
      obtain ⟨k, hk, rfl, hall⟩ := hrel
      have HA := Lib.hid hall
      clear hall
      by_cases hlt : k < s.size
      · have HX := Lib.hid (ext_one s k hlt)
        cases hp : pcb s[k]
        · have HP := Lib.hid hp
          clear hp
          go_wp2_with (go_at_call 73; refine (lay_N' _ _ HX.out HP.out _).mono ?_; rintro e w' ⟨rfl, rfl⟩)
          go_ret
          exact ⟨by rw [tkB_no hlt HP.out]; rfl, rfl⟩
        · have HP := Lib.hid hp
          clear hp
          obtain ⟨g, hg, hc⟩ := lay_cases HX.out HP.out w
          have HC := Lib.hid hc
          clear hc
          rcases hg with rfl | rfl | rfl
          all_goals
            go_wp2_with (go_at_call 73; refine (HC.out).mono ?_; rintro e w' ⟨rfl, rfl⟩)
            go_round
            case rel => exact ⟨k + 1, by omega, by go_num, all_snoc hlt HA.out HP.out⟩
            case measure => simp [intOf]; omega
      · go_wp2_with fail
        go_ret
        exact ⟨by rw [tkB_yes h40 hlt HA.out]; rfl, rfl⟩
  · have hgt : 40 < s.size := by omega
    go_enter Tryd.func56, Tryd.ntmps56
    go_wp2_with fail
    go_ret
    exact ⟨by rw [tkB_long h40]; rfl, rfl⟩

end Go.Proofs.YtdafomfpchlhpaaDoor
