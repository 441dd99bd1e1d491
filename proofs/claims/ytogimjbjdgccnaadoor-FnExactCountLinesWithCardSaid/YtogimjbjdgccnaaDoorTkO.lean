/- Contracts of the model: a tick; many ticks. -/
import Derived.Test.YtogimjbjdgccnaaDoorSgI
import Derived.Test.YtogimjbjdgccnaaDoorBy
namespace Go.Proofs.YtogimjbjdgccnaaDoor
open Go.ChangeShapes Go.WideShapes Go.ChangeAt Go.RowKit
open Ln

set_option linter.unusedVariables false

def cntM (l : List UInt8) (gp k : Nat) : Nat := (List.range k).countP (mvs l gp)

theorem cntM_succ (l : List UInt8) (gp k : Nat) : cntM l gp (k + 1) = cntM l gp k + (if mvs l gp k then 1 else 0) := by
  simp [cntM, List.range_succ, List.countP_append]

theorem cntM_le (l : List UInt8) (gp k : Nat) : cntM l gp k ≤ k := by
  have := List.countP_le_length (p := mvs l gp) (l := List.range k)
  simpa [cntM] using this

set_option maxRecDepth 100000 in
set_option maxHeartbeats 1600000 in
theorem tnTick_any (s : ByteArray) (gp : Nat) (hl : LnOk s.data.toList) (hg1 : 1 ≤ gp) (hg3 : gp ≤ 3) (w : World) :
    Calls Tryd.prog 61 #[.string s, .int .i64 gp] w fun e w' => e = .returned (.tuple #[.string (ofL (tk s.data.toList gp)), .int .i64 (mvN s.data.toList gp : Nat)]) ∧ Below w.heap.size w w' := by
  have hz := sz_list s
  have n1 : 1 ≤ s.size := by rw [← hz]; exact hl.n1
  have n24 : s.size ≤ 24 := by rw [← hz]; exact hl.n24
  have q := run_bytes_of_string (P := Tryd.prog) w 9 76 5 s Tryd.underlying9 Tryd.underlying76 Tryd.underlying5
  have h0 := Lib.hid (Bys.new w s (grownCap w s.size 0 5) 5)
  obtain ⟨cap, hcap⟩ : ∃ cap, cap = grownCap w s.size 0 5 := ⟨_, rfl⟩
  rw [← hcap] at q h0
  obtain ⟨R, hR⟩ : ∃ R, R = Obj.cells (bytesRow s cap) 5 ((bytesRow s cap).size, (bytesRow s cap).size + 1) := ⟨_, rfl⟩
  rw [← hR] at q h0
  have GR := Lib.hid (fun k (h : k < s.size) => tnGreen_any s k gp hl h hg1 hg3)
  have BY := Lib.hid (fun (j : Nat) (hj : j < s.size) => ln_byte hl hj)
  have OL1 := Lib.hid (fun j => show (o1 s.data.toList gp j).length = s.size by rw [o1_len, hz])
  have OL2 := Lib.hid (fun j => show (o2 s.data.toList gp j).length = s.size by rw [o2_len, hz])
  have O12 := Lib.hid (show o1 s.data.toList gp s.size = o2 s.data.toList gp 0 by rw [← hz]; exact o12 _ _)
  have OTK := Lib.hid (show o2 s.data.toList gp s.size = tk s.data.toList gp by rw [← hz]; exact o2_tk _ _)
  have CM := Lib.hid (show cntM s.data.toList gp s.size = mvN s.data.toList gp by rw [mvN, hz]; rfl)
  have O10 := Lib.hid (o1_zero s.data.toList gp)
  have M1 := Lib.hid (fun j (hj : j < s.size) (hm : mvs s.data.toList gp j = true) => o1_move (l := s.data.toList) (g := gp) (by rw [hz]; exact hj) hm)
  have M2 := Lib.hid (fun j (hj : j < s.size) (hm : mvs s.data.toList gp j = true) => show o2 s.data.toList gp (j + 1) = (o2 s.data.toList gp j).set ((j + 1) % s.size) 84 by rw [o2_move (by rw [hz]; exact hj) hm, hz, nxt_mod hj])
  have nz : ((s.size : Int) == 0) = false := beq_eq_false_iff_ne.2 (by omega)
  clear hl hz hcap hR
  go_enter Tryd.func61, Tryd.ntmps61
  go_wp2_with fail
  go_loopw [8, 9] (fun m i wr => ∃ k : Nat, k ≤ s.size ∧ i = .int .i64 k ∧ m = .int .i64 (cntM s.data.toList gp k : Nat) ∧ Bys wr w.heap.size (o1 s.data.toList gp k) ∧ Below w.heap.size w wr ∧ w.heap.size < wr.heap.size) (fun _ i _ => s.size - (intOf i).toNat)
  case atStart => exact ⟨0, Nat.zero_le _, rfl, rfl, by rw [O10.out]; exact h0.out, by go_grown, by simp⟩
  case round =>
    obtain ⟨k, hk, rfl, rfl, hM, hb, hzz⟩ := hrel
    have HM := Lib.hid hM
    have HB := Lib.hid hb
    have hcl := cntM_le s.data.toList gp k
    have CS := Lib.hid (cntM_succ s.data.toList gp k)
    have k0 : (0 : Int) ≤ (k : Int) := by omega
    clear hb
    by_cases hlt : k < s.size
    · have hk2 : k < (o1 s.data.toList gp k).length := by rw [OL1.out]; exact hlt
      have hcell := hM.1 k hk2
      have hfz := hM.2 k hk2
      clear hM
      rcases BY.out k hlt with ⟨h1, h2⟩ | ⟨h1, h2⟩
      · have b1 := byte_T h2
        have G0 := GR.out k hlt
        cases hg : grn s.data.toList gp k
        · have hm : mvs s.data.toList gp k = false := by rw [mvs, h1, hg]; rfl
          have GG := G0
          rw [hg] at GG
          have HK := Lib.hid (o1_keep hm)
          have HMV := Lib.hid hm
          clear h1 h2 hg G0 hm
          go_wp2_with (go_at_call 58; refine (GG _).mono ?_; rintro e w' ⟨rfl, rfl⟩)
          go_roundw
          case rel => exact ⟨k + 1, by omega, by go_num, by rw [CS.out, HMV.out]; rfl, by rw [HK.out]; exact HM.out, HB.out, hzz⟩
          case measure => simp [intOf]; omega
        · have hm : mvs s.data.toList gp k = true := by rw [mvs, h1, hg]; rfl
          have GG := G0
          rw [hg] at GG
          have HK := Lib.hid (M1.out k hlt hm)
          have HMV := Lib.hid hm
          clear h1 h2 hg G0 hm
          go_wp2_with (go_at_call 58; refine (GG _).mono ?_; rintro e w' ⟨rfl, rfl⟩)
          go_roundw
          case rel => exact ⟨k + 1, by omega, by go_num, by rw [CS.out, HMV.out]; go_num, by rw [HK.out]; exact HM.out.set hk2 46 _ rfl, HB.out.setCell (Nat.le_refl _) _, by simpa using hzz⟩
          case measure => simp [intOf]; omega
      · have b1 := byte_E h2
        have hm : mvs s.data.toList gp k = false := by rw [mvs, h1]; rfl
        have HK := Lib.hid (o1_keep hm)
        have HMV := Lib.hid hm
        clear h1 h2 hm
        go_wp2_with fail
        go_roundw
        case rel => exact ⟨k + 1, by omega, by go_num, by rw [CS.out, HMV.out]; rfl, by rw [HK.out]; exact HM.out, HB.out, hzz⟩
        case measure => simp [intOf]; omega
    · obtain rfl : k = s.size := by omega
      have HM2 := Lib.hid (show Bys wr w.heap.size (o2 s.data.toList gp 0) by rw [← O12.out]; exact HM.out)
      clear hM HM
      go_wp2_with fail
      go_loopw [10] (fun i wr => ∃ k : Nat, k ≤ s.size ∧ i = .int .i64 k ∧ Bys wr w.heap.size (o2 s.data.toList gp k) ∧ Below w.heap.size w wr ∧ w.heap.size < wr.heap.size) (fun i _ => s.size - (intOf i).toNat)
      case atStart => exact ⟨0, Nat.zero_le _, rfl, HM2.out, HB.out, hzz⟩
      case round =>
        obtain ⟨k, hk, rfl, hM, hb, hzz⟩ := hrel
        have HM := Lib.hid hM
        have HB3 := Lib.hid hb
        have k0 : (0 : Int) ≤ (k : Int) := by omega
        clear hb
        by_cases hlt : k < s.size
        · rcases BY.out k hlt with ⟨h1, h2⟩ | ⟨h1, h2⟩
          · have b1 := byte_T h2
            have G0 := GR.out k hlt
            cases hg : grn s.data.toList gp k
            · have hm : mvs s.data.toList gp k = false := by rw [mvs, h1, hg]; rfl
              have GG := G0
              rw [hg] at GG
              have HK := Lib.hid (o2_keep hm)
              clear h1 h2 hg G0 hm hM
              go_wp2_with (go_at_call 58; refine (GG _).mono ?_; rintro e w' ⟨rfl, rfl⟩)
              go_roundw
              case rel => exact ⟨k + 1, by omega, by go_num, by rw [HK.out]; exact HM.out, HB3.out, hzz⟩
              case measure => simp [intOf]; omega
            · have hm : mvs s.data.toList gp k = true := by rw [mvs, h1, hg]; rfl
              have GG := G0
              rw [hg] at GG
              have HK := Lib.hid (M2.out k hlt hm)
              have hrm := rem_nat (k + 1) s.size
              rw [show ((k + 1 : Nat) : Int) = (k : Int) + 1 by omega] at hrm
              have hml : (k + 1) % s.size < s.size := Nat.mod_lt _ (by omega)
              generalize (k + 1) % s.size = m at *
              have hk2 : m < (o2 s.data.toList gp k).length := by rw [OL2.out]; exact hml
              have hcell := hM.1 m hk2
              have hfz := hM.2 m hk2
              have m0 : (0 : Int) ≤ (m : Int) := by omega
              have m1 : (m : Int) < (s.size : Int) := by omega
              clear h1 h2 hg G0 hm hM
              go_wp2_with (go_at_call 58; refine (GG _).mono ?_; rintro e w' ⟨rfl, rfl⟩)
              go_roundw
              case rel => exact ⟨k + 1, by omega, by go_num, by rw [HK.out]; exact HM.out.set hk2 84 _ rfl, HB3.out.setCell (Nat.le_refl _) _, by simpa using hzz⟩
              case measure => simp [intOf]; omega
          · have b1 := byte_E h2
            have hm : mvs s.data.toList gp k = false := by rw [mvs, h1]; rfl
            have HK := Lib.hid (o2_keep hm)
            clear h1 h2 hm hM
            go_wp2_with fail
            go_roundw
            case rel => exact ⟨k + 1, by omega, by go_num, by rw [HK.out]; exact HM.out, HB3.out, hzz⟩
            case measure => simp [intOf]; omega
        · obtain rfl : k = s.size := by omega
          have hT : Bys wr w.heap.size (tk s.data.toList gp) := by rw [← OTK.out]; exact HM.out
          have hln : (tk s.data.toList gp).length = s.size := by rw [← OTK.out]; exact OL2.out _
          have qb := back_any wr w.heap.size cap s.size _ hln hT
          clear hM hT hln
          go_wp2_with fail
          go_ret2
          exact ⟨by rw [← CM.out]; rfl, HB3.out⟩

end Go.Proofs.YtogimjbjdgccnaaDoor
