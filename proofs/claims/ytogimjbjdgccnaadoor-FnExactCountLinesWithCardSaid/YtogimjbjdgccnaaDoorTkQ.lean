/- Contract of the model: behind how many ticks a line comes again, and the moves in these. -/
import Derived.Test.YtogimjbjdgccnaaDoorTkP
import Derived.Deep.LoopGhost
import Derived.BigQuiet
namespace Go.Proofs.YtogimjbjdgccnaaDoor
open Go.ChangeShapes Go.WideShapes Go.ChangeAt Go.RowKit
open Ln

set_option linter.unusedVariables false

theorem intInfo : (Tryd.prog.info? 3).map (fun i => (i.zero, i.size, i.bytes)) = some (some (.int .i64 0), 1, 8) := by kernel_rfl

set_option maxRecDepth 100000 in
set_option maxHeartbeats 3200000 in
theorem tnPeriod_any (l : List UInt8) (gp p q : Nat) (hl : LnOk l) (hg1 : 1 ≤ gp) (hg3 : gp ≤ 3) (hP : IsPer l gp p q) (w : World) :
    Calls Tryd.prog 69 #[.string (ofL l), .int .i64 gp] w fun e w' => e = .returned (.tuple #[.int .i64 (q : Nat), .int .i64 ((p : Int) - (q : Int)), .int .i64 ((mvT l gp p : Int) - (mvT l gp q : Int))]) ∧ Below w.heap.size w w' := by
  have TT := Lib.hid (fun k => tnTick_on (orb l gp k) gp (orb_ok hl gp k) hg1 hg3)
  have ML := Lib.hid (fun k => mvT_le hl gp k)
  have MO := Lib.hid (mvT_mono l gp (Nat.le_of_lt hP.1))
  have MN := Lib.hid (fun k => show mvN (orb l gp k) gp ≤ 24 from Nat.le_trans (mvN_le _ _) (orb_ok hl gp k).n24)
  have NEW := Lib.hid (fun k (hk : k < p) i (hi : i < k) => show ((ofL (orb l gp i)).toList == (ofL (orb l gp k)).toList) = false by
    rw [beq_eq_false_iff_ne, ByteArray.toList_eq, ByteArray.toList_eq, ofL_list, ofL_list]
    exact hP.new hk i hi)
  have OLDN := Lib.hid (fun i (hi : i < p) (hn : i ≠ q) => show ((ofL (orb l gp i)).toList == (ofL (orb l gp p)).toList) = false by
    rw [beq_eq_false_iff_ne, ByteArray.toList_eq, ByteArray.toList_eq, ofL_list, ofL_list]
    exact fun e => hn (hP.old i hi e))
  have OLD := Lib.hid (show ((ofL (orb l gp q)).toList == (ofL (orb l gp p)).toList) = true by
    rw [beq_iff_eq, ByteArray.toList_eq, ByteArray.toList_eq, ofL_list, ofL_list]
    exact hP.2.2.1)
  have hqp := hP.1
  have hp24 := hP.2.1
  obtain ⟨i0, hi, iz0, iz1, iz2⟩ := info_parts strInfo'
  obtain ⟨j0', hj, jz0, jz1, jz2⟩ := info_parts intInfo
  have A0 := Lib.hid (own_new w w.heap.size (.string (ofL l)) 9 (Nat.le_refl _))
  have A1 := Lib.hid (own_new (w.alloc (.cells #[.string (ofL l)] 9)) w.heap.size (.int .i64 0) 3 (by simp))
  clear hl hP
  go_enter Tryd.func69, Tryd.ntmps69
  go_wp2_with fail
  go_loopg [0, 7, 8] p (fun m a v u wr => ∃ k : Nat, k < p ∧ m = p - k ∧ a = .string (ofL (orb l gp k)) ∧ wr.ownsRow w.heap.size 9 1 v (k + 1) (rowS l gp k) ∧ wr.ownsRow w.heap.size 3 1 u (k + 1) (rowM l gp k) ∧ v.ownBlock ≠ u.ownBlock ∧ Below w.heap.size w wr)
  case atStart => exact ⟨0, by omega, rfl, rfl, A0.out.alloc _, by have := A1.out; simp only [World.size_alloc] at this; exact this, by simp [Value.ownBlock], by go_grown⟩
  case round =>
    obtain ⟨k, hk, hm, rfl, hS, hM, hne, hB⟩ := hrel
    obtain ⟨g, cap, rfl, hg1', hg2, hgc⟩ := own_some hS (by omega)
    obtain ⟨h, cap2, rfl, hh1, hh2, hhc⟩ := own_some hM (by omega)
    have HS := Lib.hid hS
    have HM := Lib.hid hM
    have HB := Lib.hid hB
    have HNE := Lib.hid hne
    have HMM := Lib.hid hm
    have HGC := Lib.hid hgc
    have HHC := Lib.hid hhc
    have HT := Lib.hid (TT.out k wr)
    have ml := ML.out k
    have mn := MN.out k
    have E1 := Lib.hid (show mvT l gp (k + 1) = mvT l gp k + mvN (orb l gp k) gp from rfl)
    have E2 := Lib.hid (show orb l gp (k + 1) = tk (orb l gp k) gp from rfl)
    clear hS hM hB hne hm hgc hhc
    go_wp2_with fail
    refine (HT.out).mono ?_
    rintro e w1 ⟨rfl, h1⟩
    rw [← E2.out]
    have HC1 := Lib.hid (fun i x (hx : (rowM l gp k)[i]? = some x) => (h1.cell (p := ⟨h, i, none⟩) hh2).trans (HHC.out i x hx))
    have HD1 := Lib.hid (fun i x (hx : (rowS l gp k)[i]? = some x) => (h1.cell (p := ⟨g, i, none⟩) hg2).trans (HGC.out i x hx))
    have HS1 := Lib.hid (row_same HS.out fun b _ hb => h1.block b hb)
    have HM1 := Lib.hid (row_same HM.out fun b _ hb => h1.block b hb)
    have HB1 := Lib.hid (HB.out.trans (h1.mono HB.out.size))
    have z1 := h1.size
    have hlast := HC1.out k _ (rowM_get (Nat.le_refl _))
    have k0 : (0 : Int) ≤ (k : Int) := by omega
    have k1 : (k : Int) + 1 ≤ 16777216 := by omega
    have EE : ((mvT l gp k : Nat) : Int) + ((mvN (orb l gp k) gp : Nat) : Int) = ((mvT l gp (k + 1) : Nat) : Int) := by rw [E1.out]; omega
    have ww : IntKind.i64.wrap (((mvT l gp k : Nat) : Int) + ((mvN (orb l gp k) gp : Nat) : Int)) = ((mvT l gp (k + 1) : Nat) : Int) := by rw [EE, IntKind.wrap_i64]; have := ML.out (k + 1); omega
    have ml2 := ML.out (k + 1)
    clear h1 EE
    go_wp2_with fail
    by_cases hkp : k + 1 < p
    · go_loop [34] (fun i => ∃ j : Nat, j ≤ k + 1 ∧ i = .int .i64 j) (fun i => k + 1 - (intOf i).toNat)
      case atStart => exact ⟨0, Nat.zero_le _, rfl⟩
      case round =>
        obtain ⟨j, hj2, rfl⟩ := hrel
        have j0 : (0 : Int) ≤ (j : Int) := by omega
        by_cases hlt : j < k + 1
        · have hcell := HD1.out j _ (rowS_get (by omega))
          have hq := NEW.out (k + 1) hkp j hlt
          have j1 : (j : Int) < (k : Int) + 1 := by omega
          generalize ofL (orb l gp j) = Sj at *
          go_wp2_with fail
          go_round
          case rel => exact ⟨j + 1, by omega, by go_num⟩
          case measure => simp [intOf]; omega
        · obtain rfl : j = k + 1 := by omega
          have HS2 := Lib.hid (HS1.out.alloc (.cells #[.string (ofL (orb l gp (k + 1)))] 9))
          go_wp2_with (first | (at_builtin; refine wpList_append_own_at _ rfl _ _ 61 rfl w.heap.size 9 i0 (.string ByteArray.empty) 1 16 Tryd.underlying61 hi iz0 iz1 iz2 rfl (by decide) _ _ _ rfl HS2.out ⟨w1.heap.size, 0, none⟩ 1 1 [.string (ofL (orb l gp (k + 1)))] rfl rfl (cell_new1 _ _ _) (by intro u hu; simp at hu; subst hu; rfl) (by unfold maxLen; omega) (by omega) (by have := HB1.out.size; simp; omega) ?_; intro v' W4 hown' hgr hnil hloc; have HV4 := Lib.hid hown'; have HM4 := Lib.hid ((HM1.out.alloc (.cells #[.string (ofL (orb l gp (k + 1)))] 9)).kept hgr (.inr (Ne.symm HNE.out))); have HB4 := Lib.hid ((HB1.out.alloc HB1.out.size (.cells #[.string (ofL (orb l gp (k + 1)))] 9)).grown hgr (by have := HB1.out.size; simp; omega) (fun b hb => (HS2.out.lt b hb).1)); have HL4 := Lib.hid hloc; have zz4 := hgr.size; have HM5 := Lib.hid (HM4.out.alloc (.cells #[.int .i64 ((mvT l gp (k + 1) : Nat) : Int)] 3)); have HZ4 := Lib.hid HB4.out.size; clear hown' hgr hnil hloc) | (at_builtin; refine wpList_append_own_at _ rfl _ _ 31 rfl w.heap.size 3 j0' (.int .i64 0) 1 8 Tryd.underlying31 hj jz0 jz1 jz2 rfl (by decide) _ _ _ rfl HM5.out ⟨W4.heap.size, 0, none⟩ 1 1 [.int .i64 ((mvT l gp (k + 1) : Nat) : Int)] rfl rfl (cell_new1 _ _ _) (by intro u hu; simp at hu; subst hu; rfl) (by unfold maxLen; omega) (by omega) (by have := HZ4.out; simp; omega) ?_; intro u' W6 hown6 hgr6 hnil6 hloc6))
          have hb4 : v'.ownBlock = some g ∨ v'.ownBlock = some (w1.heap.size + 1) := by
            rcases HL4.out with e | e
            · exact .inl e
            · right; rw [e, World.size_alloc]
          have hb6 : u'.ownBlock = some h ∨ u'.ownBlock = some (W4.heap.size + 1) := by
            rcases hloc6 with e | e
            · exact .inl e
            · right; rw [e, World.size_alloc]
          have hgh : g ≠ h := fun e => HNE.out (by rw [e]; rfl)
          simp only [World.size_alloc] at zz4
          have hv6 : v'.ownBlock ≠ some h := by
            rcases hb4 with e | e <;> rw [e] <;> intro e2 <;> injection e2 with e2 <;> omega
          have HS6 := Lib.hid ((HV4.out.alloc (.cells #[.int .i64 ((mvT l gp (k + 1) : Nat) : Int)] 3)).kept hgr6 (.inr hv6))
          have HB6 := Lib.hid ((HB4.out.alloc HB4.out.size (.cells #[.int .i64 ((mvT l gp (k + 1) : Nat) : Int)] 3)).grown hgr6 (by have := HB4.out.size; simp; omega) (fun b hb => (HM5.out.lt b hb).1))
          have HM6 := Lib.hid hown6
          have HNN := Lib.hid (show v'.ownBlock ≠ u'.ownBlock by
            rcases hb4 with e | e <;> rcases hb6 with e' | e' <;> rw [e, e'] <;> intro e2 <;> injection e2 with e2 <;> omega)
          clear hown6 hgr6 hnil6 hloc6 hb4 hb6
          go_roundg (p - (k + 1))
          case measure => rw [HMM.out]; omega
          case rel => exact ⟨k + 1, hkp, rfl, rfl, by rw [rowS_succ]; exact HS6.out, by rw [rowM_succ]; exact HM6.out, HNN.out, HB6.out⟩
    · obtain rfl : k + 1 = p := by omega
      go_loop [34] (fun i => ∃ j : Nat, j ≤ q ∧ i = .int .i64 j) (fun i => q - (intOf i).toNat)
      case atStart => exact ⟨0, Nat.zero_le _, rfl⟩
      case round =>
        obtain ⟨j, hj2, rfl⟩ := hrel
        have j0 : (0 : Int) ≤ (j : Int) := by omega
        have j1 : (j : Int) < (k : Int) + 1 := by omega
        have hcell := HD1.out j _ (rowS_get (by omega))
        by_cases hlt : j < q
        · have hq := OLDN.out j (by omega) (by omega)
          generalize ofL (orb l gp j) = Sj at *
          go_wp2_with fail
          go_round
          case rel => exact ⟨j + 1, by omega, by go_num⟩
          case measure => simp [intOf]; omega
        · obtain rfl : j = q := by omega
          have hq := OLD.out
          have hcm := HC1.out j _ (rowM_get (by omega))
          have mo := MO.out
          have wx : IntKind.i64.wrap (((mvT l gp (k + 1) : Nat) : Int) - ((mvT l gp j : Nat) : Int)) = ((mvT l gp (k + 1) : Nat) : Int) - ((mvT l gp j : Nat) : Int) := by rw [IntKind.wrap_i64]; omega
          generalize ofL (orb l gp j) = Sj at *
          go_wp2_with fail
          go_quiet (fail)
          go_wp2_with fail
          go_ret3
          exact ⟨by simp, HB1.out.trans (below_dw _ _)⟩

end Go.Proofs.YtogimjbjdgccnaaDoor
