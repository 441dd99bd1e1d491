/- Lines counted: the model's contract. -/
import Derived.Test.YtogimjbjdgccnaaDoorCwL
import Derived.Test.YtogimjbjdgccnaaDoorFfM
import Derived.Test.YtogimjbjdgccnaaDoorBy
import Derived.Test.YtogimjbjdgccnaaDoorSnL
import Derived.WalkArith
import Derived.Laws.MakeOwn
namespace Go.Proofs.YtogimjbjdgccnaaDoor
open Go.ChangeShapes Go.WideShapes Go.ChangeAt Go.RowKit
open Ln

set_option linter.unusedVariables false

theorem mk_bys (W : World) (n : Nat) (t : TypeId) : Bys (W.alloc (.cells (madeCells (Value.int .u8 0).cells n) t)) W.heap.size (List.replicate n 0) := by
  have hb := heap_alloc_new W (.cells (madeCells (Value.int .u8 0).cells n) t)
  generalize hW : W.alloc (.cells (madeCells (Value.int .u8 0).cells n) t) = W' at hb ⊢
  have hc : (Value.int .u8 0).cells = #[Value.int .u8 0] := rfl
  refine ⟨fun j hj => ?_, fun j hj => ?_⟩
  · have hj' : j < n := by simpa using hj
    rw [Lib.cell_of_heap hb]
    simp [madeCells, hc, hj', Nat.mod_one]
  · simp [World.frozen?, hb]

theorem mk_run (n : Nat) (hn : n ≤ 24) (W : World) : (Instr.makeSlice 76 (.int .i64 (n : Nat)) (.int .i64 (n : Nat))).run Tryd.prog W = .ok (.slice (some ⟨W.heap.size, 0, none⟩) n n) (W.alloc (.cells (madeCells (Value.int .u8 0).cells n) 5)) := by
  obtain ⟨i0, hi, iz0, iz1, iz2⟩ := info_parts byteInfo
  have h := run_makeSlice (P := Tryd.prog) W 76 5 i0 _ Tryd.underlying76 hi iz0 .i64 .i64 ((n : Nat) : Int) ((n : Nat) : Int) (by omega) (Int.le_refl _) (by rw [iz1]; omega) (by rw [iz2]; omega) (by omega)
  rw [h, iz1, Int.toNat_natCast, Nat.mul_one]

/-- A row of bytes whose first j are laid. -/
def hf (l : List UInt8) (n j : Nat) : List UInt8 := l.take j ++ List.replicate (n - j) 0

theorem hf_zero (l : List UInt8) (n : Nat) : hf l n 0 = List.replicate n 0 := by simp [hf]

theorem hf_full {l : List UInt8} {n : Nat} (h : l.length = n) : hf l n n = l := by subst h; simp [hf]

theorem hf_len {l : List UInt8} {n j : Nat} (h : l.length = n) (hj : j ≤ n) : (hf l n j).length = n := by simp [hf]; omega

theorem hf_set {l : List UInt8} {n j : Nat} (h : l.length = n) (hj : j < n) {c : UInt8} (hc : l[j]? = some c) : (hf l n j).set j c = hf l n (j + 1) := by
  have ht : (l.take j).length = j := by rw [List.length_take]; omega
  rw [hf, hf, List.set_append_right _ _ (by omega), ht, Nat.sub_self, show n - j = (n - (j + 1)) + 1 by omega, List.replicate_succ, List.set_cons_zero, List.take_add_one, hc]
  simp

theorem dgL_get {n m j : Nat} (h : j < n) : (dgL n m)[j]? = some (if m / 2 ^ j % 2 = 1 then 84 else 46) := by simp [dgL, h]

theorem tnTrains_on (l : List UInt8) (hl : LnOk l) (w : World) :
    Calls Tryd.prog 55 #[.string (ofL l)] w fun e w' => e = .returned (.int .i64 (cnt 84 l : Nat)) ∧ w = w' := by
  have := tnTrains_any (ofL l) (by rw [ofL_list]; exact hl) w
  rwa [ofL_list] at this

theorem cw_no {n t g : Int} (h : cwB n t g = false) : cwR n t g = 0 := by rw [cwR, h]; rfl

theorem ret_cw {n t g x : Int} {b : Bool} (hb : cwB n t g = b) (hs : cwR n t g = x) : Ending.returned (.tuple #[.int .i64 x, .bool b]) = Ending.returned (.tuple #[.int .i64 (cwR n t g), .bool (cwB n t g)]) := by rw [hb, hs]

set_option maxRecDepth 100000 in
set_option maxHeartbeats 3200000 in
theorem spCw_yes (n t gp : Nat) (hn1 : 1 ≤ n) (hn : n ≤ 10) (ht : t ≤ n) (hg1 : 1 ≤ gp) (hg3 : gp ≤ 3) (w : World) :
    Calls Tryd.prog 50 #[.int .i64 n, .int .i64 t, .int .i64 gp] w fun e w' => e = .returned (.tuple #[.int .i64 (cwN n t gp : Nat), .bool true]) ∧ Below w.heap.size w w' := by
  have I1 := l1In_any n 1 10
  have I2 := l1In_any t 0 n
  have I3 := l1In_any gp 1 3
  rw [show inB (n : Int) 1 10 = true by simp [inB]; omega] at I1
  rw [show inB (t : Int) 0 n = true by simp [inB]; omega] at I2
  rw [show inB (gp : Int) 1 3 = true by simp [inB]; omega] at I3
  have hP : (2 : Int) ^ n = ((2 ^ n : Nat) : Int) := by simp
  have hP2 : 2 ^ n ≤ 1024 := Nat.pow_le_pow_right (n := 2) (by decide) hn
  have EN := Lib.hid (show cwK n t gp (2 ^ n) = cwN n t gp from (cwN_dg n t gp).symm)
  have KS := Lib.hid (fun m => cwK_succ n t gp m)
  have KL := Lib.hid (fun m => cwK_le n t gp m)
  have MK := mk_run n (by omega)
  have MB := Lib.hid (fun W => mk_bys W n 5)
  have TR := Lib.hid (fun m => tnTrains_on (dgL n m) (dgL_ok hn1 (by omega) m))
  have TF := Lib.hid (fun m => tnFree_on (dgL n m) gp (dgL_ok hn1 (by omega) m) hg1 hg3)
  have CL := Lib.hid (fun m => show cnt 84 (dgL n m) ≤ 24 by have := cnt_le 84 (dgL n m); rw [dgL_len] at this; omega)
  have c0 : cwK n t gp 0 = 0 := rfl
  obtain ⟨N, hN⟩ : ∃ N, 2 ^ n = N := ⟨_, rfl⟩
  rw [hN] at hP hP2 EN
  go_enter Tryd.func50, Tryd.ntmps50
  go_wp2_with (first | (go_at_call 77; (with_reducible refine Calls.mono (I1 _) ?_); rintro e w' ⟨rfl, rfl⟩) | (go_at_call 77; (with_reducible refine Calls.mono (I2 _) ?_); rintro e w' ⟨rfl, rfl⟩) | (go_at_call 77; (with_reducible refine Calls.mono (I3 _) ?_); rintro e w' ⟨rfl, rfl⟩))
  go_loopw [8, 9] (fun o i wr => ∃ m : Nat, m ≤ N ∧ i = .int .i64 m ∧ o = .int .i64 (cwK n t gp m : Nat) ∧ Below w.heap.size w wr) (fun _ i _ => N - (intOf i).toNat)
  case atStart => exact ⟨0, Nat.zero_le _, rfl, by rw [c0]; rfl, Below.refl _ _⟩
  case round =>
    obtain ⟨m, hm, rfl, rfl, hB⟩ := hrel
    obtain ⟨wo, rfl⟩ : ∃ wo, wo = wr := ⟨_, rfl⟩
    have HB := Lib.hid hB
    have zb := hB.size
    have kl := KL.out m
    clear hB
    by_cases hlt : m < N
    · have m1 : (m : Int) < (N : Int) := by omega
      have MKr := MK wo
      have MBr := Lib.hid (MB.out wo)
      generalize hR : Obj.cells (madeCells (Value.int .u8 0).cells n) 5 = R at *
      clear hR
      go_wp2_with fail
      go_loopw [36] (fun i WX => ∃ j : Nat, j ≤ n ∧ i = .int .i64 j ∧ Bys WX wo.heap.size (hf (dgL n m) n j) ∧ Below wo.heap.size wo WX ∧ wo.heap.size < WX.heap.size) (fun i _ => n - (intOf i).toNat)
      case atStart => exact ⟨0, Nat.zero_le _, rfl, by rw [hf_zero]; exact MBr.out, by go_grown, by simp⟩
      case round =>
        obtain ⟨j, hj, rfl, hY, hX, hz⟩ := hrel
        have HY := Lib.hid hY
        have HX := Lib.hid hX
        clear hX
        have k0 : (0 : Int) ≤ (j : Int) := by omega
        by_cases hjn : j < n
        · have hk2 : j < (hf (dgL n m) n j).length := by rw [hf_len (dgL_len n m) hj]; exact hjn
          have hcell := hY.1 j hk2
          have hfz := hY.2 j hk2
          have hq : ((m : Int) / 2 ^ j).tmod 2 = ((m / 2 ^ j % 2 : Nat) : Int) := by rw [show ((m : Int) / 2 ^ j) = ((m / 2 ^ j : Nat) : Int) by simp]; exact rem_nat _ 2
          have jj : (j : Int) < (n : Int) := by omega
          have HS := Lib.hid (fun c (hc : (dgL n m)[j]? = some c) => hf_set (dgL_len n m) hjn hc)
          clear hY
          by_cases hb : m / 2 ^ j % 2 = 1
          · rw [hb] at hq
            have hq2 : (((m : Int) / 2 ^ j).tmod 2 == 1) = true := by rw [hq]; rfl
            have E := Lib.hid (show hf (dgL n m) n (j + 1) = ((hf (dgL n m) n j).set j 46).set j 84 by rw [List.set_set, HS.out 84 (by rw [dgL_get hjn, if_pos hb])])
            clear hb
            go_wp2_with fail
            go_roundw
            case rel => exact ⟨j + 1, by omega, by go_num, by rw [E.out]; exact (HY.out.set hk2 46 _ rfl).set (by rw [List.length_set]; exact hk2) 84 _ rfl, (HX.out.setCell (Nat.le_refl _) _).setCell (Nat.le_refl _) _, by simpa using hz⟩
            case measure => simp [intOf]; omega
          · have hb0 : m / 2 ^ j % 2 = 0 := by omega
            rw [hb0] at hq
            have hq2 : (((m : Int) / 2 ^ j).tmod 2 == 1) = false := by rw [hq]; rfl
            have E := Lib.hid (show hf (dgL n m) n (j + 1) = (hf (dgL n m) n j).set j 46 by rw [HS.out 46 (by rw [dgL_get hjn, if_neg hb])])
            clear hb hb0
            go_wp2_with fail
            go_roundw
            case rel => exact ⟨j + 1, by omega, by go_num, by rw [E.out]; exact HY.out.set hk2 46 _ rfl, HX.out.setCell (Nat.le_refl _) _, by simpa using hz⟩
            case measure => simp [intOf]; omega
        · obtain rfl : j = n := by omega
          have hT : Bys wr wo.heap.size (dgL j m) := by rw [← hf_full (dgL_len j m)]; exact HY.out
          have qb := back_any wr wo.heap.size j j _ (dgL_len j m) hT
          have TRm := TR.out m
          have TFm := TF.out m
          have cl := CL.out m
          have ks := KS.out m
          have HB2 := Lib.hid (HB.out.trans (HX.out.mono zb))
          unfold cwP at ks
          clear hY hT
          generalize cnt 84 (dgL j m) = C at *
          generalize fre (dgL j m) gp = F at *
          generalize ofL (dgL j m) = T at *
          by_cases hc : C = t
          · have hc' : ((C : Int) == (t : Int)) = true := by rw [beq_iff_eq]; omega
            cases F
            · have KE := Lib.hid (show cwK j t gp (m + 1) = cwK j t gp m by rw [ks]; simp)
              go_wp2_with (first | (go_at_call 55; refine (TRm _).mono ?_; rintro e w' ⟨rfl, rfl⟩) | (go_at_call 74; refine (TFm _).mono ?_; rintro e w' ⟨rfl, rfl⟩))
              go_roundw
              case rel => exact ⟨m + 1, by omega, by go_num, by rw [KE.out], HB2.out⟩
              case measure => simp [intOf]; omega
            · have KE := Lib.hid (show cwK j t gp (m + 1) = cwK j t gp m + 1 by rw [ks, hc]; simp)
              go_wp2_with (first | (go_at_call 55; refine (TRm _).mono ?_; rintro e w' ⟨rfl, rfl⟩) | (go_at_call 74; refine (TFm _).mono ?_; rintro e w' ⟨rfl, rfl⟩))
              go_roundw
              case rel => exact ⟨m + 1, by omega, by go_num, by rw [KE.out]; go_num, HB2.out⟩
              case measure => simp [intOf]; omega
          · have hc' : ((C : Int) == (t : Int)) = false := beq_eq_false_iff_ne.2 (by omega)
            have KE := Lib.hid (show cwK j t gp (m + 1) = cwK j t gp m by rw [ks]; simp [hc])
            go_wp2_with (first | (go_at_call 55; refine (TRm _).mono ?_; rintro e w' ⟨rfl, rfl⟩) | (go_at_call 74; refine (TFm _).mono ?_; rintro e w' ⟨rfl, rfl⟩))
            go_roundw
            case rel => exact ⟨m + 1, by omega, by go_num, by rw [KE.out], HB2.out⟩
            case measure => simp [intOf]; omega
    · obtain rfl : m = N := by omega
      have m1 : ¬ (m : Int) < (m : Int) := by omega
      go_wp2_with fail
      go_ret2
      exact ⟨rI (by rw [EN.out]) rfl, HB.out⟩

theorem spCountLinesWith (n t g : Int) (w : World) :
    Calls Tryd.prog 50 #[.int .i64 n, .int .i64 t, .int .i64 g] w fun e w' => e = .returned (.tuple #[.int .i64 (cwR n t g), .bool (cwB n t g)]) ∧ Below w.heap.size w w' := by
  have I1 := l1In_any n 1 10
  have I2 := l1In_any t 0 n
  have I3 := l1In_any g 1 3
  cases h1 : inB n 1 10
  · rw [h1] at I1
    have B := Lib.hid (show cwB n t g = false by rw [cwB, h1]; rfl)
    clear h1
    go_enter Tryd.func50, Tryd.ntmps50
    go_wp2_with (go_at_call 77; refine (I1 _).mono ?_; rintro e w' ⟨rfl, rfl⟩)
    go_ret2
    exact ⟨ret_cw B.out (cw_no B.out), Below.refl _ _⟩
  · rw [h1] at I1
    cases h2 : inB t 0 n
    · rw [h2] at I2
      have B := Lib.hid (show cwB n t g = false by rw [cwB, h1, h2]; rfl)
      clear h1 h2
      go_enter Tryd.func50, Tryd.ntmps50
      go_wp2_with (first | (go_at_call 77; (with_reducible refine Calls.mono (I1 _) ?_); rintro e w' ⟨rfl, rfl⟩) | (go_at_call 77; (with_reducible refine Calls.mono (I2 _) ?_); rintro e w' ⟨rfl, rfl⟩))
      go_ret2
      exact ⟨ret_cw B.out (cw_no B.out), Below.refl _ _⟩
    · rw [h2] at I2
      cases h3 : inB g 1 3
      · rw [h3] at I3
        have B := Lib.hid (show cwB n t g = false by rw [cwB, h1, h2, h3]; rfl)
        clear h1 h2 h3
        go_enter Tryd.func50, Tryd.ntmps50
        go_wp2_with (first | (go_at_call 77; (with_reducible refine Calls.mono (I1 _) ?_); rintro e w' ⟨rfl, rfl⟩) | (go_at_call 77; (with_reducible refine Calls.mono (I2 _) ?_); rintro e w' ⟨rfl, rfl⟩) | (go_at_call 77; (with_reducible refine Calls.mono (I3 _) ?_); rintro e w' ⟨rfl, rfl⟩))
        go_ret2
        exact ⟨ret_cw B.out (cw_no B.out), Below.refl _ _⟩
      · have B := show cwB n t g = true by rw [cwB, h1, h2, h3]; rfl
        simp only [inB, decide_eq_true_eq] at h1 h2 h3
        obtain ⟨a, rfl⟩ : ∃ a : Nat, n = a := ⟨n.toNat, by omega⟩
        obtain ⟨b, rfl⟩ : ∃ b : Nat, t = b := ⟨t.toNat, by omega⟩
        obtain ⟨c, rfl⟩ : ∃ c : Nat, g = c := ⟨g.toNat, by omega⟩
        have R : cwR a b c = (cwN a b c : Nat) := by rw [cwR, B]; rfl
        rw [B, R]
        exact spCw_yes a b c (by omega) (by omega) (by omega) (by omega) (by omega) w

end Go.Proofs.YtogimjbjdgccnaaDoor
