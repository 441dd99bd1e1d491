/- Trains spread over a line: what it is, in plain words; the model's contract. -/
import Derived.Test.YtogimjbjdgccnaaRn
import Derived.Test.YtogimjbjdgccnaaBy
import Derived.WalkArith
import Derived.Laws.MakeOwn
namespace Go.Proofs.Ytogimjbjdgccnaa
open Go.ChangeShapes Go.WideShapes Go.ChangeAt Go.RowKit

set_option linter.unusedVariables false

def sprL (n t : Nat) : Nat → List UInt8
  | 0 => List.replicate n 46
  | k + 1 => (sprL n t k).set (k * n / t) 84

theorem sprL_len (n t : Nat) : ∀ k, (sprL n t k).length = n
  | 0 => by simp [sprL]
  | k + 1 => by rw [sprL, List.length_set, sprL_len n t k]

def stB (n t : Int) : Bool := inB n 1 24 && inB t 0 n

def stR (n t : Int) : ByteArray := cond (stB n t) (ofL (sprL n.toNat t.toNat t.toNat)) ⟨#[]⟩

theorem ret_st2 {n t : Int} {x : ByteArray} {b : Bool} (hb : stB n t = b) (hs : stR n t = x) : Ending.returned (.tuple #[.string x, .bool b]) = Ending.returned (.tuple #[.string (stR n t), .bool (stB n t)]) := by rw [hb, hs]

theorem st_no {n t : Int} (h : stB n t = false) : stR n t = ⟨#[]⟩ := by rw [stR, h]; rfl

theorem spr_lt {n t k : Nat} (h : k < t) (hn : 0 < n) : k * n / t < n := by
  rw [Nat.div_lt_iff_lt_mul (by omega)]
  calc k * n < t * n := Nat.mul_lt_mul_of_pos_right h hn
    _ = n * t := Nat.mul_comm _ _

theorem spr_wrap {n t k : Nat} (hn : n ≤ 24) (hk : k ≤ 24) : IntKind.i64.wrap ((k : Int) * (n : Int)) = ((k * n : Nat) : Int) := by
  have : k * n ≤ 24 * 24 := Nat.mul_le_mul hk hn
  rw [show ((k : Int) * (n : Int)) = ((k * n : Nat) : Int) by simp]
  generalize k * n = m at this ⊢
  rw [IntKind.wrap_i64]
  omega

theorem spr_quo (m t : Nat) : ((m : Nat) : Int).tdiv (t : Int) = ((m / t : Nat) : Int) := by
  rw [Int.tdiv_eq_ediv_of_nonneg (by omega)]; rfl

theorem mk_bysP (W : World) (n : Nat) (t : TypeId) : Bys (W.alloc (.cells (madeCells (Value.int .u8 0).cells n) t)) W.heap.size (List.replicate n 0) := by
  have hb := heap_alloc_new W (.cells (madeCells (Value.int .u8 0).cells n) t)
  generalize hW : W.alloc (.cells (madeCells (Value.int .u8 0).cells n) t) = W' at hb ⊢
  have hc : (Value.int .u8 0).cells = #[Value.int .u8 0] := rfl
  refine ⟨fun j hj => ?_, fun j hj => ?_⟩
  · have hj' : j < n := by simpa using hj
    rw [Lib.cell_of_heap hb]
    simp [madeCells, hc, hj', Nat.mod_one]
  · simp [World.frozen?, hb]

theorem byteInfoP : (Try.prog.info? 5).map (fun i => (i.zero, i.size, i.bytes)) = some (some (.int .u8 0), 1, 1) := by kernel_rfl

theorem mk_runP (n : Nat) (hn : n ≤ 24) (W : World) : (Instr.makeSlice 29 (.int .i64 (n : Nat)) (.int .i64 (n : Nat))).run Try.prog W = .ok (.slice (some ⟨W.heap.size, 0, none⟩) n n) (W.alloc (.cells (madeCells (Value.int .u8 0).cells n) 5)) := by
  obtain ⟨i0, hi, iz0, iz1, iz2⟩ := info_parts byteInfoP
  have h := run_makeSlice (P := Try.prog) W 29 5 i0 _ Try.underlying29 hi iz0 .i64 .i64 ((n : Nat) : Int) ((n : Nat) : Int) (by omega) (Int.le_refl _) (by rw [iz1]; omega) (by rw [iz2]; omega) (by omega)
  rw [h, iz1, Int.toNat_natCast, Nat.mul_one]

/-- A row of bytes whose first j are laid. -/
def fil (n j : Nat) : List UInt8 := List.replicate j 46 ++ List.replicate (n - j) 0

theorem fil_len {n j : Nat} (h : j ≤ n) : (fil n j).length = n := by simp [fil]; omega

theorem fil_set {n j : Nat} (h : j < n) : (fil n j).set j 46 = fil n (j + 1) := by
  rw [fil, fil, List.set_append_right _ _ (by simp), List.length_replicate, Nat.sub_self, show n - j = (n - (j + 1)) + 1 by omega, List.replicate_succ, List.set_cons_zero, List.replicate_succ']
  simp

set_option maxRecDepth 100000 in
set_option maxHeartbeats 1600000 in
theorem spSt_yes (n t : Nat) (hn1 : 1 ≤ n) (hn : n ≤ 24) (ht : t ≤ n) (w : World) :
    Calls Try.prog 7 #[.int .i64 n, .int .i64 t] w fun e w' => e = .returned (.tuple #[.string (ofL (sprL n t t)), .bool true]) ∧ Below w.heap.size w w' := by
  have I1 := l1In_any n 1 24
  have I2 := l1In_any t 0 n
  rw [show inB (n : Int) 1 24 = true by simp [inB]; omega] at I1
  rw [show inB (t : Int) 0 n = true by simp [inB]; omega] at I2
  have MK := mk_runP n hn w
  have MB := Lib.hid (mk_bysP w n 5)
  have SL := Lib.hid (fun k => sprL_len n t k)
  have LT := Lib.hid (fun k (hk : k < t) => spr_lt (n := n) hk (by omega))
  generalize hR : Obj.cells (madeCells (Value.int .u8 0).cells n) 5 = R at *
  clear hR
  go_enter Try.func7, Try.ntmps7
  go_wp2_with (first | (go_at_call 9; (with_reducible refine Calls.mono (I1 _) ?_); rintro e w' ⟨rfl, rfl⟩) | (go_at_call 9; (with_reducible refine Calls.mono (I2 _) ?_); rintro e w' ⟨rfl, rfl⟩))
  go_loopw [22] (fun i wr => ∃ j : Nat, j ≤ n ∧ i = .int .i64 j ∧ Bys wr w.heap.size (fil n j) ∧ Below w.heap.size w wr ∧ w.heap.size < wr.heap.size) (fun i _ => n - (intOf i).toNat)
  case atStart => exact ⟨0, Nat.zero_le _, rfl, by have := MB.out; simpa [fil] using this, by go_grown, by simp⟩
  case round =>
    obtain ⟨j, hj, rfl, hY, hX, hz⟩ := hrel
    have HY := Lib.hid hY
    have HX := Lib.hid hX
    clear hX
    have k0 : (0 : Int) ≤ (j : Int) := by omega
    by_cases hjn : j < n
    · have hk2 : j < (fil n j).length := by rw [fil_len hj]; exact hjn
      have hcell := hY.1 j hk2
      have hfz := hY.2 j hk2
      have E := Lib.hid (fil_set hjn)
      clear hY
      go_wp2_with fail
      go_roundw
      case rel => exact ⟨j + 1, by omega, by go_num, by rw [← E.out]; exact HY.out.set hk2 46 _ rfl, HX.out.setCell (Nat.le_refl _) _, by simpa using hz⟩
      case measure => simp [intOf]; omega
    · obtain rfl : j = n := by omega
      have HY0 := Lib.hid (show Bys wr w.heap.size (sprL j t 0) by have := HY.out; simpa [fil, sprL] using this)
      clear hY
      go_wp2_with fail
      go_loopw [8] (fun i wr => ∃ k : Nat, k ≤ t ∧ i = .int .i64 k ∧ Bys wr w.heap.size (sprL j t k) ∧ Below w.heap.size w wr ∧ w.heap.size < wr.heap.size) (fun i _ => t - (intOf i).toNat)
      case atStart => exact ⟨0, Nat.zero_le _, rfl, HY0.out, HX.out, hz⟩
      case round =>
        obtain ⟨k, hk, rfl, hY, hX, hz⟩ := hrel
        have HY2 := Lib.hid hY
        have HX2 := Lib.hid hX
        clear hX
        have k0 : (0 : Int) ≤ (k : Int) := by omega
        by_cases hkt : k < t
        · have hlt := LT.out k hkt
          have hw := spr_wrap (n := j) (t := t) (k := k) hn (by omega)
          have hq := spr_quo (k * j) t
          have hk2 : k * j / t < (sprL j t k).length := by rw [SL.out]; exact hlt
          have hcell := hY.1 _ hk2
          have hfz := hY.2 _ hk2
          have hne : ¬ (t : Int) = 0 := by omega
          have E := Lib.hid (show sprL j t (k + 1) = (sprL j t k).set (k * j / t) 84 from rfl)
          have hq2 : ((k : Int) * (j : Int)) / (t : Int) = ((k * j / t : Nat) : Int) := by simp
          have hm0 : k * j ≤ 24 * 24 := Nat.mul_le_mul (by omega) hn
          generalize k * j / t = D at *
          have d0 : (0 : Int) ≤ (D : Int) := by omega
          have d1 : (D : Int) < (j : Int) := by omega
          clear hY
          go_wp2_with fail
          go_roundw
          case rel => exact ⟨k + 1, by omega, by go_num, by rw [E.out]; exact HY2.out.set hk2 84 _ rfl, HX2.out.setCell (Nat.le_refl _) _, by simpa using hz⟩
          case measure => simp [intOf]; omega
        · obtain rfl : k = t := by omega
          have qb := back_any wr w.heap.size j j _ (SL.out k) hY
          clear hY
          go_wp2_with fail
          go_ret2
          exact ⟨rfl, HX2.out⟩

theorem spSpreadTrains (n t : Int) (w : World) :
    Calls Try.prog 7 #[.int .i64 n, .int .i64 t] w fun e w' => e = .returned (.tuple #[.string (stR n t), .bool (stB n t)]) ∧ Below w.heap.size w w' := by
  have I1 := l1In_any n 1 24
  have I2 := l1In_any t 0 n
  cases h1 : inB n 1 24
  · rw [h1] at I1
    have B := Lib.hid (show stB n t = false by rw [stB, h1]; rfl)
    clear h1
    go_enter Try.func7, Try.ntmps7
    go_wp2_with (go_at_call 9; refine (I1 _).mono ?_; rintro e w' ⟨rfl, rfl⟩)
    go_ret2
    exact ⟨ret_st2 B.out (st_no B.out), Below.refl _ _⟩
  · rw [h1] at I1
    cases h2 : inB t 0 n
    · rw [h2] at I2
      have B := Lib.hid (show stB n t = false by rw [stB, h1, h2]; rfl)
      clear h1 h2
      go_enter Try.func7, Try.ntmps7
      go_wp2_with (first | (go_at_call 9; (with_reducible refine Calls.mono (I1 _) ?_); rintro e w' ⟨rfl, rfl⟩) | (go_at_call 9; (with_reducible refine Calls.mono (I2 _) ?_); rintro e w' ⟨rfl, rfl⟩))
      go_ret2
      exact ⟨ret_st2 B.out (st_no B.out), Below.refl _ _⟩
    · have B := show stB n t = true by rw [stB, h1, h2]; rfl
      simp only [inB, decide_eq_true_eq] at h1 h2
      obtain ⟨a, rfl⟩ : ∃ a : Nat, n = a := ⟨n.toNat, by omega⟩
      obtain ⟨b, rfl⟩ : ∃ b : Nat, t = b := ⟨t.toNat, by omega⟩
      have R : stR a b = ofL (sprL a b b) := by rw [stR, B]; rfl
      rw [B, R]
      exact spSt_yes a b (by omega) (by omega) (by omega) w

end Go.Proofs.Ytogimjbjdgccnaa
