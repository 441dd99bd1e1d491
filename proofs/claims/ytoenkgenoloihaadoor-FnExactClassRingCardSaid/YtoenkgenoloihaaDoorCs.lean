/- Contracts of the model: rings spun, least ones, periods, the four that a class is of, first ones. -/
import Derived.Test.YtoenkgenoloihaaDoorLo
import Derived.Deep.QuietTactic
import Derived.BigQuiet
import Derived.Lib.OthersKept
import Derived.Laws.Concat
namespace Go.Proofs.YtoenkgenoloihaaDoor
open Go.ChangeShapes Go.WideShapes Go.ChangeAt Go.RowKit

set_option linter.unusedVariables false

theorem concat_runC {a b t : ByteArray} (ht : a ++ b = t) (h : a.size + b.size ≤ 1000000) (w : World) : (Op.stringOp .add a b).run Tryd.prog w = .ok (.string t) w := by
  rw [← ht]
  exact run_string_add_sum w a b (by omega)

theorem spn_textC (l : List UInt8) (k : Nat) : (ofL l).extract k l.length ++ (ofL l).extract 0 k = ofL (spn l k) := by
  have h1 : ((ofL l).extract k l.length).data.toList = l.drop k := by
    rw [Lib.extract_data]
    show List.take (l.length - k) (List.drop k l) = l.drop k
    exact List.take_of_length_le (by simp)
  have h2 : ((ofL l).extract 0 k).data.toList = l.take k := by
    rw [Lib.extract_data]
    simp [ofL]
  apply ByteArray.ext
  rw [ByteArray.data_append]
  apply Array.toList_inj.1
  rw [Array.toList_append, h1, h2]
  rfl

theorem below_drewC {B : Nat} {a w : World} (h : Below B a w) (q : Nat) : Below B a (w.drewN q) := ⟨h.os, h.tape, h.output, h.size, h.block⟩

set_option maxRecDepth 100000 in
theorem csSpin_any (l : List UInt8) (hl : l.length ≤ 40) (k : Nat) (hk : k ≤ l.length) (w : World) :
    Calls Tryd.prog 72 #[.string (ofL l), .int .i64 k] w fun e w' => e = .returned (.string (ofL (spn l k))) ∧ ∃ q, w' = w.drewN q := by
  obtain ⟨n, hn⟩ : ∃ n, l.length = n := ⟨_, rfl⟩
  have hz : (ofL l).size = n := by rw [ofL_size, hn]
  have hx := spn_textC l k
  rw [hn] at hx hl hk
  obtain ⟨T, hT⟩ : ∃ T, ofL (spn l k) = T := ⟨_, rfl⟩
  rw [hT] at hx ⊢
  generalize ofL l = s at *
  have i1 : (0 : Int) ≤ (k : Int) := by omega
  have i2 : (k : Int) ≤ (n : Int) := by omega
  have k1 : ∀ w : World, (Op.stringOp .add (s.extract k n) (s.extract 0 k)).run Tryd.prog w = .ok (.string T) w := fun w => concat_runC hx (by rw [ByteArray.size_extract, ByteArray.size_extract]; omega) w
  clear hx hT hn
  go_enter Tryd.func72, Tryd.ntmps72
  go_wp2_with fail
  go_quiet (fail)
  go_wp2_with fail
  go_ret
  exact ⟨rfl, _, rfl⟩

theorem mn_snoc (x y : List UInt8) (ys : List (List UInt8)) : mn x (ys ++ [y]) = if y < mn x ys then y else mn x ys := by
  unfold mn
  rw [List.foldl_append]
  rfl

theorem less_run (a b : List UInt8) : Op.bytesLess (ofL a).toList (ofL b).toList = decide (a < b) := by
  rw [bytesLess_eq, ByteArray.toList_eq, ByteArray.toList_eq]
  rfl

theorem rot_take {l : List UInt8} {k : Nat} (hk : k < l.length) : (rotA l).take (k + 1) = (rotA l).take k ++ [spn l k] := by
  have h : (rotA l)[k]? = some (spn l k) := by simp [rotA, hk]
  obtain ⟨h1, h2⟩ := List.getElem?_eq_some_iff.1 h
  rw [List.take_succ_eq_append_getElem h1, h2]

set_option maxRecDepth 100000 in
set_option maxHeartbeats 800000 in
theorem csLeast_any (l : List UInt8) (ht : tkB (ofL l) = true) (w : World) :
    Calls Tryd.prog 46 #[.string (ofL l)] w fun e w' => e = .returned (.string (ofL (leastL l))) ∧ Below w.heap.size w w' := by
  have hl := tk_le ht
  obtain ⟨n, hn⟩ : ∃ n, l.length = n := ⟨_, rfl⟩
  have hz : (ofL l).size = n := by rw [ofL_size, hn]
  have hasc : ∀ pos (h : pos < (ofL l).size), ((ofL l)[pos]'h).toNat < 128 := fun pos h => by
    have hm : (ofL l)[pos]'h ∈ l := by
      have : (ofL l)[pos]'h = l[pos]'(by rw [← ofL_size l]; exact h) := rfl
      rw [this]
      exact List.getElem_mem _
    rcases pcb_cases (tk_all ht _ hm) with e | e | e <;> rw [e] <;> decide
  have HS := Lib.hid (fun (k : Nat) (hk : k ≤ l.length) (W : World) => csSpin_any l hl k hk W)
  have HN := Lib.hid hn
  have HR := Lib.hid (show ofL (leastL l) = ofL (mn l (rotA l)) from rfl)
  have hk0 := World.iter_heap w (ofL l) 0
  have hb0 : Below w.heap.size w (w.iter (ofL l) 0) := (Below.refl _ w).alloc (Nat.le_refl _) _
  have HASC := Lib.hid hasc
  have HST := Lib.hid (show ofL l = ofL (mn l ((rotA l).take 0)) from rfl)
  clear hasc
  generalize hs : ofL l = s at *
  clear hs hn
  go_enter Tryd.func46, Tryd.ntmps46
  go_wp2_with fail
  go_loopw [3] (fun t wr => ∃ (pos : Nat), pos ≤ n ∧ t = .string (ofL (mn l ((rotA l).take pos))) ∧ wr.heap[w.heap.size]? = some (.stringIter s pos) ∧ Below w.heap.size w wr) (fun _ wr => n - wr.iterPos w.heap.size)
  case atStart => exact ⟨0, Nat.zero_le _, by rw [HST.out], hk0, hb0⟩
  case round =>
    obtain ⟨pos, hps, rfl, hk, hb⟩ := hrel
    by_cases hp : pos < n
    · have hnext : ∀ ty, (Instr.next (.pointer (some ⟨w.heap.size, 0, none⟩)) true ty).run Tryd.prog wr = _ := fun ty => Lib.run_next_ascii_at wr w.heap.size s pos ty hk (by rw [hz]; exact hp) (HASC.out pos (by rw [hz]; exact hp))
      have hk1 := Lib.iterAt_heap wr w.heap.size s pos (pos + 1) hk
      have hb1 : Below w.heap.size w (wr.iterAt w.heap.size s (pos + 1)) := Lib.below_iterAt hb (Nat.le_refl _) s (pos + 1)
      have hmu : wr.iterPos w.heap.size = pos := by simp [World.iterPos, hk]
      have SP := Lib.hid (HS.out pos (by rw [HN.out]; omega))
      have hsn := mn_snoc l (spn l pos) ((rotA l).take pos)
      rw [← rot_take (by rw [HN.out]; exact hp)] at hsn
      obtain ⟨y, hy⟩ : ∃ y, spn l pos = y := ⟨_, rfl⟩
      rw [hy] at SP hsn
      generalize mn l ((rotA l).take pos) = m at *
      have hless := less_run y m
      have HK1 := Lib.hid hk1
      have HB1 := Lib.hid hb1
      have HMU := Lib.hid hmu
      clear hk hb hk1 hb1 hy hmu
      generalize wr.iterAt w.heap.size s (pos + 1) = W1 at *
      by_cases hyx : y < m
      · rw [decide_eq_true hyx] at hless
        rw [if_pos hyx] at hsn
        have HSN := Lib.hid hsn
        clear hsn hyx
        generalize ofL m = M at *
        go_wp2_with fail
        refine (SP.out _).mono ?_
        rintro e W2 ⟨rfl, q, rfl⟩
        go_wp2_with fail
        go_roundw
        case rel => exact ⟨pos + 1, by omega, by rw [HSN.out], HK1.out, below_drewC HB1.out q⟩
        case measure =>
          have h2 : (W1.drewN q).iterPos w.heap.size = pos + 1 := by simp [World.iterPos, HK1.out]
          rw [HMU.out, h2]; omega
      · rw [decide_eq_false hyx] at hless
        rw [if_neg hyx] at hsn
        have HSN := Lib.hid hsn
        clear hsn hyx
        go_wp2_with fail
        refine (SP.out _).mono ?_
        rintro e W2 ⟨rfl, q, rfl⟩
        go_wp2_with fail
        go_roundw
        case rel => exact ⟨pos + 1, by omega, by rw [HSN.out], HK1.out, below_drewC HB1.out q⟩
        case measure =>
          have h2 : (W1.drewN q).iterPos w.heap.size = pos + 1 := by simp [World.iterPos, HK1.out]
          rw [HMU.out, h2]; omega
    · obtain rfl : pos = n := by omega
      have hnext : ∀ ty, (Instr.next (.pointer (some ⟨w.heap.size, 0, none⟩)) true ty).run Tryd.prog wr = _ := fun ty => Lib.run_next_end_at wr w.heap.size s pos ty hk (by rw [hz]; exact hp)
      have HT := Lib.hid (show (rotA l).take pos = rotA l from List.take_of_length_le (by simp [rotA, HN.out]))
      have HB := Lib.hid hb
      clear hk hb
      go_wp2_with fail
      go_ret
      exact ⟨by rw [HR.out, HT.out]; rfl, HB.out⟩

/-- The least number of pieces that come again. -/
def perN (l : List UInt8) : Nat := (rot1 l).findIdx (· == l) + 1

theorem per_hit {l : List UInt8} {k : Nat} (hk : k < l.length) (h : spn l (k + 1) = l) (hno : ∀ j, j < k → spn l (j + 1) ≠ l) : perN l = k + 1 := by
  have hk' : k < (rot1 l).length := by rw [rot1_len]; exact hk
  have := (List.findIdx_eq (p := (· == l)) hk').2 ⟨by simp [rot1, h], fun j hj => by
    have hj' : j < l.length := by omega
    simp only [rot1, List.getElem_map, List.getElem_range]
    simpa using hno j hj⟩
  rw [perN, this]

theorem per_le {l : List UInt8} (h0 : 0 < l.length) : perN l ≤ l.length := by
  have h1 : l.length - 1 < (rot1 l).length := by rw [rot1_len]; omega
  have h2 : (rot1 l)[l.length - 1]'h1 = l := by
    simp only [rot1, List.getElem_map, List.getElem_range]
    rw [show l.length - 1 + 1 = l.length by omega, spn_full]
  have : (rot1 l).findIdx (· == l) ≤ l.length - 1 := by
    refine Nat.le_of_not_lt fun hlt => ?_
    have := List.not_of_lt_findIdx hlt
    simp [h2] at this
  unfold perN
  omega

set_option maxRecDepth 100000 in
set_option maxHeartbeats 800000 in
theorem csPeriod_any (l : List UInt8) (hl : l.length ≤ 40) (h0 : 0 < l.length) (w : World) :
    Calls Tryd.prog 54 #[.string (ofL l)] w fun e w' => e = .returned (.int .i64 (perN l : Nat)) ∧ Below w.heap.size w w' := by
  obtain ⟨n, hn⟩ : ∃ n, l.length = n := ⟨_, rfl⟩
  have hz : (ofL l).size = n := by rw [ofL_size, hn]
  have HS := Lib.hid (fun (k : Nat) (hk : k ≤ l.length) (W : World) => csSpin_any l hl k hk W)
  have HN := Lib.hid hn
  have HE := Lib.hid (fun (y : List UInt8) => (show ((ofL y).toList == (ofL l).toList) = decide (y = l) by
    rw [ByteArray.toList_eq, ByteArray.toList_eq]
    exact (show (y == l) = decide (y = l) by by_cases h : y = l <;> simp [h])))
  obtain ⟨s, hs⟩ : ∃ s, ofL l = s := ⟨_, rfl⟩
  rw [hs] at HE HS hz ⊢
  have hpos : 0 < n := by omega
  have hn40 : n ≤ 40 := by omega
  clear hn h0
  go_enter Tryd.func54, Tryd.ntmps54
  go_wp2_with fail
  go_loopw [3] (fun i wr => ∃ k : Nat, k < n ∧ i = .int .i64 ((k + 1 : Nat) : Int) ∧ (∀ j, j < k → spn l (j + 1) ≠ l) ∧ Below w.heap.size w wr) (fun i _ => n - (intOf i).toNat)
  case atStart => exact ⟨0, hpos, rfl, fun j hj => absurd hj (Nat.not_lt_zero _), Below.refl _ _⟩
  case round =>
    obtain ⟨k, hk, rfl, hno, hb⟩ := hrel
    have HB := Lib.hid hb
    have HNO := Lib.hid hno
    clear hno hb
    by_cases hlt : k + 1 < n
    · have SP := HS.out (k + 1) (by rw [HN.out]; omega)
      rw [show ((k + 1 : Nat) : Int) = (k : Int) + 1 by omega] at SP
      replace SP := Lib.hid SP
      have he := HE.out (spn l (k + 1))
      have hlt2 : ((k + 1 : Nat) : Int) < (n : Int) := by omega
      by_cases hv : spn l (k + 1) = l
      · have HP := Lib.hid (per_hit (by rw [HN.out]; exact hk) hv HNO.out)
        rw [decide_eq_true hv] at he
        clear hv
        generalize ofL (spn l (k + 1)) = T at *
        go_wp2_with ((with_reducible refine (SP.out _).mono ?_); rintro e W2 ⟨rfl, q, rfl⟩)
        go_ret
        exact ⟨by rw [HP.out]; rfl, below_drewC HB.out q⟩
      · have HV := Lib.hid hv
        rw [decide_eq_false hv] at he
        clear hv
        generalize ofL (spn l (k + 1)) = T at *
        go_wp2_with ((with_reducible refine (SP.out _).mono ?_); rintro e W2 ⟨rfl, q, rfl⟩)
        go_roundw
        case rel => exact ⟨k + 1, by omega, by go_num, fun j hj => by
            by_cases e : j = k
            · subst e; exact HV.out
            · exact HNO.out j (by omega), below_drewC HB.out q⟩
        case measure => simp [intOf]; omega
    · have hkn : k + 1 = n := by omega
      have HP := Lib.hid (per_hit (l := l) (k := k) (by rw [HN.out]; exact hk) (by rw [hkn, ← HN.out]; exact spn_full l) HNO.out)
      have hlt2 : ¬ ((k + 1 : Nat) : Int) < (n : Int) := by omega
      go_wp2_with fail
      go_ret
      exact ⟨by rw [HP.out, hkn]; rfl, HB.out⟩

def four (l : List UInt8) : List (List UInt8) := [l, l.map mir, bak l, (bak l).map mir]

def classL (l : List UInt8) : List UInt8 := mn l ((four l).map leastL)

theorem miS_of (l : List UInt8) : miS (ofL l) = ofL (l.map mir) := rfl

theorem baS_of (l : List UInt8) : baS (ofL l) = ofL (bak l) := by
  rw [baS, bak, ← List.map_reverse]; rfl

theorem four_tk {l : List UInt8} (h : tkB (ofL l) = true) : ∀ x ∈ four l, tkB (ofL x) = true := by
  intro x hx
  simp only [four, List.mem_cons, List.not_mem_nil, or_false] at hx
  rcases hx with rfl | rfl | rfl | rfl
  · exact h
  · exact tk_mir h
  · exact tk_bak h
  · exact tk_mir (tk_bak h)

theorem four_len {l x : List UInt8} (hx : x ∈ four l) : x.length = l.length := by
  simp only [four, List.mem_cons, List.not_mem_nil, or_false] at hx
  rcases hx with rfl | rfl | rfl | rfl <;> simp [bak]

set_option maxRecDepth 100000 in
theorem csFour_any (l : List UInt8) (hl : l.length ≤ 40) (w : World) :
    Calls Tryd.prog 76 #[.string (ofL l)] w fun e w' => e = .returned (.slice (some ⟨w.heap.size, 0, none⟩) 4 4) ∧ w' = w.alloc (.cells #[.string (ofL l), .string (ofL (l.map mir)), .string (ofL (bak l)), .string (ofL ((bak l).map mir))] 9) := by
  have M1 := Lib.hid (fun W => tkMirror_any (ofL l) (by rw [ofL_size]; exact hl) W)
  have B1 := Lib.hid (fun W => tkBack_any (ofL l) (by rw [ofL_size]; exact hl) W)
  have M2 := Lib.hid (fun W => tkMirror_any (ofL (bak l)) (by rw [ofL_size, bak_len]; exact hl) W)
  rw [miS_of] at M1 M2
  rw [baS_of] at B1
  go_enter Tryd.func76, Tryd.ntmps76
  go_wp2_with (first | ((with_reducible refine (M1.out _).mono ?_); rintro e w' ⟨rfl, rfl⟩) | ((with_reducible refine (M2.out _).mono ?_); rintro e w' ⟨rfl, rfl⟩) | ((with_reducible refine (B1.out _).mono ?_); rintro e w' ⟨rfl, rfl⟩))
  go_ret
  exact ⟨rfl, rfl⟩

theorem four_at {W : World} {g : Nat} {a b c d : Value} {t : TypeId} (h : W.heap[g]? = some (.cells #[a, b, c, d] t (0, 0))) (i : Nat) (x : Value) (hx : [a, b, c, d][i]? = some x) : W.cell? ⟨g, i, none⟩ = some x := by
  rw [cell_of_row _ _ i _ _ (0, 0) h]
  simpa using hx

set_option maxRecDepth 100000 in
set_option maxHeartbeats 800000 in
theorem csClass_any (l : List UInt8) (ht : tkB (ofL l) = true) (w : World) :
    Calls Tryd.prog 52 #[.string (ofL l)] w fun e w' => e = .returned (.string (ofL (classL l))) ∧ Below w.heap.size w w' := by
  have FR := Lib.hid (csFour_any l (tk_le ht))
  have LS := Lib.hid (fun x (hx : x ∈ four l) (W : World) => csLeast_any x (four_tk ht x hx) W)
  go_enter Tryd.func52, Tryd.ntmps52
  go_wp2_with fail
  refine (FR.out _).mono ?_
  rintro e w1 ⟨rfl, rfl⟩
  go_wp2_with fail
  go_loopw [3, 11] (fun t i wr => ∃ (k : Nat), k ≤ 4 ∧ i = .int .i64 k ∧ t = .string (ofL (mn l (((four l).take k).map leastL))) ∧ wr.heap[w.heap.size]? = some (.cells #[.string (ofL l), .string (ofL (l.map mir)), .string (ofL (bak l)), .string (ofL ((bak l).map mir))] 9 (0, 0)) ∧ Below w.heap.size w wr) (fun _ i _ => 4 - (intOf i).toNat)
  case atStart => exact ⟨0, by omega, rfl, rfl, heap_alloc_last w _, by go_grown⟩
  case round =>
    obtain ⟨k, hk, rfl, rfl, hblk, hb⟩ := hrel
    have hzl : w.heap.size < wr.heap.size := (Array.getElem?_eq_some_iff.1 hblk).1
    by_cases hlt : k < 4
    · obtain ⟨x, hx⟩ : ∃ x, (four l)[k]? = some x := ⟨_, List.getElem?_eq_getElem (by simpa [four] using hlt)⟩
      have c0 : wr.cell? ⟨w.heap.size, k, none⟩ = some (.string (ofL x)) := four_at hblk k _ (by
        rw [show [Value.string (ofL l), Value.string (ofL (l.map mir)), Value.string (ofL (bak l)), Value.string (ofL ((bak l).map mir))] = (four l).map (fun y => Value.string (ofL y)) from rfl, List.getElem?_map, hx]
        rfl)
      have SP := Lib.hid (LS.out x (List.mem_of_getElem? hx))
      have hsn := mn_snoc l (leastL x) (((four l).take k).map leastL)
      rw [show ((four l).take k).map leastL ++ [leastL x] = ((four l).take (k + 1)).map leastL by rw [List.take_add_one, hx, List.map_append]; rfl] at hsn
      generalize leastL x = y at *
      generalize mn l (((four l).take k).map leastL) = m at *
      have hless := less_run y m
      have HBK := Lib.hid hblk
      have HB := Lib.hid hb
      have i1 : (0 : Int) ≤ (k : Int) := by omega
      have i2 : (k : Int) < 4 := by omega
      clear hx hblk hb
      by_cases hyx : y < m
      · rw [decide_eq_true hyx] at hless
        rw [if_pos hyx] at hsn
        have HSN := Lib.hid hsn
        clear hsn hyx
        generalize ofL x = X at *
        go_wp2_with fail
        refine (SP.out _).mono ?_
        rintro e w2 ⟨rfl, hb2⟩
        have HBK2 := Lib.hid ((hb2.block w.heap.size hzl).trans HBK.out)
        have HB2 := Lib.hid (HB.out.trans (hb2.mono HB.out.size))
        clear hb2
        go_wp2_with fail
        go_roundw
        case rel => exact ⟨k + 1, by omega, by go_num, by rw [HSN.out], HBK2.out, HB2.out⟩
        case measure => simp [intOf]; omega
      · rw [decide_eq_false hyx] at hless
        rw [if_neg hyx] at hsn
        have HSN := Lib.hid hsn
        clear hsn hyx
        generalize ofL x = X at *
        go_wp2_with fail
        refine (SP.out _).mono ?_
        rintro e w2 ⟨rfl, hb2⟩
        have HBK2 := Lib.hid ((hb2.block w.heap.size hzl).trans HBK.out)
        have HB2 := Lib.hid (HB.out.trans (hb2.mono HB.out.size))
        clear hb2
        go_wp2_with fail
        go_roundw
        case rel => exact ⟨k + 1, by omega, by go_num, by rw [HSN.out], HBK2.out, HB2.out⟩
        case measure => simp [intOf]; omega
    · obtain rfl : k = 4 := by omega
      have HB := Lib.hid hb
      clear hb
      go_wp2_with fail
      go_ret
      exact ⟨rfl, HB.out⟩

end Go.Proofs.YtoenkgenoloihaaDoor
