/- Contracts and facts, put together (part 5). Conditions: each says its own. -/
import Derived.Test.YthiimllafcfieaaQ4
import Derived.WalkKit
import Derived.LoopTactic
import Derived.Lib.Hide
import Derived.Shelf.Bits.Mul64
import Derived.Lib.SlBytesConst
import Derived.Deep.RegionHeld3

/- Contracts: a sorted list searched; the key of an end, in the model. -/
namespace Go.Proofs.Ythiimllafcfieaa
open Go.ChangeShapes Go.WideShapes Go.ChangeAt Go.RowKit

set_option linter.unusedVariables false

set_option maxRecDepth 100000 in
theorem clSort_small (xs : List Int) (h2 : xs.length < 2) (v : Value) (w : World) (hv : IntV w v xs) : Calls Try.prog 113 #[v] w (SortPost xs w) := by
  have HV := Lib.hid hv
  obtain ⟨av, cap, rfl, hc1, hc2, hr⟩ := hv
  have hp : xs.Pairwise (· ≤ ·) := by
    match xs, h2 with
    | [], _ => exact List.Pairwise.nil
    | [a], _ => simp
  have HP := Lib.hid hp
  clear hr hp
  go_enter Try.func113, Try.ntmps113
  go_wp2_with fail
  go_ret
  exact ⟨_, xs, rfl, HV.out, List.Perm.refl _, HP.out, Below.refl _ _⟩

theorem clSort_all : ∀ (N : Nat) (xs : List Int) (v : Value) (w : World), xs.length ≤ N → xs.length ≤ 5000 → IntV w v xs → Calls Try.prog 113 #[v] w (SortPost xs w)
  | 0, xs, v, w, hN, _, hv => clSort_small xs (by omega) v w hv
  | N + 1, xs, v, w, hN, hb, hv => by
    by_cases h2 : 2 ≤ xs.length
    · exact clSort_step xs hb h2 v (fun zs v w hz hv => clSort_all N zs v w (by omega) (by omega) hv) w hv
    · exact clSort_small xs (by omega) v w hv

theorem clSort_any (xs : List Int) (hb : xs.length ≤ 5000) (v : Value) (w : World) (hv : IntV w v xs) : Calls Try.prog 113 #[v] w (SortPost xs w) := clSort_all xs.length xs v w (Nat.le_refl _) hb hv

theorem cnt_split (xs : List Int) (x : Int) (k : Nat) (hk : k ≤ xs.length) (h1 : ∀ i z, i < k → xs[i]? = some z → z < x) (h2 : ∀ i z, k ≤ i → xs[i]? = some z → x ≤ z) : xs.countP (fun z => decide (z < x)) = k := by
  rw [← List.take_append_drop k xs, List.countP_append]
  have e1 : (xs.take k).countP (fun z => decide (z < x)) = (xs.take k).length := List.countP_eq_length.2 fun z hz => by
    obtain ⟨i, hi⟩ := List.getElem?_of_mem hz
    have hl := (List.getElem?_eq_some_iff.1 hi).1
    rw [List.length_take] at hl
    rw [List.getElem?_take_of_lt (by omega)] at hi
    exact decide_eq_true (h1 i z (by omega) hi)
  have e2 : (xs.drop k).countP (fun z => decide (z < x)) = 0 := List.countP_eq_zero.2 fun z hz => by
    obtain ⟨i, hi⟩ := List.getElem?_of_mem hz
    rw [List.getElem?_drop] at hi
    have := h2 (k + i) z (by omega) hi
    simp; omega
  rw [e1, e2, List.length_take]
  omega

theorem sorted_le {xs : List Int} (h : xs.Pairwise (· ≤ ·)) {i j : Nat} {x y : Int} (hi : xs[i]? = some x) (hj : xs[j]? = some y) (hij : i ≤ j) : x ≤ y := by
  by_cases e : i = j
  · subst e
    rw [hi] at hj
    injection hj with hj
    omega
  · obtain ⟨h1, rfl⟩ := List.getElem?_eq_some_iff.1 hi
    obtain ⟨h2, rfl⟩ := List.getElem?_eq_some_iff.1 hj
    exact List.pairwise_iff_getElem.1 h i j h1 h2 (by omega)

set_option maxRecDepth 100000 in
set_option maxHeartbeats 800000 in
theorem clBelow_any (xs : List Int) (hb : xs.length ≤ 5000) (hs : xs.Pairwise (· ≤ ·)) (v : Value) (x : Int) (w : World) (hv : IntV w v xs) :
    Calls Try.prog 129 #[v, .int .i64 x] w fun e w' => e = .returned (.int .i64 ((xs.countP fun z => decide (z < x)) : Nat)) ∧ w = w' := by
  obtain ⟨av, cap, rfl, hc1, hc2, hr⟩ := hv
  obtain ⟨n, hn⟩ : ∃ n, xs.length = n := ⟨_, rfl⟩
  rw [hn] at hb hc1 ⊢
  have HN := Lib.hid hn
  have HR := Lib.hid hr
  have HS := Lib.hid hs
  clear hn hr hs
  go_enter Try.func129, Try.ntmps129
  go_wp2_with fail
  go_loop [5, 6] (fun p q => ∃ lo hi : Nat, p = .int .i64 (lo : Nat) ∧ q = .int .i64 (hi : Nat) ∧ lo ≤ hi ∧ hi ≤ n ∧ (∀ i z, i < lo → xs[i]? = some z → z < x) ∧ (∀ i z, hi ≤ i → xs[i]? = some z → x ≤ z)) (fun p q => (intOf q).toNat - (intOf p).toNat)
  case atStart => exact ⟨0, n, rfl, rfl, Nat.zero_le _, Nat.le_refl _, fun i z h => absurd h (by omega), fun i z h hz => by have := (List.getElem?_eq_some_iff.1 hz).1; rw [HN.out] at this; omega⟩
  case round =>
    obtain ⟨lo, hi, rfl, rfl, h1, h2, h3, h4⟩ := hrel
    have H3 := Lib.hid h3
    have H4 := Lib.hid h4
    clear h3 h4
    by_cases hlt : lo < hi
    · obtain ⟨m, hm⟩ : ∃ m, (lo + hi) / 2 = m := ⟨_, rfl⟩
      obtain ⟨y, hy⟩ : ∃ y, xs[m]? = some y := ⟨_, List.getElem?_eq_getElem (by rw [HN.out]; omega)⟩
      obtain ⟨g, o, rfl, hg, hcell⟩ := HR.out.resolve_left (fun h => by have := HN.out; rw [h] at this; simp at this; omega)
      have c0 := hcell m y hy
      have HY := Lib.hid hy
      have hq : ((lo : Int) + (hi : Int)).tdiv 2 = (m : Int) := by rw [Int.tdiv_eq_ediv_of_nonneg (by omega)]; omega
      have m1 : lo ≤ m := by omega
      have m2 : m < hi := by omega
      have i1 : (0 : Int) ≤ (m : Int) := by omega
      have i2 : (m : Int) < (n : Int) := by omega
      have hm5 : m ≤ 5000 := by omega
      have hwm : IntKind.i64.wrap (m : Int) = (m : Int) := by rw [IntKind.wrap_i64]; omega
      clear hm hcell hy
      by_cases hxy : y < x
      · go_wp2_with fail
        go_round
        case rel => exact ⟨m + 1, hi, by go_num, rfl, by omega, h2, fun i z hi hz => Int.lt_of_le_of_lt (sorted_le HS.out hz HY.out (by omega)) hxy, H4.out⟩
        case measure => simp [intOf]; omega
      · go_wp2_with fail
        go_round
        case rel => exact ⟨lo, m, rfl, rfl, by omega, by omega, H3.out, fun i z hi hz => Int.le_trans (by omega) (sorted_le HS.out HY.out hz hi)⟩
        case measure => simp [intOf]; omega
    · obtain rfl : lo = hi := by omega
      have HC := Lib.hid (cnt_split xs x lo (by rw [HN.out]; exact h2) H3.out H4.out)
      go_wp2_with fail
      go_ret
      exact ⟨by rw [HC.out]; rfl, rfl⟩

/-- The key of a point and a turn. -/
def keyI (s : Sp) (t : Int) : Int := ((((s.x0 + 64) * 128 + s.x1 + 64) * 128 + s.x2 + 64) * 128 + s.x3 + 64) * 128 + t + 64

def smK (s : Sp) (t : Int) : Prop := (-60 ≤ s.x0 ∧ s.x0 ≤ 60) ∧ (-60 ≤ s.x1 ∧ s.x1 ≤ 60) ∧ (-60 ≤ s.x2 ∧ s.x2 ≤ 60) ∧ (-60 ≤ s.x3 ∧ s.x3 ≤ 60) ∧ -60 ≤ t ∧ t ≤ 60

theorem keyI_inj {s s' : Sp} {t t' : Int} (h : smK s t) (h' : smK s' t') (e : keyI s t = keyI s' t') : (s.x0 = s'.x0 ∧ s.x1 = s'.x1 ∧ s.x2 = s'.x2 ∧ s.x3 = s'.x3) ∧ t = t' := by
  unfold smK at h h'
  unfold keyI at e
  omega

theorem keyI_bd {s : Sp} {t : Int} (h : smK s t) : 0 ≤ keyI s t ∧ keyI s t ≤ 40000000000 := by
  unfold smK at h
  unfold keyI
  omega

set_option maxRecDepth 100000 in
set_option maxHeartbeats 800000 in
theorem clKey_any (s : Sp) (t : Int) (h : smK s t) (w : World) :
    Calls Try.prog 112 #[.agg #[.int .i64 s.x0, .int .i64 s.x1, .int .i64 s.x2, .int .i64 s.x3], .int .i64 t] w fun e w' => e = .returned (.int .i64 (keyI s t)) ∧ Below w.heap.size w w' := by
  obtain ⟨x0, x1, x2, x3, x4⟩ := s
  obtain ⟨⟨a0, b0⟩, ⟨a1, b1⟩, ⟨a2, b2⟩, ⟨a3, b3⟩, a4, b4⟩ := h
  simp only at a0 b0 a1 b1 a2 b2 a3 b3
  go_enter Try.func112, Try.ntmps112
  go_wp2_with fail
  go_ret
  exact ⟨rfl, by go_grown⟩

end Go.Proofs.Ythiimllafcfieaa

/- Contract: the model's 'clWords'. -/
namespace Go.Proofs.Ythiimllafcfieaa
open Go.ChangeShapes Go.WideShapes Go.ChangeAt Go.RowKit

set_option linter.unusedVariables false

def nxW (l : List (List UInt8)) : List (List UInt8) := l.flatMap fun w => ltr.map fun c => w ++ [c]

theorem words_nx (n : Nat) : words (n + 1) = nxW (words n) := rfl

theorem nxW_take {l : List (List UInt8)} {j : Nat} {u : List UInt8} (h : l[j]? = some u) : nxW (l.take (j + 1)) = nxW (l.take j) ++ [u ++ [76], u ++ [82], u ++ [83]] := by
  rw [List.take_add_one, h]
  simp [nxW, ltr, List.flatMap_append]

theorem news_three {W : World} {n : Nat} (hn : W.heap.size = n) (x y z : Value) (t : TypeId) : ∀ j u, [x, y, z][j]? = some u → (W.alloc (.cells #[x, y, z] t)).cell? ((⟨n, 0, none⟩ : Addr).add j) = some u := by
  subst hn
  exact fun j u h => World.news_of_block (cs := #[x, y, z]) (heap_alloc_new W _) j u h

set_option maxRecDepth 100000 in
set_option maxHeartbeats 3200000 in
theorem clWords_any (n : Nat) (hn : n ≤ 7) (w : World) : Calls Try.prog 58 #[.int .i64 (n : Nat)] w (StrPost (words n) w) := by
  obtain ⟨i0, hi, iz0, iz1, iz2⟩ := info_parts srInfo
  go_enter Try.func58, Try.ntmps58
  go_wp2_with fail
  go_loopw [0, 3] (fun i v wr => ∃ k : Nat, k ≤ n ∧ i = .int .i64 ((n - k : Nat) : Int) ∧ wr.ownsRow w.heap.size 9 1 v (3 ^ k) (strV (words k)) ∧ Below w.heap.size w wr) (fun i _ _ => (intOf i).toNat)
  case atStart => exact ⟨0, Nat.zero_le _, rfl, litCellsP (by simp) (by omega) rfl rfl, by go_grown⟩
  case round =>
    obtain ⟨k, hk, rfl, hO, hb⟩ := hrel
    have hz : w.heap.size ≤ wr.heap.size := hb.size
    have h3 : 0 < 3 ^ k := Nat.pow_pos (by decide)
    obtain ⟨g, cap, rfl, hg0, hcp⟩ := hO.form h3
    by_cases hlt : k < n
    · obtain ⟨M, hM⟩ : ∃ M, 3 ^ k = M := ⟨_, rfl⟩
      have hM1 : M ≤ 2187 := by rw [← hM]; exact Nat.pow_le_pow_right (by decide) (show k ≤ 7 by omega)
      have hMS := Lib.hid (show 3 ^ (k + 1) = 3 * M by rw [Nat.pow_succ, hM, Nat.mul_comm])
      have hl := words_count k
      have hnx := words_nx k
      have hul : ∀ u ∈ words k, u.length ≤ 10 := fun u hu => by rw [words_len k u hu]; omega
      rw [hM] at hO h3 hl
      generalize words k = l at hO hl hnx hul
      have hg := (hO.lt g rfl).2
      have HP := Lib.hid (str_of hO hl)
      have HL := Lib.hid hl
      have HNX := Lib.hid hnx
      have HUL := Lib.hid hul
      have HB := Lib.hid hb
      have hd0 : 0 < n - k := by omega
      have hdd : ((n - k : Nat) : Int) - 1 = ((n - (k + 1) : Nat) : Int) := by omega
      generalize hd : n - k = d at *
      generalize hd2 : n - (k + 1) = d2 at *
      obtain ⟨wo, rfl⟩ : ∃ wo : World, wo = wr := ⟨_, rfl⟩
      rw [hM]
      clear hO hl hnx hul hb hM
      go_wp2_with fail
      go_loopw [4, 14] (fun t j wr => ∃ (jj : Nat) (v : Value), jj ≤ M ∧ j = .int .i64 jj ∧ v = t ∧ wr.ownsRow wo.heap.size 9 1 v (3 * jj) (strV (nxW (l.take jj))) ∧ Below wo.heap.size wo wr) (fun _ j _ => M - (intOf j).toNat)
      case atStart => exact ⟨0, _, Nat.zero_le _, rfl, rfl, World.ownsRow_nil _ _ _ _, Below.refl _ _⟩
      case round =>
        obtain ⟨j, v, hj, rfl, rfl, hN, hb2⟩ := hrel
        have hz2 := hb2.size
        by_cases hlj : j < M
        · obtain ⟨u, hu⟩ : ∃ u, l[j]? = some u := ⟨_, List.getElem?_eq_getElem (by rw [HL.out]; exact hlj)⟩
          have c0 := (HP.out.below hg hb2) j u hu
          have hul := HUL.out u (List.mem_of_getElem? hu)
          have HT := Lib.hid (nxW_take hu)
          obtain ⟨T1, hT1⟩ : ∃ T, ofL (u ++ [76]) = T := ⟨_, rfl⟩
          obtain ⟨T2, hT2⟩ : ∃ T, ofL (u ++ [82]) = T := ⟨_, rfl⟩
          obtain ⟨T3, hT3⟩ : ∃ T, ofL (u ++ [83]) = T := ⟨_, rfl⟩
          have k1 : ∀ w : World, (Op.stringOp .add (ofL u) ⟨#[76]⟩).run Try.prog w = .ok (.string T1) w := fun w => concat_run (by rw [← hT1]; exact ofL_snoc u 76) (by rw [ofL_size]; show _ + 1 ≤ _; omega) w
          have k2 : ∀ w : World, (Op.stringOp .add (ofL u) ⟨#[82]⟩).run Try.prog w = .ok (.string T2) w := fun w => concat_run (by rw [← hT2]; exact ofL_snoc u 82) (by rw [ofL_size]; show _ + 1 ≤ _; omega) w
          have k3 : ∀ w : World, (Op.stringOp .add (ofL u) ⟨#[83]⟩).run Try.prog w = .ok (.string T3) w := fun w => concat_run (by rw [← hT3]; exact ofL_snoc u 83) (by rw [ofL_size]; show _ + 1 ≤ _; omega) w
          have HV := Lib.hid (show strV (nxW (l.take (j + 1))) = strV (nxW (l.take j)) ++ [.string T1, .string T2, .string T3] by rw [HT.out, strV_append, ← hT1, ← hT2, ← hT3]; rfl)
          have HN := Lib.hid (hN.alloc (.cells #[.string T1, .string T2, .string T3] 9))
          have HB2 := Lib.hid (hb2.alloc hz2 (.cells #[.string T1, .string T2, .string T3] 9))
          clear hu hN hb2 hT1 hT2 hT3
          go_wp2_with (at_builtin; refine wpList_append_own_at _ rfl _ _ 25 rfl wo.heap.size 9 i0 (.string ByteArray.empty) 1 16 Try.underlying25 hi iz0 iz1 iz2 rfl (by decide) v _ _ rfl HN.out ⟨wr.heap.size, 0, none⟩ 3 3 [.string T1, .string T2, .string T3] rfl rfl (news_three rfl _ _ _ _) (by intro u hu; simp at hu; rcases hu with rfl | rfl | rfl <;> rfl) (by unfold maxLen; omega) (by omega) (by simp; omega) ?_; intro v' w2 hown' hgrow hnil hloc)
          have hlt' := HN.out.lt
          have HB8 := Lib.hid (HB2.out.grown hgrow (by simp; omega) (fun k hk => (hlt' k hk).1))
          have HO8 := Lib.hid hown'
          clear hlt' hgrow hown' hnil hloc
          go_roundw
          case rel => exact ⟨j + 1, v', by omega, by go_num, rfl, by rw [HV.out]; exact HO8.out, HB8.out⟩
          case measure => simp [intOf]; omega
        · obtain rfl : j = M := by omega
          have hta : l.take j = l := List.take_of_length_le (by rw [HL.out]; exact Nat.le_refl _)
          rw [hta] at hN
          have HN := Lib.hid (own_lessP hN hz)
          have HB2 := Lib.hid (HB.out.trans (hb2.mono hz))
          clear hN hb2 hta
          go_wp2_with fail
          go_roundw
          case rel => exact ⟨k + 1, by omega, by rw [hd2], by rw [hMS.out, HNX.out]; exact HN.out, HB2.out⟩
          case measure => simp [intOf]; omega
    · obtain rfl : k = n := by omega
      have HO := Lib.hid hO
      have HB := Lib.hid hb
      have h00 : k - k = 0 := by omega
      rw [h00]
      clear hO hb
      go_wp2_with fail
      go_ret
      exact ⟨_, rfl, by rw [words_count]; exact HO.out, HB.out⟩

end Go.Proofs.Ythiimllafcfieaa

/- Contract: the model's 'clBacks': the keys of all ends, in order. -/
namespace Go.Proofs.Ythiimllafcfieaa
open Go.ChangeShapes Go.WideShapes Go.ChangeAt Go.RowKit

set_option linter.unusedVariables false

def sp4 : Sp := ⟨0, 0, 0, 0, 4⟩

/-- The key of the end of a text, laid from 0 with the heading 4. -/
def bkI (u : List UInt8) : Int := keyI (fin sp4 u) (trW u)

def bkL (n : Nat) : List Int := (words n).map bkI

theorem trW_bd (u : List UInt8) (n : Nat) (h : u.length ≤ n) : -(n : Int) ≤ trW u ∧ trW u ≤ n := by
  have n1 := cnt_le 76 u
  have n2 := cnt_le 82 u
  unfold trW
  omega

theorem fin_sm (h : Int) (h0 : 0 ≤ h) (h7 : h ≤ 7) (u : List UInt8) (hu : u.length ≤ 14) (t : Int) (t0 : -60 ≤ t) (t1 : t ≤ 60) : smK (fin ⟨0, 0, 0, 0, h⟩ u) t := by
  have := fin_ok (s := ⟨0, 0, 0, 0, h⟩) (n := 0) (by simp [Sp.okB, h0, h7]) u
  simp only [Sp.okB] at this
  simp only [smK]
  omega

theorem bk_sm {n : Nat} (hn : n ≤ 7) {u : List UInt8} (h : u ∈ words n) : smK (fin sp4 u) (trW u) := by
  have hl := words_len n u h
  have := trW_bd u 7 (by omega)
  exact fin_sm 4 (by decide) (by decide) u (by omega) _ (by omega) (by omega)

set_option maxRecDepth 100000 in
set_option maxHeartbeats 3200000 in
theorem clBacks_any (n : Nat) (hn : n ≤ 7) (w : World) : Calls Try.prog 88 #[.int .i64 (n : Nat)] w (SortPost (bkL n) w) := by
  obtain ⟨i0, hi, iz0, iz1, iz2⟩ := info_parts nmInfoS
  have P := Lib.hid (clWords_any n hn)
  have hpc : ∀ u ∈ words n, u.all pcb = true ∧ u.length ≤ 14 ∧ smK (fin sp4 u) (trW u) := fun u hu => ⟨words_pcb n u hu, by rw [words_len n u hu]; omega, bk_sm hn hu⟩
  have hlen := words_count n
  have hL : bkL n = (words n).map bkI := rfl
  rw [hL]
  obtain ⟨M, hM⟩ : ∃ M, 3 ^ n = M := ⟨_, rfl⟩
  have hM1 : M ≤ 2187 := by rw [← hM]; exact Nat.pow_le_pow_right (by decide) hn
  rw [hM] at hlen
  generalize words n = l at *
  have HPC := Lib.hid hpc
  have HL := Lib.hid hlen
  clear hL hpc hlen hM
  go_enter Try.func88, Try.ntmps88
  go_wp2_with fail
  refine (P.out _).mono ?_
  rintro e w1 ⟨v1, rfl, o1, hb1⟩
  rw [HL.out] at o1
  obtain ⟨av, cv, rfl⟩ := own_formC o1
  have HB1 := Lib.hid hb1
  have O1 := Lib.hid o1
  clear hb1 o1
  go_wp2_with fail
  go_loopw [3, 11] (fun t j wr => ∃ (jj : Nat) (v : Value), jj ≤ M ∧ j = .int .i64 jj ∧ v = t ∧ wr.ownsRow w1.heap.size 3 1 v jj (((l.take jj).map bkI).map (Value.int .i64)) ∧ Below w1.heap.size w1 wr) (fun _ j _ => M - (intOf j).toNat)
  case atStart => exact ⟨0, _, Nat.zero_le _, rfl, rfl, World.ownsRow_nil _ _ _ _, Below.refl _ _⟩
  case round =>
    obtain ⟨j, v, hj, rfl, rfl, hN, hb2⟩ := hrel
    have hz2 := hb2.size
    by_cases hlj : j < M
    · obtain ⟨u, hu⟩ : ∃ u, l[j]? = some u := ⟨_, List.getElem?_eq_getElem (by rw [HL.out]; exact hlj)⟩
      obtain ⟨hp1, hp2, hp3⟩ := HPC.out u (List.mem_of_getElem? hu)
      obtain ⟨g, rfl⟩ : ∃ g, av = some ⟨g, 0, none⟩ := by
        rcases O1.out.2 with ⟨h, h0⟩ | ⟨g, cap, _, h, _⟩
        · omega
        · injection h with h; exact ⟨g, h⟩
      have c0 := (str_of O1.out HL.out).below (O1.out.lt g rfl).2 hb2 j u hu
      have CE := Lib.hid (clEnd_any u hp1 hp2 4 (by decide) (by decide))
      have CK := Lib.hid (clKey_any (fin sp4 u) (trW u) hp3)
      have HT := Lib.hid (show ((l.take (j + 1)).map bkI).map (Value.int .i64) = ((l.take j).map bkI).map (Value.int .i64) ++ [.int .i64 (keyI (fin sp4 u) (trW u))] by
        rw [List.take_add_one, hu, List.map_append, List.map_append]; rfl)
      rw [show (⟨0, 0, 0, 0, 4⟩ : Sp) = sp4 from rfl] at CE
      generalize keyI (fin sp4 u) (trW u) = K at *
      generalize fin sp4 u = p at *
      generalize trW u = tr at *
      generalize ofL u = T at *
      have HN := Lib.hid hN
      have HB2 := Lib.hid hb2
      clear hu hp1 hp2 hp3 hN hb2
      go_wp2_with fail
      refine (CE.out _).mono ?_
      rintro e w2 ⟨rfl, hb3⟩
      have hz3 := hb3.size
      go_wp2_with fail
      refine (CK.out _).mono ?_
      rintro e w3 ⟨rfl, hb4⟩
      have hz4 := hb4.size
      simp at hz4
      have hAll := ((HB2.out.trans (hb3.mono hz2)).alloc (Nat.le_trans hz2 hz3) (.cells #[.int .i64 p.x0, .int .i64 p.x1, .int .i64 p.x2, .int .i64 p.x3] 60)).trans (hb4.mono (by simp; omega))
      have hst := (hb3.alloc hz3 (.cells #[.int .i64 p.x0, .int .i64 p.x1, .int .i64 p.x2, .int .i64 p.x3] 60)).trans (hb4.mono (by simp; omega))
      have HN3 := Lib.hid ((HN.out.kept (below_grown hst) (by cases v.ownBlock <;> simp)).alloc (.cells #[.int .i64 K] 3))
      have HB3 := Lib.hid (hAll.alloc hAll.size (.cells #[.int .i64 K] 3))
      have hz5 := hAll.size
      clear hb3 hb4 hAll hst
      go_wp2_with (at_builtin; refine wpList_append_own_at _ rfl _ _ 88 rfl w1.heap.size 3 i0 (.int .i64 0) 1 8 Try.underlying88 hi iz0 iz1 iz2 rfl (by decide) v _ _ rfl HN3.out ⟨w3.heap.size, 0, none⟩ 1 1 [.int .i64 K] rfl rfl (cell_one_new _ _ _) (by intro u hu; simp at hu; subst hu; rfl) (by unfold maxLen; omega) (by omega) (by simp; omega) ?_; intro v' w4 hown' hgrow hnil hloc)
      have hlt' := HN3.out.lt
      have HB8 := Lib.hid (HB3.out.grown hgrow (by simp; omega) (fun k hk => (hlt' k hk).1))
      have HO8 := Lib.hid hown'
      clear hlt' hgrow hown' hnil hloc
      go_roundw
      case rel => exact ⟨j + 1, v', by omega, by go_num, rfl, by rw [HT.out]; exact HO8.out, HB8.out⟩
      case measure => simp [intOf]; omega
    · obtain rfl : j = M := by omega
      have hta : l.take j = l := List.take_of_length_le (by rw [HL.out]; exact Nat.le_refl _)
      rw [hta] at hN
      have hln : (l.map bkI).length = j := by rw [List.length_map, HL.out]
      have hIV : IntV wr v (l.map bkI) := iv_own (by rw [hln]; exact hN)
      have S := Lib.hid (fun W hW => clSort_any (l.map bkI) (by rw [hln]; omega) v W (hIV.below hW))
      have HB2 := Lib.hid (HB1.out.trans (hb2.mono HB1.out.size))
      clear hN hb2 hta hln hIV
      go_wp2_with fail
      refine (S.out _ (Below.refl _ _)).mono ?_
      rintro e w2 ⟨v2, ys, rfl, h1, h2, h3, hb5⟩
      have H1 := Lib.hid h1
      have HB5 := Lib.hid (HB2.out.trans (hb5.mono HB2.out.size))
      clear h1 hb5
      go_wp2_with fail
      go_ret
      exact ⟨v2, ys, rfl, H1.out, h2, h3, HB5.out⟩

end Go.Proofs.Ythiimllafcfieaa

/- Texts laid backwards: from the end, turned round, they lead to the beginning, turned round. -/
namespace Go.Proofs.Ythiimllafcfieaa

def around (s : Sp) : Sp := ⟨s.x0, s.x1, s.x2, s.x3, (s.h + 4) % 8⟩

def back (l : List UInt8) : List UInt8 := (l.map mir).reverse

theorem back_cons (c : UInt8) (l : List UInt8) : back (c :: l) = back l ++ [mir c] := by simp [back]

theorem back_len (l : List UInt8) : (back l).length = l.length := by simp [back]

theorem mir_ltr {c : UInt8} (h : c ∈ ltr) : mir c ∈ ltr := by
  simp only [ltr, List.mem_cons, List.not_mem_nil, or_false] at h
  rcases h with rfl | rfl | rfl <;> decide

theorem words_iff : ∀ (n : Nat) (w : List UInt8), w ∈ words n ↔ w.length = n ∧ ∀ c ∈ w, c ∈ ltr
  | 0, w => by
    simp only [words, List.mem_cons, List.not_mem_nil, or_false, List.length_eq_zero_iff]
    constructor
    · rintro rfl; simp
    · exact fun h => h.1
  | n + 1, [] => by simp [words_cons]
  | n + 1, c :: w => by
    rw [words_cons]
    simp only [List.mem_flatMap, List.mem_map, List.cons.injEq, List.length_cons, Nat.add_right_cancel_iff, List.mem_cons, forall_eq_or_imp]
    constructor
    · rintro ⟨d, hd, u, hu, rfl, rfl⟩
      have := (words_iff n u).1 hu
      exact ⟨this.1, hd, this.2⟩
    · rintro ⟨h1, h2, h3⟩
      exact ⟨c, h2, w, (words_iff n w).2 ⟨h1, h3⟩, rfl, rfl⟩

theorem back_words {n : Nat} {w : List UInt8} (h : w ∈ words n) : back w ∈ words n := by
  rw [words_iff] at h ⊢
  refine ⟨by rw [back_len, h.1], fun c hc => ?_⟩
  simp only [back, List.mem_reverse, List.mem_map] at hc
  obtain ⟨d, hd, rfl⟩ := hc
  exact mir_ltr (h.2 d hd)

theorem mir_mir {c : UInt8} (h : c ∈ ltr) : mir (mir c) = c := by
  simp only [ltr, List.mem_cons, List.not_mem_nil, or_false] at h
  rcases h with rfl | rfl | rfl <;> decide

theorem back_back {n : Nat} {w : List UInt8} (h : w ∈ words n) : back (back w) = w := by
  have h2 := ((words_iff n w).1 h).2
  simp only [back, List.map_reverse, List.reverse_reverse, List.map_map]
  conv => rhs; rw [← List.map_id w]
  exact List.map_congr_left fun c hc => mir_mir (h2 c hc)

def hds : List Int := [0, 1, 2, 3, 4, 5, 6, 7]

theorem step_back8 : ∀ c ∈ ltr, ∀ h ∈ hds, dd0 c h + dd0 (mir c) ((nh c h + 4) % 8) = 0 ∧ dd1 c h + dd1 (mir c) ((nh c h + 4) % 8) = 0 ∧ dd2 c h + dd2 (mir c) ((nh c h + 4) % 8) = 0 ∧ dd3 c h + dd3 (mir c) ((nh c h + 4) % 8) = 0 ∧ nh (mir c) ((nh c h + 4) % 8) = (h + 4) % 8 := by decide +kernel

theorem hds_mem {h : Int} (h0 : 0 ≤ h) (h7 : h ≤ 7) : h ∈ hds := by
  have e : h = 0 ∨ h = 1 ∨ h = 2 ∨ h = 3 ∨ h = 4 ∨ h = 5 ∨ h = 6 ∨ h = 7 := by omega
  rcases e with rfl | rfl | rfl | rfl | rfl | rfl | rfl | rfl <;> simp [hds]

theorem step_back (s : Sp) {c : UInt8} (hc : c ∈ ltr) (h0 : 0 ≤ s.h) (h7 : s.h ≤ 7) : (around (s.next c)).next (mir c) = around s := by
  obtain ⟨e0, e1, e2, e3, e4⟩ := step_back8 c hc s.h (hds_mem h0 h7)
  simp only [around, Sp.next, Sp.mk.injEq]
  exact ⟨by omega, by omega, by omega, by omega, e4⟩

theorem fin_back2 : ∀ (l : List UInt8) (s : Sp), (∀ c ∈ l, c ∈ ltr) → 0 ≤ s.h → s.h ≤ 7 → fin (around (fin s l)) (back l) = around s
  | [], s, _, _, _ => rfl
  | c :: l, s, hl, h0, h7 => by
    have hc := hl c (by simp)
    have hb := nh_bd c s.h h0 h7
    have ih := fin_back2 l (s.next c) (fun d hd => hl d (by simp [hd])) hb.1 hb.2
    rw [back_cons, fin_cons, fin_snoc, ih]
    exact step_back s hc h0 h7

theorem trW_cons (c : UInt8) (l : List UInt8) : trW (c :: l) = trW l + trW [c] := by
  simp only [trW, cnt, List.count_cons, List.count_nil]
  omega

theorem trW_append (l m : List UInt8) : trW (l ++ m) = trW l + trW m := by
  simp only [trW, cnt, List.count_append]
  omega

theorem trW_back : ∀ (l : List UInt8), (∀ c ∈ l, c ∈ ltr) → trW (back l) = -trW l
  | [], _ => rfl
  | c :: l, hl => by
    rw [back_cons, trW_append, trW_cons c l, trW_back l (fun d hd => hl d (by simp [hd]))]
    have hc := hl c (by simp)
    have : trW [mir c] = -trW [c] := by
      simp only [ltr, List.mem_cons, List.not_mem_nil, or_false] at hc
      rcases hc with rfl | rfl | rfl <;> decide
    omega

theorem fin_h : ∀ (l : List UInt8) (s : Sp), (∀ c ∈ l, c ∈ ltr) → 0 ≤ s.h → s.h ≤ 7 → (fin s l).h = (s.h + trW l) % 8
  | [], s, _, h0, h7 => by show s.h = (s.h + 0) % 8; omega
  | c :: l, s, hl, h0, h7 => by
    have hc := hl c (by simp)
    have hb := nh_bd c s.h h0 h7
    have e : (s.next c).h % 8 = (s.h + trW [c]) % 8 := by
      simp only [Sp.next]
      simp only [ltr, List.mem_cons, List.not_mem_nil, or_false] at hc
      rcases hc with rfl | rfl | rfl
      · show (nh 76 s.h) % 8 = (s.h + 1) % 8; simp [nh]
      · show (nh 82 s.h) % 8 = (s.h + -1) % 8; simp [nh]; omega
      · show (nh 83 s.h) % 8 = (s.h + 0) % 8; simp [nh]
    rw [fin_cons, fin_h l (s.next c) (fun d hd => hl d (by simp [hd])) hb.1 hb.2, trW_cons]
    omega

/-- Whether pieces lead back is told by their end, laid backwards from 0 with the heading 4, and by the turn. -/
theorem leads_iff (p : Sp) (h0 : 0 ≤ p.h) (h7 : p.h ≤ 7) {n : Nat} {v : List UInt8} (hv : v ∈ words n) :
    fin p v = sp0 ↔ ((fin ⟨0, 0, 0, 0, 4⟩ (back v)).x0 = p.x0 ∧ (fin ⟨0, 0, 0, 0, 4⟩ (back v)).x1 = p.x1 ∧ (fin ⟨0, 0, 0, 0, 4⟩ (back v)).x2 = p.x2 ∧ (fin ⟨0, 0, 0, 0, 4⟩ (back v)).x3 = p.x3) ∧ (p.h + trW v) % 8 = 0 := by
  have hl := ((words_iff n v).1 hv).2
  have hb := ((words_iff n (back v)).1 (back_words hv)).2
  have hh := fin_h v p hl h0 h7
  constructor
  · intro h
    have e := fin_back2 v p hl h0 h7
    rw [h] at e hh
    have e' : fin ⟨0, 0, 0, 0, 4⟩ (back v) = around p := e
    rw [e']
    exact ⟨⟨rfl, rfl, rfl, rfl⟩, hh.symm⟩
  · rintro ⟨⟨e0, e1, e2, e3⟩, e4⟩
    have hh2 := fin_h (back v) ⟨0, 0, 0, 0, 4⟩ hb (by decide) (by decide)
    rw [trW_back v hl] at hh2
    have ea : around (fin ⟨0, 0, 0, 0, 4⟩ (back v)) = p := by
      obtain ⟨p0, p1, p2, p3, p4⟩ := p
      simp only at e0 e1 e2 e3 e4 h0 h7 hh2
      simp only [around, Sp.mk.injEq]
      exact ⟨e0, e1, e2, e3, by omega⟩
    have e := fin_back2 (back v) ⟨0, 0, 0, 0, 4⟩ hb (by decide) (by decide)
    rw [ea, back_back hv] at e
    exact e

theorem words_nodup : ∀ n, (words n).Nodup
  | 0 => by simp [words]
  | n + 1 => by
    have ih := words_nodup n
    rw [words_cons]
    have hm : ∀ c : UInt8, ((words n).map fun v => c :: v).Nodup := fun c => by
      rw [List.nodup_iff_pairwise_ne] at *
      exact List.pairwise_map.2 (ih.imp fun h e => h (by injection e))
    simp only [ltr, List.flatMap_cons, List.flatMap_nil, List.append_nil]
    refine List.nodup_append.2 ⟨hm 76, List.nodup_append.2 ⟨hm 82, hm 83, ?_⟩, ?_⟩
    · rintro a ha b hb rfl
      simp only [List.mem_map] at ha hb
      obtain ⟨x, _, rfl⟩ := ha
      obtain ⟨y, _, h⟩ := hb
      simp at h
    · rintro a ha b hb rfl
      simp only [List.mem_map, List.mem_append] at ha hb
      obtain ⟨x, _, rfl⟩ := ha
      rcases hb with ⟨y, _, h⟩ | ⟨y, _, h⟩ <;> simp at h

theorem words_back (n : Nat) : ((words n).map back).Perm (words n) := by
  refine (List.perm_ext_iff_of_nodup ?_ (words_nodup n)).2 fun w => ?_
  · rw [List.nodup_iff_pairwise_ne]
    refine List.pairwise_map.2 ?_
    have := words_nodup n
    rw [List.nodup_iff_pairwise_ne] at this
    refine List.Pairwise.imp_of_mem ?_ this
    intro a b ha hb hab e
    exact hab (by rw [← back_back ha, ← back_back hb, e])
  · simp only [List.mem_map]
    constructor
    · rintro ⟨u, hu, rfl⟩; exact back_words hu
    · intro h; exact ⟨back w, back_words h, back_back h⟩

end Go.Proofs.Ythiimllafcfieaa

/- Contracts: norms, and twice the numbers to the east and to the north, in the model and in the program. -/
namespace Go.Proofs.Ythiimllafcfieaa
open Go.ChangeShapes Go.WideShapes Go.ChangeAt Go.RowKit

def nm0 (a0 a1 a2 a3 : Int) : Int := wrap64 (wrap64 (wrap64 (wrap64 (a0 * a0) + wrap64 (a1 * a1)) + wrap64 (a2 * a2)) + wrap64 (a3 * a3))

def nm1 (a0 a1 a2 a3 : Int) : Int := wrap64 (wrap64 (wrap64 (wrap64 (a0 * a1) + wrap64 (a1 * a2)) + wrap64 (a2 * a3)) - wrap64 (a0 * a3))

set_option maxRecDepth 100000 in
set_option maxHeartbeats 400000 in
theorem spNorm_any (a0 a1 a2 a3 : Int) (w : World) :
    Calls Try.prog 78 #[.agg #[.int .i64 a0, .int .i64 a1, .int .i64 a2, .int .i64 a3]] w fun e w' => e = .returned (.agg #[.int .i64 (nm0 a0 a1 a2 a3), .int .i64 (nm1 a0 a1 a2 a3)]) ∧ Below w.heap.size w w' := by
  go_enter Try.func78, Try.ntmps78
  go_wp2
  go_returns
  exact ⟨rfl, by go_grown⟩

set_option maxRecDepth 100000 in
set_option maxHeartbeats 400000 in
theorem imNorm_any (a0 a1 a2 a3 : Int) (w : World) :
    Calls Try.prog 81 #[.agg #[.int .i64 a0, .int .i64 a1, .int .i64 a2, .int .i64 a3]] w fun e w' => e = .returned (.agg #[.int .i64 (nm0 a0 a1 a2 a3), .int .i64 (nm1 a0 a1 a2 a3)]) ∧ Below w.heap.size w w' := by
  go_enter Try.func81, Try.ntmps81
  go_wp2
  go_returns
  exact ⟨by simp [nm0, nm1, Int.mul_comm a3 a0], by go_grown⟩

end Go.Proofs.Ythiimllafcfieaa

/- Plain numbers: no square is twice another one; parts of the continued fraction of the root of two. -/
namespace Go.Proofs.Ythiimllafcfieaa

theorem irr (n : Nat) : ∀ (y r : Int), r.toNat ≤ n → 0 < y → 0 < r → y * y ≠ 2 * (y * r) + r * r := by
  induction n with
  | zero => intro y r h _ h0; omega
  | succ n ih =>
    intro y r hr hy h0 he
    have h1 : 2 * r < y := by
      rcases Int.lt_or_le (2 * r) y with h | h
      · exact h
      · have := Int.mul_le_mul_of_nonneg_left h (Int.le_of_lt hy)
        have e : y * (2 * r) = 2 * (y * r) := by rw [Int.mul_left_comm]
        have p := Int.mul_pos h0 h0
        omega
    have h2 : y < 3 * r := by
      rcases Int.lt_or_le y (3 * r) with h | h
      · exact h
      · have k := Int.mul_le_mul_of_nonneg_left h (Int.le_of_lt hy)
        have e : y * (3 * r) = 3 * (y * r) := by rw [Int.mul_left_comm]
        have k2 := Int.mul_le_mul_of_nonneg_right h (Int.le_of_lt h0)
        have e2 : 3 * r * r = 3 * (r * r) := Int.mul_assoc _ _ _
        have p := Int.mul_pos h0 h0
        omega
    obtain ⟨t, ht⟩ : ∃ t, y = 2 * r + t := ⟨y - 2 * r, by omega⟩
    subst ht
    refine ih r t (by omega) h0 (by omega) ?_
    have e1 : (2 * r + t) * (2 * r + t) = 4 * (r * r) + 4 * (r * t) + t * t := by
      rw [Int.add_mul, Int.mul_add, Int.mul_add]
      have a1 : 2 * r * (2 * r) = 4 * (r * r) := by rw [Int.mul_assoc, Int.mul_left_comm r 2 r, ← Int.mul_assoc]; rfl
      have a2 : 2 * r * t = 2 * (r * t) := Int.mul_assoc _ _ _
      have a3 : t * (2 * r) = 2 * (r * t) := by rw [Int.mul_comm, Int.mul_assoc]
      omega
    have e2 : (2 * r + t) * r = 2 * (r * r) + r * t := by
      rw [Int.add_mul, Int.mul_assoc, Int.mul_comm t r]
    rw [e1, e2] at he
    omega

def G1 (x y : Int) : Bool := decide (2 * (y * y) < x * x)

def G2 (x y : Int) : Bool := decide (2 * (x * y) + y * y < x * x)

theorem sq_add (y r : Int) : (y + r) * (y + r) = y * y + 2 * (y * r) + r * r := by
  rw [Int.add_mul, Int.mul_add, Int.mul_add, Int.mul_comm r y]
  omega

theorem G1_step (y r : Int) (hy : 0 < y) (h0 : 0 < r) : G1 (y + r) y = !G2 y r := by
  have i := irr r.toNat y r (Nat.le_refl _) hy h0
  unfold G1 G2
  rw [sq_add]
  by_cases h : 2 * (y * r) + r * r < y * y
  · have : ¬ 2 * (y * y) < y * y + 2 * (y * r) + r * r := by omega
    simp [h, this]
  · have : 2 * (y * y) < y * y + 2 * (y * r) + r * r := by omega
    simp [h, this]

theorem G1_end (y : Int) (hy : 0 < y) : G1 y y = false := by
  have := Int.mul_pos hy hy
  unfold G1
  exact decide_eq_false (by omega)

theorem e2y (y r : Int) : (2 * y + r) * (2 * y + r) = 4 * (y * y) + 4 * (y * r) + r * r := by
  rw [Int.add_mul, Int.mul_add, Int.mul_add]
  have a1 : 2 * y * (2 * y) = 4 * (y * y) := by rw [Int.mul_assoc, Int.mul_left_comm y 2 y, ← Int.mul_assoc]; rfl
  have a2 : 2 * y * r = 2 * (y * r) := Int.mul_assoc _ _ _
  have a3 : r * (2 * y) = 2 * (y * r) := by rw [Int.mul_comm, Int.mul_assoc]
  omega

theorem e2x (y r : Int) : (2 * y + r) * y = 2 * (y * y) + y * r := by
  rw [Int.add_mul, Int.mul_assoc, Int.mul_comm r y]

theorem G2_step (y r : Int) (hy : 0 < y) (h0 : 0 < r) : G2 (2 * y + r) y = !G2 y r := by
  have i := irr r.toNat y r (Nat.le_refl _) hy h0
  unfold G2
  rw [e2y, e2x]
  by_cases h : 2 * (y * r) + r * r < y * y
  · have : ¬ 2 * (2 * (y * y) + y * r) + y * y < 4 * (y * y) + 4 * (y * r) + r * r := by omega
    simp [h, this]
  · have : 2 * (2 * (y * y) + y * r) + y * y < 4 * (y * y) + 4 * (y * r) + r * r := by omega
    simp [h, this]

theorem G2_end (y : Int) (hy : 0 < y) : G2 (2 * y) y = false := by
  have := Int.mul_pos hy hy
  have e := e2y y 0
  have f := e2x y 0
  simp at e f
  unfold G2
  rw [e, f]
  exact decide_eq_false (by omega)

theorem G1_more (x y : Int) (hy : 0 < y) (h : 2 * y ≤ x) : G1 x y = true := by
  have a := Int.mul_le_mul_of_nonneg_left h (by omega : 0 ≤ x)
  have b := Int.mul_le_mul_of_nonneg_right h (by omega : 0 ≤ y)
  have e : x * (2 * y) = 2 * (x * y) := by rw [Int.mul_left_comm]
  have f : 2 * y * y = 2 * (y * y) := Int.mul_assoc _ _ _
  have p := Int.mul_pos hy hy
  unfold G1
  exact decide_eq_true (by omega)

theorem G1_less (x y : Int) (hx : 0 < x) (h : x < y) : G1 x y = false := by
  have a := Int.mul_le_mul_of_nonneg_left (Int.le_of_lt h) (Int.le_of_lt hx)
  have b := Int.mul_le_mul_of_nonneg_right (Int.le_of_lt h) (by omega : 0 ≤ y)
  have p := Int.mul_pos (by omega : 0 < y) (by omega : 0 < y)
  unfold G1
  exact decide_eq_false (by omega)

theorem G2_more (x y : Int) (hy : 0 < y) (h : 3 * y ≤ x) : G2 x y = true := by
  have a := Int.mul_le_mul_of_nonneg_left h (by omega : 0 ≤ x)
  have b := Int.mul_le_mul_of_nonneg_right h (by omega : 0 ≤ y)
  have e : x * (3 * y) = 3 * (x * y) := by rw [Int.mul_left_comm]
  have f : 3 * y * y = 3 * (y * y) := Int.mul_assoc _ _ _
  have p := Int.mul_pos hy hy
  unfold G2
  exact decide_eq_true (by omega)

theorem G2_less (x y : Int) (hx : 0 < x) (hy : 0 < y) (h : x < 2 * y) : G2 x y = false := by
  have a := Int.mul_le_mul_of_nonneg_left (Int.le_of_lt h) (Int.le_of_lt hx)
  have e : x * (2 * y) = 2 * (x * y) := by rw [Int.mul_left_comm]
  have p := Int.mul_pos hy hy
  unfold G2
  exact decide_eq_false (by omega)

end Go.Proofs.Ythiimllafcfieaa

/- Contract: which of both is greater, by the continued fraction, in the model. -/
namespace Go.Proofs.Ythiimllafcfieaa
open Go.ChangeShapes Go.WideShapes Go.ChangeAt Go.RowKit

def GRel (T : Bool) (wh x y : Int) (g : Bool) : Prop := (wh = 1 ∧ T = (G1 x y == g)) ∨ (wh = 2 ∧ T = (G2 x y == g))

theorem q_one {x y : Int} (hy : 0 < y) (h1 : y ≤ x) (h2 : x < 2 * y) : x / y = 1 := by
  have a : 1 ≤ x / y := (Int.le_ediv_iff_mul_le hy).2 (by omega)
  have b : x / y < 2 := (Int.ediv_lt_iff_lt_mul hy).2 (by omega)
  omega

theorem q_two {x y : Int} (hy : 0 < y) (h1 : 2 * y ≤ x) (h2 : x < 3 * y) : x / y = 2 := by
  have a : 2 ≤ x / y := (Int.le_ediv_iff_mul_le hy).2 (by omega)
  have b : x / y < 3 := (Int.ediv_lt_iff_lt_mul hy).2 (by omega)
  omega

theorem q_zero {x y : Int} (hx : 0 < x) (h1 : x < y) : x / y = 0 := Int.ediv_eq_zero_of_lt (by omega) h1

theorem q_ge2 {x y : Int} (hy : 0 < y) (h1 : 2 * y ≤ x) : 2 ≤ x / y := (Int.le_ediv_iff_mul_le hy).2 (by omega)

theorem q_ge3 {x y : Int} (hy : 0 < y) (h1 : 3 * y ≤ x) : 3 ≤ x / y := (Int.le_ediv_iff_mul_le hy).2 (by omega)

theorem q_le1 {x y : Int} (hx : 0 < x) (hy : 0 < y) (h1 : x < 2 * y) : 0 ≤ x / y ∧ x / y ≤ 1 := by
  have b : x / y < 2 := (Int.ediv_lt_iff_lt_mul hy).2 (by omega)
  have a : 0 ≤ x / y := Int.ediv_nonneg (by omega) (by omega)
  omega

theorem q_lex {x y : Int} (hx : 0 < x) : x / y ≤ x := Int.ediv_le_self _ (by omega)

set_option maxRecDepth 100000 in
set_option maxHeartbeats 3200000 in
theorem greater_any (X Y : Int) (hX : 0 < X) (hY : 0 < Y) (bX : X ≤ 9000000000000000) (bY : Y ≤ 9000000000000000) (w : World) :
    Calls Try.prog 124 #[.int .i64 X, .int .i64 Y] w fun e w' => e = .returned (.bool (G1 X Y)) ∧ w = w' := by
  go_enter Try.func124, Try.ntmps124
  go_wp2
  go_loop [0, 1, 5, 6] (fun v0 v1 v5 v6 => ∃ (x y wh : Int) (g : Bool), v0 = .int .i64 x ∧ v1 = .int .i64 y ∧ v5 = .bool g ∧ v6 = .int .i64 wh ∧ 0 < x ∧ 0 < y ∧ x ≤ 9000000000000000 ∧ y ≤ 9000000000000000 ∧ GRel (G1 X Y) wh x y g) (fun _ v1 _ _ => (intOf v1).toNat)
  case atStart => exact ⟨X, Y, 1, true, rfl, rfl, rfl, rfl, hX, hY, bX, bY, .inl ⟨rfl, by simp⟩⟩
  case round =>
    obtain ⟨x, y, wh, g, rfl, rfl, rfl, rfl, hx, hy, bx, bby, hrel⟩ := hrel
    rcases hrel with ⟨rfl, hT⟩ | ⟨rfl, hT⟩
    · by_cases c1 : x < y
      · have hq := q_zero hx c1
        rw [G1_less x y hx c1] at hT
        have HT := Lib.hid hT
        clear hT
        go_wp2
        go_ret
        exact ⟨by rw [HT.out]; first | (cases g <;> rfl) | (cases g <;> simp <;> omega), rfl⟩
      by_cases c2 : 2 * y ≤ x
      · have hq := q_ge2 hy c2
        have hq2 := q_lex (y := y) hx
        rw [G1_more x y hy c2] at hT
        have HT := Lib.hid hT
        clear hT
        obtain ⟨k, hk⟩ : ∃ k, x / y = k := ⟨_, rfl⟩
        rw [hk] at hq hq2
        go_wp2
        go_ret
        exact ⟨by rw [HT.out]; first | (cases g <;> rfl) | (cases g <;> simp <;> omega), rfl⟩
      · have hq := q_one (x := x) hy (by omega) (by omega)
        have HT := Lib.hid hT
        clear hT
        by_cases c3 : x = y
        · subst c3
          go_wp2
          go_ret
          exact ⟨by rw [HT.out, G1_end _ hy]; cases g <;> rfl, rfl⟩
        · obtain ⟨r, hr⟩ : ∃ r, x = y + r := ⟨x - y, by omega⟩
          subst hr
          have hr0 : 0 < r := by omega
          go_wp2
          go_round
          case rel => exact ⟨y, r, 2, !g, rfl, by go_num, rfl, rfl, hy, hr0, by omega, by omega, .inr ⟨rfl, by rw [HT.out, G1_step y r hy hr0]; cases G2 y r <;> cases g <;> rfl⟩⟩
          case measure => simp [intOf]; omega
    · by_cases c1 : x < 2 * y
      · have hq := q_le1 hx hy c1
        rw [G2_less x y hx hy c1] at hT
        have HT := Lib.hid hT
        clear hT
        obtain ⟨k, hk⟩ : ∃ k, x / y = k := ⟨_, rfl⟩
        rw [hk] at hq
        obtain ⟨hq0, hq1⟩ := hq
        go_wp2
        go_ret
        exact ⟨by rw [HT.out]; first | (cases g <;> rfl) | (cases g <;> simp <;> omega), rfl⟩
      by_cases c2 : 3 * y ≤ x
      · have hq := q_ge3 hy c2
        have hq2 := q_lex (y := y) hx
        rw [G2_more x y hy c2] at hT
        have HT := Lib.hid hT
        clear hT
        obtain ⟨k, hk⟩ : ∃ k, x / y = k := ⟨_, rfl⟩
        rw [hk] at hq hq2
        go_wp2
        go_ret
        exact ⟨by rw [HT.out]; first | (cases g <;> rfl) | (cases g <;> simp <;> omega), rfl⟩
      · have hq := q_two (x := x) hy (by omega) (by omega)
        have HT := Lib.hid hT
        clear hT
        by_cases c3 : x = 2 * y
        · subst c3
          go_wp2
          go_ret
          exact ⟨by rw [HT.out, G2_end _ hy]; cases g <;> rfl, rfl⟩
        · obtain ⟨r, hr⟩ : ∃ r, x = 2 * y + r := ⟨x - 2 * y, by omega⟩
          subst hr
          have hr0 : 0 < r := by omega
          go_wp2
          go_round
          case rel => exact ⟨y, r, 2, !g, rfl, by go_num, rfl, rfl, hy, hr0, by omega, by omega, .inr ⟨rfl, by rw [HT.out, G2_step y r hy hr0]; cases G2 y r <;> cases g <;> rfl⟩⟩
          case measure => simp [intOf]; omega

end Go.Proofs.Ythiimllafcfieaa

/- Contracts: which surds there are, sums and products of surds, in the model and in the program. -/
namespace Go.Proofs.Ythiimllafcfieaa
open Go.ChangeShapes Go.WideShapes Go.ChangeAt Go.RowKit

def surdB (n s0 s1 : Int) : Bool := inB s0 (-n) n && inB s1 (-n) n

end Go.Proofs.Ythiimllafcfieaa

/- Contracts: the sign of a surd, in the model. -/
namespace Go.Proofs.Ythiimllafcfieaa
open Go.ChangeShapes Go.WideShapes Go.ChangeAt Go.RowKit

def sg (n : Int) : Int := if 0 < n then 1 else if n < 0 then -1 else 0

def ab (n : Int) : Int := if n < 0 then -n else n

def sgn2 (s0 s1 : Int) : Int := cond (G1 s0 s1) (sg s0) (sg s1)

theorem sg_pos {n : Int} (h : 0 < n) : sg n = 1 := by simp [sg, h]

theorem sg_neg {n : Int} (h : n < 0) : sg n = -1 := by
  have h' : ¬ 0 < n := by omega
  simp [sg, h, h']

theorem sg_zero : sg 0 = 0 := rfl

theorem ab_pos {n : Int} (h : 0 < n) : ab n = n := by
  have h' : ¬ n < 0 := by omega
  simp [ab, h']

theorem ab_neg {n : Int} (h : n < 0) : ab n = -n := by simp [ab, h]

theorem G1_neg0 (x y : Int) : G1 (-x) y = G1 x y := by simp [G1, Int.neg_mul_neg]

theorem G1_neg1 (x y : Int) : G1 x (-y) = G1 x y := by simp [G1, Int.neg_mul_neg]

theorem G1_z0 (y : Int) : G1 0 y = false := by
  unfold G1
  have : 0 ≤ y * y := by
    rcases Int.le_total 0 y with h | h
    · exact Int.mul_nonneg h h
    · exact Int.mul_nonneg_of_nonpos_of_nonpos h h
  exact decide_eq_false (by omega)

theorem G1_z1 (x : Int) (h : x ≠ 0) : G1 x 0 = true := by
  unfold G1
  have : 0 < x * x := by
    rcases Int.lt_or_gt_of_ne h with h | h
    · exact Int.mul_pos_of_neg_of_neg h h
    · exact Int.mul_pos h h
  exact decide_eq_true (by omega)

set_option maxRecDepth 100000 in
theorem l1Sign_any (n : Int) (w : World) :
    Calls Try.prog 123 #[.int .i64 n] w fun e w' => e = .returned (.int .i64 (sg n)) ∧ w = w' := by
  rcases Int.lt_trichotomy n 0 with h | rfl | h
  · rw [sg_neg h]
    go_enter Try.func123, Try.ntmps123
    go_wp2
    go_ret
    exact ⟨rfl, rfl⟩
  · go_enter Try.func123, Try.ntmps123
    go_wp2
    go_ret
    exact ⟨rfl, rfl⟩
  · rw [sg_pos h]
    go_enter Try.func123, Try.ntmps123
    go_wp2
    go_ret
    exact ⟨rfl, rfl⟩

set_option maxRecDepth 100000 in
theorem l1Abs_any (n : Int) (h0 : n ≠ 0) (b0 : -9000000000000000 ≤ n) (b1 : n ≤ 9000000000000000) (w : World) :
    Calls Try.prog 125 #[.int .i64 n] w fun e w' => e = .returned (.int .i64 (ab n)) ∧ w = w' := by
  rcases Int.lt_or_gt_of_ne h0 with h | h
  · rw [ab_neg h]
    go_enter Try.func125, Try.ntmps125
    go_wp2
    all_goals go_ret
    all_goals exact ⟨rfl, rfl⟩
  · rw [ab_pos h]
    go_enter Try.func125, Try.ntmps125
    go_wp2
    all_goals go_ret
    all_goals exact ⟨rfl, rfl⟩

end Go.Proofs.Ythiimllafcfieaa

/- Contracts: SignOfSurd and its like, in the model. -/
namespace Go.Proofs.Ythiimllafcfieaa
open Go.ChangeShapes Go.WideShapes Go.ChangeAt Go.RowKit

/-- A call that leaves the world alone, in a region that draws behind another one. -/
theorem two_quiet {P : Program} {f : FuncId} {args : Array Value} {w : World} {a n : Nat} {v : Value} (h : Calls P f args (w.drewN (a + n)) fun e w' => e = .returned v ∧ w' = w.drewN (a + n)) :
    Calls P f args (w.drewN (a + n)) fun e w' => e = .returned v ∧ ∃ m, w' = w.drewN (a + m) := h.mono fun _ _ k => ⟨k.1, n, k.2⟩

theorem below_drewN {B : Nat} {a w : World} (h : Below B a w) (n : Nat) : Below B a (w.drewN n) := ⟨h.os, h.tape, h.output, h.size, h.block⟩

set_option maxRecDepth 100000 in
set_option maxHeartbeats 3200000 in
theorem ptSign_any (s0 s1 : Int) (b0 : -4000000000000000 ≤ s0) (c0 : s0 ≤ 4000000000000000) (b1 : -4000000000000000 ≤ s1) (c1 : s1 ≤ 4000000000000000) (w : World) :
    Calls Try.prog 108 #[.agg #[.int .i64 s0, .int .i64 s1]] w fun e w' => e = .returned (.int .i64 (sgn2 s0 s1)) ∧ Below w.heap.size w w' := by
  rcases Int.lt_trichotomy s0 0 with h0 | rfl | h0 <;> rcases Int.lt_trichotomy s1 0 with h1 | rfl | h1
  · have e0 := sg_neg h0
    have e1 := sg_neg h1
    have hs : sgn2 s0 s1 = -1 := by rw [sgn2]; cases G1 s0 s1 <;> simp [e0, e1]
    rw [hs]
    clear hs
    go_enter Try.func108, Try.ntmps108
    go_wp2_with fail
    go_quiet ((go_at_call 123; exact Calls.quiet_of_same (turned (l1Sign_any _ _))))
    go_wp2
    go_returns
    exact ⟨by first | rfl | (simp [*]; done), by first | (refine below_drewN ?_ _; go_grown; done) | (go_grown; done)⟩
  · have e0 := sg_neg h0
    have e1 := sg_zero
    have hs : sgn2 s0 0 = -1 := by rw [sgn2, G1_z1 _ (by omega)]; simp [e0]
    rw [hs]
    clear hs
    go_enter Try.func108, Try.ntmps108
    go_wp2_with fail
    go_quiet ((go_at_call 123; exact Calls.quiet_of_same (turned (l1Sign_any _ _))))
    go_wp2
    go_returns
    exact ⟨by first | rfl | (simp [*]; done), by first | (refine below_drewN ?_ _; go_grown; done) | (go_grown; done)⟩
  · have e0 := sg_neg h0
    have e1 := sg_pos h1
    have hG : G1 (ab s0) (ab s1) = G1 s0 s1 := by rw [ab_neg h0, ab_pos h1, G1_neg0]
    have pa : 0 < ab s0 := by rw [ab_neg h0]; omega
    have pb : 0 < ab s1 := by rw [ab_pos h1]; omega
    have qa : ab s0 ≤ 9000000000000000 := by rw [ab_neg h0]; omega
    have qb : ab s1 ≤ 9000000000000000 := by rw [ab_pos h1]; omega
    have hs : sgn2 s0 s1 = cond (G1 s0 s1) (-1) 1 := by simp [sgn2, e0, e1]
    rw [hs]
    have HG := Lib.hid hG
    clear hG hs
    cases hg : G1 s0 s1
    · have hg2 : G1 (ab s0) (ab s1) = false := by rw [HG.out, hg]
      go_enter Try.func108, Try.ntmps108
      go_wp2_with fail
      go_quiet ((go_at_call 123; exact Calls.quiet_of_same (turned (l1Sign_any _ _))))
      go_wp2
      go_quiet ((first | (go_at_call 125; exact two_quiet (turned (l1Abs_any _ (by omega) (by omega) (by omega) _))) | (go_at_call 124; exact two_quiet (turned (greater_any _ _ pa pb qa qb _)))))
      go_wp2
      all_goals go_returns
      all_goals first | (exfalso; simp_all; done) | exact ⟨by first | rfl | (simp [*]; done), by ((repeat refine below_drewN ?_ _); go_grown; done)⟩
    · have hg2 : G1 (ab s0) (ab s1) = true := by rw [HG.out, hg]
      go_enter Try.func108, Try.ntmps108
      go_wp2_with fail
      go_quiet ((go_at_call 123; exact Calls.quiet_of_same (turned (l1Sign_any _ _))))
      go_wp2
      go_quiet ((first | (go_at_call 125; exact two_quiet (turned (l1Abs_any _ (by omega) (by omega) (by omega) _))) | (go_at_call 124; exact two_quiet (turned (greater_any _ _ pa pb qa qb _)))))
      go_wp2
      all_goals go_returns
      all_goals first | (exfalso; simp_all; done) | exact ⟨by first | rfl | (simp [*]; done), by ((repeat refine below_drewN ?_ _); go_grown; done)⟩
  · have e0 := sg_zero
    have e1 := sg_neg h1
    have hs : sgn2 0 s1 = -1 := by rw [sgn2, G1_z0]; simp [e1]
    rw [hs]
    clear hs
    go_enter Try.func108, Try.ntmps108
    go_wp2_with fail
    go_quiet ((go_at_call 123; exact Calls.quiet_of_same (turned (l1Sign_any _ _))))
    go_wp2
    go_returns
    exact ⟨by first | rfl | (simp [*]; done), by first | (refine below_drewN ?_ _; go_grown; done) | (go_grown; done)⟩
  · have e0 := sg_zero
    have hs : sgn2 0 0 = 0 := by rw [sgn2, G1_z0]; simp [sg_zero]
    rw [hs]
    clear hs
    go_enter Try.func108, Try.ntmps108
    go_wp2_with fail
    go_quiet ((go_at_call 123; exact Calls.quiet_of_same (turned (l1Sign_any _ _))))
    go_wp2
    go_returns
    exact ⟨by first | rfl | (simp [*]; done), by first | (refine below_drewN ?_ _; go_grown; done) | (go_grown; done)⟩
  · have e0 := sg_zero
    have e1 := sg_pos h1
    have hs : sgn2 0 s1 = 1 := by rw [sgn2, G1_z0]; simp [e1]
    rw [hs]
    clear hs
    go_enter Try.func108, Try.ntmps108
    go_wp2_with fail
    go_quiet ((go_at_call 123; exact Calls.quiet_of_same (turned (l1Sign_any _ _))))
    go_wp2
    go_returns
    exact ⟨by first | rfl | (simp [*]; done), by first | (refine below_drewN ?_ _; go_grown; done) | (go_grown; done)⟩
  · have e0 := sg_pos h0
    have e1 := sg_neg h1
    have hG : G1 (ab s0) (ab s1) = G1 s0 s1 := by rw [ab_pos h0, ab_neg h1, G1_neg1]
    have pa : 0 < ab s0 := by rw [ab_pos h0]; omega
    have pb : 0 < ab s1 := by rw [ab_neg h1]; omega
    have qa : ab s0 ≤ 9000000000000000 := by rw [ab_pos h0]; omega
    have qb : ab s1 ≤ 9000000000000000 := by rw [ab_neg h1]; omega
    have hs : sgn2 s0 s1 = cond (G1 s0 s1) 1 (-1) := by simp [sgn2, e0, e1]
    rw [hs]
    have HG := Lib.hid hG
    clear hG hs
    cases hg : G1 s0 s1
    · have hg2 : G1 (ab s0) (ab s1) = false := by rw [HG.out, hg]
      go_enter Try.func108, Try.ntmps108
      go_wp2_with fail
      go_quiet ((go_at_call 123; exact Calls.quiet_of_same (turned (l1Sign_any _ _))))
      go_wp2
      go_quiet ((first | (go_at_call 125; exact two_quiet (turned (l1Abs_any _ (by omega) (by omega) (by omega) _))) | (go_at_call 124; exact two_quiet (turned (greater_any _ _ pa pb qa qb _)))))
      go_wp2
      all_goals go_returns
      all_goals first | (exfalso; simp_all; done) | exact ⟨by first | rfl | (simp [*]; done), by ((repeat refine below_drewN ?_ _); go_grown; done)⟩
    · have hg2 : G1 (ab s0) (ab s1) = true := by rw [HG.out, hg]
      go_enter Try.func108, Try.ntmps108
      go_wp2_with fail
      go_quiet ((go_at_call 123; exact Calls.quiet_of_same (turned (l1Sign_any _ _))))
      go_wp2
      go_quiet ((first | (go_at_call 125; exact two_quiet (turned (l1Abs_any _ (by omega) (by omega) (by omega) _))) | (go_at_call 124; exact two_quiet (turned (greater_any _ _ pa pb qa qb _)))))
      go_wp2
      all_goals go_returns
      all_goals first | (exfalso; simp_all; done) | exact ⟨by first | rfl | (simp [*]; done), by ((repeat refine below_drewN ?_ _); go_grown; done)⟩
  · have e0 := sg_pos h0
    have e1 := sg_zero
    have hs : sgn2 s0 0 = 1 := by rw [sgn2, G1_z1 _ (by omega)]; simp [e0]
    rw [hs]
    clear hs
    go_enter Try.func108, Try.ntmps108
    go_wp2_with fail
    go_quiet ((go_at_call 123; exact Calls.quiet_of_same (turned (l1Sign_any _ _))))
    go_wp2
    go_returns
    exact ⟨by first | rfl | (simp [*]; done), by first | (refine below_drewN ?_ _; go_grown; done) | (go_grown; done)⟩
  · have e0 := sg_pos h0
    have e1 := sg_pos h1
    have hs : sgn2 s0 s1 = 1 := by rw [sgn2]; cases G1 s0 s1 <;> simp [e0, e1]
    rw [hs]
    clear hs
    go_enter Try.func108, Try.ntmps108
    go_wp2_with fail
    go_quiet ((go_at_call 123; exact Calls.quiet_of_same (turned (l1Sign_any _ _))))
    go_wp2
    go_returns
    exact ⟨by first | rfl | (simp [*]; done), by first | (refine below_drewN ?_ _; go_grown; done) | (go_grown; done)⟩

end Go.Proofs.Ythiimllafcfieaa

/- Contracts: the sign of a surd, in the program. -/
namespace Go.Proofs.Ythiimllafcfieaa
open Go.ChangeShapes Go.WideShapes Go.ChangeAt Go.RowKit

def mh (x y : Nat) : Nat := x * y / 18446744073709551616

def ml (x y : Nat) : Nat := x * y % 18446744073709551616

theorem lex (a b : Nat) : (b / 18446744073709551616 < a / 18446744073709551616 ∨ a / 18446744073709551616 = b / 18446744073709551616 ∧ b % 18446744073709551616 < a % 18446744073709551616) ↔ b < a := by omega

set_option maxHeartbeats 1000000 in
theorem mul64_any (x y : Nat) (hx : x < 18446744073709551616) (hy : y < 18446744073709551616) (w : World) :
    Calls Try.prog 127 #[.int .u64 x, .int .u64 y] w fun e w' => e = .returned (.tuple #[.int .u64 (mh x y : Nat), .int .u64 (ml x y : Nat)]) ∧ w = w' := by
  unfold mh ml
  obtain ⟨bd, bt, bw, hhi⟩ := Lib.mul64_hi x y hx hy
  have ba := Lib.half_mul_le (a := x / 4294967296) (b := y / 4294967296) (by omega) (by omega)
  have bb := Lib.half_mul_le (a := x / 4294967296) (b := y % 4294967296) (by omega) (by omega)
  have bc := Lib.half_mul_le (a := x % 4294967296) (b := y / 4294967296) (by omega) (by omega)
  have ba' : x / 4294967296 * (y / 4294967296) < 18446744073709551616 := by omega
  have bb' : x / 4294967296 * (y % 4294967296) < 18446744073709551616 := by omega
  have bc' : x % 4294967296 * (y / 4294967296) < 18446744073709551616 := by omega
  have bh1 : x / 4294967296 * (y / 4294967296) + (x / 4294967296 * (y % 4294967296) + x % 4294967296 * (y % 4294967296) / 4294967296) / 4294967296 < 18446744073709551616 := by omega
  have bh : x / 4294967296 * (y / 4294967296) + (x / 4294967296 * (y % 4294967296) + x % 4294967296 * (y % 4294967296) / 4294967296) / 4294967296 + ((x / 4294967296 * (y % 4294967296) + x % 4294967296 * (y % 4294967296) / 4294967296) % 4294967296 + x % 4294967296 * (y / 4294967296)) / 4294967296 < 18446744073709551616 := by
    rw [hhi]
    have := Nat.mul_lt_mul'' hx hy
    omega
  go_enter Try.func127, Try.ntmps127
  go_wp2
  simp only [Mul64.maskN x hx, Mul64.maskN y hy, Mul64.divN, Mul64.mulN, Mul64.addN, Mul64.wrapN _ bd, Mul64.wrapN _ bb', Mul64.wrapN _ bt, Mul64.maskN _ bt, Mul64.wrapN _ bc', Mul64.wrapN _ bw, Mul64.wrapN _ ba', Mul64.wrapN _ bh1, Mul64.wrapN _ bh, Mul64.wrapM (x * y)]
  rw [hhi]
  go_ret2
  exact ⟨rfl, rfl⟩

theorem mul64_two (q : Nat) (h : q ≤ 9000000000000000) (w : World) :
    Calls Try.prog 127 #[.int .u64 (2 * (q : Int)), .int .u64 q] w fun e w' => e = .returned (.tuple #[.int .u64 (mh (2 * q) q : Nat), .int .u64 (ml (2 * q) q : Nat)]) ∧ w = w' := by
  have e : ((2 * q : Nat) : Int) = 2 * (q : Int) := by omega
  rw [← e]
  exact mul64_any (2 * q) q (by omega) (by omega) w

theorem sizeOf_any (n : Int) (b0 : -9000000000000000 ≤ n) (b1 : n ≤ 9000000000000000) (w : World) :
    Calls Try.prog 126 #[.int .i64 n] w fun e w' => e = .returned (.int .u64 (n.natAbs : Nat)) ∧ w = w' := by
  have hm : max n (-n) = (n.natAbs : Int) := by omega
  have hb : n.natAbs ≤ 9000000000000000 := by omega
  go_enter Try.func126, Try.ntmps126
  go_wp2
  go_ret
  exact ⟨by first | rfl | (simp [hm]; done) | (rw [IntKind.wrap_u64]; simp; omega) | (simp [IntKind.wrap_u64]; omega), rfl⟩

set_option maxRecDepth 100000 in
theorem compare_any (n : Int) (w : World) :
    Calls Try.prog 73 #[.int .i64 n, .int .i64 0] w fun e w' => e = .returned (.int .i64 (sg n)) ∧ w = w' := by
  rcases Int.lt_trichotomy n 0 with h | rfl | h
  · rw [sg_neg h]
    go_enter Try.func73, Try.ntmps73
    go_wp2
    all_goals go_ret
    all_goals exact ⟨rfl, rfl⟩
  · go_enter Try.func73, Try.ntmps73
    go_wp2
    all_goals go_ret
    all_goals exact ⟨rfl, rfl⟩
  · rw [sg_pos h]
    go_enter Try.func73, Try.ntmps73
    go_wp2
    all_goals go_ret
    all_goals exact ⟨rfl, rfl⟩

end Go.Proofs.Ythiimllafcfieaa

/- Contracts: SignOfSurd and CompareSurds, in the model and in the program. -/
namespace Go.Proofs.Ythiimllafcfieaa
open Go.ChangeShapes Go.WideShapes Go.ChangeAt Go.RowKit

theorem G1_abs (s0 s1 : Int) : G1 s0 s1 = decide (2 * s1.natAbs * s1.natAbs < s0.natAbs * s0.natAbs) := by
  have e0 : ((s0.natAbs * s0.natAbs : Nat) : Int) = s0 * s0 := Int.natAbs_mul_self
  have e1 : ((s1.natAbs * s1.natAbs : Nat) : Int) = s1 * s1 := Int.natAbs_mul_self
  have e2 : 2 * s1.natAbs * s1.natAbs = 2 * (s1.natAbs * s1.natAbs) := Nat.mul_assoc _ _ _
  unfold G1
  rw [decide_eq_decide]
  rw [e2]
  omega

set_option maxRecDepth 100000 in
set_option maxHeartbeats 3200000 in
theorem imSign_any (s0 s1 : Int) (b0 : -4000000000000000 ≤ s0) (c0 : s0 ≤ 4000000000000000) (b1 : -4000000000000000 ≤ s1) (c1 : s1 ≤ 4000000000000000) (w : World) :
    Calls Try.prog 110 #[.agg #[.int .i64 s0, .int .i64 s1]] w fun e w' => e = .returned (.int .i64 (sgn2 s0 s1)) ∧ Below w.heap.size w w' := by
  have L := lex (s0.natAbs * s0.natAbs) (2 * s1.natAbs * s1.natAbs)
  have hG := G1_abs s0 s1
  by_cases k1 : mh (2 * s1.natAbs) s1.natAbs < mh s0.natAbs s0.natAbs
  · have hg : G1 s0 s1 = true := by rw [hG]; exact decide_eq_true (L.1 (.inl k1))
    clear L hG
    go_enter Try.func110, Try.ntmps110
    go_wp2_with fail
    go_quiet ((go_at_call 126; exact Calls.quiet_of_same (turned (sizeOf_any _ (by omega) (by omega) _))))
    go_wp2_with (first | (go_at_call 127; (with_reducible refine (mul64_any s0.natAbs s0.natAbs (by omega) (by omega) _).mono ?_); rintro e w' ⟨rfl, rfl⟩) | (go_at_call 127; (with_reducible refine (mul64_two s1.natAbs (by omega) _).mono ?_); rintro e w' ⟨rfl, rfl⟩) | (go_at_call 73; (refine (compare_any _ _).mono ?_); rintro e w' ⟨rfl, rfl⟩))
    all_goals go_returns
    all_goals first | (exfalso; simp_all; done) | exact ⟨by simp [sgn2, hg], by ((repeat refine below_drewN ?_ _); go_grown; done)⟩
  by_cases k2 : mh s0.natAbs s0.natAbs = mh (2 * s1.natAbs) s1.natAbs
  · by_cases k3 : ml (2 * s1.natAbs) s1.natAbs < ml s0.natAbs s0.natAbs
    · have hg : G1 s0 s1 = true := by rw [hG]; exact decide_eq_true (L.1 (.inr ⟨k2, k3⟩))
      clear L hG
      go_enter Try.func110, Try.ntmps110
      go_wp2_with fail
      go_quiet ((go_at_call 126; exact Calls.quiet_of_same (turned (sizeOf_any _ (by omega) (by omega) _))))
      go_wp2_with (first | (go_at_call 127; (with_reducible refine (mul64_any s0.natAbs s0.natAbs (by omega) (by omega) _).mono ?_); rintro e w' ⟨rfl, rfl⟩) | (go_at_call 127; (with_reducible refine (mul64_two s1.natAbs (by omega) _).mono ?_); rintro e w' ⟨rfl, rfl⟩) | (go_at_call 73; (refine (compare_any _ _).mono ?_); rintro e w' ⟨rfl, rfl⟩))
      all_goals go_returns
      all_goals first | (exfalso; simp_all; done) | exact ⟨by simp [sgn2, hg], by ((repeat refine below_drewN ?_ _); go_grown; done)⟩
    · have hg : G1 s0 s1 = false := by rw [hG]; exact decide_eq_false (fun h => (L.2 h).elim k1 (fun h => k3 h.2))
      clear L hG
      go_enter Try.func110, Try.ntmps110
      go_wp2_with fail
      go_quiet ((go_at_call 126; exact Calls.quiet_of_same (turned (sizeOf_any _ (by omega) (by omega) _))))
      go_wp2_with (first | (go_at_call 127; (with_reducible refine (mul64_any s0.natAbs s0.natAbs (by omega) (by omega) _).mono ?_); rintro e w' ⟨rfl, rfl⟩) | (go_at_call 127; (with_reducible refine (mul64_two s1.natAbs (by omega) _).mono ?_); rintro e w' ⟨rfl, rfl⟩) | (go_at_call 73; (refine (compare_any _ _).mono ?_); rintro e w' ⟨rfl, rfl⟩))
      all_goals go_returns
      all_goals first | (exfalso; simp_all; done) | exact ⟨by simp [sgn2, hg], by ((repeat refine below_drewN ?_ _); go_grown; done)⟩
  · have hg : G1 s0 s1 = false := by rw [hG]; exact decide_eq_false (fun h => (L.2 h).elim k1 (fun h => k2 h.1))
    clear L hG
    go_enter Try.func110, Try.ntmps110
    go_wp2_with fail
    go_quiet ((go_at_call 126; exact Calls.quiet_of_same (turned (sizeOf_any _ (by omega) (by omega) _))))
    go_wp2_with (first | (go_at_call 127; (with_reducible refine (mul64_any s0.natAbs s0.natAbs (by omega) (by omega) _).mono ?_); rintro e w' ⟨rfl, rfl⟩) | (go_at_call 127; (with_reducible refine (mul64_two s1.natAbs (by omega) _).mono ?_); rintro e w' ⟨rfl, rfl⟩) | (go_at_call 73; (refine (compare_any _ _).mono ?_); rintro e w' ⟨rfl, rfl⟩))
    all_goals go_returns
    all_goals first | (exfalso; simp_all; done) | exact ⟨by simp [sgn2, hg], by ((repeat refine below_drewN ?_ _); go_grown; done)⟩

end Go.Proofs.Ythiimllafcfieaa

/- Contracts: SignOfSurd and CompareSurds, in the model and in the program. -/
namespace Go.Proofs.Ythiimllafcfieaa
open Go.ChangeShapes Go.WideShapes Go.ChangeAt Go.RowKit

theorem sd_bd {n s0 s1 : Int} (h : surdB n s0 s1 = true) : -n ≤ s0 ∧ s0 ≤ n ∧ -n ≤ s1 ∧ s1 ≤ n := by
  simp [surdB, inB] at h
  omega

set_option maxRecDepth 100000 in
theorem ptCompare_any (s0 s1 : Int) (t0 t1 : Int) (ps0 : -1900000000000000 ≤ s0) (qs0 : s0 ≤ 1900000000000000) (ps1 : -1900000000000000 ≤ s1) (qs1 : s1 ≤ 1900000000000000) (pt0 : -1900000000000000 ≤ t0) (qt0 : t0 ≤ 1900000000000000) (pt1 : -1900000000000000 ≤ t1) (qt1 : t1 ≤ 1900000000000000) (w : World) :
    Calls Try.prog 77 #[.agg #[.int .i64 s0, .int .i64 s1], .agg #[.int .i64 t0, .int .i64 t1]] w fun e w' => e = .returned (.int .i64 (sgn2 (s0 - t0) (s1 - t1))) ∧ Below w.heap.size w w' := by
  go_enter Try.func77, Try.ntmps77
  go_wp2_with (go_at_call 108; refine (ptSign_any _ _ (by omega) (by omega) (by omega) (by omega) _).mono ?_; rintro e w1 ⟨rfl, h1⟩; have hB : Below w.heap.size w w1 := ba (by go_grown) h1; obtain ⟨hc1, hf1⟩ := bcell h1; have hq := h1.size; (try simp at hq); have hz0 : w.heap.size < w1.heap.size := (by omega); have hz1 : w.heap.size + 1 < w1.heap.size := (by omega); have HK1 := Lib.hid h1; clear h1 hq)
  go_returns
  exact ⟨rfl, by go_grown⟩

set_option maxRecDepth 100000 in
theorem imSLess_any (s0 s1 : Int) (t0 t1 : Int) (ps0 : -1900000000000000 ≤ s0) (qs0 : s0 ≤ 1900000000000000) (ps1 : -1900000000000000 ≤ s1) (qs1 : s1 ≤ 1900000000000000) (pt0 : -1900000000000000 ≤ t0) (qt0 : t0 ≤ 1900000000000000) (pt1 : -1900000000000000 ≤ t1) (qt1 : t1 ≤ 1900000000000000) (w : World) :
    Calls Try.prog 109 #[.agg #[.int .i64 s0, .int .i64 s1], .agg #[.int .i64 t0, .int .i64 t1]] w fun e w' => e = .returned (.agg #[.int .i64 (s0 - t0), .int .i64 (s1 - t1)]) ∧ Below w.heap.size w w' := by
  go_enter Try.func109, Try.ntmps109
  go_wp2
  go_returns
  exact ⟨rfl, by go_grown⟩

set_option maxRecDepth 100000 in
theorem imCompare_any (s0 s1 : Int) (t0 t1 : Int) (ps0 : -1900000000000000 ≤ s0) (qs0 : s0 ≤ 1900000000000000) (ps1 : -1900000000000000 ≤ s1) (qs1 : s1 ≤ 1900000000000000) (pt0 : -1900000000000000 ≤ t0) (qt0 : t0 ≤ 1900000000000000) (pt1 : -1900000000000000 ≤ t1) (qt1 : t1 ≤ 1900000000000000) (w : World) :
    Calls Try.prog 82 #[.agg #[.int .i64 s0, .int .i64 s1], .agg #[.int .i64 t0, .int .i64 t1]] w fun e w' => e = .returned (.int .i64 (sgn2 (s0 - t0) (s1 - t1))) ∧ Below w.heap.size w w' := by
  go_enter Try.func82, Try.ntmps82
  go_wp2_with (first | (go_at_call 109; (with_reducible refine (imSLess_any s0 s1 t0 t1 ps0 qs0 ps1 qs1 pt0 qt0 pt1 qt1 _).mono ?_); rintro e wA ⟨rfl, h1⟩; (try with_reducible replace h1 := undrew h1); have hB : Below w.heap.size w wA := ba (by go_grown) h1; obtain ⟨hcwA, hfwA⟩ := bcell h1; have hqwA := h1.size; (try simp at hqwA); (try have hz0wA : w.heap.size < wA.heap.size := (by omega)); (try have he0wA : w.heap.size ≤ wA.heap.size := (by omega)); (try have hz1wA : w.heap.size + 1 < wA.heap.size := (by omega)); (try have he1wA : w.heap.size + 1 ≤ wA.heap.size := (by omega))) | (go_at_call 110; (with_reducible refine (imSign_any (s0 - t0) (s1 - t1) (by omega) (by omega) (by omega) (by omega) _).mono ?_); rintro e wB ⟨rfl, h1⟩; (try with_reducible replace h1 := undrew h1); have hB : Below w.heap.size w wB := ba (by go_grown) h1; obtain ⟨hcwB, hfwB⟩ := bcell h1; have hqwB := h1.size; (try simp at hqwB); (try have hz0wB : w.heap.size < wB.heap.size := (by omega)); (try have he0wB : w.heap.size ≤ wB.heap.size := (by omega)); (try have hz1wB : w.heap.size + 1 < wB.heap.size := (by omega)); (try have he1wB : w.heap.size + 1 ≤ wB.heap.size := (by omega))))
  go_returns
  exact ⟨rfl, by go_grown⟩

def csG (s0 s1 t0 t1 : Int) : Bool := surdB 1000000000000000 s0 s1 && surdB 1000000000000000 t0 t1

end Go.Proofs.Ythiimllafcfieaa

/- Norms of joints are small; the farthest joint. -/
namespace Go.Proofs.Ythiimllafcfieaa
open Go.ChangeShapes Go.WideShapes Go.ChangeAt Go.RowKit

theorem w64n (n : Int) (h0 : -9000000000000000000 ≤ n) (h1 : n ≤ 9000000000000000000) : wrap64 n = n := IntWalk.wrap64_in n ⟨by omega, by omega⟩

theorem nm_bd (a0 a1 a2 a3 : Int) (p0 : -999999 ≤ a0) (q0 : a0 ≤ 999999) (p1 : -999999 ≤ a1) (q1 : a1 ≤ 999999) (p2 : -999999 ≤ a2) (q2 : a2 ≤ 999999) (p3 : -999999 ≤ a3) (q3 : a3 ≤ 999999) : -4000000000000 ≤ nm0 a0 a1 a2 a3 ∧ nm0 a0 a1 a2 a3 ≤ 4000000000000 ∧ -4000000000000 ≤ nm1 a0 a1 a2 a3 ∧ nm1 a0 a1 a2 a3 ≤ 4000000000000 := by
  obtain ⟨l00, u00⟩ := mul_bd a0 a0 p0 q0 p0 q0
  obtain ⟨l11, u11⟩ := mul_bd a1 a1 p1 q1 p1 q1
  obtain ⟨l22, u22⟩ := mul_bd a2 a2 p2 q2 p2 q2
  obtain ⟨l33, u33⟩ := mul_bd a3 a3 p3 q3 p3 q3
  obtain ⟨l01, u01⟩ := mul_bd a0 a1 p0 q0 p1 q1
  obtain ⟨l12, u12⟩ := mul_bd a1 a2 p1 q1 p2 q2
  obtain ⟨l23, u23⟩ := mul_bd a2 a3 p2 q2 p3 q3
  obtain ⟨l03, u03⟩ := mul_bd a0 a3 p0 q0 p3 q3
  unfold nm0 nm1
  rw [w64n (a0 * a0) (by omega) (by omega), w64n (a1 * a1) (by omega) (by omega), w64n (a2 * a2) (by omega) (by omega), w64n (a3 * a3) (by omega) (by omega), w64n (a0 * a1) (by omega) (by omega), w64n (a1 * a2) (by omega) (by omega), w64n (a2 * a3) (by omega) (by omega), w64n (a0 * a3) (by omega) (by omega)]
  rw [w64n (a0 * a0 + a1 * a1) (by omega) (by omega), w64n (a0 * a1 + a1 * a2) (by omega) (by omega)]
  rw [w64n (a0 * a0 + a1 * a1 + a2 * a2) (by omega) (by omega), w64n (a0 * a1 + a1 * a2 + a2 * a3) (by omega) (by omega)]
  rw [w64n (a0 * a0 + a1 * a1 + a2 * a2 + a3 * a3) (by omega) (by omega), w64n (a0 * a1 + a1 * a2 + a2 * a3 - a0 * a3) (by omega) (by omega)]
  omega

def Sp.n0 (s : Sp) : Int := nm0 s.x0 s.x1 s.x2 s.x3

def Sp.n1 (s : Sp) : Int := nm1 s.x0 s.x1 s.x2 s.x3

/-- p lies farther than q. -/
def farB (p q : Sp) : Bool := decide (0 < sgn2 (p.n0 - q.n0) (p.n1 - q.n1))

/-- The farthest of the first k joints: the first one of them. -/
def farI (l : List Sp) : Nat → Nat
  | 0 => 0
  | k + 1 => match l[k]?, l[farI l k]? with
    | some p, some q => cond (farB p q) k (farI l k)
    | _, _ => farI l k

theorem farI_lt (l : List Sp) (hl : 0 < l.length) : ∀ k, k ≤ l.length → farI l k < l.length
  | 0, _ => hl
  | k + 1, hk => by
    have ih := farI_lt l hl k (by omega)
    simp only [farI]
    split
    · rename_i p q h1 h2
      cases farB p q
      · exact ih
      · simp; omega
    · exact ih

theorem farI_yes {l : List Sp} {k : Nat} {p q : Sp} (h1 : l[k]? = some p) (h2 : l[farI l k]? = some q) (h : farB p q = true) : farI l (k + 1) = k := by simp [farI, h1, h2, h]

theorem farI_no {l : List Sp} {k : Nat} {p q : Sp} (h1 : l[k]? = some p) (h2 : l[farI l k]? = some q) (h : farB p q = false) : farI l (k + 1) = farI l k := by simp [farI, h1, h2, h]

theorem lays_ok {a : Sp} {n : Int} (h : a.okB n) (l : List UInt8) : ∀ p ∈ lays a l, p.okB (n + 2 * l.length) := by
  induction l generalizing a n with
  | nil => intro p hp; simp [lays] at hp; subst hp; simpa using h
  | cons c l ih =>
    intro p hp
    simp only [lays, List.mem_cons] at hp
    rcases hp with rfl | hp
    · exact h.mono (by omega)
    · exact (ih (h.next c) p hp).mono (by simp only [List.length_cons]; omega)

end Go.Proofs.Ythiimllafcfieaa

/- Whatever n pieces lead back from lies no farther than n from the beginning. -/
namespace Go.Proofs.Ythiimllafcfieaa

abbrev cone (a b : Int) : Prop := 0 ≤ 5 * a + 7 * b ∧ 0 ≤ 2 * a + 3 * b

def R0 (s0 s1 s2 s3 t0 t1 t2 t3 : Int) : Int := 2 * (s0 * t0) + 2 * (s1 * t1) + 2 * (s2 * t2) + 2 * (s3 * t3)

def R1 (s0 s1 s2 s3 t0 t1 t2 t3 : Int) : Int := s0 * t1 + s1 * t0 + s1 * t2 + s2 * t1 + s2 * t3 + s3 * t2 - s0 * t3 - s3 * t0

def hd8 : List Int := [0, 1, 2, 3, 4, 5, 6, 7]

theorem hd8_mem {h : Int} (h0 : 0 ≤ h) (h7 : h ≤ 7) : h ∈ hd8 := by
  have e : h = 0 ∨ h = 1 ∨ h = 2 ∨ h = 3 ∨ h = 4 ∨ h = 5 ∨ h = 6 ∨ h = 7 := by omega
  rcases e with rfl | rfl | rfl | rfl | rfl | rfl | rfl | rfl <;> simp [hd8]

theorem ltr_mem {c : UInt8} (h : c ∈ ltr) : c = 76 ∨ c = 82 ∨ c = 83 := by simpa [ltr] using h

theorem pairs8 : ∀ c ∈ ltr, ∀ h ∈ hd8, ∀ c' ∈ ltr, ∀ h' ∈ hd8, cone (2 - R0 (dd0 c h) (dd1 c h) (dd2 c h) (dd3 c h) (dd0 c' h') (dd1 c' h') (dd2 c' h') (dd3 c' h')) (-(R1 (dd0 c h) (dd1 c h) (dd2 c h) (dd3 c h) (dd0 c' h') (dd1 c' h') (dd2 c' h') (dd3 c' h'))) := by decide +kernel

theorem ones8 : ∀ c ∈ ltr, ∀ h ∈ hd8, cone (1 - (dd0 c h * dd0 c h + dd1 c h * dd1 c h + dd2 c h * dd2 c h + dd3 c h * dd3 c h)) (-(dd0 c h * dd1 c h + dd1 c h * dd2 c h + dd2 c h * dd3 c h - dd0 c h * dd3 c h)) := by decide +kernel

def NearS (s : Sp) (m : Int) : Prop := ∀ c ∈ ltr, ∀ h ∈ hd8, cone (2 * m - R0 s.x0 s.x1 s.x2 s.x3 (dd0 c h) (dd1 c h) (dd2 c h) (dd3 c h)) (-(R1 s.x0 s.x1 s.x2 s.x3 (dd0 c h) (dd1 c h) (dd2 c h) (dd3 c h)))

def NormS (s : Sp) (m : Int) : Prop := cone (m * m - (s.x0 * s.x0 + s.x1 * s.x1 + s.x2 * s.x2 + s.x3 * s.x3)) (-(s.x0 * s.x1 + s.x1 * s.x2 + s.x2 * s.x3 - s.x0 * s.x3))

theorem near_next {s : Sp} {m : Int} (hN : NearS s m) (h0 : 0 ≤ s.h) (h7 : s.h ≤ 7) {c : UInt8} (hc : c ∈ ltr) : NearS (s.next c) (m + 1) := by
  intro c' hc' h' hh'
  have a := hN c' hc' h' hh'
  have b := pairs8 c hc s.h (hd8_mem h0 h7) c' hc' h' hh'
  simp only [Sp.next]
  generalize dd0 c s.h = u0 at *
  generalize dd1 c s.h = u1 at *
  generalize dd2 c s.h = u2 at *
  generalize dd3 c s.h = u3 at *
  generalize dd0 c' h' = t0 at *
  generalize dd1 c' h' = t1 at *
  generalize dd2 c' h' = t2 at *
  generalize dd3 c' h' = t3 at *
  simp only [cone, R0, R1, Int.add_mul] at a b ⊢
  omega

theorem norm_next {s : Sp} {m : Int} (hM : NormS s m) (hN : NearS s m) (h0 : 0 ≤ s.h) (h7 : s.h ≤ 7) {c : UInt8} (hc : c ∈ ltr) : NormS (s.next c) (m + 1) := by
  have a := hN c hc s.h (hd8_mem h0 h7)
  have b := ones8 c hc s.h (hd8_mem h0 h7)
  unfold NormS at hM ⊢
  simp only [Sp.next]
  generalize dd0 c s.h = t0 at *
  generalize dd1 c s.h = t1 at *
  generalize dd2 c s.h = t2 at *
  generalize dd3 c s.h = t3 at *
  obtain ⟨x0, x1, x2, x3, x4⟩ := s
  simp only [cone, R0, R1, Int.add_mul, Int.mul_add] at a b hM ⊢
  rw [Int.mul_comm t0 x0, Int.mul_comm t1 x1, Int.mul_comm t2 x2, Int.mul_comm t3 x3, Int.mul_comm t0 x1, Int.mul_comm t1 x2, Int.mul_comm t2 x3, Int.mul_comm t0 x3]
  omega

theorem near_all : ∀ (n : Nat) (h : Int), 0 ≤ h → h ≤ 7 → ∀ w ∈ words n, NearS (fin ⟨0, 0, 0, 0, h⟩ w) n ∧ NormS (fin ⟨0, 0, 0, 0, h⟩ w) n ∧ 0 ≤ (fin ⟨0, 0, 0, 0, h⟩ w).h ∧ (fin ⟨0, 0, 0, 0, h⟩ w).h ≤ 7
  | 0, h, h0, h7, w, hw => by
    simp only [words, List.mem_cons, List.not_mem_nil, or_false] at hw
    subst hw
    refine ⟨?_, ?_, h0, h7⟩
    · intro c hc h' hh'
      simp [fin, R0, R1, cone]
    · simp [fin, NormS, cone]
  | n + 1, h, h0, h7, w, hw => by
    simp only [words, List.mem_flatMap, List.mem_map] at hw
    obtain ⟨u, hu, c, hc, rfl⟩ := hw
    obtain ⟨a, b, d, e⟩ := near_all n h h0 h7 u hu
    rw [fin_snoc]
    have f := nh_bd c _ d e
    exact ⟨near_next a d e hc, norm_next b a d e hc, f.1, f.2⟩

theorem far_sgn {u v : Int} (h1 : 5 * u + 7 * v ≤ 0) (h2 : 2 * u + 3 * v ≤ 0) : sgn2 u v ≤ 0 := by
  have sg_le : ∀ n : Int, n ≤ 0 → sg n ≤ 0 := fun n hn => by unfold sg; split <;> (try split) <;> omega
  unfold sgn2
  cases hg : G1 u v
  · refine sg_le v ?_
    have hg' : ¬ (2 * (v * v) < u * u) := of_decide_eq_false hg
    refine Classical.byContradiction fun hv => ?_
    have e1 := Int.mul_nonneg (show (0 : Int) ≤ -2 * u - 3 * v by omega) (show (0 : Int) ≤ -2 * u + 3 * v by omega)
    have e2 := Int.mul_pos (show (0 : Int) < v by omega) (show (0 : Int) < v by omega)
    have e3 : (-2 * u - 3 * v) * (-2 * u + 3 * v) = 4 * (u * u) - 9 * (v * v) := by
      simp only [Int.mul_add, Int.sub_mul, Int.neg_mul, Int.mul_neg, Int.mul_assoc]
      rw [Int.mul_left_comm u 2 u, Int.mul_left_comm u 3 v, Int.mul_left_comm v 2 u, Int.mul_left_comm v 3 v, Int.mul_comm v u]
      omega
    omega
  · refine sg_le u ?_
    have hg' : 2 * (v * v) < u * u := of_decide_eq_true hg
    refine Classical.byContradiction fun hu => ?_
    have e1 := Int.mul_nonneg (show (0 : Int) ≤ -7 * v - 5 * u by omega) (show (0 : Int) ≤ -7 * v + 5 * u by omega)
    have e2 := Int.mul_pos (show (0 : Int) < u by omega) (show (0 : Int) < u by omega)
    have e3 : (-7 * v - 5 * u) * (-7 * v + 5 * u) = 49 * (v * v) - 25 * (u * u) := by
      simp only [Int.mul_add, Int.sub_mul, Int.neg_mul, Int.mul_neg, Int.mul_assoc]
      rw [Int.mul_left_comm v 7 v, Int.mul_left_comm v 5 u, Int.mul_left_comm u 7 v, Int.mul_left_comm u 5 u, Int.mul_comm u v]
      omega
    omega

theorem nm_plain (a0 a1 a2 a3 : Int) (p0 : -999999 ≤ a0) (q0 : a0 ≤ 999999) (p1 : -999999 ≤ a1) (q1 : a1 ≤ 999999) (p2 : -999999 ≤ a2) (q2 : a2 ≤ 999999) (p3 : -999999 ≤ a3) (q3 : a3 ≤ 999999) :
    nm0 a0 a1 a2 a3 = a0 * a0 + a1 * a1 + a2 * a2 + a3 * a3 ∧ nm1 a0 a1 a2 a3 = a0 * a1 + a1 * a2 + a2 * a3 - a0 * a3 := by
  obtain ⟨l00, u00⟩ := mul_bd a0 a0 p0 q0 p0 q0
  obtain ⟨l11, u11⟩ := mul_bd a1 a1 p1 q1 p1 q1
  obtain ⟨l22, u22⟩ := mul_bd a2 a2 p2 q2 p2 q2
  obtain ⟨l33, u33⟩ := mul_bd a3 a3 p3 q3 p3 q3
  obtain ⟨l01, u01⟩ := mul_bd a0 a1 p0 q0 p1 q1
  obtain ⟨l12, u12⟩ := mul_bd a1 a2 p1 q1 p2 q2
  obtain ⟨l23, u23⟩ := mul_bd a2 a3 p2 q2 p3 q3
  obtain ⟨l03, u03⟩ := mul_bd a0 a3 p0 q0 p3 q3
  unfold nm0 nm1
  rw [w64n (a0 * a0) (by omega) (by omega), w64n (a1 * a1) (by omega) (by omega), w64n (a2 * a2) (by omega) (by omega), w64n (a3 * a3) (by omega) (by omega), w64n (a0 * a1) (by omega) (by omega), w64n (a1 * a2) (by omega) (by omega), w64n (a2 * a3) (by omega) (by omega), w64n (a0 * a3) (by omega) (by omega)]
  rw [w64n (a0 * a0 + a1 * a1) (by omega) (by omega), w64n (a0 * a1 + a1 * a2) (by omega) (by omega)]
  rw [w64n (a0 * a0 + a1 * a1 + a2 * a2) (by omega) (by omega), w64n (a0 * a1 + a1 * a2 + a2 * a3) (by omega) (by omega)]
  rw [w64n (a0 * a0 + a1 * a1 + a2 * a2 + a3 * a3) (by omega) (by omega), w64n (a0 * a1 + a1 * a2 + a2 * a3 - a0 * a3) (by omega) (by omega)]
  exact ⟨rfl, rfl⟩

/-- What lies too far is led back by no text of n pieces. -/
theorem cls_far (a : Sp) (ha : a.okB 999999) (n : Nat) (h : 0 < sgn2 (nm0 a.x0 a.x1 a.x2 a.x3 - (n : Int) * n) (nm1 a.x0 a.x1 a.x2 a.x3)) : clsL a n = [] := by
  obtain ⟨⟨b0, b0'⟩, ⟨b1, b1'⟩, ⟨b2, b2'⟩, ⟨b3, b3'⟩, b4, b5⟩ := ha
  obtain ⟨e0, e1⟩ := nm_plain a.x0 a.x1 a.x2 a.x3 b0 b0' b1 b1' b2 b2' b3 b3'
  refine List.filter_eq_nil_iff.2 fun w hw hf => ?_
  rw [spE_iff, fin_rot a b4 b5] at hf
  obtain ⟨_, hM, _, _⟩ := near_all n a.h b4 b5 w hw
  rw [fin_rot ⟨0, 0, 0, 0, a.h⟩ b4 b5] at hM
  replace hf : rot a (fin sp0 w) = ⟨0, 0, 0, 0, 0⟩ := hf
  simp only [rot, Sp.mk.injEq, Int.zero_add, NormS] at hf hM
  obtain ⟨f0, f1, f2, f3, _⟩ := hf
  generalize tu0 a.h (fin sp0 w).x0 (fin sp0 w).x1 (fin sp0 w).x2 (fin sp0 w).x3 = t0 at f0 hM
  generalize tu1 a.h (fin sp0 w).x0 (fin sp0 w).x1 (fin sp0 w).x2 (fin sp0 w).x3 = t1 at f1 hM
  generalize tu2 a.h (fin sp0 w).x0 (fin sp0 w).x1 (fin sp0 w).x2 (fin sp0 w).x3 = t2 at f2 hM
  generalize tu3 a.h (fin sp0 w).x0 (fin sp0 w).x1 (fin sp0 w).x2 (fin sp0 w).x3 = t3 at f3 hM
  obtain rfl : t0 = -a.x0 := by omega
  obtain rfl : t1 = -a.x1 := by omega
  obtain rfl : t2 = -a.x2 := by omega
  obtain rfl : t3 = -a.x3 := by omega
  simp only [Int.neg_mul_neg] at hM
  rw [e0, e1] at h
  have := far_sgn (u := a.x0 * a.x0 + a.x1 * a.x1 + a.x2 * a.x2 + a.x3 * a.x3 - (n : Int) * n) (v := a.x0 * a.x1 + a.x1 * a.x2 + a.x2 * a.x3 - a.x0 * a.x3) (by have := hM.1; omega) (by have := hM.2; omega)
  omega

theorem cls_zero (a : Sp) : clsL a 0 = cond (spE a sp0) [[]] [] := by
  simp only [clsL, words, List.filter_cons, List.filter_nil, fin, List.foldl_nil]
  by_cases h : spE a sp0 = true <;> simp [h]

theorem cls_succ (a : Sp) (n : Nat) : clsL a (n + 1) = ltr.flatMap fun c => (clsL (a.next c) n).map fun w => c :: w := by
  simp only [clsL, words_cons, List.filter_flatMap, List.filter_map, Function.comp_def, fin_cons]

theorem cls_len (a : Sp) (n : Nat) : (clsL a n).length ≤ 3 ^ n := by
  rw [← words_count n]
  exact List.length_filter_le _ _

end Go.Proofs.Ythiimllafcfieaa

/- Contract: the model's 'clAll'. -/
namespace Go.Proofs.Ythiimllafcfieaa
open Go.ChangeShapes Go.WideShapes Go.ChangeAt Go.RowKit

set_option linter.unusedVariables false

theorem one_strC (c : UInt8) (B cap : Nat) (w : World) (h : w.cell? ⟨B, 0, none⟩ = some (.int .u8 ((c.toNat : Nat) : Int))) :
    (convert 109 9 (.slice (some ⟨B, 0, none⟩) 1 cap)).run Try.prog w = .ok (.string (ofL [c])) w := by
  refine run_convert_bytes_back w 109 9 5 ⟨B, 0, none⟩ cap [c] Try.underlying109 Try.underlying5 Try.underlying9 (fun j hj => ?_)
  obtain rfl : j = 0 := by simpa using hj
  have h3 : ((⟨B, 0, none⟩ : Addr).add 0) = ⟨B, 0, none⟩ := by simp [Addr.add]
  rw [h3, h]
  rfl

theorem bytes_at {W : World} {B : Nat} {fz : Nat × Nat} (h : W.heap[B]? = some (.cells #[.int .u8 76, .int .u8 82, .int .u8 83] 5 fz)) {i : Nat} {c : UInt8} (hc : ltr[i]? = some c) : W.cell? ⟨B, i, none⟩ = some (.int .u8 ((c.toNat : Nat) : Int)) := by
  match i, hc with
  | 0, hc => simp [ltr] at hc; subst hc; simp [World.cell?, h]
  | 1, hc => simp [ltr] at hc; subst hc; simp [World.cell?, h]
  | 2, hc => simp [ltr] at hc; subst hc; simp [World.cell?, h]

theorem news_at {W : World} {n : Nat} (hn : W.heap.size = n) (x : Value) (t : TypeId) : ∀ j u, [x][j]? = some u → (W.alloc (.cells #[x] t)).cell? ((⟨n, 0, none⟩ : Addr).add j) = some u := by
  subst hn
  exact cell_one_new W x t

theorem blk4 {W : World} {g : Nat} {t : TypeId} {a0 a1 a2 a3 : Value} (h : W.heap[g]? = some (.cells #[a0, a1, a2, a3] t (0, 0))) :
    W.cell? ⟨g, 0, none⟩ = some a0 ∧ W.cell? ⟨g, 1, none⟩ = some a1 ∧ W.cell? ⟨g, 2, none⟩ = some a2 ∧ W.cell? ⟨g, 3, none⟩ = some a3 := by
  simp [World.cell?, h]

def accA (s : Sp) (n c : Nat) : List (List UInt8) := (ltr.take c).flatMap fun ch => (clsL (s.next ch) n).map fun w => ch :: w

theorem accA_end (s : Sp) (n : Nat) : accA s n 3 = clsL s (n + 1) := by rw [cls_succ]; rfl

theorem accA_next {s : Sp} {n c : Nat} {ch : UInt8} (h : ltr.take (c + 1) = ltr.take c ++ [ch]) : accA s n (c + 1) = accA s n c ++ (clsL (s.next ch) n).map fun w => ch :: w := by
  simp [accA, h, List.flatMap_append]

theorem accA_le (s : Sp) (n : Nat) (c : Nat) (hc : c ≤ 3) : (accA s n c).length ≤ 3 * 3 ^ n := by
  match c, hc with
  | 0, _ => simp [accA]
  | 1, _ => have := cls_len (s.next 76) n; simp [accA, ltr]; omega
  | 2, _ => have := cls_len (s.next 76) n; have := cls_len (s.next 82) n; simp [accA, ltr]; omega
  | 3, _ => have := cls_len (s.next 76) n; have := cls_len (s.next 82) n; have := cls_len (s.next 83) n; simp [accA, ltr]; omega

theorem cls_mem {a : Sp} {n : Nat} {w : List UInt8} (h : w ∈ clsL a n) : w.length = n := words_len n w (List.mem_filter.1 h).1

set_option maxRecDepth 100000 in
set_option maxHeartbeats 1600000 in
theorem clAll_zero (s : Sp) (w : World) : Calls Try.prog 53 #[.agg #[.int .i64 s.x0, .int .i64 s.x1, .int .i64 s.x2, .int .i64 s.x3], .int .i64 s.h, .int .i64 0] w (StrPost (clsL s 0) w) := by
  rw [cls_zero]
  obtain ⟨x0, x1, x2, x3, h⟩ := s
  have hE : spE ⟨x0, x1, x2, x3, h⟩ sp0 = ((x0 == 0 && (x1 == 0 && (x2 == 0 && x3 == 0))) && h == 0) := rfl
  rw [hE]
  cases hq : (x0 == 0 && (x1 == 0 && (x2 == 0 && x3 == 0)))
  · have R := Lib.hid hq
    go_enter Try.func53, Try.ntmps53
    go_wp2_with fail
    go_ret
    exact ⟨_, rfl, World.ownsRow_nil _ _ _ _, by go_grown⟩
  · by_cases h0 : h = 0
    · subst h0
      go_enter Try.func53, Try.ntmps53
      go_wp2_with fail
      go_ret
      exact ⟨_, rfl, litCellsP (by simp) (by omega) rfl rfl, by go_grown⟩
    · have hb : (h == 0) = false := beq_eq_false_iff_ne.2 h0
      rw [hb]
      go_enter Try.func53, Try.ntmps53
      go_wp2_with fail
      go_ret
      exact ⟨_, rfl, World.ownsRow_nil _ _ _ _, by go_grown⟩

set_option maxRecDepth 100000 in
set_option maxHeartbeats 6400000 in
theorem clAll_step (s : Sp) (n : Nat) (hn : n ≤ 9) (hs : s.okB (999000 - 2 * ((n + 1 : Nat) : Int)))
    (ih : ∀ (t : Sp), t.okB (999000 - 2 * (n : Int)) → ∀ w : World, Calls Try.prog 53 #[.agg #[.int .i64 t.x0, .int .i64 t.x1, .int .i64 t.x2, .int .i64 t.x3], .int .i64 t.h, .int .i64 (n : Nat)] w (StrPost (clsL t n) w)) (w : World) :
    Calls Try.prog 53 #[.agg #[.int .i64 s.x0, .int .i64 s.x1, .int .i64 s.x2, .int .i64 s.x3], .int .i64 s.h, .int .i64 ((n + 1 : Nat) : Int)] w (StrPost (clsL s (n + 1)) w) := by
  obtain ⟨i0, hi, iz0, iz1, iz2⟩ := info_parts srInfo
  have hsq : s.okB 999999 := hs.mono (by omega)
  have hnx : ∀ c, (s.next c).okB (999000 - 2 * (n : Int)) := fun c => (hs.next c).mono (by omega)
  obtain ⟨⟨b0, b0'⟩, ⟨b1, b1'⟩, ⟨b2, b2'⟩, ⟨b3, b3'⟩, b4, b5⟩ := hsq
  have NB := nm_bd s.x0 s.x1 s.x2 s.x3 b0 b0' b1 b1' b2 b2' b3 b3'
  obtain ⟨N, hN⟩ : ∃ N : Int, ((n + 1 : Nat) : Int) = N := ⟨_, rfl⟩
  have N1 : 1 ≤ N := by omega
  have N10 : N ≤ 10 := by omega
  have Q0 : 0 ≤ N * N := Int.mul_nonneg (by omega) (by omega)
  have Q1 : N * N ≤ 100 := by have := Int.mul_le_mul N10 N10 (by omega) (by omega : (0 : Int) ≤ 10); omega
  have hfar := cls_far s (hs.mono (by omega)) (n + 1)
  have hN1 : N - 1 = (n : Int) := by omega
  have NZ : ¬ N = 0 := by omega
  rw [hN] at hfar ⊢
  have P1 := Lib.hid (spNorm_any s.x0 s.x1 s.x2 s.x3)
  obtain ⟨u, hu⟩ : ∃ u, nm0 s.x0 s.x1 s.x2 s.x3 = u := ⟨_, rfl⟩
  obtain ⟨v, hv⟩ : ∃ v, nm1 s.x0 s.x1 s.x2 s.x3 = v := ⟨_, rfl⟩
  rw [hu, hv] at NB hfar P1
  have P2 := Lib.hid (fun w => ptCompare_any u v (N * N) 0 (by omega) (by omega) (by omega) (by omega) (by omega) (by omega) (by omega) (by omega) w)
  rw [Int.sub_zero] at P2
  obtain ⟨sg, hsg⟩ : ∃ sg, sgn2 (u - N * N) v = sg := ⟨_, rfl⟩
  rw [hsg] at hfar P2
  have HIH := Lib.hid ih
  have HNX := Lib.hid hnx
  have hcv := fun (W : World) => Lib.run_convert_bytes_const W 109 5 #[.int .u8 76, .int .u8 82, .int .u8 83] 3 3 Try.underlying109 Try.underlying5
  clear hu hv ih hnx hsg hN
  by_cases hsp : 0 < sg
  · have HF := Lib.hid (hfar hsp)
    go_enter Try.func53, Try.ntmps53
    go_wp2_with fail
    (go_at_call 78; (with_reducible refine (P1.out _).mono ?_); rintro e wA ⟨rfl, h1⟩; (try with_reducible replace h1 := undrew h1); have hB : Below w.heap.size w wA := ba (by go_grown) h1; obtain ⟨hcwA, hfwA⟩ := bcell h1; have hqwA := h1.size; (try simp at hqwA); (try have hz0wA : w.heap.size < wA.heap.size := (by omega)); (try have he0wA : w.heap.size ≤ wA.heap.size := (by omega)))
    go_wp2_with fail
    (go_at_call 77; (with_reducible refine (P2.out _).mono ?_); rintro e wC ⟨rfl, h1⟩; (try with_reducible replace h1 := undrew h1); have hB : Below w.heap.size w wC := ba (by go_grown) h1; obtain ⟨hcwC, hfwC⟩ := bcell h1; have hqwC := h1.size; (try simp at hqwC); (try have hz0wC : w.heap.size < wC.heap.size := (by omega)); (try have he0wC : w.heap.size ≤ wC.heap.size := (by omega)))
    go_wp2_with fail
    go_ret
    exact ⟨_, rfl, by rw [HF.out]; exact World.ownsRow_nil _ _ _ _, by go_grown⟩
  · clear hfar
    go_enter Try.func53, Try.ntmps53
    go_wp2_with fail
    (go_at_call 78; (with_reducible refine (P1.out _).mono ?_); rintro e wA ⟨rfl, h1⟩; (try with_reducible replace h1 := undrew h1); have hB : Below w.heap.size w wA := ba (by go_grown) h1; obtain ⟨hcwA, hfwA⟩ := bcell h1; have hqwA := h1.size; (try simp at hqwA); (try have hz0wA : w.heap.size < wA.heap.size := (by omega)); (try have he0wA : w.heap.size ≤ wA.heap.size := (by omega)))
    have h1A := h1
    go_wp2_with fail
    (go_at_call 77; (with_reducible refine (P2.out _).mono ?_); rintro e wC ⟨rfl, h1⟩; (try with_reducible replace h1 := undrew h1); have hB : Below w.heap.size w wC := ba (by go_grown) h1; obtain ⟨hcwC, hfwC⟩ := bcell h1; have hqwC := h1.size; (try simp at hqwC); (try have hz0wC : w.heap.size < wC.heap.size := (by omega)); (try have he0wC : w.heap.size ≤ wC.heap.size := (by omega)))
    go_wp2_with fail
    have HX0 := Lib.hid (show wC.heap[w.heap.size]? = some (.cells #[.int .i64 s.x0, .int .i64 s.x1, .int .i64 s.x2, .int .i64 s.x3] 60 (0, 0)) by
      rw [h1.block w.heap.size (by omega), h1A.block w.heap.size (by simp)]
      exact heap_alloc_new _ _)
    have HBC := Lib.hid hB
    have h3n : 3 ^ n ≤ 19683 := Nat.pow_le_pow_right (by decide) hn
    have hzC : w.heap.size < wC.heap.size := (Array.getElem?_eq_some_iff.1 HX0.out).1
    clear h1 hB
    go_loopw [7, 35] (fun t i wr => ∃ (c : Nat) (v : Value), c ≤ 3 ∧ i = .int .i64 c ∧ v = t ∧ wr.ownsRow w.heap.size 9 1 v (accA s n c).length (strV (accA s n c)) ∧ wr.heap[w.heap.size]? = some (.cells #[.int .i64 s.x0, .int .i64 s.x1, .int .i64 s.x2, .int .i64 s.x3] 60 (0, 0)) ∧ wr.heap[wC.heap.size]? = some (.cells #[.int .u8 76, .int .u8 82, .int .u8 83] 5 (3, 4)) ∧ Below w.heap.size w wr) (fun _ i _ => 4 - (intOf i).toNat)
    case atStart => exact ⟨0, _, Nat.zero_le _, rfl, rfl, by simpa [accA, strV] using World.ownsRow_nil _ _ _ _, (Below.heap_alloc _ _ _ hzC).trans HX0.out, heap_alloc_new _ _, HBC.out.alloc (by omega) _⟩
    case round =>
      obtain ⟨c, v, hc, rfl, rfl, hO, hX, hY, hb⟩ := hrel
      have hz := hb.size
      have hzX := blkLt hX
      have hzY := blkLt hY
      by_cases hlt : c < 3
      · obtain ⟨ch, hch, hpc, _, hta⟩ := ltr_at hlt
        have cY := bytes_at hY hch
        obtain ⟨x0, x1, x2, x3⟩ := blk4 hX
        have HNA := Lib.hid (accA_next (s := s) (n := n) hta)
        have P3 := Lib.hid (ptStep_any ch hpc s.h b4 b5)
        have d0 := dd_bd0 ch s.h
        have d1 := dd_bd1 ch s.h
        have d2 := dd_bd2 ch s.h
        have d3 := dd_bd3 ch s.h
        have P4 := Lib.hid (spAddP s.x0 s.x1 s.x2 s.x3 (dd0 ch s.h) (dd1 ch s.h) (dd2 ch s.h) (dd3 ch s.h) (by omega) (by omega) (by omega) (by omega) (by omega) (by omega) (by omega) (by omega) (by omega) (by omega) (by omega) (by omega) (by omega) (by omega) (by omega) (by omega))
        have P5 := Lib.hid (HIH.out (s.next ch) (HNX.out ch))
        have hle := accA_le s n c (by omega)
        have hlr := cls_len (s.next ch) n
        have hxl : ∀ x ∈ clsL (s.next ch) n, x.length ≤ 10 := fun x hx => by rw [cls_mem hx]; omega
        obtain ⟨R, hR⟩ : ∃ R, clsL (s.next ch) n = R := ⟨_, rfl⟩
        rw [hR] at P5 HNA hlr hxl
        have HXL := Lib.hid hxl
        simp only [Sp.next] at P5
        generalize dd0 ch s.h = y0 at *
        generalize dd1 ch s.h = y1 at *
        generalize dd2 ch s.h = y2 at *
        generalize dd3 ch s.h = y3 at *
        generalize nh ch s.h = y4 at *
        obtain ⟨wo, rfl⟩ : ∃ wo : World, wo = wr := ⟨_, rfl⟩
        have HO := Lib.hid hO
        have HX := Lib.hid hX
        have HY := Lib.hid hY
        have HB := Lib.hid hb
        clear hch hpc hta hR hxl hO hX hY hb
        go_wp2_with fail
        refine (P3.out _).mono ?_
        rintro e wp ⟨rfl, hp1⟩
        have hpz := hp1.size
        have hzp : w.heap.size < wp.heap.size := by omega
        obtain ⟨x0, x1, x2, x3⟩ := blk4 ((hp1.block w.heap.size hzX).trans HX.out)
        go_wp2_with fail
        refine (P4.out _).mono ?_
        rintro e wq ⟨rfl, hq1⟩
        have hqz := hq1.size
        simp at hqz
        go_wp2_with fail
        refine (P5.out _).mono ?_
        rintro e wt ⟨vL, rfl, oL, ht1⟩
        have htz := ht1.size
        have hAll := ((hp1.alloc hpz (.cells #[.int .i64 y0, .int .i64 y1, .int .i64 y2, .int .i64 y3] 60)).trans (hq1.mono (by simp; omega))).trans (ht1.mono (by omega))
        have hv1 : ∀ k, v.ownBlock = some k → k < wo.heap.size := fun k hk => (HO.out.lt k hk).2
        obtain ⟨Lc, hLc⟩ : ∃ Lc, R.length = Lc := ⟨_, rfl⟩
        rw [hLc] at oL hlr
        obtain ⟨av, cv, rfl⟩ := own_formC oL
        have hne0 : (Value.slice av Lc cv).ownBlock = none ∨ (Value.slice av Lc cv).ownBlock ≠ v.ownBlock := by
          cases hk : (Value.slice av Lc cv).ownBlock with
          | none => exact .inl rfl
          | some k =>
            refine .inr fun e => ?_
            have h1 := (oL.lt k hk).1
            have h2 := hv1 k e.symm
            omega
        have HNE := Lib.hid hne0
        have HOL := Lib.hid oL
        have HLC := Lib.hid hLc
        have HO2 := Lib.hid (HO.out.kept (below_grown hAll) (by cases v.ownBlock <;> simp))
        have HX2 := Lib.hid ((hAll.block w.heap.size hzX).trans HX.out)
        have HY2 := Lib.hid ((hAll.block wC.heap.size hzY).trans HY.out)
        have HB2 := Lib.hid (HB.out.trans (hAll.mono hz))
        clear hp1 hq1 ht1 hAll hv1 hne0 oL hLc x0 x1 x2 x3 cY
        go_wp2_with fail
        go_loopw [7, 53] (fun t i wr => ∃ (e : Nat) (v : Value), e ≤ Lc ∧ i = .int .i64 e ∧ v = t ∧ wr.ownsRow w.heap.size 9 1 v (accA s n c ++ (R.take e).map fun x => ch :: x).length (strV (accA s n c ++ (R.take e).map fun x => ch :: x)) ∧ wr.ownsRow wq.heap.size 9 1 (.slice av Lc cv) Lc (strV R) ∧ ((Value.slice av Lc cv).ownBlock = none ∨ (Value.slice av Lc cv).ownBlock ≠ v.ownBlock) ∧
          wr.heap[w.heap.size]? = some (.cells #[.int .i64 s.x0, .int .i64 s.x1, .int .i64 s.x2, .int .i64 s.x3] 60 (0, 0)) ∧ wr.heap[wC.heap.size]? = some (.cells #[.int .u8 76, .int .u8 82, .int .u8 83] 5 (3, 4)) ∧ Below w.heap.size w wr) (fun _ i _ => Lc - (intOf i).toNat)
        case atStart => exact ⟨0, v, Nat.zero_le _, rfl, rfl, by simpa using HO2.out, HOL.out, HNE.out, HX2.out, HY2.out, HB2.out⟩
        case round =>
          obtain ⟨e, v, he, rfl, rfl, hO, oL, hne, hX, hY, hb⟩ := hrel
          have hz9 := hb.size
          have hzX9 := blkLt hX
          have hzY9 := blkLt hY
          by_cases hlc : e < Lc
          · obtain ⟨x, hx⟩ : ∃ x, R[e]? = some x := ⟨_, List.getElem?_eq_getElem (by rw [HLC.out]; exact hlc)⟩
            have hx10 := HXL.out x (List.mem_of_getElem? hx)
            obtain ⟨gL, rfl⟩ : ∃ gL, av = some ⟨gL, 0, none⟩ := by
              rcases oL.2 with ⟨h, h0⟩ | ⟨gL, capL, _, h, _⟩
              · omega
              · injection h with h; exact ⟨gL, h⟩
            have d9 := str_of oL HLC.out e x hx
            have hgL := (oL.lt gL rfl).2
            have htk : R.take (e + 1) = R.take e ++ [x] := by rw [List.take_add_one, hx]; rfl
            obtain ⟨T, hT0⟩ : ∃ T, ofL (ch :: x) = T := ⟨_, rfl⟩
            have k1 : ∀ w : World, (Op.stringOp .add (ofL [ch]) (ofL x)).run Try.prog w = .ok (.string T) w := fun w => concat_run (by rw [ofL_append, ← hT0]; rfl) (by rw [ofL_size, ofL_size, List.length_singleton]; omega) w
            have q := one_strC ch wr.heap.size 1 (wr.alloc (.cells #[.int .u8 ((ch.toNat : Nat) : Int)] 5)) (by go_simp)
            have hlen : (accA s n c ++ (R.take e).map fun x => ch :: x).length ≤ 600000 := by
              rw [List.length_append, List.length_map, List.length_take]
              omega
            have HV := Lib.hid (show (accA s n c ++ (R.take (e + 1)).map fun x => ch :: x) = (accA s n c ++ (R.take e).map fun x => ch :: x) ++ [ch :: x] by rw [htk, List.map_append, ← List.append_assoc]; rfl)
            generalize hA : (accA s n c ++ (R.take e).map fun x => ch :: x) = A at *
            have HT0 := Lib.hid hT0
            have HO := Lib.hid ((hO.alloc (.cells #[.int .u8 ((ch.toNat : Nat) : Int)] 5)).alloc (.cells #[.string T] 9))
            have HOL := Lib.hid ((oL.alloc (.cells #[.int .u8 ((ch.toNat : Nat) : Int)] 5)).alloc (.cells #[.string T] 9))
            have HX := Lib.hid ((Below.heap_alloc (wr.alloc (.cells #[.int .u8 ((ch.toNat : Nat) : Int)] 5)) (.cells #[.string T] 9) w.heap.size (by simp; omega)).trans ((Below.heap_alloc wr (.cells #[.int .u8 ((ch.toNat : Nat) : Int)] 5) _ hzX9).trans hX))
            have HY := Lib.hid ((Below.heap_alloc (wr.alloc (.cells #[.int .u8 ((ch.toNat : Nat) : Int)] 5)) (.cells #[.string T] 9) wC.heap.size (by simp; omega)).trans ((Below.heap_alloc wr (.cells #[.int .u8 ((ch.toNat : Nat) : Int)] 5) _ hzY9).trans hY))
            have HB := Lib.hid ((hb.alloc hz9 (.cells #[.int .u8 ((ch.toNat : Nat) : Int)] 5)).alloc (by simp; omega) (.cells #[.string T] 9))
            have HNE := Lib.hid hne
            have hnX := own_blkC HO.out HX.out (by decide)
            have hnY := own_blkC HO.out HY.out (by decide)
            have hnews := news_at (W := wr.alloc (.cells #[.int .u8 ((ch.toNat : Nat) : Int)] 5)) (n := wr.heap.size + 1) (by simp) (.string T) 9
            clear hx hO oL hX hY hb hne htk hT0 hA
            go_wp2_with (at_builtin; refine wpList_append_own_at _ rfl _ _ 25 rfl w.heap.size 9 i0 (.string ByteArray.empty) 1 16 Try.underlying25 hi iz0 iz1 iz2 rfl (by decide) v _ _ rfl HO.out ⟨wr.heap.size + 1, 0, none⟩ 1 1 [.string T] rfl rfl hnews (by intro u hu; simp at hu; subst hu; rfl) (by unfold maxLen; omega) (by omega) (by simp; omega) ?_; intro v' w2 hown' hgrow hnil hloc)
            have hlt' := HO.out.lt
            have HB8 := Lib.hid (HB.out.grown hgrow (by simp; omega) (fun k hk => (hlt' k hk).1))
            have HX8 := Lib.hid ((hgrow.block w.heap.size (by simp; omega) hnX).trans HX.out)
            have HY8 := Lib.hid ((hgrow.block wC.heap.size (by simp; omega) hnY).trans HY.out)
            have HOL8 := Lib.hid (HOL.out.kept hgrow HNE.out)
            have HNE8 := Lib.hid (show (Value.slice (some ⟨gL, 0, none⟩) Lc cv).ownBlock = none ∨ (Value.slice (some ⟨gL, 0, none⟩) Lc cv).ownBlock ≠ v'.ownBlock by
              refine .inr fun e => ?_
              rcases hloc with h | h
              · rcases HNE.out with h2 | h2
                · cases h2
                · exact h2 (e.trans h)
              · rw [h] at e
                simp [Value.ownBlock] at e
                omega)
            have HO8 := Lib.hid hown'
            clear hlt' hgrow hown' hnil hloc hnX hnY hnews q
            go_roundw
            case rel => exact ⟨e + 1, v', by omega, by go_num, rfl, by rw [HV.out, strV_append, List.length_append]; simp only [strV, List.map_cons, List.map_nil, HT0.out]; exact HO8.out, HOL8.out, HNE8.out, HX8.out, HY8.out, HB8.out⟩
            case measure => simp [intOf]; omega
          · obtain rfl : e = Lc := by omega
            have hta : R.take e = R := List.take_of_length_le (by rw [HLC.out]; exact Nat.le_refl _)
            rw [hta] at hO
            have HO := Lib.hid hO
            have HX := Lib.hid hX
            have HY := Lib.hid hY
            have HB := Lib.hid hb
            clear hO oL hne hX hY hb hta
            go_wp2_with fail
            go_roundw
            case rel => exact ⟨c + 1, v, by omega, by go_num, rfl, by rw [HNA.out]; exact HO.out, HX.out, HY.out, HB.out⟩
            case measure => simp [intOf]; omega
      · obtain rfl : c = 3 := by omega
        rw [accA_end] at hO
        have HO := Lib.hid hO
        have HB := Lib.hid hb
        clear hO hX hY hb
        go_wp2_with fail
        go_ret
        exact ⟨_, rfl, HO.out, HB.out⟩

set_option maxRecDepth 100000 in
theorem clAll_any (n : Nat) : n ≤ 10 → ∀ (s : Sp), s.okB (999000 - 2 * (n : Int)) → ∀ w : World, Calls Try.prog 53 #[.agg #[.int .i64 s.x0, .int .i64 s.x1, .int .i64 s.x2, .int .i64 s.x3], .int .i64 s.h, .int .i64 (n : Nat)] w (StrPost (clsL s n) w) := by
  induction n with
  | zero => intro _ s _ w; exact clAll_zero s w
  | succ n ih => intro hn s hs w; exact clAll_step s n (by omega) hs (fun t ht w => ih (by omega) t ht w) w

end Go.Proofs.Ythiimllafcfieaa

/- Contracts: keys counted in a sorted list; whether some pieces lead back; the first closed track of some pieces, in the model and in the program. -/
namespace Go.Proofs.Ythiimllafcfieaa
open Go.ChangeShapes Go.WideShapes Go.ChangeAt Go.RowKit

set_option linter.unusedVariables false

def keC (ys : List Int) (k : Int) : Nat := ys.countP fun z => decide (z = k)

theorem keC_split (k : Int) : ∀ ys : List Int, (ys.countP fun z => decide (z < k + 1)) = (ys.countP fun z => decide (z < k)) + keC ys k
  | [] => rfl
  | y :: ys => by
    have ih := keC_split k ys
    simp only [keC, List.countP_cons] at ih ⊢
    rw [ih]
    rcases Int.lt_trichotomy y k with h | h | h
    · have h1 : y < k + 1 := by omega
      have h3 : ¬ y = k := by omega
      simp only [h, h1, h3, decide_true, decide_false, if_true]
      simp; omega
    · subst h
      have h1 : y < y + 1 := by omega
      have h2 : ¬ y < y := by omega
      rw [decide_eq_true h1, decide_eq_false h2, decide_eq_true rfl]
      simp only [if_true]
      simp
      omega
    · have h1 : ¬ y < k + 1 := by omega
      have h2 : ¬ y < k := by omega
      have h3 : ¬ y = k := by omega
      simp only [h1, h2, h3, decide_false]
      simp

theorem keC_le (ys : List Int) (k : Int) : keC ys k ≤ ys.length := List.countP_le_length

set_option maxRecDepth 100000 in
set_option maxHeartbeats 800000 in
theorem clCount_any (ys : List Int) (hb : ys.length ≤ 5000) (hs : ys.Pairwise (· ≤ ·)) (v : Value) (p : Sp) (turn whole : Int) (t0 : -100 ≤ turn) (t1 : turn ≤ 100) (u0 : -100 ≤ whole) (u1 : whole ≤ 100) (hsm : smK p (turn - whole)) (w : World) (hv : IntV w v ys) :
    Calls Try.prog 115 #[v, .agg #[.int .i64 p.x0, .int .i64 p.x1, .int .i64 p.x2, .int .i64 p.x3], .int .i64 turn, .int .i64 whole] w fun e w' => e = .returned (.int .i64 (keC ys (keyI p (turn - whole)) : Nat)) ∧ Below w.heap.size w w' := by
  have CK := Lib.hid (clKey_any p (turn - whole) hsm)
  have hkb := keyI_bd hsm
  generalize keyI p (turn - whole) = k at *
  obtain ⟨k0, k1⟩ := hkb
  have B1 := Lib.hid (fun (W : World) (hW : Below w.heap.size w W) => clBelow_any ys hb hs v (k + 1) W (hv.below hW))
  have B2 := Lib.hid (fun (W : World) (hW : Below w.heap.size w W) => clBelow_any ys hb hs v k W (hv.below hW))
  have hsp := keC_split k ys
  have l1 := List.countP_le_length (p := fun z => decide (z < k + 1)) (l := ys)
  have l2 := List.countP_le_length (p := fun z => decide (z < k)) (l := ys)
  have l3 := keC_le ys k
  generalize (ys.countP fun z => decide (z < k + 1)) = a at *
  generalize (ys.countP fun z => decide (z < k)) = b at *
  generalize keC ys k = c at *
  clear hv hs hsm
  have hab : (a : Int) - (b : Int) = (c : Int) := by omega
  have ha5 : a ≤ 5000 := by omega
  have hb5 : b ≤ 5000 := by omega
  go_enter Try.func115, Try.ntmps115
  go_wp2_with fail
  refine (CK.out _).mono ?_
  rintro e w1 ⟨rfl, hb1⟩
  have HB := Lib.hid (ba (by go_grown) hb1 : Below w.heap.size w w1)
  clear hb1
  go_wp2_with (first | ((with_reducible refine (B1.out _ (by exact HB.out)).mono ?_); rintro e w' ⟨rfl, rfl⟩) | ((with_reducible refine (B2.out _ (by exact HB.out)).mono ?_); rintro e w' ⟨rfl, rfl⟩))
  go_ret
  exact ⟨by first | rfl | (simp; done) | (simp; omega), HB.out⟩

set_option maxRecDepth 100000 in
set_option maxHeartbeats 800000 in
theorem l1All_any (xs : List Int) (hb : xs.length ≤ 5000) (v : Value) (lo hi : Int) (w : World) (hv : IntV w v xs) (hall : ∀ x ∈ xs, inB x lo hi = true) :
    Calls Try.prog 114 #[v, .int .i64 lo, .int .i64 hi] w fun e w' => e = .returned (.bool true) ∧ w = w' := by
  obtain ⟨av, cap, rfl, hc1, hc2, hr⟩ := hv
  obtain ⟨n, hn⟩ : ∃ n, xs.length = n := ⟨_, rfl⟩
  rw [hn] at hb hc1 ⊢
  have HN := Lib.hid hn
  have HR := Lib.hid hr
  have HALL := Lib.hid hall
  clear hn hr hall
  go_enter Try.func114, Try.ntmps114
  go_wp2_with fail
  go_loop [11] (fun p => ∃ k : Nat, p = .int .i64 (k : Nat) ∧ k ≤ n) (fun p => n - (intOf p).toNat)
  case atStart => exact ⟨0, rfl, Nat.zero_le _⟩
  case round =>
    obtain ⟨k, rfl, hk⟩ := hrel
    by_cases hlt : k < n
    · obtain ⟨y, hy⟩ : ∃ y, xs[k]? = some y := ⟨_, List.getElem?_eq_getElem (by rw [HN.out]; omega)⟩
      obtain ⟨g, o, rfl, hg, hcell⟩ := HR.out.resolve_left (fun h => by have := HN.out; rw [h] at this; simp at this; omega)
      have c0 := hcell k y hy
      have L := Lib.hid (l1In_any y lo hi w)
      rw [HALL.out y (List.mem_of_getElem? hy)] at L
      have i1 : (0 : Int) ≤ (k : Int) := by omega
      have i2 : (k : Int) < (n : Int) := by omega
      clear hcell hy
      go_wp2_with (go_at_call 52; refine (L.out).mono ?_; rintro e w' ⟨rfl, rfl⟩)
      go_round
      case rel => exact ⟨k + 1, by go_num, by omega⟩
      case measure => simp [intOf]; omega
    · go_wp2_with fail
      go_ret
      exact ⟨rfl, rfl⟩

/-- A hit at one of the whole turns. -/
def hitB (ys : List Int) (p : Sp) (n : Nat) (whole : Int) : Bool := inB (whole - p.h) (-(n : Int)) n && decide (0 < keC ys (keyI p (0 - (whole - p.h))))

theorem hit_some {ys : List Int} {p : Sp} {n : Nat} (hn : n ≤ 7) (hp : ys.Perm (bkL n)) (h0 : 0 ≤ p.h) (h7 : p.h ≤ 7) {v : List UInt8} (hv : v ∈ words n) (hf : fin p v = sp0) : hitB ys p n 0 = true ∨ hitB ys p n 8 = true := by
  have hl := (words_iff n v).1 hv
  obtain ⟨⟨e0, e1, e2, e3⟩, e4⟩ := (leads_iff p h0 h7 hv).1 hf
  have hb := trW_bd v n (by rw [hl.1]; exact Nat.le_refl _)
  have hk : keyI p (0 - trW v) = bkI (back v) := by
    rw [bkI, trW_back v hl.2]
    unfold keyI
    rw [show (fin sp4 (back v)).x0 = p.x0 from e0, show (fin sp4 (back v)).x1 = p.x1 from e1, show (fin sp4 (back v)).x2 = p.x2 from e2, show (fin sp4 (back v)).x3 = p.x3 from e3]
    omega
  have hm : keyI p (0 - trW v) ∈ ys := by
    rw [hk]
    exact hp.mem_iff.2 (List.mem_map.2 ⟨back v, back_words hv, rfl⟩)
  have hc : 0 < keC ys (keyI p (0 - trW v)) := List.countP_pos_iff.2 ⟨_, hm, by simp⟩
  have hw : p.h + trW v = 0 ∨ p.h + trW v = 8 := by omega
  rcases hw with h | h
  · left
    have e : (0 : Int) - p.h = trW v := by omega
    simp only [hitB, e, inB, Bool.and_eq_true, decide_eq_true_eq]
    exact ⟨by omega, hc⟩
  · right
    have e : (8 : Int) - p.h = trW v := by omega
    simp only [hitB, e, inB, Bool.and_eq_true, decide_eq_true_eq]
    exact ⟨by omega, hc⟩

def LeadsPost (p : Sp) (n : Nat) (w : World) (e : Ending) (w' : World) : Prop :=
  ∃ b, e = .returned (.bool b) ∧ (b = false → ∀ v ∈ words n, fin p v ≠ sp0) ∧ Below w.heap.size w w'

theorem iv_four {W : World} {n : Nat} (hn : W.heap.size = n) (a b c d : Int) (t : TypeId) : IntV (W.alloc (.cells #[.int .i64 a, .int .i64 b, .int .i64 c, .int .i64 d] t)) (.slice (some ⟨n, 0, none⟩) 4 4) [a, b, c, d] := by
  subst hn
  refine ⟨_, 4, rfl, by simp, by decide, .inr ⟨W.heap.size, 0, rfl, by simp, fun j x hx => ?_⟩⟩
  have h := blk4 (heap_alloc_new W (.cells #[.int .i64 a, .int .i64 b, .int .i64 c, .int .i64 d] t))
  match j, hx with
  | 0, hx => simp at hx; subst hx; exact h.1
  | 1, hx => simp at hx; subst hx; exact h.2.1
  | 2, hx => simp at hx; subst hx; exact h.2.2.1
  | 3, hx => simp at hx; subst hx; exact h.2.2.2

set_option maxRecDepth 100000 in
set_option maxHeartbeats 3200000 in
theorem clLeads_any (ys : List Int) (hb : ys.length ≤ 5000) (hs : ys.Pairwise (· ≤ ·)) (n : Nat) (hn : n ≤ 7) (hp : ys.Perm (bkL n)) (v : Value) (p : Sp) (h0 : 0 ≤ p.h) (h7 : p.h ≤ 7) (hsm : smK p 0) (w : World) (hv : IntV w v ys) :
    Calls Try.prog 90 #[v, .agg #[.int .i64 p.x0, .int .i64 p.x1, .int .i64 p.x2, .int .i64 p.x3], .int .i64 p.h, .int .i64 (n : Nat)] w (LeadsPost p n w) := by
  have HV := Lib.hid hv
  have HS := Lib.hid hs
  have HSM := Lib.hid hsm
  have HHIT := Lib.hid (fun v (hv : v ∈ words n) (hf : fin p v = sp0) => hit_some hn hp h0 h7 hv hf)
  clear hv hs hsm hp
  go_enter Try.func90, Try.ntmps90
  go_wp2_with fail
  go_loopw [9] (fun i wr => ∃ j : Nat, j ≤ 5 ∧ i = .int .i64 (-16 + 8 * (j : Int)) ∧ (∀ k : Nat, k < j → hitB ys p n (-16 + 8 * (k : Int)) = false) ∧ wr.heap[w.heap.size]? = some (.cells #[.int .i64 p.x0, .int .i64 p.x1, .int .i64 p.x2, .int .i64 p.x3] 60 (0, 0)) ∧ Below w.heap.size w wr) (fun i _ => (24 - intOf i).toNat)
  case atStart => exact ⟨0, by omega, rfl, fun k hk => absurd hk (by omega), heap_alloc_new _ _, by go_grown⟩
  case round =>
    obtain ⟨j, hj, rfl, hk, hX, hB⟩ := hrel
    have hz := hB.size
    have hzX := blkLt hX
    have HB := Lib.hid hB
    have HX := Lib.hid hX
    have HK := Lib.hid hk
    obtain ⟨W, hW⟩ : ∃ W : Int, -16 + 8 * (j : Int) = W := ⟨_, rfl⟩
    have HW := Lib.hid hW
    have hnx : -16 + 8 * ((j + 1 : Nat) : Int) = W + 8 := by omega
    rw [hW]
    by_cases hlt : j < 5
    · have w16 : W ≤ 16 := by omega
      have w0 : -16 ≤ W := by omega
      have hKn : ∀ k : Nat, k < j + 1 → hitB ys p n W = false → hitB ys p n (-16 + 8 * (k : Int)) = false := fun k h1 h2 => by
        by_cases e : k = j
        · subst e; rw [hW]; exact h2
        · exact hk k (by omega)
      have HKN := Lib.hid hKn
      obtain ⟨T, hT⟩ : ∃ T : Int, W - p.h = T := ⟨_, rfl⟩
      have t0 : -100 ≤ T := by omega
      have t1 : T ≤ 100 := by omega
      have hHB : hitB ys p n W = (inB T (-(n : Int)) n && decide (0 < keC ys (keyI p (0 - T)))) := by rw [hitB, hT]
      cases hI : inB T (-(n : Int)) n
      · have HH := Lib.hid (show hitB ys p n W = false by rw [hHB, hI]; rfl)
        have L := Lib.hid (fun w => l1In_any T (-(n : Int)) n w)
        rw [hI] at L
        clear hk hX hB hKn hHB hW
        go_wp2_with (go_at_call 52; refine (L.out _).mono ?_; rintro e w' ⟨rfl, rfl⟩)
        go_roundw
        case rel => exact ⟨j + 1, by omega, by rw [hnx], fun k h => HKN.out k h HH.out, HX.out, HB.out⟩
        case measure => simp [intOf]; omega
      · have gT : -(n : Int) ≤ T ∧ T ≤ n := by simpa [inB] using hI
        have L := Lib.hid (fun w => l1In_any T (-(n : Int)) n w)
        rw [hI] at L
        have hsm := HSM.out
        obtain ⟨⟨a0, a0'⟩, ⟨a1, a1'⟩, ⟨a2, a2'⟩, ⟨a3, a3'⟩, _⟩ := hsm
        have LA := Lib.hid (l1All_any [p.x0, p.x1, p.x2, p.x3] (by simp) _ (-60) 60 _ (iv_four (W := wr) rfl p.x0 p.x1 p.x2 p.x3 3) (by
          intro x hx
          simp only [List.mem_cons, List.not_mem_nil, or_false] at hx
          rcases hx with rfl | rfl | rfl | rfl <;> simp [inB] <;> omega))
        have CC := Lib.hid (fun (V : World) (hV : Below w.heap.size w V) => clCount_any ys hb HS.out v p 0 T (by omega) (by omega) t0 t1 (by simp only [smK]; omega) V (HV.out.below hV))
        have HHB := Lib.hid hHB
        have hc := keC_le ys (keyI p (0 - T))
        obtain ⟨x0, x1, x2, x3⟩ := blk4 hX
        clear hk hX hB hKn hHB hW
        generalize keC ys (keyI p (0 - T)) = c at *
        go_wp2_with (first | (go_at_call 52; refine (L.out _).mono ?_; rintro e w' ⟨rfl, rfl⟩) | (go_at_call 114; (with_reducible refine LA.out.mono ?_); rintro e w' ⟨rfl, rfl⟩))
        refine (CC.out _ (HB.out.alloc hz _)).mono ?_
        rintro e wA ⟨rfl, hA⟩
        have HX2 := Lib.hid ((hA.block w.heap.size (by simp; omega)).trans ((Below.heap_alloc wr (.cells #[.int .i64 p.x0, .int .i64 p.x1, .int .i64 p.x2, .int .i64 p.x3] 3) _ hzX).trans HX.out))
        have HB2 := Lib.hid ((HB.out.alloc hz _).trans (hA.mono (by simp; omega)))
        clear hA x0 x1 x2 x3
        by_cases hc0 : 0 < c
        · go_wp2_with fail
          go_ret
          exact ⟨true, rfl, fun h => (by cases h), HB2.out⟩
        · have HH := Lib.hid (show hitB ys p n W = false by rw [HHB.out, hI, decide_eq_false hc0]; rfl)
          go_wp2_with fail
          go_roundw
          case rel => exact ⟨j + 1, by omega, by rw [hnx], fun k h => HKN.out k h HH.out, HX2.out, HB2.out⟩
          case measure => simp [intOf]; omega
    · obtain rfl : j = 5 := by omega
      have w24 : W = 24 := by omega
      have HF := Lib.hid (show ∀ v ∈ words n, fin p v ≠ sp0 from fun v hv hf => by
        rcases HHIT.out v hv hf with h | h
        · have := hk 2 (by omega); rw [show (-16 : Int) + 8 * ((2 : Nat) : Int) = 0 from rfl, h] at this; cases this
        · have := hk 3 (by omega); rw [show (-16 : Int) + 8 * ((3 : Nat) : Int) = 8 from rfl, h] at this; cases this)
      subst w24
      clear hk hX hB
      go_wp2_with fail
      go_ret
      exact ⟨false, rfl, fun _ => HF.out, HB.out⟩

def fsO (n : Nat) : Option (List UInt8) := (clsL sp0 n).head?

def innF (m : Nat) (q : Sp) : List (List UInt8) := (words m).filter fun v => spE (fin q v) sp0

def innW (m : Nat) (u : List UInt8) : List (List UInt8) := (innF m (fin sp0 u)).map fun v => u ++ v

theorem cls_inn (k m : Nat) : clsL sp0 (k + m) = (words k).flatMap (innW m) := by
  rw [clsL, words_add, List.filter_flatMap]
  congr 1
  funext u
  simp only [innW, innF, List.filter_map, Function.comp_def, fin_append]

theorem head_hit {α β : Type} {l : List α} {f : α → List β} {j : Nat} {a : α} {b : β} {r : List β} (h0 : (l.take j).flatMap f = []) (hj : l[j]? = some a) (hf : f a = b :: r) : (l.flatMap f).head? = some b := by
  rw [← List.take_append_drop j l, List.flatMap_append, h0, List.nil_append]
  have hd : l.drop j = a :: l.drop (j + 1) := by
    obtain ⟨h1, rfl⟩ := List.getElem?_eq_some_iff.1 hj
    exact List.drop_eq_getElem_cons h1
  rw [hd, List.flatMap_cons, hf]
  rfl

theorem filt_hit {α : Type} {l : List α} {f : α → Bool} {e : Nat} {a : α} (h0 : (l.take e).filter f = []) (he : l[e]? = some a) (hf : f a = true) : ∃ r, l.filter f = a :: r := by
  rw [← List.take_append_drop e l, List.filter_append, h0, List.nil_append]
  have hd : l.drop e = a :: l.drop (e + 1) := by
    obtain ⟨h1, rfl⟩ := List.getElem?_eq_some_iff.1 he
    exact List.drop_eq_getElem_cons h1
  rw [hd, List.filter_cons, if_pos hf]
  exact ⟨_, rfl⟩

theorem flat_next {α β : Type} {l : List α} {f : α → List β} {j : Nat} {a : α} (h0 : (l.take j).flatMap f = []) (hj : l[j]? = some a) (hf : f a = []) : (l.take (j + 1)).flatMap f = [] := by
  rw [List.take_add_one, hj, List.flatMap_append, h0]
  simp [hf]

theorem filt_next {α : Type} {l : List α} {f : α → Bool} {e : Nat} {a : α} (h0 : (l.take e).filter f = []) (he : l[e]? = some a) (hf : f a = false) : (l.take (e + 1)).filter f = [] := by
  rw [List.take_add_one, he, List.filter_append, h0]
  simp [hf]

theorem ret_fs {n : Nat} {x : ByteArray} {b : Bool} (h : (fsO n).isSome = b ∧ ofL ((fsO n).getD []) = x) : Ending.returned (.tuple #[.string x, .bool b]) = Ending.returned (.tuple #[.string (ofL ((fsO n).getD [])), .bool (fsO n).isSome]) := by rw [h.1, h.2]

theorem own_hdE {W : World} {B n g cap i : Nat} {e : TypeId} {l : List Sp} {s : Sp} (h : W.ownsRow B e 1 (.slice (some ⟨g, 0, none⟩) n cap) n (hdCells l)) (hn : l.length = n) (hs : l[i]? = some s) :
    W.cell? ⟨g, i, none⟩ = some (.int .i64 s.h) := by
  have hi : i < n := by rw [← hn]; exact (List.getElem?_eq_some_iff.1 hs).1
  rw [h.cellAt i (by omega)]
  simp [hdCells, hs]

/-- How a text is laid: the cells of its end. -/
theorem lay_end (l : List UInt8) (hp : l.all pcb = true) (n : Nat) (hn : l.length = n) (h14 : n ≤ 14) (a : Sp) (ha : a.okB 1000) (w : World) :
    Calls Try.prog 89 #[.string (ofL l), .agg #[.int .i64 a.x0, .int .i64 a.x1, .int .i64 a.x2, .int .i64 a.x3], .int .i64 a.h] w fun e w' => ∃ gj cj gh ch, e = .returned (.tuple #[.slice (some ⟨gj, 0, none⟩) (n + 1) cj, .slice (some ⟨gh, 0, none⟩) (n + 1) ch]) ∧ w.heap.size < gj ∧ gj < w'.heap.size ∧ w.heap.size < gh ∧ gh < w'.heap.size ∧
      w'.cell? ⟨gj, n * 4, none⟩ = some (.int .i64 (fin a l).x0) ∧ w'.cell? ⟨gj, n * 4 + 1, none⟩ = some (.int .i64 (fin a l).x1) ∧ w'.cell? ⟨gj, n * 4 + 2, none⟩ = some (.int .i64 (fin a l).x2) ∧ w'.cell? ⟨gj, n * 4 + 3, none⟩ = some (.int .i64 (fin a l).x3) ∧ w'.cell? ⟨gh, n, none⟩ = some (.int .i64 (fin a l).h) ∧ Below w.heap.size w w' := by
  have ht := tkB_ofE hp (by omega : l.length ≤ 40)
  refine (tkLay_any (ofL l) ht a (ha.mono (by decide)) w).mono ?_
  rintro e w' ⟨gj, cj, gh, ch, rfl, hJ, hH, hb⟩
  have hz : (ofL l).size = n := (ofL_size l).trans hn
  have hl2 := lays_last a l
  have hln := lays_length a l
  rw [hn] at hl2 hln
  rw [hz] at hJ hH ⊢
  obtain ⟨c0, c1, c2, c3⟩ := own_ptE hJ hln hl2
  exact ⟨gj, cj, gh, ch, rfl, (hJ.lt gj rfl).1, (hJ.lt gj rfl).2, (hH.lt gh rfl).1, (hH.lt gh rfl).2, c0, c1, c2, c3, own_hdE hH hln hl2, hb⟩

set_option maxRecDepth 100000 in
set_option maxHeartbeats 12800000 in
theorem clFirst_any (n : Nat) (h1 : 1 ≤ n) (h14 : n ≤ 14) (w : World) :
    Calls Try.prog 49 #[.agg #[.int .i64 0, .int .i64 0, .int .i64 0, .int .i64 0], .int .i64 0, .int .i64 (n : Nat)] w fun e w' => e = .returned (.tuple #[.string (ofL ((fsO n).getD [])), .bool (fsO n).isSome]) ∧ Below w.heap.size w w' := by
  obtain ⟨m, hm⟩ : ∃ m, n / 2 = m := ⟨_, rfl⟩
  obtain ⟨k, hk⟩ : ∃ k, n - m = k := ⟨_, rfl⟩
  have hq : (n : Int).tdiv 2 = (m : Int) := by rw [Int.tdiv_eq_ediv_of_nonneg (by omega)]; omega
  have hs : (n : Int) - (m : Int) = (k : Int) := by omega
  have hm7 : m ≤ 7 := by omega
  have hk7 : k ≤ 7 := by omega
  have HF := Lib.hid (show fsO n = ((words k).flatMap (innW m)).head? by rw [fsO, ← cls_inn, show k + m = n by omega])
  have CB := Lib.hid (clBacks_any m hm7)
  have CW1 := Lib.hid (clWords_any k hk7)
  have CW2 := Lib.hid (clWords_any m hm7)
  have hlk := words_count k
  have hlm := words_count m
  have hpk : ∀ u ∈ words k, u.all pcb = true ∧ u.length = k := fun u hu => ⟨words_pcb k u hu, words_len k u hu⟩
  have hpm : ∀ u ∈ words m, u.all pcb = true ∧ u.length = m := fun u hu => ⟨words_pcb m u hu, words_len m u hu⟩
  obtain ⟨K, hK⟩ : ∃ K, 3 ^ k = K := ⟨_, rfl⟩
  obtain ⟨M, hM⟩ : ∃ M, 3 ^ m = M := ⟨_, rfl⟩
  have hK1 : K ≤ 2187 := by rw [← hK]; exact Nat.pow_le_pow_right (by decide) hk7
  have hM1 : M ≤ 2187 := by rw [← hM]; exact Nat.pow_le_pow_right (by decide) hm7
  rw [hK] at hlk
  rw [hM] at hlm
  have HPK := Lib.hid hpk
  have HPM := Lib.hid hpm
  have HLK := Lib.hid hlk
  have HLM := Lib.hid hlm
  clear hpk hpm hlk hlm hm hk hK hM
  go_enter Try.func49, Try.ntmps49
  go_wp2_with fail
  refine (CB.out _).mono ?_
  rintro e w1 ⟨vb, ys, rfl, hIV, hperm, hso, hb1⟩
  have hys : ys.length ≤ 5000 := by rw [hperm.length_eq, bkL, List.length_map, HLM.out]; omega
  have hbx1 := (hb1.block w.heap.size (by simp)).trans (heap_alloc_new _ _)
  have hz1 := hb1.size
  simp at hz1
  have HB1 := Lib.hid (ba (by go_grown) hb1 : Below w.heap.size w w1)
  have HIV1 := Lib.hid hIV
  clear hb1 hIV
  go_wp2_with fail
  refine (CW1.out _).mono ?_
  rintro e w2 ⟨v2, rfl, o2, hb2⟩
  rw [HLK.out] at o2
  have HO2 := Lib.hid (own_lessP o2 (Nat.zero_le _))
  obtain ⟨av, cv, rfl⟩ := own_formC o2
  have HBX := Lib.hid ((hb2.block w.heap.size (by omega)).trans hbx1)
  have HIV2 := Lib.hid (HIV1.out.below hb2)
  have HB2 := Lib.hid (HB1.out.trans (hb2.mono HB1.out.size))
  have hz2 : w.heap.size < w2.heap.size := (Array.getElem?_eq_some_iff.1 HBX.out).1
  clear o2 hb2 hbx1 HIV1
  go_wp2_with fail
  go_loopw [29] (fun i wr => ∃ j : Nat, j ≤ K ∧ i = .int .i64 (j : Nat) ∧ ((words k).take j).flatMap (innW m) = [] ∧ Below w2.heap.size w2 wr) (fun i _ => K - (intOf i).toNat)
  case atStart => exact ⟨0, Nat.zero_le _, rfl, rfl, Below.refl _ _⟩
  case round =>
    obtain ⟨j, hj, rfl, hno, hb⟩ := hrel
    have hz := hb.size
    by_cases hlt : j < K
    · obtain ⟨u, hu⟩ : ∃ u, (words k)[j]? = some u := ⟨_, List.getElem?_eq_getElem (by rw [HLK.out]; exact hlt)⟩
      obtain ⟨hp1, hp2⟩ := HPK.out u (List.mem_of_getElem? hu)
      obtain ⟨g, rfl⟩ : ∃ g, av = some ⟨g, 0, none⟩ := by
        rcases HO2.out.2 with ⟨h, h0⟩ | ⟨g, cap, _, h, _⟩
        · omega
        · injection h with h; exact ⟨g, h⟩
      have c0 := (str_of HO2.out HLK.out).below (HO2.out.lt g rfl).2 hb j u hu
      obtain ⟨x0, x1, x2, x3⟩ := blk4 ((hb.block w.heap.size hz2).trans HBX.out)
      have LE := Lib.hid (fun w => (lay_end u hp1 k hp2 (by omega) sp0 (sp0_ok.mono (by decide)) w))
      have hqok := fin_ok sp0_ok u
      rw [hp2] at hqok
      have hsz : (ofL u).size = k := (ofL_size u).trans hp2
      have HU := Lib.hid hu
      have HNO := Lib.hid hno
      have HB := Lib.hid hb
      have HPL := Lib.hid hp2
      have HIN := Lib.hid (show innW m u = (innF m (fin sp0 u)).map fun v => u ++ v from rfl)
      have hq0 : (fin sp0 u).okB 1000 := hqok.mono (by omega)
      have hqs : smK (fin sp0 u) 0 := by simp only [Sp.okB] at hqok; simp only [smK]; omega
      have hqh : 0 ≤ (fin sp0 u).h ∧ (fin sp0 u).h ≤ 7 := by simp only [Sp.okB] at hqok; omega
      generalize fin sp0 u = q at *
      have LD := Lib.hid (fun (V : World) (hV : Below w2.heap.size w2 V) => clLeads_any ys hys hso m hm7 hperm vb q hqh.1 hqh.2 hqs V (HIV2.out.below hV))
      have LI := Lib.hid (fun (x : List UInt8) (hx : x ∈ words m) (w : World) => lay_end x (HPM.out x hx).1 m (HPM.out x hx).2 (by omega) q hq0 w)
      clear hu hno hb hqok hqs hqh hp1 hp2 hq0
      go_wp2_with fail
      refine (LE.out _).mono ?_
      rintro e w3 ⟨gj, cj, gh, ch, rfl, gj1, gj2, gh1, gh2, d0, d1, d2, d3, d4, hb3⟩
      have HB3 := Lib.hid (HB.out.trans (hb3.mono hz))
      have hz3 := hb3.size
      have i1 : (0 : Int) ≤ (k : Int) := by omega
      have i2 : (k : Int) < ((k + 1 : Nat) : Int) := by omega
      have i2b : (k : Int) < (k : Int) + 1 := by omega
      have i2c : k < k + 1 := by omega
      have nj : ¬ w3.heap.size = gj := by omega
      have nh : ¬ w3.heap.size = gh := by omega
      clear hb3 x0 x1 x2 x3 c0
      go_wp2_with fail
      have hS0 : w3.cell? ⟨gj, k * 4, none⟩ = some (.int .i64 q.x0) ∧ w3.cell? ⟨gj, k * 4 + 1, none⟩ = some (.int .i64 q.x1) ∧ w3.cell? ⟨gj, k * 4 + 2, none⟩ = some (.int .i64 q.x2) ∧ w3.cell? ⟨gj, k * 4 + 3, none⟩ = some (.int .i64 q.x3) ∧ w3.cell? ⟨gh, k, none⟩ = some (.int .i64 q.h) := ⟨d0, d1, d2, d3, d4⟩
      go_region_held3 (fun w' => w'.cell? ⟨gj, k * 4, none⟩ = some (.int .i64 q.x0) ∧ w'.cell? ⟨gj, k * 4 + 1, none⟩ = some (.int .i64 q.x1) ∧ w'.cell? ⟨gj, k * 4 + 2, none⟩ = some (.int .i64 q.x2) ∧ w'.cell? ⟨gj, k * 4 + 3, none⟩ = some (.int .i64 q.x3) ∧ w'.cell? ⟨gh, k, none⟩ = some (.int .i64 q.h)) (go_keep) (fail)
      all_goals
        clear hS0 d0 d1 d2 d3 d4
        have hb3 := HB3.out
        go_wp2_with fail
        refine (LD.out _ (by go_grown)).mono ?_
        rintro e w4 ⟨b, rfl, hno2, hb4⟩
        replace hb4 := undrew hb4
        have hT4 := (hb4.block w3.heap.size (by simp)).trans (heap_alloc_new _ _)
        have HB4 := Lib.hid ((HB3.out.alloc (Nat.le_trans hz hz3) (.cells #[.int .i64 q.x0, .int .i64 q.x1, .int .i64 q.x2, .int .i64 q.x3] 60)).trans (hb4.mono (by simp; omega)))
        have hz4 := blkLt hT4
        have HT4 := Lib.hid hT4
        have HN2 := Lib.hid hno2
        clear hb3 hb4 hT4 hno2
        cases b with
        | false =>
          have HN := Lib.hid (show innW m u = [] by
            rw [HIN.out, innF, List.map_eq_nil_iff, List.filter_eq_nil_iff]
            intro v hv hf
            exact HN2.out rfl v hv (spE_iff.1 hf))
          go_wp2_with fail
          go_roundw
          case rel => exact ⟨j + 1, by omega, by go_num, flat_next HNO.out HU.out HN.out, HB4.out⟩
          case measure => simp [intOf]; omega
        | true =>
          go_wp2_with fail
          refine (CW2.out _).mono ?_
          rintro e w5 ⟨v5, rfl, o5, hb5⟩
          rw [HLM.out] at o5
          have HO5 := Lib.hid (own_lessP o5 (Nat.zero_le _))
          obtain ⟨av5, cv5, rfl⟩ := own_formC o5
          have HT5 := Lib.hid ((hb5.block w3.heap.size hz4).trans HT4.out)
          have HB5 := Lib.hid (HB4.out.trans (hb5.mono HB4.out.size))
          have hz5 : w3.heap.size < w5.heap.size := blkLt HT5.out
          clear o5 hb5
          go_wp2_with fail
          go_loopw [59] (fun i wr => ∃ e : Nat, e ≤ M ∧ i = .int .i64 (e : Nat) ∧ ((words m).take e).filter (fun v => spE (fin q v) sp0) = [] ∧ Below w5.heap.size w5 wr) (fun i _ => M - (intOf i).toNat)
          case atStart => exact ⟨0, Nat.zero_le _, rfl, rfl, Below.refl _ _⟩
          case round =>
            obtain ⟨e, he, rfl, hne, hbe⟩ := hrel
            have hze := hbe.size
            by_cases hle : e < M
            · obtain ⟨x, hx⟩ : ∃ x, (words m)[e]? = some x := ⟨_, List.getElem?_eq_getElem (by rw [HLM.out]; exact hle)⟩
              have hmx := List.mem_of_getElem? hx
              obtain ⟨hxp, hxl⟩ := HPM.out x hmx
              obtain ⟨g5, rfl⟩ : ∃ g, av5 = some ⟨g, 0, none⟩ := by
                rcases HO5.out.2 with ⟨h, h0⟩ | ⟨g, cap, _, h, _⟩
                · omega
                · injection h with h; exact ⟨g, h⟩
              have c9 := (str_of HO5.out HLM.out).below (HO5.out.lt g5 rfl).2 hbe e x hx
              obtain ⟨y0, y1, y2, y3⟩ := blk4 ((hbe.block w3.heap.size hz5).trans HT5.out)
              have LX := Lib.hid (LI.out x hmx)
              have HX := Lib.hid hx
              have HNE := Lib.hid hne
              have HBE := Lib.hid hbe
              obtain ⟨T, hT⟩ : ∃ T, ofL (u ++ x) = T := ⟨_, rfl⟩
              have k1 : ∀ w : World, (Op.stringOp .add (ofL u) (ofL x)).run Try.prog w = .ok (.string T) w := fun w => concat_run (by rw [← hT]; exact ofL_append u x) (by rw [ofL_size, ofL_size, HPL.out, hxl]; omega) w
              have HTT := Lib.hid hT
              have i3 : (0 : Int) ≤ (m : Int) := by omega
              have i4 : (m : Int) < ((m + 1 : Nat) : Int) := by omega
              have HSP := Lib.hid (show spE (fin q x) sp0 = (((fin q x).x0 == 0 && ((fin q x).x1 == 0 && ((fin q x).x2 == 0 && (fin q x).x3 == 0))) && (fin q x).h == 0) from rfl)
              generalize hr : fin q x = r at *
              have HR := Lib.hid hr
              clear hx hmx hxp hxl hne hbe hT hr
              go_wp2_with fail
              refine (LX.out _).mono ?_
              rintro e6 w6 ⟨gj6, cj6, gh6, ch6, rfl, _, _, _, _, f0, f1, f2, f3, f4, hb6⟩
              have HB6 := Lib.hid (HBE.out.trans (hb6.mono hze))
              clear hb6
              cases hv : (r.x0 == 0 && (r.x1 == 0 && (r.x2 == 0 && r.x3 == 0)))
              · have HS := Lib.hid (show spE (fin q x) sp0 = false by rw [HR.out, HSP.out, hv]; rfl)
                go_wp2_with fail
                go_roundw
                case rel => exact ⟨e + 1, by omega, by go_num, filt_next HNE.out HX.out HS.out, HB6.out⟩
                case measure => simp [intOf]; omega
              · by_cases hh : r.h = 0
                · have HS := Lib.hid (show spE (fin q x) sp0 = true by rw [HR.out, HSP.out, hv, hh]; rfl)
                  have HG := Lib.hid (show (fsO n).isSome = true ∧ ofL ((fsO n).getD []) = T by
                    obtain ⟨r2, h2⟩ := filt_hit HNE.out HX.out HS.out
                    have h3 : innW m u = (u ++ x) :: r2.map fun v => u ++ v := by rw [HIN.out, innF, h2]; rfl
                    rw [HF.out, head_hit HNO.out HU.out h3]
                    exact ⟨rfl, HTT.out⟩)
                  have HBZ := Lib.hid (HB2.out.trans ((HB5.out.trans (HB6.out.mono HB5.out.size)).mono HB2.out.size))
                  go_wp2_with fail
                  go_ret2
                  exact ⟨ret_fs HG.out, HBZ.out⟩
                · have HS := Lib.hid (show spE (fin q x) sp0 = false by rw [HR.out, HSP.out, hv, beq_eq_false_iff_ne.2 hh]; rfl)
                  go_wp2_with fail
                  go_roundw
                  case rel => exact ⟨e + 1, by omega, by go_num, filt_next HNE.out HX.out HS.out, HB6.out⟩
                  case measure => simp [intOf]; omega
            · obtain rfl : e = M := by omega
              have hta : (words m).take e = words m := List.take_of_length_le (by rw [HLM.out]; exact Nat.le_refl _)
              rw [hta] at hne
              have HN := Lib.hid (show innW m u = [] by rw [HIN.out, innF, hne]; rfl)
              have HBE := Lib.hid (HB5.out.trans (hbe.mono HB5.out.size))
              clear hne hbe hta
              go_wp2_with fail
              go_roundw
              case rel => exact ⟨j + 1, by omega, by go_num, flat_next HNO.out HU.out HN.out, HBE.out⟩
              case measure => simp [intOf]; omega
    · obtain rfl : j = K := by omega
      have hta : (words k).take j = words k := List.take_of_length_le (by rw [HLK.out]; exact Nat.le_refl _)
      rw [hta] at hno
      have HR := Lib.hid (show (fsO n).isSome = false ∧ ofL ((fsO n).getD []) = ⟨#[]⟩ by rw [HF.out, hno]; exact ⟨rfl, rfl⟩)
      have HBE := Lib.hid (HB2.out.trans (hb.mono HB2.out.size))
      clear hno hb hta
      go_wp2_with fail
      go_ret2
      exact ⟨ret_fs HR.out, HBE.out⟩

def fsR (n : Int) : Option (List UInt8) := cond (inB n 1 14) (fsO n.toNat) none

def fsS (n : Int) : ByteArray := ofL ((fsR n).getD [])

def fsB (n : Int) : Bool := (fsR n).isSome

theorem ret_fsn {n : Int} (h : fsR n = none) : Ending.returned (.tuple #[.string ⟨#[]⟩, .bool false]) = Ending.returned (.tuple #[.string (fsS n), .bool (fsB n)]) := by rw [fsS, fsB, h]; rfl

theorem ret_fss {n : Int} {x : List UInt8} (h : fsR n = some x) : Ending.returned (.tuple #[.string (ofL x), .bool true]) = Ending.returned (.tuple #[.string (fsS n), .bool (fsB n)]) := by rw [fsS, fsB, h]; rfl

theorem clNumber_any (n : Int) (w : World) : Calls Try.prog 48 #[.int .i64 n] w fun e w' => e = .returned (.bool (inB n 1 14)) ∧ w = w' := by
  go_enter Try.func48, Try.ntmps48
  go_wp2_with (go_at_call 52; refine (l1In_any _ _ _ _).mono ?_; rintro e w' ⟨rfl, rfl⟩)
  go_ret
  exact ⟨rfl, rfl⟩

set_option maxRecDepth 100000 in
theorem spFirstClosed (n : Int) (w : World) : Calls Try.prog 15 #[.int .i64 n] w fun e w' => e = .returned (.tuple #[.string (fsS n), .bool (fsB n)]) ∧ Below w.heap.size w w' := by
  have CN := Lib.hid (clNumber_any n)
  cases h1 : inB n 1 14
  · have HN := Lib.hid (show fsR n = none by simp [fsR, h1])
    rw [h1] at CN
    go_enter Try.func15, Try.ntmps15
    go_wp2_with (go_at_call 48; refine (CN.out _).mono ?_; rintro e w' ⟨rfl, rfl⟩)
    go_ret2
    exact ⟨ret_fsn HN.out, by go_grown⟩
  · have g1 : 1 ≤ n ∧ n ≤ 14 := by simpa [inB] using h1
    obtain ⟨m, rfl⟩ : ∃ m : Nat, n = m := ⟨n.toNat, by omega⟩
    rw [h1] at CN
    have P := Lib.hid (clFirst_any m (by omega) (by omega))
    have HS := Lib.hid (show fsS (m : Int) = ofL ((fsO m).getD []) by simp [fsS, fsR, h1])
    have HB := Lib.hid (show fsB (m : Int) = (fsO m).isSome by simp [fsB, fsR, h1])
    rw [HS.out, HB.out]
    generalize ofL ((fsO m).getD []) = x at *
    generalize (fsO m).isSome = b at *
    go_enter Try.func15, Try.ntmps15
    go_wp2_with (go_at_call 48; refine (CN.out _).mono ?_; rintro e w' ⟨rfl, rfl⟩)
    refine (P.out _).mono ?_
    rintro e w1 ⟨rfl, hb1⟩
    have HB1 := Lib.hid hb1
    clear hb1
    go_wp2_with fail
    go_ret2
    exact ⟨rfl, HB1.out⟩

set_option maxRecDepth 100000 in
theorem imFirstClosed (n : Int) (w : World) : Calls Try.prog 16 #[.int .i64 n] w fun e w' => e = .returned (.tuple #[.string (fsS n), .bool (fsB n)]) ∧ Below w.heap.size w w' := by
  cases h1 : inB n 1 14
  · have HN := Lib.hid (show fsR n = none by simp [fsR, h1])
    have L := Lib.hid (isInRange_any n 1 14)
    rw [h1] at L
    go_enter Try.func16, Try.ntmps16
    go_wp2_with (go_at_call 50; refine (L.out _).mono ?_; rintro e w' ⟨rfl, rfl⟩)
    go_ret2
    exact ⟨ret_fsn HN.out, by go_grown⟩
  · have g1 : 1 ≤ n ∧ n ≤ 14 := by simpa [inB] using h1
    obtain ⟨m, rfl⟩ : ∃ m : Nat, n = m := ⟨n.toNat, by omega⟩
    have L := Lib.hid (isInRange_any (m : Int) 1 14)
    rw [h1] at L
    have P := Lib.hid (fun w => (closings_any sp0 (sp0_ok.mono (by omega)) m (by omega) w : Calls Try.prog 51 #[.agg #[.int .i64 0, .int .i64 0, .int .i64 0, .int .i64 0, .int .i64 0], .int .i64 (m : Nat)] w (StrPost (clsL sp0 m) w)))
    have hR : fsR (m : Int) = (clsL sp0 m).head? := by simp [fsR, h1, fsO]
    have hlen := cls_len sp0 m
    have h3 : 3 ^ m ≤ 4782969 := Nat.pow_le_pow_right (by decide) (show m ≤ 14 by omega)
    generalize clsL sp0 m = l at *
    cases l with
    | nil =>
      have HR := Lib.hid hR
      clear hR hlen
      go_enter Try.func16, Try.ntmps16
      go_wp2_with (go_at_call 50; refine (L.out _).mono ?_; rintro e w' ⟨rfl, rfl⟩)
      refine (P.out _).mono ?_
      rintro e w1 ⟨v, rfl, o1, hb1⟩
      obtain ⟨av, cv, rfl⟩ := own_formC o1
      have HB1 := Lib.hid hb1
      clear o1 hb1
      go_wp2_with fail
      go_ret2
      exact ⟨ret_fsn HR.out, HB1.out⟩
    | cons x r =>
      have HR := Lib.hid hR
      obtain ⟨k, hk⟩ : ∃ k, (x :: r).length = k := ⟨_, rfl⟩
      have HK := Lib.hid hk
      have hk1 : 1 ≤ k := by rw [← hk, List.length_cons]; omega
      rw [hk] at hlen
      have hkz : ¬ k = 0 := by omega
      clear hR hk
      go_enter Try.func16, Try.ntmps16
      go_wp2_with (go_at_call 50; refine (L.out _).mono ?_; rintro e w' ⟨rfl, rfl⟩)
      refine (P.out _).mono ?_
      rintro e w1 ⟨v, rfl, o1, hb1⟩
      rw [HK.out] at o1
      obtain ⟨g, cap, rfl, _⟩ := o1.form hk1
      have c0 := str_of o1 HK.out 0 x rfl
      have HB1 := Lib.hid hb1
      clear o1 hb1
      go_wp2_with fail
      go_ret2
      exact ⟨ret_fss HR.out, HB1.out⟩

end Go.Proofs.Ythiimllafcfieaa
