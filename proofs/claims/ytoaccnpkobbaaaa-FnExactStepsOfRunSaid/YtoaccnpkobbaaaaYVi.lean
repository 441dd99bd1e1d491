/- Contracts: how often a train goes through each switch, in the model and in the program. -/
import Derived.Test.YtoaccnpkobbaaaaYEi
namespace Go.Proofs.Ytoaccnpkobbaaaa
open Go.ChangeShapes Go.WideShapes Go.ChangeAt Go.RowKit
open Yd

set_option linter.unusedVariables false

/-- How often the first k spots lie at each of n switches. -/
def vsL (ks rs : List Int) (a : Nat) (ss : List Int) (n k : Nat) : List Int := (List.range n).map fun j => (((List.range k).countP fun i => decide ((orb ks rs a ss i).1 / 3 = j) : Nat) : Int)

theorem vsL_len (ks rs : List Int) (a : Nat) (ss : List Int) (n k : Nat) : (vsL ks rs a ss n k).length = n := by simp [vsL]

theorem vsL_zero (ks rs : List Int) (a : Nat) (ss : List Int) (n : Nat) : vsL ks rs a ss n 0 = List.replicate n 0 := by
  refine List.ext_getElem? fun i => ?_
  by_cases h : i < n <;> simp [vsL, h]

theorem vsL_get {ks rs : List Int} {a : Nat} {ss : List Int} {n k j : Nat} (h : j < n) : (vsL ks rs a ss n k)[j]? = some (((List.range k).countP fun i => decide ((orb ks rs a ss i).1 / 3 = j) : Nat) : Int) := by simp [vsL, h]

theorem vsL_succ {ks rs : List Int} {a : Nat} {ss : List Int} {n k j : Nat} {x : Int} (hj : (orb ks rs a ss k).1 / 3 = j) (h : j < n) (hx : (vsL ks rs a ss n k)[j]? = some x) : vsL ks rs a ss n (k + 1) = (vsL ks rs a ss n k).set j (x + 1) := by
  rw [vsL_get h] at hx
  injection hx with hx
  refine List.ext_getElem? fun i => ?_
  rw [List.getElem?_set, vsL_len]
  by_cases hi : i < n
  · rw [vsL_get hi, vsL_get hi, List.range_succ, List.countP_append]
    by_cases e : j = i
    · subst e
      rw [if_pos rfl, if_pos h, ← hx]
      simp [hj]
    · rw [if_neg e]
      simp [show ¬ (orb ks rs a ss k).1 / 3 = i by omega]
  · rw [List.getElem?_eq_none (by rw [vsL_len]; omega)]
    rw [if_neg (by omega), List.getElem?_eq_none (by rw [vsL_len]; omega)]

theorem vsL_bd {ks rs : List Int} {a : Nat} {ss : List Int} {n k j : Nat} {x : Int} (hx : (vsL ks rs a ss n k)[j]? = some x) : 0 ≤ x ∧ x ≤ k := by
  have hj : j < n := by have := (List.getElem?_eq_some_iff.1 hx).1; rwa [vsL_len] at this
  rw [vsL_get hj] at hx
  injection hx with hx
  have : (List.range k).countP (fun i => decide ((orb ks rs a ss i).1 / 3 = j)) ≤ (List.range k).length := List.countP_le_length
  rw [List.length_range] at this
  omega

/-- .. behind a store elsewhere. -/
theorem RnAt.other {w wr : World} {b g c h d n m l : Nat} {x : Nat × List Int} (r : RnAt w wr b g c h d n m l x) (j o : Nat) (v : Value) (hj : b < j) (hq : ∀ q c', wr.cell? ⟨b, 1, none⟩ = some (.slice (some ⟨q, 0, none⟩) l c') → q ≠ j) : RnAt w (wr.setCell ⟨j, o, none⟩ v) b g c h d n m l x := by
  have h1 := r.lt
  have h2 := r.ge
  obtain ⟨q, c', h3, h4, h5⟩ := r.row
  have hqj := hq q c' h3
  exact ⟨cl_set r.y0 _ _ (by simp; omega), cl_set r.y1 _ _ (by simp; omega), cl_set r.r0 _ _ (by simp; omega), by simp [r.f0], by simp [r.f1],
    ⟨q, c', cl_set h3 _ _ (by simp; omega), h4.other (by simp; omega) _, h5⟩, by simpa using h1, h2, r.below.setCell (by simp; omega) _⟩

theorem spVisits_no (x N : Int) (g c h d p q n m l : Nat) (ks rs ss : List Int) (hn : ks.length = n) (hm : rs.length = m) (hl : ss.length = l) (hb : n ≤ 2000000) (hb' : m ≤ 2000000) (hb2 : l ≤ 2000000) (hno : (rnB ks rs x ss && inB N 0 2000) = false) (w : World) (h1 : RL w g n ks) (h2 : RL w h m rs) (h3 : RL w p l ss) :
    Calls Try.prog 40 #[.agg #[.slice (some ⟨g, 0, none⟩) n c, .slice (some ⟨h, 0, none⟩) m d], .agg #[.int .i64 x, .slice (some ⟨p, 0, none⟩) l q], .int .i64 N] w fun e w' => e = .returned (.tuple #[.slice none 0 0, .bool false]) ∧ Below w.heap.size w w' := by
  have R := Lib.hid (fun w' (hw : Below w.heap.size w w') => ydSteps_any x N g c h d p q n m l ks rs ss hn hm hl hb hb' hb2 w' (h1.keep hw) (h2.keep hw) (h3.keep hw))
  have HS := Lib.hid hno
  clear hn hm hl h1 h2 h3 hno
  go_enter Try.func40, Try.ntmps40
  go_wp2_with fail
  refine (R.out _ (by go_grown)).mono ?_
  rintro e w1 ⟨rfl, k1⟩
  rw [HS.out]
  have hB : Below w.heap.size w w1 := ba (by go_grown) k1
  clear k1
  go_wp2_with fail
  go_ret2
  exact ⟨rfl, hB⟩

theorem imVisits_no (x N : Int) (g c h d p q n m l : Nat) (ks rs ss : List Int) (hn : ks.length = n) (hm : rs.length = m) (hl : ss.length = l) (hb : n ≤ 2000000) (hb' : m ≤ 2000000) (hb2 : l ≤ 2000000) (hno : (rnB ks rs x ss && inB N 0 2000) = false) (w : World) (h1 : RL w g n ks) (h2 : RL w h m rs) (h3 : RL w p l ss) :
    Calls Try.prog 41 #[.agg #[.slice (some ⟨g, 0, none⟩) n c, .slice (some ⟨h, 0, none⟩) m d], .agg #[.int .i64 x, .slice (some ⟨p, 0, none⟩) l q], .int .i64 N] w fun e w' => e = .returned (.tuple #[.slice none 0 0, .bool false]) ∧ Below w.heap.size w w' := by
  have R := Lib.hid (fun w' (hw : Below w.heap.size w w') => spotsOf_no x g c h d p q n m l N 2000 ks rs ss hn hm hl hb hb' hb2 w' (h1.keep hw) (h2.keep hw) (h3.keep hw) (by
    cases hr : rnB ks rs x ss
    · exact Or.inl rfl
    · rw [hr, Bool.true_and] at hno; exact Or.inr hno))
  clear hn hm hl h1 h2 h3 hno
  go_enter Try.func41, Try.ntmps41
  go_wp2_with fail
  refine (R.out _ (by go_grown)).mono ?_
  rintro e w1 ⟨rfl, k1⟩
  have hB : Below w.heap.size w w1 := ba (by go_grown) k1
  clear k1
  go_wp2_with fail
  go_ret2
  exact ⟨rfl, hB⟩

set_option maxRecDepth 100000 in
set_option maxHeartbeats 3200000 in
theorem imVisits_yes (a N : Nat) (g c h d p u n m l : Nat) (ks rs ss : List Int) (hn : ks.length = n) (hm : rs.length = m) (hl : ss.length = l) (hg : YdOk ks rs) (ho : RnOk ks a ss) (hN : N ≤ 2000) (w : World) (h1 : RL w g n ks) (h2 : RL w h m rs) (h3 : RL w p l ss) :
    Calls Try.prog 41 #[.agg #[.slice (some ⟨g, 0, none⟩) n c, .slice (some ⟨h, 0, none⟩) m d], .agg #[.int .i64 (a:Nat), .slice (some ⟨p, 0, none⟩) l u], .int .i64 (N : Nat)] w (LsPost n (vsL ks rs a ss n N) true w) := by
  have n6 : n ≤ 6 := by rw [← hn]; exact hg.n6
  have P := Lib.hid (fun w' (hw : Below w.heap.size w w') => spotsOf_yes a N g c h d p u n m l 2000 ks rs ss hn hm hl hg ho (by omega) (by decide) w' (h1.keep hw) (h2.keep hw) (h3.keep hw))
  have CE := Lib.hid (fun k g' cap (w1 : World) (hO : w1.ownsRow w.heap.size 80 7 (.slice (some ⟨g', 0, none⟩) (N + 1) cap) (N + 1) (spsC (orL ks rs a ss (N + 1)))) (hk : k < N + 1) i v hv => so_cell (j := k) (i := i) (v := v) hg ho hO hk hv)
  have S6 := Lib.hid (fun k => spC_six (x := orb ks rs a ss k) (orb_len6 hg ho k))
  have OA := Lib.hid (fun k => (orb_run ho hg k).at')
  have hmk := mkInts n (by omega)
  have V0 := Lib.hid (vsL_zero ks rs a ss n)
  have VS := Lib.hid (fun k j x => @vsL_succ ks rs a ss n k j x)
  have VB := Lib.hid (fun k j x => @vsL_bd ks rs a ss n k j x)
  have VG := Lib.hid (fun k j => @vsL_get ks rs a ss n k j)
  have VL := Lib.hid (fun k => vsL_len ks rs a ss n k)
  have HN := Lib.hid hn
  have i1 : (0 : Int) ≤ (N : Int) := by omega
  have i2 : (N : Int) ≤ 2000 := by omega
  have i3 : N < N + 1 := by omega
  clear hn hm hl h1 h2 h3 hg ho
  go_enter Try.func41, Try.ntmps41
  go_wp2_with fail
  refine (P.out _ (by go_grown)).mono ?_
  rintro e w1 ⟨g', cap, rfl, hg', hO, k1⟩
  have B1 : Below w.heap.size w w1 := ba (by go_grown) k1
  have hs1 := k1.size
  simp at hs1
  have z0 : w.heap.size < w1.heap.size := by omega
  have c0 := cl_below (b := w.heap.size) (o := 0) (v := .slice (some ⟨g, 0, none⟩) n c) (by simp [go_sem]) (by simp <;> omega) k1
  rw [orL_len] at hO ⊢
  have hcap := (own_cap hO).1
  have i4 : (N : Int) ≤ (cap : Int) := by omega
  have HO := Lib.hid ((own_lessS hO (by simp; omega : w.heap.size ≤ _)).alloc (.cells (madeCells #[.int .i64 0] n) 3))
  have hgl := (hO.lt g' rfl).2
  have RM := Lib.hid (show RL (w1.alloc (.cells (madeCells #[.int .i64 0] n) 3)) w1.heap.size n (vsL ks rs a ss n 0) by rw [V0.out]; exact RL.made w1 n)
  have BM := Lib.hid (B1.alloc B1.size (.cells (madeCells #[.int .i64 0] n) 3))
  clear k1 hO hg'
  go_wp2_with fail
  go_loopw [30] (fun i wr => ∃ k : Nat, k ≤ N ∧ i = .int .i64 k ∧ RL wr w1.heap.size n (vsL ks rs a ss n k) ∧ wr.ownsRow w.heap.size 80 7 (.slice (some ⟨g', 0, none⟩) (N + 1) cap) (N + 1) (spsC (orL ks rs a ss (N + 1))) ∧ w1.heap.size < wr.heap.size ∧ Below w.heap.size w wr) (fun i _ => N - (intOf i).toNat)
  case atStart => exact ⟨0, Nat.zero_le _, rfl, RM.out, HO.out, by simp, BM.out⟩
  case round =>
    obtain ⟨k, hk, rfl, hR, hS, hsz, hB⟩ := hrel
    have HR := Lib.hid hR
    have HS := Lib.hid hS
    have HB := Lib.hid hB
    by_cases hlt : k < N
    · obtain ⟨z0, z1, z2, z3, z4, z5, hz, _⟩ := S6.out k
      have ce := fun i v hv => CE.out k g' cap wr hS (by omega) i v hv
      rw [hz] at ce
      have d0 : wr.cell? ⟨g', k * 7, none⟩ = some (.int .i64 ((orb ks rs a ss k).1 : Int)) := ce 0 _ rfl
      have d1 := ce 1 _ rfl
      have d2 := ce 2 _ rfl
      have d3 := ce 3 _ rfl
      have d4 := ce 4 _ rfl
      have d5 := ce 5 _ rfl
      have d6 := ce 6 _ rfl
      have j1 : (0 : Int) ≤ (k : Int) := by omega
      have j2 : (k : Int) < (N : Int) := by omega
      have hwp : IntKind.i64.wrap ((k : Int) + 1) = (k : Int) + 1 := by rw [IntKind.wrap_i64]; omega
      have hjn : (orb ks rs a ss k).1 / 3 < n := by have := OA.out k; rw [HN.out] at this; omega
      have hx := VG.out k _ hjn
      obtain ⟨x, hxx⟩ : ∃ x, (vsL ks rs a ss n k)[(orb ks rs a ss k).1 / 3]? = some x := ⟨_, hx⟩
      have VK := Lib.hid (VS.out k _ x rfl hjn hxx)
      have hxb := VB.out k _ x hxx
      have e0 := hR.get hjn hxx
      have f0 := hR.free _ hjn
      have hj3 : ((orb ks rs a ss k).1 : Int) / 3 = (((orb ks rs a ss k).1 / 3 : Nat) : Int) := by omega
      generalize (orb ks rs a ss k).1 = y at *
      generalize y / 3 = j at *
      have j3 : (0 : Int) ≤ (j : Int) := by omega
      have j4 : (j : Int) < (n : Int) := by omega
      have j5 : (0 : Int) ≤ (y : Int) := by omega
      have j6 : 0 ≤ x := hxb.1
      have j7 : x ≤ 2000 := by omega
      have R2 := Lib.hid ((HR.out.set j (by rw [VL.out]; exact hjn) (x + 1)).keep ((Below.refl _ _).alloc (Nat.le_refl _) (.cells #[.int .i64 (y : Int), .int .i64 z0, .int .i64 z1, .int .i64 z2, .int .i64 z3, .int .i64 z4, .int .i64 z5] 80)))
      have S2 := Lib.hid ((HS.out.kept (row := some w1.heap.size) (set_grown (World.grownBy.refl _ _) j (.int .i64 (x + 1))) (by exact Or.inr (by simp [Value.ownBlock]; omega))).alloc (.cells #[.int .i64 (y : Int), .int .i64 z0, .int .i64 z1, .int .i64 z2, .int .i64 z3, .int .i64 z4, .int .i64 z5] 80))
      have B2 := Lib.hid ((HB.out.setCell (p := ⟨w1.heap.size, j, none⟩) (by show w.heap.size ≤ w1.heap.size; omega) (.int .i64 (x + 1))).alloc (by simp; exact HB.out.size) (.cells #[.int .i64 (y : Int), .int .i64 z0, .int .i64 z1, .int .i64 z2, .int .i64 z3, .int .i64 z4, .int .i64 z5] 80))
      clear ce hz hR hS hB hx hxx hxb
      go_wp2_with fail
      go_roundw
      case rel => exact ⟨k + 1, by omega, by go_num, by rw [VK.out]; exact R2.out, S2.out, by simp; omega, B2.out⟩
      case measure => simp [intOf]; omega
    · obtain rfl : k = N := by omega
      clear hR hS hB
      go_wp2_with fail
      go_ret2
      exact ⟨w1.heap.size, n, rfl, by omega, HR.out, HB.out⟩

set_option maxRecDepth 100000 in
set_option maxHeartbeats 3200000 in
theorem spVisits_yes (a N : Nat) (g c h d p u n m l : Nat) (ks rs ss : List Int) (hn : ks.length = n) (hm : rs.length = m) (hl : ss.length = l) (hg : YdOk ks rs) (ho : RnOk ks a ss) (hN : N ≤ 2000) (w : World) (h1 : RL w g n ks) (h2 : RL w h m rs) (h3 : RL w p l ss) :
    Calls Try.prog 40 #[.agg #[.slice (some ⟨g, 0, none⟩) n c, .slice (some ⟨h, 0, none⟩) m d], .agg #[.int .i64 (a:Nat), .slice (some ⟨p, 0, none⟩) l u], .int .i64 (N : Nat)] w (LsPost n (vsL ks rs a ss n N) true w) := by
  have n6 : n ≤ 6 := by rw [← hn]; exact hg.n6
  have hl6 : l ≤ 6 := by rw [← hl, ho.len]; exact hg.n6
  have hnr := hg.nr
  have R := Lib.hid (fun w' (hw : Below w.heap.size w w') => ydSteps_any (a : Nat) (N : Nat) g c h d p u n m l ks rs ss hn hm hl (by omega) (by omega) (by omega) w' (h1.keep hw) (h2.keep hw) (h3.keep hw))
  have HR := Lib.hid (show (rnB ks rs (a : Nat) ss && inB (N : Nat) 0 2000) = true by
    rw [(run_iff ks rs _ ss).2 ⟨hg, a, rfl, ho⟩]; simp [inB]; omega)
  have OR := Lib.hid (orb_run ho hg)
  have ST := Lib.hid (fun (k q c' : Nat) w' (hw : Below w.heap.size w w') (hq : RL w' q l (orb ks rs a ss k).2) => ydStep_any (orb ks rs a ss k).1 g c h d q c' n m l ks rs (orb ks rs a ss k).2 hn hm (by rw [(OR.out k).len, ← ho.len]; exact hl) hg (OR.out k) w' (h1.keep hw) (h2.keep hw) hq)
  have H3 := Lib.hid (fun w' (hw : Below w.heap.size w w') => h3.keep hw)
  have hp := h3.lt
  have OA := Lib.hid (fun k => (orb_run ho hg k).at')
  have hmk := mkInts n (by omega)
  have V0 := Lib.hid (vsL_zero ks rs a ss n)
  have VS := Lib.hid (fun k j x => @vsL_succ ks rs a ss n k j x)
  have VB := Lib.hid (fun k j x => @vsL_bd ks rs a ss n k j x)
  have VG := Lib.hid (fun k j => @vsL_get ks rs a ss n k j)
  have VL := Lib.hid (fun k => vsL_len ks rs a ss n k)
  have HN := Lib.hid hn
  have i1 : (0 : Int) ≤ (N : Int) := by omega
  have i2 : (N : Int) ≤ 2000 := by omega
  clear hn hm hl h1 h2 h3 hg ho hnr
  go_enter Try.func40, Try.ntmps40
  go_wp2_with fail
  refine (R.out _ (by go_grown)).mono ?_
  rintro e w1 ⟨rfl, k1⟩
  rw [HR.out]
  have B1 : Below w.heap.size w w1 := ba (by go_grown) k1
  have hs1 := k1.size
  simp at hs1
  have z0 : w.heap.size < w1.heap.size := by omega
  have c0 := cl_below (b := w.heap.size) (o := 0) (v := .slice (some ⟨g, 0, none⟩) n c) (by simp [go_sem]) (by simp <;> omega) k1
  have c1 := cl_below (b := w.heap.size) (o := 1) (v := .slice (some ⟨h, 0, none⟩) m d) (by simp [go_sem]) (by simp <;> omega) k1
  have c2 := cl_below (b := w.heap.size + 1) (o := 0) (v := .int .i64 (a : Nat)) (by simp [go_sem]) (by simp <;> omega) k1
  have c3 := cl_below (b := w.heap.size + 1) (o := 1) (v := .slice (some ⟨p, 0, none⟩) l u) (by simp [go_sem]) (by simp <;> omega) k1
  have f2 := k1.frozen (p := ⟨w.heap.size + 1, 0, none⟩) (by simp <;> omega)
  have f3 := k1.frozen (p := ⟨w.heap.size + 1, 1, none⟩) (by simp <;> omega)
  simp [go_sem] at f2 f3
  have RA := Lib.hid (show RnAt w w1 (w.heap.size + 1) g c h d n m l (a, ss) from ⟨c0, c1, c2, f2, f3, ⟨p, u, c3, H3.out w1 B1, by omega⟩, by omega, by omega, B1⟩)
  have BW := Lib.hid ((Below.refl w1.heap.size w1).alloc (Nat.le_refl _) (.cells (madeCells #[.int .i64 0] n) 3))
  have RM := Lib.hid (show RL (w1.alloc (.cells (madeCells #[.int .i64 0] n) 3)) w1.heap.size n (vsL ks rs a ss n 0) by rw [V0.out]; exact RL.made w1 n)
  have z1 : w.heap.size + 1 < w1.heap.size := by omega
  clear k1 f2 f3
  go_wp2_with fail
  go_loopw [2] (fun i wr => ∃ k : Nat, k ≤ N ∧ i = .int .i64 ((N : Int) - (k : Int)) ∧ RL wr w1.heap.size n (vsL ks rs a ss n k) ∧ RnAt w wr (w.heap.size + 1) g c h d n m l (orb ks rs a ss k) ∧ (∀ q c', wr.cell? ⟨w.heap.size + 1, 1, none⟩ = some (.slice (some ⟨q, 0, none⟩) l c') → q ≠ w1.heap.size) ∧ w1.heap.size < wr.heap.size) (fun i _ => (intOf i).toNat)
  case atStart =>
    refine ⟨0, Nat.zero_le _, by simp, RM.out, RA.out.keep BW.out, fun q c' hc => ?_, by simp⟩
    obtain ⟨q', c'', e1, e2, _⟩ := RA.out.row
    have e3 := (cl_below e1 (by omega) BW.out).symm.trans hc
    injection e3 with e3
    injection e3 with e3
    injection e3 with e3
    injection e3 with e3
    have := e2.lt
    omega
  case round =>
    obtain ⟨k, hk, rfl, hV, hR, hD, hsz⟩ := hrel
    have HV := Lib.hid hV
    have HRN := Lib.hid hR
    have HD := Lib.hid hD
    by_cases hlt : k < N
    · have j1 : (N : Int) - (k : Int) > 0 := by omega
      have j2 : (0 : Int) ≤ (N : Int) - (k : Int) := by omega
      have hwp : IntKind.i64.wrap ((N : Int) - (k : Int) - 1) = (N : Int) - (k : Int) - 1 := by rw [IntKind.wrap_i64]; omega
      have hjn : (orb ks rs a ss k).1 / 3 < n := by have := OA.out k; rw [HN.out] at this; omega
      have hx := VG.out k _ hjn
      obtain ⟨x, hxx⟩ : ∃ x, (vsL ks rs a ss n k)[(orb ks rs a ss k).1 / 3]? = some x := ⟨_, hx⟩
      have VK := Lib.hid (VS.out k _ x rfl hjn hxx)
      have hxb := VB.out k _ x hxx
      have e0 := hV.get hjn hxx
      have f0 := hV.free _ hjn
      have hj3 : ((orb ks rs a ss k).1 : Int) / 3 = (((orb ks rs a ss k).1 / 3 : Nat) : Int) := by omega
      have RO := Lib.hid (HRN.out.other w1.heap.size ((orb ks rs a ss k).1 / 3) (.int .i64 (x + 1)) z1 HD.out)
      have RV := Lib.hid (HV.out.set ((orb ks rs a ss k).1 / 3) (by rw [VL.out]; exact hjn) (x + 1))
      obtain ⟨q, c', hq1, hq2, hq3⟩ := RO.out.row
      have y0 := hR.y0
      have y1 := hR.y1
      have r0 := hR.r0
      have y0' := RO.out.y0
      have y1' := RO.out.y1
      have r0' := RO.out.r0
      have hlt1 := hR.lt
      have hB := RO.out.below
      have j5 : (0 : Int) ≤ ((orb ks rs a ss k).1 : Int) := by omega
      generalize hj : (orb ks rs a ss k).1 / 3 = j at *
      have j3 : (0 : Int) ≤ (j : Int) := by omega
      have j4 : (j : Int) < (n : Int) := by omega
      have j6 : 0 ≤ x := hxb.1
      have j7 : x ≤ 2000 := by omega
      have STK := Lib.hid (ST.out k q c' (wr.setCell ⟨w1.heap.size, j, none⟩ (.int .i64 (x + 1))) hB hq2)
      clear hV hR hD hx hxx hxb hq2 hB hj
      go_wp2_with fail
      refine STK.out.mono ?_
      rintro e wA ⟨q1, c1', rfl, hq1', r1, k1⟩
      have hsA := k1.size
      simp at hsA
      simp at hq1'
      have QA := RO.out.keep k1
      have RV2 := Lib.hid (RV.out.keep k1)
      have HA := Lib.hid (QA.store (stA rs (orb ks rs a ss k).1 (orb ks rs a ss k).2) q1 c1' (stS ks (orb ks rs a ss k).1 (orb ks rs a ss k).2) r1 (by omega))
      have e0' := QA.r0
      have f0' := QA.f0
      have f1' := QA.f1
      obtain ⟨qq, cc, e1, _, _⟩ := QA.row
      have zz := QA.lt
      have RV3 := Lib.hid ((RV2.out.other (a := ⟨w.heap.size + 1, 0, none⟩) (by show w1.heap.size ≠ w.heap.size + 1; omega) (.int .i64 ((stA rs (orb ks rs a ss k).1 (orb ks rs a ss k).2 : Nat) : Int))).other (a := ⟨w.heap.size + 1, 1, none⟩) (by show w1.heap.size ≠ w.heap.size + 1; omega) (.slice (some ⟨q1, 0, none⟩) l c1'))
      have CS := Lib.hid (show ((wA.setCell ⟨w.heap.size + 1, 0, none⟩ (.int .i64 ((stA rs (orb ks rs a ss k).1 (orb ks rs a ss k).2 : Nat) : Int))).setCell ⟨w.heap.size + 1, 1, none⟩ (.slice (some ⟨q1, 0, none⟩) l c1')).cell? ⟨w.heap.size + 1, 1, none⟩ = some (.slice (some ⟨q1, 0, none⟩) l c1') by
        rw [World.cell?_setCell_same (h := (World.cell?_setCell_other (w := wA) (a := ⟨w.heap.size + 1, 0, none⟩) (b := ⟨w.heap.size + 1, 1, none⟩) _ (by simp)).trans e1)])
      have HOR := Lib.hid (show orb ks rs a ss (k + 1) = ((stA rs (orb ks rs a ss k).1 (orb ks rs a ss k).2), stS ks (orb ks rs a ss k).1 (orb ks rs a ss k).2) from rfl)
      have DD := Lib.hid (show ∀ q2 c2, ((wA.setCell ⟨w.heap.size + 1, 0, none⟩ (.int .i64 ((stA rs (orb ks rs a ss k).1 (orb ks rs a ss k).2 : Nat) : Int))).setCell ⟨w.heap.size + 1, 1, none⟩ (.slice (some ⟨q1, 0, none⟩) l c1')).cell? ⟨w.heap.size + 1, 1, none⟩ = some (.slice (some ⟨q2, 0, none⟩) l c2) → q2 ≠ w1.heap.size from fun q2 c2 hc2 => by
        have hc3 := CS.out.symm.trans hc2
        injection hc3 with hc3
        injection hc3 with hc3
        injection hc3 with hc3
        injection hc3 with hc3
        omega)
      clear k1 r1 QA y0 y1 r0 y0' y1' r0' hq1 hq3 e0 f0
      go_wp2_with fail
      go_roundw
      case rel => exact ⟨k + 1, by omega, by congr 1; omega, by rw [VK.out]; exact RV3.out, by rw [HOR.out]; exact HA.out, DD.out, by simp; omega⟩
      case measure => simp [intOf]; omega
    · obtain rfl : k = N := by omega
      have j1 : ¬ (k : Int) - (k : Int) > 0 := by omega
      have HB := Lib.hid hR.below
      clear hV hR hD
      go_wp2_with fail
      go_ret2
      exact ⟨w1.heap.size, n, rfl, by omega, HV.out, HB.out⟩

end Go.Proofs.Ytoaccnpkobbaaaa
