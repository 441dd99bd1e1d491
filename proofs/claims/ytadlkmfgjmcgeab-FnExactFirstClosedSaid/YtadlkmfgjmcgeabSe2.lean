/- Contracts: a sorted list searched; the key of an end, in the model. -/
import Derived.Test.YtadlkmfgjmcgeabSr
import Derived.Test.YtadlkmfgjmcgeabStM
import Derived.Test.YtadlkmfgjmcgeabWdM
namespace Go.Proofs.Ytadlkmfgjmcgeab
open Go.ChangeShapes Go.WideShapes Go.ChangeAt Go.RowKit

set_option linter.unusedVariables false

set_option maxRecDepth 100000 in
theorem clSort_small (xs : List Int) (h2 : xs.length < 2) (v : Value) (w : World) (hv : IntV w v xs) : Calls Try.prog 37 #[v] w (SortPost xs w) := by
  have HV := Lib.hid hv
  obtain ⟨av, cap, rfl, hc1, hc2, hr⟩ := hv
  have hp : xs.Pairwise (· ≤ ·) := by
    match xs, h2 with
    | [], _ => exact List.Pairwise.nil
    | [a], _ => simp
  have HP := Lib.hid hp
  clear hr hp
  go_enter Try.func37, Try.ntmps37
  go_wp2_with fail
  go_ret
  exact ⟨_, xs, rfl, HV.out, List.Perm.refl _, HP.out, Below.refl _ _⟩
theorem clSort_all : ∀ (N : Nat) (xs : List Int) (v : Value) (w : World), xs.length ≤ N → xs.length ≤ 5000 → IntV w v xs → Calls Try.prog 37 #[v] w (SortPost xs w)
  | 0, xs, v, w, hN, _, hv => clSort_small xs (by omega) v w hv
  | N + 1, xs, v, w, hN, hb, hv => by
    by_cases h2 : 2 ≤ xs.length
    · exact clSort_step xs hb h2 v (fun zs v w hz hv => clSort_all N zs v w (by omega) (by omega) hv) w hv
    · exact clSort_small xs (by omega) v w hv
theorem clSort_any (xs : List Int) (hb : xs.length ≤ 5000) (v : Value) (w : World) (hv : IntV w v xs) : Calls Try.prog 37 #[v] w (SortPost xs w) := clSort_all xs.length xs v w (Nat.le_refl _) hb hv

theorem cnt_split (xs : List Int) (x : Int) (k : Nat) (hk : k ≤ xs.length) (h1 : ∀ i z, i < k → xs[i]? = some z → z < x) (h2 : ∀ i z, k ≤ i → xs[i]? = some z → x ≤ z) : xs.countP (fun z => decide (z < x)) = k := by
  rw [← List.take_append_drop k xs, List.countP_append]
  have e1 : (xs.take k).countP (fun z => decide (z < x)) = (xs.take k).length := List.countP_eq_length.2 fun z hz => by
    obtain ⟨i, hi⟩ := List.getElem?_of_mem hz
    have hl := (List.getElem?_eq_some_iff.1 hi).1
    rw [List.length_take] at hl
    rw [List.getElem?_take_of_lt (by omega)] at hi
    exact decide_eq_true (h1 i z (by omega) hi)
  have e2 : (xs.drop k).countP (fun z => decide (z < x)) = 0 := List.countP_eq_zero.2 fun z hz => by
    obtain ⟨i, hi⟩ := List.getElem?_of_mem hz
    rw [List.getElem?_drop] at hi
    have := h2 (k + i) z (by omega) hi
    simp; omega
  rw [e1, e2, List.length_take]
  omega
theorem sorted_le {xs : List Int} (h : xs.Pairwise (· ≤ ·)) {i j : Nat} {x y : Int} (hi : xs[i]? = some x) (hj : xs[j]? = some y) (hij : i ≤ j) : x ≤ y := by
  by_cases e : i = j
  · subst e
    rw [hi] at hj
    injection hj with hj
    omega
  · obtain ⟨h1, rfl⟩ := List.getElem?_eq_some_iff.1 hi
    obtain ⟨h2, rfl⟩ := List.getElem?_eq_some_iff.1 hj
    exact List.pairwise_iff_getElem.1 h i j h1 h2 (by omega)

set_option maxRecDepth 100000 in
set_option maxHeartbeats 800000 in
theorem clBelow_any (xs : List Int) (hb : xs.length ≤ 5000) (hs : xs.Pairwise (· ≤ ·)) (v : Value) (x : Int) (w : World) (hv : IntV w v xs) :
    Calls Try.prog 39 #[v, .int .i64 x] w fun e w' => e = .returned (.int .i64 ((xs.countP fun z => decide (z < x)) : Nat)) ∧ w = w' := by
  obtain ⟨av, cap, rfl, hc1, hc2, hr⟩ := hv
  obtain ⟨n, hn⟩ : ∃ n, xs.length = n := ⟨_, rfl⟩
  rw [hn] at hb hc1 ⊢
  have HN := Lib.hid hn
  have HR := Lib.hid hr
  have HS := Lib.hid hs
  clear hn hr hs
  go_enter Try.func39, Try.ntmps39
  go_wp2_with fail
  go_loop [5, 6] (fun p q => ∃ lo hi : Nat, p = .int .i64 (lo : Nat) ∧ q = .int .i64 (hi : Nat) ∧ lo ≤ hi ∧ hi ≤ n ∧ (∀ i z, i < lo → xs[i]? = some z → z < x) ∧ (∀ i z, hi ≤ i → xs[i]? = some z → x ≤ z)) (fun p q => (intOf q).toNat - (intOf p).toNat)
  case atStart => exact ⟨0, n, rfl, rfl, Nat.zero_le _, Nat.le_refl _, fun i z h => absurd h (by omega), fun i z h hz => by have := (List.getElem?_eq_some_iff.1 hz).1; rw [HN.out] at this; omega⟩
  case round =>
    obtain ⟨lo, hi, rfl, rfl, h1, h2, h3, h4⟩ := hrel
    have H3 := Lib.hid h3
    have H4 := Lib.hid h4
    clear h3 h4
    by_cases hlt : lo < hi
    · obtain ⟨m, hm⟩ : ∃ m, (lo + hi) / 2 = m := ⟨_, rfl⟩
      obtain ⟨y, hy⟩ : ∃ y, xs[m]? = some y := ⟨_, List.getElem?_eq_getElem (by rw [HN.out]; omega)⟩
      obtain ⟨g, o, rfl, hg, hcell⟩ := HR.out.resolve_left (fun h => by have := HN.out; rw [h] at this; simp at this; omega)
      have c0 := hcell m y hy
      have HY := Lib.hid hy
      have hq : ((lo : Int) + (hi : Int)).tdiv 2 = (m : Int) := by rw [Int.tdiv_eq_ediv_of_nonneg (by omega)]; omega
      have m1 : lo ≤ m := by omega
      have m2 : m < hi := by omega
      have i1 : (0 : Int) ≤ (m : Int) := by omega
      have i2 : (m : Int) < (n : Int) := by omega
      have hm5 : m ≤ 5000 := by omega
      have hwm : IntKind.i64.wrap (m : Int) = (m : Int) := by rw [IntKind.wrap_i64]; omega
      clear hm hcell hy
      by_cases hxy : y < x
      · go_wp2_with fail
        go_round
        case rel => exact ⟨m + 1, hi, by go_num, rfl, by omega, h2, fun i z hi hz => Int.lt_of_le_of_lt (sorted_le HS.out hz HY.out (by omega)) hxy, H4.out⟩
        case measure => simp [intOf]; omega
      · go_wp2_with fail
        go_round
        case rel => exact ⟨lo, m, rfl, rfl, by omega, by omega, H3.out, fun i z hi hz => Int.le_trans (by omega) (sorted_le HS.out HY.out hz hi)⟩
        case measure => simp [intOf]; omega
    · obtain rfl : lo = hi := by omega
      have HC := Lib.hid (cnt_split xs x lo (by rw [HN.out]; exact h2) H3.out H4.out)
      go_wp2_with fail
      go_ret
      exact ⟨by rw [HC.out]; rfl, rfl⟩

/-- The key of a point and a turn. -/
def keyI (s : Sp) (t : Int) : Int := ((((s.x0 + 64) * 128 + s.x1 + 64) * 128 + s.x2 + 64) * 128 + s.x3 + 64) * 128 + t + 64
def smK (s : Sp) (t : Int) : Prop := (-60 ≤ s.x0 ∧ s.x0 ≤ 60) ∧ (-60 ≤ s.x1 ∧ s.x1 ≤ 60) ∧ (-60 ≤ s.x2 ∧ s.x2 ≤ 60) ∧ (-60 ≤ s.x3 ∧ s.x3 ≤ 60) ∧ -60 ≤ t ∧ t ≤ 60
theorem keyI_inj {s s' : Sp} {t t' : Int} (h : smK s t) (h' : smK s' t') (e : keyI s t = keyI s' t') : (s.x0 = s'.x0 ∧ s.x1 = s'.x1 ∧ s.x2 = s'.x2 ∧ s.x3 = s'.x3) ∧ t = t' := by
  unfold smK at h h'
  unfold keyI at e
  omega
theorem keyI_bd {s : Sp} {t : Int} (h : smK s t) : 0 ≤ keyI s t ∧ keyI s t ≤ 40000000000 := by
  unfold smK at h
  unfold keyI
  omega

set_option maxRecDepth 100000 in
set_option maxHeartbeats 800000 in
theorem clKey_any (s : Sp) (t : Int) (h : smK s t) (w : World) :
    Calls Try.prog 36 #[.agg #[.int .i64 s.x0, .int .i64 s.x1, .int .i64 s.x2, .int .i64 s.x3], .int .i64 t] w fun e w' => e = .returned (.int .i64 (keyI s t)) ∧ Below w.heap.size w w' := by
  obtain ⟨x0, x1, x2, x3, x4⟩ := s
  obtain ⟨⟨a0, b0⟩, ⟨a1, b1⟩, ⟨a2, b2⟩, ⟨a3, b3⟩, a4, b4⟩ := h
  simp only at a0 b0 a1 b1 a2 b2 a3 b3
  go_enter Try.func36, Try.ntmps36
  go_wp2_with fail
  go_ret
  exact ⟨rfl, by go_grown⟩

end Go.Proofs.Ytadlkmfgjmcgeab
