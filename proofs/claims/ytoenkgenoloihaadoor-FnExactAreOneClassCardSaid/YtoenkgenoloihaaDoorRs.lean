/- Contracts of the program: the array of a ring; least rings, periods. -/
import Derived.Test.YtoenkgenoloihaaDoorEq
import Derived.Test.YtoenkgenoloihaaDoorRi
namespace Go.Proofs.YtoenkgenoloihaaDoor
open Go.ChangeShapes Go.WideShapes Go.ChangeAt Go.RowKit

set_option linter.unusedVariables false

def loL (s : ByteArray) : Lp := cond (clB s) (mkLp s.data.toList) zLp

theorem ofL_data (s : ByteArray) : ofL s.data.toList = s := by cases s; rfl

set_option maxRecDepth 100000 in
set_option maxHeartbeats 800000 in
theorem loopOf_any (s : ByteArray) (hs : s.size ≤ 1048576) (w : World) :
    Calls Tryd.prog 47 #[.string s] w fun e w' => e = .returned (.tuple #[.agg (arr (loL s)), .bool (clB s)]) ∧ Below w.heap.size w w' := by
  have hz := (zero_of_info (P := Tryd.prog) lpInfo).1
  have a0 := LpAt.new w zLp
  obtain ⟨K, hK⟩ : ∃ K, K = 40 := ⟨_, rfl⟩
  have zE := zK hK
  have HK := Lib.hid hK
  have hAz := aK hK zLp
  have HC := Lib.hid (imIsRing s hs)
  cases tc : clB s
  · rw [tc] at HC
    have HL := Lib.hid (show loL s = zLp by simp [loL, tc])
    have HA := Lib.hid a0
    rw [HL.out]
    clear a0 hK
    go_enter Tryd.func47, Tryd.ntmps47
    go_wp2_with fail
    refine (HC.out _).mono ?_
    rintro e w1 ⟨rfl, hb1⟩
    have a1 := HA.out.below hb1 HA.out.lt
    have st := a1.store zLp
    have l1 := (a1.set zLp).loadK HK.out
    have HB := Lib.hid (below_setRow (ba (by go_grown) hb1 : Below w.heap.size w w1) (Nat.le_refl _) (arr zLp))
    clear a1 hb1
    go_wp2_with fail
    refine bodyPost_ret (by simp [results, Tryd.results47, go_sem, *]; try rfl) rfl ?_
    exact ⟨rfl, HB.out⟩
  · rw [tc] at HC
    have ht := clB_tk tc
    have h40 := tkB_size ht
    have HL := Lib.hid (show loL s = mkLp s.data.toList by simp [loL, tc])
    have hF := fun W => loopFrom_any s.data.toList (by rw [size_list]; exact h40) W
    rw [ofL_data] at hF
    have HF := Lib.hid hF
    have HA := Lib.hid a0
    rw [HL.out]
    obtain ⟨y, hy⟩ : ∃ y, mkLp s.data.toList = y := ⟨_, rfl⟩
    rw [hy] at HF ⊢
    have hAy := aK hK y
    clear a0 hK hF hy
    go_enter Tryd.func47, Tryd.ntmps47
    go_wp2_with fail
    refine (HC.out _).mono ?_
    rintro e w1 ⟨rfl, hb1⟩
    have A1 := Lib.hid (HA.out.below hb1 HA.out.lt)
    have HB := Lib.hid (ba (by go_grown) hb1 : Below w.heap.size w w1)
    clear hb1
    go_wp2_with fail
    refine (HF.out _).mono ?_
    rintro e w2 ⟨rfl, hb2⟩
    have a2 := A1.out.below hb2 A1.out.lt
    have st := a2.store y
    have l2 := (a2.set y).loadK HK.out
    have HB2 := Lib.hid (below_setRow (HB.out.trans (hb2.mono HB.out.size)) (Nat.le_refl _) (arr y))
    clear a2 hb2
    go_wp2_with fail
    refine bodyPost_ret (by simp [results, Tryd.results47, go_sem, *]; try rfl) rfl ?_
    exact ⟨rfl, HB2.out⟩

theorem index_any (x : Lp) (L : List Lp) (n : Nat) (hn : L.length = n) (hb5 : n ≤ 5000) (g cap : Nat) (w : World) (hr : RowLp w g L) :
    Calls Tryd.prog 55 #[.slice (some ⟨g, 0, none⟩) n cap, .agg (arr x)] w fun e w' => e = .returned (.int .i64 (Lib.idxBy eqL L x)) ∧ Below w.heap.size w w' := by
  have h := AnyQ.slices_Index Tryd.indexLoop 40 Tryd.isAgg45 Tryd.sizeOf45 encLp encLp_len eqL eqlLp g 0 n cap L x w (by omega) (by omega) (fun j hj i v hv => by
    rw [Nat.zero_add]
    have hx : L[j]? = some L[j]! := by rw [getElem!_pos L j hj]; exact List.getElem?_eq_getElem hj
    exact hr j _ hx i v hv)
  rw [List.take_of_length_le (by omega)] at h
  refine h.mono fun e w' ⟨h1, q, h2⟩ => ⟨h1, ?_⟩
  rw [h2]
  exact below_drewC ((Below.refl _ w).alloc (Nat.le_refl _) _) q

theorem contains_any (x : Lp) (L : List Lp) (n : Nat) (hn : L.length = n) (hb5 : n ≤ 5000) (g cap : Nat) (w : World) (hr : RowLp w g L) :
    Calls Tryd.prog 82 #[.slice (some ⟨g, 0, none⟩) n cap, .agg (arr x)] w fun e w' => e = .returned (.bool (L.any fun y => eqL x y)) ∧ Below w.heap.size w w' := by
  have h := AnyQ.slices_Contains Tryd.containsLoop 40 Tryd.isAgg45 Tryd.sizeOf45 encLp encLp_len eqL eqlLp g 0 n cap L x w (by omega) (by omega) (fun j hj i v hv => by
    rw [Nat.zero_add]
    have hx : L[j]? = some L[j]! := by rw [getElem!_pos L j hj]; exact List.getElem?_eq_getElem hj
    exact hr j _ hx i v hv)
  rw [List.take_of_length_le (by omega)] at h
  exact h

/-- The array of a text without zeros is that of no other. -/
theorem mk_val {l : List UInt8} (hl : l.length ≤ 40) : (mkLp l).1 = l ++ List.replicate (40 - l.length) 0 := by
  simp only [mkLp]
  rw [List.take_append, List.take_of_length_le hl, List.take_replicate]
  congr 2
  omega

theorem mk_inj {a b : List UInt8} (ha : a.length ≤ 40) (hl : a.length = b.length) (h : mkLp a = mkLp b) : a = b := by
  have h1 := congrArg Subtype.val h
  rw [mk_val ha, mk_val (by omega), hl] at h1
  exact List.append_cancel_right h1

theorem mk_lt {a b : List UInt8} (ha : a.length ≤ 40) (hl : a.length = b.length) : (mkLp a).1 < (mkLp b).1 ↔ a < b := by
  rw [mk_val ha, mk_val (by omega), hl]
  generalize List.replicate (40 - b.length) (0 : UInt8) = z
  clear ha
  induction a generalizing b with
  | nil =>
    have : b = [] := List.eq_nil_of_length_eq_zero (by simpa using hl.symm)
    subst this
    simp [lt_irr]
  | cons x a ih =>
    cases b with
    | nil => simp at hl
    | cons y b =>
      simp only [List.cons_append, List.cons_lt_cons_iff, ih (by simpa using hl)]

theorem mnL_mk (m : List UInt8) (xs : List (List UInt8)) (hm : m.length ≤ 40) (hx : ∀ x ∈ xs, x.length = m.length) : mnL (mkLp m) (xs.map mkLp) = mkLp (mn m xs) := by
  induction xs generalizing m with
  | nil => rfl
  | cons y ys ih =>
    have hy := hx y (by simp)
    rw [List.map_cons, mn_cons]
    show mnL (if (mkLp y).1 < (mkLp m).1 then mkLp y else mkLp m) (ys.map mkLp) = _
    by_cases h : y < m
    · rw [if_pos h, if_pos ((mk_lt (by omega) hy).2 h), ih y (by omega) (fun x hx' => by rw [hy]; exact hx x (by simp [hx']))]
    · rw [if_neg h, if_neg (fun h2 => h ((mk_lt (by omega) hy).1 h2)), ih m hm (fun x hx' => hx x (by simp [hx']))]

/-- The least one of the spun rings, in the program's order. -/
theorem least_rot1 {l : List UInt8} (h0 : 0 < l.length) : ∃ x xs, rot1 l = x :: xs ∧ mn x xs = leastL l := by
  cases hr : rot1 l with
  | nil => have := rot1_len l; rw [hr] at this; simp at this; omega
  | cons x xs =>
    refine ⟨x, xs, rfl, ?_⟩
    have hm : ∀ y, y ∈ x :: xs ↔ y ∈ l :: rotA l := fun y => by rw [← hr, rot1_mem h0, rot_cons h0]
    exact least_one hm (mn_mem _ _) (mn_mem _ _) (mn_le _ _) (mn_le _ _)

end Go.Proofs.YtoenkgenoloihaaDoor
