/- Contracts and facts, put together (part 4). Conditions: each says its own. -/
import Derived.Test.YtoenkgenoloihaaDoorQ3
import Derived.ChangeKeysEq
import Derived.Shelf.SlicesE.Kit
import Derived.Lib.SlicesCompact
import Derived.Sort.Statements
import Derived.Test.YtoenkgenoloihaaDoorProg
import Derived.Maps.OwnSet
import Derived.WideKeyEntry
import Derived.DeepKeys4
import Derived.Tactics
import Derived.Laws.AppendOwn
import Derived.Deep.AppendLies
import Derived.Maps.AppendAt
import Derived.Lib.Hide
import Derived.Deep.DrawnRows

/- Arrays of forty bytes compared: '==' of the model. -/
namespace Go.Proofs.YtoenkgenoloihaaDoor
open Go.ChangeShapes Go.WideShapes Go.ChangeAt Go.RowKit

def eqL (x y : Lp) : Bool := x.1 == y.1

theorem eqL_iff (x y : Lp) : eqL x y = true ↔ x = y := by
  simp only [eqL, beq_iff_eq]
  exact ⟨fun h => Subtype.ext h, fun h => by rw [h]⟩

theorem u8Plain : Tryd.prog.plainKey 5 = true := by kernel_rfl

theorem u8One : Tryd.prog.cellsOf 5 = 1 := by kernel_rfl

theorem byV_eq (a b : UInt8) : ((a.toNat : Int) == (b.toNat : Int)) = (a == b) := by
  by_cases h : a = b
  · subst h; simp
  · have h2 : ¬ (a.toNat : Int) = (b.toNat : Int) := fun e => h (UInt8.toNat_inj.1 (by omega))
    rw [beq_eq_false_iff_ne.2 h, beq_eq_false_iff_ne.2 h2]

theorem arr_at (x : Lp) (i : Nat) (hi : i < 40) : (arr x)[i]? = some (.int .u8 ((x.1.getD i 0).toNat : Int)) := by
  have h : i < x.1.length := by rw [x.2]; exact hi
  simp [arr, encLp, byV, List.getD, h]

theorem run_items (W : World) (d : Nat) (x y : Lp) : ∀ is : List Nat, (∀ i ∈ is, i < 40) → (Op.eqItems (d + 1) 5 1 (arr x) (arr y) is).run Tryd.prog W = .ok (is.all fun i => x.1.getD i 0 == y.1.getD i 0) W
  | [], _ => rfl
  | i :: is, h => by
    have hi := h i (by simp)
    have p1 := run_part_plain W u8Plain (arr_at x i hi)
    have p2 := run_part_plain W u8Plain (arr_at y i hi)
    have p3 := run_equalIn_int (P := Tryd.prog) W d 5 .u8 .u8 ((x.1.getD i 0).toNat : Int) ((y.1.getD i 0).toNat : Int) Tryd.underlying5
    have ih := run_items W d x y is (fun j hj => h j (by simp [hj]))
    rw [byV_eq] at p3
    simp only [Op.eqItems, Sem.run_bind, Nat.mul_one, p1, p2, p3, Result.andThen_ok, List.all_cons]
    cases hq : (x.1.getD i 0 == y.1.getD i 0)
    · rfl
    · rw [Bool.true_and]; exact ih

theorem all_eq (x y : Lp) : ((List.range 40).all fun i => x.1.getD i 0 == y.1.getD i 0) = eqL x y := by
  rw [Bool.eq_iff_iff, eqL_iff]
  simp only [List.all_eq_true, List.mem_range, beq_iff_eq]
  constructor
  · intro h
    apply Subtype.ext
    apply List.ext_getElem (by rw [x.2, y.2])
    intro i h1 h2
    have := h i (by rw [← x.2]; exact h1)
    simpa [List.getD, h1, h2] using this
  · rintro rfl i _; rfl

theorem eqlLp : EqlAt Tryd.prog 45 (fun x => .agg (encLp x).toArray) eqL := by
  refine ⟨fun x y w => ?_, GuardAt.agg _ (by kernel_rfl)⟩
  have hu : Tryd.prog.underlying 45 = some (.array 40 5) := lpUnder
  have h := run_items w 9998 x y (List.range 40) (fun i hi => by simpa using hi)
  rw [all_eq] at h
  cases hq : Tryd.prog.info? 5 with
  | none =>
    have h : (Tryd.prog.info? 5).isSome = true := by kernel_rfl
    rw [hq] at h
    cases h
  | some i =>
    have hr := run_equalIn_array w 9999 (arr x) (arr y) hu hq
    rw [u8One, h] at hr
    show (binOp .eql 45 (.agg (arr x)) (.agg (arr y))).run Tryd.prog w = _
    rw [run_eql_struct, show (10000 : Nat) = 9999 + 1 from rfl, hr]
    rfl

theorem eql_run (x y : Lp) (w : World) : (binOp .eql 45 (.agg (arr x)) (.agg (arr y))).run Tryd.prog w = .ok (.bool (eqL x y)) w := eqlLp.1 x y w

theorem neq_run (x y : Lp) (w : World) : (binOp .neq 45 (.agg (arr x)) (.agg (arr y))).run Tryd.prog w = .ok (.bool (!eqL x y)) w := by
  have h : (binOp .eql 45 (.agg (arr x)) (.agg (arr y))).run Tryd.prog w = .ok (.bool (eqL x y)) w := eqlLp.1 x y w
  rw [run_eql_struct] at h
  rw [run_neq_struct]
  obtain ⟨r, hr⟩ : ∃ r, (Op.equalIn 10000 45 (.agg (arr x)) (.agg (arr y))).run Tryd.prog w = r := ⟨_, rfl⟩
  rw [hr] at h ⊢
  cases r with
  | ok b w' =>
    simp only [Result.andThen_ok, Result.ok.injEq, Value.bool.injEq] at h ⊢
    obtain ⟨rfl, rfl⟩ := h
    exact ⟨rfl, rfl⟩
  | _ => simp [Result.andThen] at h

end Go.Proofs.YtoenkgenoloihaaDoor

/- Contracts of the program: the array of a ring; least rings, periods. -/
namespace Go.Proofs.YtoenkgenoloihaaDoor
open Go.ChangeShapes Go.WideShapes Go.ChangeAt Go.RowKit

set_option linter.unusedVariables false

def loL (s : ByteArray) : Lp := cond (clB s) (mkLp s.data.toList) zLp

theorem ofL_data (s : ByteArray) : ofL s.data.toList = s := by cases s; rfl

set_option maxRecDepth 100000 in
set_option maxHeartbeats 800000 in
theorem loopOf_any (s : ByteArray) (hs : s.size ≤ 1048576) (w : World) :
    Calls Tryd.prog 47 #[.string s] w fun e w' => e = .returned (.tuple #[.agg (arr (loL s)), .bool (clB s)]) ∧ Below w.heap.size w w' := by
  have hz := (zero_of_info (P := Tryd.prog) lpInfo).1
  have a0 := LpAt.new w zLp
  obtain ⟨K, hK⟩ : ∃ K, K = 40 := ⟨_, rfl⟩
  have zE := zK hK
  have HK := Lib.hid hK
  have hAz := aK hK zLp
  have HC := Lib.hid (imIsRing s hs)
  cases tc : clB s
  · rw [tc] at HC
    have HL := Lib.hid (show loL s = zLp by simp [loL, tc])
    have HA := Lib.hid a0
    rw [HL.out]
    clear a0 hK
    go_enter Tryd.func47, Tryd.ntmps47
    go_wp2_with fail
    refine (HC.out _).mono ?_
    rintro e w1 ⟨rfl, hb1⟩
    have a1 := HA.out.below hb1 HA.out.lt
    have st := a1.store zLp
    have l1 := (a1.set zLp).loadK HK.out
    have HB := Lib.hid (below_setRow (ba (by go_grown) hb1 : Below w.heap.size w w1) (Nat.le_refl _) (arr zLp))
    clear a1 hb1
    go_wp2_with fail
    refine bodyPost_ret (by simp [results, Tryd.results47, go_sem, *]; try rfl) rfl ?_
    exact ⟨rfl, HB.out⟩
  · rw [tc] at HC
    have ht := clB_tk tc
    have h40 := tkB_size ht
    have HL := Lib.hid (show loL s = mkLp s.data.toList by simp [loL, tc])
    have hF := fun W => loopFrom_any s.data.toList (by rw [size_list]; exact h40) W
    rw [ofL_data] at hF
    have HF := Lib.hid hF
    have HA := Lib.hid a0
    rw [HL.out]
    obtain ⟨y, hy⟩ : ∃ y, mkLp s.data.toList = y := ⟨_, rfl⟩
    rw [hy] at HF ⊢
    have hAy := aK hK y
    clear a0 hK hF hy
    go_enter Tryd.func47, Tryd.ntmps47
    go_wp2_with fail
    refine (HC.out _).mono ?_
    rintro e w1 ⟨rfl, hb1⟩
    have A1 := Lib.hid (HA.out.below hb1 HA.out.lt)
    have HB := Lib.hid (ba (by go_grown) hb1 : Below w.heap.size w w1)
    clear hb1
    go_wp2_with fail
    refine (HF.out _).mono ?_
    rintro e w2 ⟨rfl, hb2⟩
    have a2 := A1.out.below hb2 A1.out.lt
    have st := a2.store y
    have l2 := (a2.set y).loadK HK.out
    have HB2 := Lib.hid (below_setRow (HB.out.trans (hb2.mono HB.out.size)) (Nat.le_refl _) (arr y))
    clear a2 hb2
    go_wp2_with fail
    refine bodyPost_ret (by simp [results, Tryd.results47, go_sem, *]; try rfl) rfl ?_
    exact ⟨rfl, HB2.out⟩

theorem index_any (x : Lp) (L : List Lp) (n : Nat) (hn : L.length = n) (hb5 : n ≤ 5000) (g cap : Nat) (w : World) (hr : RowLp w g L) :
    Calls Tryd.prog 55 #[.slice (some ⟨g, 0, none⟩) n cap, .agg (arr x)] w fun e w' => e = .returned (.int .i64 (Lib.idxBy eqL L x)) ∧ Below w.heap.size w w' := by
  have h := AnyQ.slices_Index Tryd.indexLoop 40 Tryd.isAgg45 Tryd.sizeOf45 encLp encLp_len eqL eqlLp g 0 n cap L x w (by omega) (by omega) (fun j hj i v hv => by
    rw [Nat.zero_add]
    have hx : L[j]? = some L[j]! := by rw [getElem!_pos L j hj]; exact List.getElem?_eq_getElem hj
    exact hr j _ hx i v hv)
  rw [List.take_of_length_le (by omega)] at h
  refine h.mono fun e w' ⟨h1, q, h2⟩ => ⟨h1, ?_⟩
  rw [h2]
  exact below_drewC ((Below.refl _ w).alloc (Nat.le_refl _) _) q

theorem contains_any (x : Lp) (L : List Lp) (n : Nat) (hn : L.length = n) (hb5 : n ≤ 5000) (g cap : Nat) (w : World) (hr : RowLp w g L) :
    Calls Tryd.prog 82 #[.slice (some ⟨g, 0, none⟩) n cap, .agg (arr x)] w fun e w' => e = .returned (.bool (L.any fun y => eqL x y)) ∧ Below w.heap.size w w' := by
  have h := AnyQ.slices_Contains Tryd.containsLoop 40 Tryd.isAgg45 Tryd.sizeOf45 encLp encLp_len eqL eqlLp g 0 n cap L x w (by omega) (by omega) (fun j hj i v hv => by
    rw [Nat.zero_add]
    have hx : L[j]? = some L[j]! := by rw [getElem!_pos L j hj]; exact List.getElem?_eq_getElem hj
    exact hr j _ hx i v hv)
  rw [List.take_of_length_le (by omega)] at h
  exact h

/-- The array of a text without zeros is that of no other. -/
theorem mk_val {l : List UInt8} (hl : l.length ≤ 40) : (mkLp l).1 = l ++ List.replicate (40 - l.length) 0 := by
  simp only [mkLp]
  rw [List.take_append, List.take_of_length_le hl, List.take_replicate]
  congr 2
  omega

theorem mk_inj {a b : List UInt8} (ha : a.length ≤ 40) (hl : a.length = b.length) (h : mkLp a = mkLp b) : a = b := by
  have h1 := congrArg Subtype.val h
  rw [mk_val ha, mk_val (by omega), hl] at h1
  exact List.append_cancel_right h1

theorem mk_lt {a b : List UInt8} (ha : a.length ≤ 40) (hl : a.length = b.length) : (mkLp a).1 < (mkLp b).1 ↔ a < b := by
  rw [mk_val ha, mk_val (by omega), hl]
  generalize List.replicate (40 - b.length) (0 : UInt8) = z
  clear ha
  induction a generalizing b with
  | nil =>
    have : b = [] := List.eq_nil_of_length_eq_zero (by simpa using hl.symm)
    subst this
    simp [lt_irr]
  | cons x a ih =>
    cases b with
    | nil => simp at hl
    | cons y b =>
      simp only [List.cons_append, List.cons_lt_cons_iff, ih (by simpa using hl)]

theorem mnL_mk (m : List UInt8) (xs : List (List UInt8)) (hm : m.length ≤ 40) (hx : ∀ x ∈ xs, x.length = m.length) : mnL (mkLp m) (xs.map mkLp) = mkLp (mn m xs) := by
  induction xs generalizing m with
  | nil => rfl
  | cons y ys ih =>
    have hy := hx y (by simp)
    rw [List.map_cons, mn_cons]
    show mnL (if (mkLp y).1 < (mkLp m).1 then mkLp y else mkLp m) (ys.map mkLp) = _
    by_cases h : y < m
    · rw [if_pos h, if_pos ((mk_lt (by omega) hy).2 h), ih y (by omega) (fun x hx' => by rw [hy]; exact hx x (by simp [hx']))]
    · rw [if_neg h, if_neg (fun h2 => h ((mk_lt (by omega) hy).1 h2)), ih m hm (fun x hx' => hx x (by simp [hx']))]

/-- The least one of the spun rings, in the program's order. -/
theorem least_rot1 {l : List UInt8} (h0 : 0 < l.length) : ∃ x xs, rot1 l = x :: xs ∧ mn x xs = leastL l := by
  cases hr : rot1 l with
  | nil => have := rot1_len l; rw [hr] at this; simp at this; omega
  | cons x xs =>
    refine ⟨x, xs, rfl, ?_⟩
    have hm : ∀ y, y ∈ x :: xs ↔ y ∈ l :: rotA l := fun y => by rw [← hr, rot1_mem h0, rot_cons h0]
    exact least_one hm (mn_mem _ _) (mn_mem _ _) (mn_le _ _) (mn_le _ _)

end Go.Proofs.YtoenkgenoloihaaDoor

/- The variants of a ring: how many, and which is the first. Nothing of the program. -/
namespace Go.Proofs.YtoenkgenoloihaaDoor
open Go.Lib

theorem bgr {w w' : World} (h : Go.RowKit.Below w.heap.size w w') : w.grownBy w' none := ⟨h.os, h.tape, h.output, h.size, fun k hk _ => h.block k hk⟩

instance : DecidableEq Lp := fun x y => decidable_of_iff (x.1 = y.1) ⟨fun h => Subtype.ext h, fun h => by rw [h]⟩

/-- As many pieces as come again: each spun one once. -/
def onceL (x : List UInt8) : List (List UInt8) := (rot1 x).take (perN x)

theorem spn_add {x : List UInt8} {i j : Nat} (h : i + j ≤ x.length) : spn (spn x i) j = spn x (i + j) := by
  rw [spn_spn x i j (by omega) (by omega), ← spn_mod x (i + j) h]

theorem spn_inj {x : List UInt8} {i j : Nat} (hi : i ≤ j) (hj : j ≤ x.length) (h : spn x i = spn x j) : spn x (j - i) = x := by
  -- turned back by what is left from i on
  have h1 : spn (spn x i) (x.length - i) = x := by rw [spn_add (by omega), show i + (x.length - i) = x.length by omega, spn_full]
  have h2 : spn (spn x j) (x.length - i) = spn x (j - i) := by
    rw [spn_spn x j _ hj (by omega), show j + (x.length - i) = x.length + (j - i) by omega, Nat.add_mod_left, ← spn_mod x (j - i) (by omega)]
  rw [← h2, ← h, h1]

theorem per_spec {x : List UInt8} (h0 : 0 < x.length) : spn x (perN x) = x ∧ ∀ j, 0 < j → j < perN x → spn x j ≠ x := by
  have hp := per_le h0
  have hl : (rot1 x).findIdx (· == x) < (rot1 x).length := by rw [rot1_len]; unfold perN at hp; omega
  have h1 := List.findIdx_getElem (p := (· == x)) (xs := rot1 x) (w := hl)
  refine ⟨?_, fun j hj hjp e => ?_⟩
  · simp only [rot1, List.getElem_map, List.getElem_range, beq_iff_eq] at h1
    exact h1
  · unfold perN at hjp
    have hlt : j - 1 < (rot1 x).findIdx (· == x) := by omega
    have := List.not_of_lt_findIdx hlt
    simp only [rot1, List.getElem_map, List.getElem_range, beq_eq_false_iff_ne, ne_eq] at this
    rw [show j - 1 + 1 = j by omega] at this
    exact this e

theorem once_len {x : List UInt8} (h0 : 0 < x.length) : (onceL x).length = perN x := by
  rw [onceL, List.length_take, rot1_len]
  exact Nat.min_eq_left (per_le h0)

theorem rot1_at {x : List UInt8} {i : Nat} {a : List UInt8} : (rot1 x)[i]? = some a ↔ i < x.length ∧ a = spn x (i + 1) := by
  by_cases hi : i < x.length
  · simp [rot1, hi, eq_comm]
  · simp [rot1, hi]

theorem once_at {x : List UInt8} {i : Nat} {a : List UInt8} (h : (onceL x)[i]? = some a) : i < perN x ∧ i < x.length ∧ a = spn x (i + 1) := by
  unfold onceL at h
  rw [List.getElem?_take] at h
  split at h <;> rename_i hi
  · exact ⟨hi, rot1_at.1 h⟩
  · cases h

theorem once_nodup {x : List UInt8} (h0 : 0 < x.length) : (onceL x).Nodup := by
  refine List.pairwise_iff_getElem.2 fun i j hi hj hij e => ?_
  obtain ⟨a1, a2, a3⟩ := once_at (List.getElem?_eq_getElem hi)
  obtain ⟨b1, b2, b3⟩ := once_at (List.getElem?_eq_getElem hj)
  rw [a3, b3] at e
  have := spn_inj (by omega) (by omega) e
  exact (per_spec h0).2 _ (by omega) (by omega) this

theorem spn_once {x : List UInt8} (h0 : 0 < x.length) : ∀ k, k ≤ x.length → ∃ j, 0 < j ∧ j ≤ perN x ∧ spn x k = spn x j := by
  intro k
  induction k using Nat.strongRecOn with
  | ind k ih =>
    intro hk
    have hp0 : 0 < perN x := by unfold perN; omega
    by_cases hz : k = 0
    · subst hz
      exact ⟨perN x, hp0, Nat.le_refl _, by rw [spn_zero, (per_spec h0).1]⟩
    by_cases hkp : k ≤ perN x
    · exact ⟨k, by omega, hkp, rfl⟩
    · obtain ⟨j, h1, h2, h3⟩ := ih (k - perN x) (by omega) (by omega)
      refine ⟨j, h1, h2, ?_⟩
      rw [← h3]
      have := spn_add (x := x) (i := perN x) (j := k - perN x) (by omega)
      rw [(per_spec h0).1, show perN x + (k - perN x) = k by omega] at this
      exact this.symm

theorem once_mem {x a : List UInt8} (h0 : 0 < x.length) : a ∈ onceL x ↔ orb x a := by
  constructor
  · intro h
    obtain ⟨i, hi⟩ := List.mem_iff_getElem?.1 h
    obtain ⟨_, h2, rfl⟩ := once_at hi
    exact ⟨i + 1, by omega, rfl⟩
  · rintro ⟨k, hk, rfl⟩
    obtain ⟨j, h1, h2, h3⟩ := spn_once h0 k hk
    have hj := per_le h0
    rw [h3, List.mem_iff_getElem?]
    refine ⟨j - 1, ?_⟩
    rw [onceL, List.getElem?_take, if_pos (by omega)]
    exact rot1_at.2 ⟨by omega, by rw [show j - 1 + 1 = j by omega]⟩

/-- One word more: told, and counted if its least one is new. -/
def vstep (s : List (List UInt8) × Nat) (x : List UInt8) : List (List UInt8) × Nat := if leastL x ∈ s.1 then s else (s.1 ++ [leastL x], s.2 + perN x)

def vfold (X : List (List UInt8)) : List (List UInt8) × Nat := X.foldl vstep ([], 0)

theorem vfold_snoc (X : List (List UInt8)) (x : List UInt8) : vfold (X ++ [x]) = vstep (vfold X) x := by simp [vfold]

def varN (l : List UInt8) : Nat := (vfold (four l)).2

structure Told (X : List (List UInt8)) (s : List (List UInt8) × Nat) (V : List (List UInt8)) : Prop where
  nodup : V.Nodup
  mem : ∀ a, a ∈ V ↔ ∃ x ∈ X, orb x a
  len : V.length = s.2
  firsts : ∀ f, f ∈ s.1 ↔ ∃ x ∈ X, leastL x = f

theorem told_step {X : List (List UInt8)} {s : List (List UInt8) × Nat} {V : List (List UInt8)} (h : Told X s V) {x : List UInt8} (h0 : 0 < x.length) (hX : ∀ y ∈ X, 0 < y.length) : ∃ V', Told (X ++ [x]) (vstep s x) V' := by
  unfold vstep
  by_cases hx : leastL x ∈ s.1
  · rw [if_pos hx]
    obtain ⟨y, hy, he⟩ := (h.firsts _).1 hx
    have hyx : orb y x := (leastL_iff (hX y hy) h0).1 he
    refine ⟨V, h.nodup, fun a => ?_, h.len, fun f => ?_⟩
    · rw [h.mem]
      constructor
      · rintro ⟨z, hz, ha⟩; exact ⟨z, by simp [hz], ha⟩
      · rintro ⟨z, hz, ha⟩
        rcases List.mem_append.1 hz with hz | hz
        · exact ⟨z, hz, ha⟩
        · have : z = x := by simpa using hz
          subst this
          exact ⟨y, hy, orb_trans hyx ha⟩
    · rw [h.firsts]
      constructor
      · rintro ⟨z, hz, ha⟩; exact ⟨z, by simp [hz], ha⟩
      · rintro ⟨z, hz, ha⟩
        rcases List.mem_append.1 hz with hz | hz
        · exact ⟨z, hz, ha⟩
        · have : z = x := by simpa using hz
          subst this
          exact ⟨y, hy, by rw [← ha, he]⟩
  · rw [if_neg hx]
    refine ⟨V ++ onceL x, ?_, fun a => ?_, ?_, fun f => ?_⟩
    · rw [List.nodup_append]
      refine ⟨h.nodup, once_nodup h0, fun a ha b hb e => ?_⟩
      subst e
      obtain ⟨y, hy, hya⟩ := (h.mem _).1 ha
      have hxa := (once_mem h0).1 hb
      exact hx ((h.firsts _).2 ⟨y, hy, leastL_eq (hX y hy) (orb_trans hya (orb_symm hxa))⟩)
    · rw [List.mem_append, h.mem, once_mem h0]
      constructor
      · rintro (⟨z, hz, ha⟩ | ha)
        · exact ⟨z, by simp [hz], ha⟩
        · exact ⟨x, by simp, ha⟩
      · rintro ⟨z, hz, ha⟩
        rcases List.mem_append.1 hz with hz | hz
        · exact .inl ⟨z, hz, ha⟩
        · have : z = x := by simpa using hz
          subst this
          exact .inr ha
    · rw [List.length_append, h.len, once_len h0]
    · show f ∈ s.1 ++ [leastL x] ↔ _
      rw [List.mem_append, h.firsts]
      constructor
      · rintro (⟨z, hz, ha⟩ | ha)
        · exact ⟨z, by simp [hz], ha⟩
        · exact ⟨x, by simp, (by simpa using ha : f = leastL x).symm⟩
      · rintro ⟨z, hz, ha⟩
        rcases List.mem_append.1 hz with hz | hz
        · exact .inl ⟨z, hz, ha⟩
        · have : z = x := by simpa using hz
          subst this
          exact .inr (by simp [ha])

theorem told_all : ∀ (Y X : List (List UInt8)) (s : List (List UInt8) × Nat) (V : List (List UInt8)), Told X s V → (∀ y ∈ X ++ Y, 0 < y.length) → ∃ V', Told (X ++ Y) (Y.foldl vstep s) V'
  | [], X, s, V, h, _ => ⟨V, by simpa using h⟩
  | y :: Y, X, s, V, h, hl => by
    obtain ⟨V', h'⟩ := told_step h (hl y (by simp)) (fun z hz => hl z (by simp [hz]))
    have := told_all Y (X ++ [y]) (vstep s y) V' h' (fun z hz => hl z (by simpa using hz))
    simpa using this

theorem told_fold (X : List (List UInt8)) (hl : ∀ y ∈ X, 0 < y.length) : ∃ V, Told X (vfold X) V := by
  have := told_all X [] ([], 0) [] ⟨List.nodup_nil, fun a => by simp, rfl, fun f => by simp⟩ (by simpa using hl)
  simpa [vfold] using this

/-- The variants of a ring, as arrays, in order. -/
structure IsVar (l : List UInt8) (V : List Lp) : Prop where
  sorted : V.Pairwise fun x y => x.1 < y.1
  mem : ∀ y, y ∈ V ↔ ∃ x ∈ four l, ∃ a, orb x a ∧ y = mkLp a

theorem IsVar.len {l : List UInt8} {V : List Lp} (h : IsVar l V) (h0 : 0 < l.length) (h40 : l.length ≤ 40) : V.length = varN l := by
  obtain ⟨W, hW⟩ := told_fold (four l) (fun y hy => by rw [four_len hy]; exact h0)
  have hlm : W.length = (W.map mkLp).length := by simp
  rw [varN, ← hW.len, hlm]
  refine List.Perm.length_eq ((List.perm_ext_iff_of_nodup ?_ ?_).2 fun y => ?_)
  · exact h.sorted.imp (fun {a b} hab e => by subst e; exact lt_irr _ hab)
  · refine List.Pairwise.map mkLp (fun a b h => h) (List.Pairwise.imp_of_mem (fun {a b} ha hb hne e => hne ?_) hW.nodup)
    obtain ⟨x, hx, hxa⟩ := (hW.mem a).1 ha
    obtain ⟨y, hy, hyb⟩ := (hW.mem b).1 hb
    exact mk_inj (by rw [orb_len hxa, four_len hx]; exact h40) (by rw [orb_len hxa, orb_len hyb, four_len hx, four_len hy]) e
  · rw [h.mem, List.mem_map]
    constructor
    · rintro ⟨x, hx, a, ha, rfl⟩; exact ⟨a, (hW.mem a).2 ⟨x, hx, ha⟩, rfl⟩
    · rintro ⟨a, ha, rfl⟩
      obtain ⟨x, hx, hxa⟩ := (hW.mem a).1 ha
      exact ⟨x, hx, a, hxa, rfl⟩

theorem class_spec {l : List UInt8} (h0 : 0 < l.length) : (∃ x ∈ four l, orb x (classL l)) ∧ ∀ x ∈ four l, ∀ a, orb x a → ¬ a < classL l := by
  have hp : ∀ x ∈ four l, 0 < x.length := fun x hx => by rw [four_len hx]; exact h0
  constructor
  · have hm := mn_mem ((four l).map leastL) l
    rcases List.mem_cons.1 hm with e | e
    · exact ⟨l, by simp [four], by rw [classL, e]; exact orb_refl l⟩
    · obtain ⟨x, hx, e⟩ := List.mem_map.1 e
      exact ⟨x, hx, by rw [classL, ← e]; exact leastL_orb (hp x hx)⟩
  · intro x hx a ha hlt
    have h1 := leastL_le (hp x hx) ha
    have h2 := mn_le ((four l).map leastL) l (leastL x) (List.mem_cons_of_mem _ (List.mem_map_of_mem hx))
    rcases lt_tri (leastL x) a with g | g | g
    · exact h2 (lt_trn g hlt)
    · subst g; exact h2 hlt
    · exact h1 g

theorem class_len {l : List UInt8} (h0 : 0 < l.length) : (classL l).length = l.length := by
  obtain ⟨x, hx, h⟩ := (class_spec h0).1
  rw [orb_len h, four_len hx]

theorem IsVar.first {l : List UInt8} {V : List Lp} (h : IsVar l V) (h0 : 0 < l.length) (h40 : l.length ≤ 40) : V[0]? = some (mkLp (classL l)) := by
  obtain ⟨⟨x, hx, hc⟩, hle⟩ := class_spec h0
  have hmem := (h.mem _).2 ⟨x, hx, _, hc, rfl⟩
  cases V with
  | nil => simp at hmem
  | cons v V =>
    rw [List.getElem?_cons_zero]
    rcases List.mem_cons.1 hmem with e | e
    · rw [e]
    · exfalso
      have hlt := List.rel_of_pairwise_cons h.sorted e
      obtain ⟨y, hy, a, ha, rfl⟩ := (h.mem v).1 (by simp)
      have hla : a.length = l.length := by rw [orb_len ha, four_len hy]
      have hlc := class_len h0
      exact hle y hy a ha ((mk_lt (by omega) (by omega)).1 hlt)

/-- A sorted row, compacted: each of its elements once, in order. -/
theorem compact_mem {α : Type} [Inhabited α] [DecidableEq α] (d : Array α) (x : α) : ∀ m, x ∈ compactUpTo d m ↔ ∃ j, j < m ∧ d[j]! = x
  | 0 => by simp [compactUpTo]
  | m + 1 => by
    have ih := compact_mem d x m
    rw [compactUpTo_succ, List.mem_append, ih]
    constructor
    · rintro (⟨j, hj, e⟩ | h)
      · exact ⟨j, by omega, e⟩
      · split at h
        · exact ⟨m, by omega, (by simpa using h : x = d[m]!).symm⟩
        · simp at h
    · rintro ⟨j, hj, e⟩
      by_cases hjm : j = m
      · subst hjm
        by_cases hk : keeps d j = true
        · right; rw [if_pos hk]; simp [e]
        · left
          simp only [keeps, decide_eq_true_eq, not_or, ne_eq, Decidable.not_not] at hk
          exact ⟨j - 1, by omega, by rw [← hk.2, e]⟩
      · exact .inl ⟨j, by omega, e⟩

theorem compact_sorted (d : Array Lp) (hd : ∀ i j, i < j → j < d.size → ¬ d[j]!.1 < d[i]!.1) : ∀ m, m ≤ d.size → (compactUpTo d m).Pairwise fun x y => x.1 < y.1
  | 0, _ => by simp [compactUpTo]
  | m + 1, hm => by
    rw [compactUpTo_succ]
    by_cases hk : keeps d m = true
    · rw [if_pos hk, List.pairwise_append]
      refine ⟨compact_sorted d hd m (by omega), by simp, fun x hx y hy => ?_⟩
      have hy : y = d[m]! := by simpa using hy
      subst hy
      obtain ⟨j, hj, rfl⟩ := (compact_mem d x m).1 hx
      simp only [keeps, decide_eq_true_eq] at hk
      have hne : d[m]! ≠ d[m - 1]! := by rcases hk with h | h; omega; exact h
      have h1 := hd (m - 1) m (by omega) (by omega)
      have h2 : d[m - 1]!.1 < d[m]!.1 := by
        rcases lt_tri d[m - 1]!.1 d[m]!.1 with g | g | g
        · exact g
        · exact absurd (Subtype.ext g).symm hne
        · exact absurd g h1
      by_cases hjm : j = m - 1
      · rw [hjm]; exact h2
      · have h3 := hd j (m - 1) (by omega) (by omega)
        rcases lt_tri d[j]!.1 d[m - 1]!.1 with g | g | g
        · exact lt_trn g h2
        · rw [g]; exact h2
        · exact absurd g h3
    · rw [if_neg hk, List.append_nil]
      exact compact_sorted d hd m (by omega)

end Go.Proofs.YtoenkgenoloihaaDoor

/- A track laid from a point with a heading: turned and moved. -/
namespace Go.Proofs.YtoenkgenoloihaaDoor

theorem tS0 (k h : Int) (k0 : 0 ≤ k) (k7 : k ≤ 7) (h0 : 0 ≤ h) (h7 : h ≤ 7) : tu0 ((k + h) % 8) 1 0 0 0 = tu0 k (tu0 h 1 0 0 0) (tu1 h 1 0 0 0) (tu2 h 1 0 0 0) (tu3 h 1 0 0 0) := by
  rcases eight k k0 k7 with rfl | rfl | rfl | rfl | rfl | rfl | rfl | rfl <;> rcases eight h h0 h7 with rfl | rfl | rfl | rfl | rfl | rfl | rfl | rfl <;> decide

theorem tS1 (k h : Int) (k0 : 0 ≤ k) (k7 : k ≤ 7) (h0 : 0 ≤ h) (h7 : h ≤ 7) : tu1 ((k + h) % 8) 1 0 0 0 = tu1 k (tu0 h 1 0 0 0) (tu1 h 1 0 0 0) (tu2 h 1 0 0 0) (tu3 h 1 0 0 0) := by
  rcases eight k k0 k7 with rfl | rfl | rfl | rfl | rfl | rfl | rfl | rfl <;> rcases eight h h0 h7 with rfl | rfl | rfl | rfl | rfl | rfl | rfl | rfl <;> decide

theorem tS2 (k h : Int) (k0 : 0 ≤ k) (k7 : k ≤ 7) (h0 : 0 ≤ h) (h7 : h ≤ 7) : tu2 ((k + h) % 8) 1 0 0 0 = tu2 k (tu0 h 1 0 0 0) (tu1 h 1 0 0 0) (tu2 h 1 0 0 0) (tu3 h 1 0 0 0) := by
  rcases eight k k0 k7 with rfl | rfl | rfl | rfl | rfl | rfl | rfl | rfl <;> rcases eight h h0 h7 with rfl | rfl | rfl | rfl | rfl | rfl | rfl | rfl <;> decide

theorem tS3 (k h : Int) (k0 : 0 ≤ k) (k7 : k ≤ 7) (h0 : 0 ≤ h) (h7 : h ≤ 7) : tu3 ((k + h) % 8) 1 0 0 0 = tu3 k (tu0 h 1 0 0 0) (tu1 h 1 0 0 0) (tu2 h 1 0 0 0) (tu3 h 1 0 0 0) := by
  rcases eight k k0 k7 with rfl | rfl | rfl | rfl | rfl | rfl | rfl | rfl <;> rcases eight h h0 h7 with rfl | rfl | rfl | rfl | rfl | rfl | rfl | rfl <;> decide

theorem tuA0 (k a0 a1 a2 a3 b0 b1 b2 b3 : Int) : tu0 k (a0 + b0) (a1 + b1) (a2 + b2) (a3 + b3) = tu0 k a0 a1 a2 a3 + tu0 k b0 b1 b2 b3 := by unfold tu0; repeat' split <;> omega

theorem tuA1 (k a0 a1 a2 a3 b0 b1 b2 b3 : Int) : tu1 k (a0 + b0) (a1 + b1) (a2 + b2) (a3 + b3) = tu1 k a0 a1 a2 a3 + tu1 k b0 b1 b2 b3 := by unfold tu1; repeat' split <;> omega

theorem tuA2 (k a0 a1 a2 a3 b0 b1 b2 b3 : Int) : tu2 k (a0 + b0) (a1 + b1) (a2 + b2) (a3 + b3) = tu2 k a0 a1 a2 a3 + tu2 k b0 b1 b2 b3 := by unfold tu2; repeat' split <;> omega

theorem tuA3 (k a0 a1 a2 a3 b0 b1 b2 b3 : Int) : tu3 k (a0 + b0) (a1 + b1) (a2 + b2) (a3 + b3) = tu3 k a0 a1 a2 a3 + tu3 k b0 b1 b2 b3 := by unfold tu3; repeat' split <;> omega

theorem tuM0 (k a0 a1 a2 a3 b0 b1 b2 b3 : Int) : tu0 k (a0 - b0) (a1 - b1) (a2 - b2) (a3 - b3) = tu0 k a0 a1 a2 a3 - tu0 k b0 b1 b2 b3 := by unfold tu0; repeat' split <;> omega

theorem tuM1 (k a0 a1 a2 a3 b0 b1 b2 b3 : Int) : tu1 k (a0 - b0) (a1 - b1) (a2 - b2) (a3 - b3) = tu1 k a0 a1 a2 a3 - tu1 k b0 b1 b2 b3 := by unfold tu1; repeat' split <;> omega

theorem tuM2 (k a0 a1 a2 a3 b0 b1 b2 b3 : Int) : tu2 k (a0 - b0) (a1 - b1) (a2 - b2) (a3 - b3) = tu2 k a0 a1 a2 a3 - tu2 k b0 b1 b2 b3 := by unfold tu2; repeat' split <;> omega

theorem tuM3 (k a0 a1 a2 a3 b0 b1 b2 b3 : Int) : tu3 k (a0 - b0) (a1 - b1) (a2 - b2) (a3 - b3) = tu3 k a0 a1 a2 a3 - tu3 k b0 b1 b2 b3 := by unfold tu3; repeat' split <;> omega

theorem turn8 (k h n : Int) : ((k + h) % 8 + n) % 8 = (k + (h + n) % 8) % 8 := by omega

theorem ddR (c : UInt8) (k h : Int) (k0 : 0 ≤ k) (k7 : k ≤ 7) (h0 : 0 ≤ h) (h7 : h ≤ 7) :
    dd0 c ((k + h) % 8) = tu0 k (dd0 c h) (dd1 c h) (dd2 c h) (dd3 c h) ∧ dd1 c ((k + h) % 8) = tu1 k (dd0 c h) (dd1 c h) (dd2 c h) (dd3 c h) ∧
    dd2 c ((k + h) % 8) = tu2 k (dd0 c h) (dd1 c h) (dd2 c h) (dd3 c h) ∧ dd3 c ((k + h) % 8) = tu3 k (dd0 c h) (dd1 c h) (dd2 c h) (dd3 c h) := by
  have q := fun n (hn : 0 ≤ (h + n) % 8 ∧ (h + n) % 8 ≤ 7) => And.intro (tS0 k ((h + n) % 8) k0 k7 hn.1 hn.2) (And.intro (tS1 k ((h + n) % 8) k0 k7 hn.1 hn.2) (And.intro (tS2 k ((h + n) % 8) k0 k7 hn.1 hn.2) (tS3 k ((h + n) % 8) k0 k7 hn.1 hn.2)))
  obtain ⟨a0, a1, a2, a3⟩ := q 7 (by omega)
  obtain ⟨b0, b1, b2, b3⟩ := q 6 (by omega)
  obtain ⟨c0, c1, c2, c3⟩ := q 1 (by omega)
  obtain ⟨d0, d1, d2, d3⟩ := q 2 (by omega)
  unfold dd0 dd1 dd2 dd3
  by_cases e1 : c == 76
  · simp only [e1, if_true, turn8, tuM0, tuM1, tuM2, tuM3]
    exact ⟨by rw [a0, b0], by rw [a1, b1], by rw [a2, b2], by rw [a3, b3]⟩
  by_cases e2 : c == 82
  · simp only [e1, e2, if_true, if_false, Bool.false_eq_true, turn8, tuM0, tuM1, tuM2, tuM3]
    exact ⟨by rw [c0, d0], by rw [c1, d1], by rw [c2, d2], by rw [c3, d3]⟩
  · simp only [e1, e2, if_false, Bool.false_eq_true]
    exact ⟨tS0 k h k0 k7 h0 h7, tS1 k h k0 k7 h0 h7, tS2 k h k0 k7 h0 h7, tS3 k h k0 k7 h0 h7⟩

/-- The step s, turned by a's heading and moved to a. -/
def rot (a s : Sp) : Sp := ⟨a.x0 + tu0 a.h s.x0 s.x1 s.x2 s.x3, a.x1 + tu1 a.h s.x0 s.x1 s.x2 s.x3, a.x2 + tu2 a.h s.x0 s.x1 s.x2 s.x3, a.x3 + tu3 a.h s.x0 s.x1 s.x2 s.x3, (a.h + s.h) % 8⟩

set_option linter.unusedSimpArgs false in
theorem nhR (c : UInt8) (k h : Int) : nh c ((k + h) % 8) % 8 = (k + nh c h) % 8 := by
  unfold nh
  by_cases e1 : c == 76 <;> by_cases e2 : c == 82 <;> simp only [e1, e2, if_true, if_false, Bool.false_eq_true] <;> omega

theorem nh_mod (c : UInt8) (h : Int) (h0 : 0 ≤ h) (h7 : h ≤ 7) : nh c h % 8 = nh c h := by have := nh_bd c h h0 h7; omega

theorem rot_next (a s : Sp) (c : UInt8) (k0 : 0 ≤ a.h) (k7 : a.h ≤ 7) (h0 : 0 ≤ s.h) (h7 : s.h ≤ 7) : (rot a s).next c = rot a (s.next c) := by
  obtain ⟨r0, r1, r2, r3⟩ := ddR c a.h s.h k0 k7 h0 h7
  have r4 := nhR c a.h s.h
  rw [nh_mod c ((a.h + s.h) % 8) (by omega) (by omega)] at r4
  simp only [rot, Sp.next, r0, r1, r2, r3, r4, tuA0, tuA1, tuA2, tuA3, Int.add_assoc]

theorem rot_fin (a : Sp) (k0 : 0 ≤ a.h) (k7 : a.h ≤ 7) : ∀ (l : List UInt8) (s : Sp), 0 ≤ s.h → s.h ≤ 7 → fin (rot a s) l = rot a (fin s l)
  | [], _, _, _ => rfl
  | c :: l, s, h0, h7 => by
    have hb := nh_bd c s.h h0 h7
    have ih := rot_fin a k0 k7 l (s.next c) hb.1 hb.2
    simp only [fin, List.foldl_cons] at ih ⊢
    rw [rot_next a s c k0 k7 h0 h7]
    exact ih

theorem rot_zero (a : Sp) (k0 : 0 ≤ a.h) (k7 : a.h ≤ 7) : rot a sp0 = a := by
  have z0 : tu0 a.h 0 0 0 0 = 0 := by unfold tu0; repeat' split <;> omega
  have z1 : tu1 a.h 0 0 0 0 = 0 := by unfold tu1; repeat' split <;> omega
  have z2 : tu2 a.h 0 0 0 0 = 0 := by unfold tu2; repeat' split <;> omega
  have z3 : tu3 a.h 0 0 0 0 = 0 := by unfold tu3; repeat' split <;> omega
  have z4 : a.h % 8 = a.h := by omega
  simp [rot, sp0, z0, z1, z2, z3, z4]

/-- Laid from a: as laid from 0, turned and moved. -/
theorem fin_rot (a : Sp) (k0 : 0 ≤ a.h) (k7 : a.h ≤ 7) (l : List UInt8) : fin a l = rot a (fin sp0 l) := by
  have := rot_fin a k0 k7 l sp0 (by decide) (by decide)
  rwa [rot_zero a k0 k7] at this

end Go.Proofs.YtoenkgenoloihaaDoor

/- Texts of n pieces, in order; which of them lead from a step back to the beginning; the way back from a step. -/
namespace Go.Proofs.YtoenkgenoloihaaDoor

def ltr : List UInt8 := [76, 82, 83]

def words : Nat → List (List UInt8)
  | 0 => [[]]
  | n + 1 => (words n).flatMap fun w => ltr.map fun c => w ++ [c]

theorem words_add (a : Nat) : ∀ b, words (a + b) = (words a).flatMap fun u => (words b).map fun v => u ++ v
  | 0 => by simp [words]
  | b + 1 => by
    rw [← Nat.add_assoc]
    show (words (a + b)).flatMap _ = _
    rw [words_add a b, List.flatMap_assoc]
    congr 1
    funext u
    show _ = ((words b).flatMap _).map _
    rw [List.flatMap_map, List.map_flatMap]
    congr 1
    funext v
    simp [ltr]

theorem words_cons (n : Nat) : words (n + 1) = ltr.flatMap fun c => (words n).map fun v => c :: v := by
  rw [Nat.add_comm, words_add 1 n]
  simp [words, ltr]

theorem words_len : ∀ (n : Nat) (w : List UInt8), w ∈ words n → w.length = n
  | 0, w, h => by simp [words] at h; simp [h]
  | n + 1, w, h => by
    simp only [words, List.mem_flatMap, List.mem_map] at h
    obtain ⟨u, hu, c, _, rfl⟩ := h
    simp [words_len n u hu]

theorem words_pcb : ∀ (n : Nat) (w : List UInt8), w ∈ words n → w.all pcb = true
  | 0, w, h => by simp [words] at h; simp [h]
  | n + 1, w, h => by
    simp only [words, List.mem_flatMap, List.mem_map] at h
    obtain ⟨u, hu, c, hc, rfl⟩ := h
    rw [List.all_append, words_pcb n u hu]
    simp only [ltr, List.mem_cons, List.not_mem_nil, or_false] at hc
    rcases hc with rfl | rfl | rfl <;> rfl

theorem words_count : ∀ n : Nat, (words n).length = 3 ^ n
  | 0 => rfl
  | n + 1 => by
    simp only [words, List.length_flatMap, List.length_map]
    rw [show (ltr.length) = 3 from rfl, List.map_const', List.sum_replicate_nat, words_count n, Nat.pow_succ]

theorem fin_append (s : Sp) (l m : List UInt8) : fin s (l ++ m) = fin (fin s l) m := by simp [fin, List.foldl_append]

theorem fin_cons (s : Sp) (c : UInt8) (l : List UInt8) : fin s (c :: l) = fin (s.next c) l := rfl

def spE (p q : Sp) : Bool := (p.x0 == q.x0 && (p.x1 == q.x1 && (p.x2 == q.x2 && p.x3 == q.x3))) && p.h == q.h

theorem spE_iff {p q : Sp} : spE p q = true ↔ p = q := by
  obtain ⟨a0, a1, a2, a3, a4⟩ := p
  obtain ⟨b0, b1, b2, b3, b4⟩ := q
  simp only [spE, Bool.and_eq_true, beq_iff_eq, Sp.mk.injEq]
  constructor
  · rintro ⟨⟨h0, h1, h2, h3⟩, h4⟩; exact ⟨h0, h1, h2, h3, h4⟩
  · rintro ⟨h0, h1, h2, h3, h4⟩; exact ⟨⟨h0, h1, h2, h3⟩, h4⟩

theorem spE_no {p q : Sp} : spE p q = false ↔ p ≠ q := by
  rw [← Bool.not_eq_true, spE_iff]

/-- The end that a part of a track has if it leads from s back to the beginning. -/
def wayB (s : Sp) : Sp := ⟨tu0 ((8 - s.h) % 8) (-s.x0) (-s.x1) (-s.x2) (-s.x3), tu1 ((8 - s.h) % 8) (-s.x0) (-s.x1) (-s.x2) (-s.x3), tu2 ((8 - s.h) % 8) (-s.x0) (-s.x1) (-s.x2) (-s.x3), tu3 ((8 - s.h) % 8) (-s.x0) (-s.x1) (-s.x2) (-s.x3), (8 - s.h) % 8⟩

theorem rot_back (a v : Sp) (k0 : 0 ≤ a.h) (k7 : a.h ≤ 7) (h0 : 0 ≤ v.h) (h7 : v.h ≤ 7) : rot a v = sp0 ↔ v = wayB a := by
  obtain ⟨a0, a1, a2, a3, a4⟩ := a
  obtain ⟨b0, b1, b2, b3, b4⟩ := v
  simp only at k0 k7 h0 h7
  have e8 : a4 = 0 ∨ a4 = 1 ∨ a4 = 2 ∨ a4 = 3 ∨ a4 = 4 ∨ a4 = 5 ∨ a4 = 6 ∨ a4 = 7 := by omega
  rcases e8 with rfl | rfl | rfl | rfl | rfl | rfl | rfl | rfl <;> simp [rot, wayB, sp0, tu0, tu1, tu2, tu3] <;> omega

theorem fin_back (a : Sp) (k0 : 0 ≤ a.h) (k7 : a.h ≤ 7) (l : List UInt8) : fin a l = sp0 ↔ fin sp0 l = wayB a := by
  rw [fin_rot a k0 k7 l]
  have h := fin_ok sp0_ok l
  simp only [Sp.okB] at h
  exact rot_back a _ k0 k7 h.2.2.2.2.1 h.2.2.2.2.2

/-- All texts of n pieces that lead from a step back to the beginning. -/
def clsL (a : Sp) (n : Nat) : List (List UInt8) := (words n).filter fun w => spE (fin a w) sp0

/-- Parts: texts with their ends. -/
def parts (a : Sp) (n : Nat) : List (Sp × List UInt8) := (words n).map fun w => (fin a w, w)

/-- The texts of parts at a step. -/
def grp (k : Sp) (l : List (Sp × List UInt8)) : List (List UInt8) := (l.filter fun p => spE p.1 k).map Prod.snd

theorem parts_succ (a : Sp) (n : Nat) : parts a (n + 1) = (parts a n).flatMap fun p => ltr.map fun c => (p.1.next c, p.2 ++ [c]) := by
  simp only [parts, words, List.map_flatMap, List.flatMap_map, List.map_map]
  congr 1
  funext w
  simp [ltr, fin_snoc]

theorem parts_len (a : Sp) (n : Nat) : (parts a n).length = 3 ^ n := by rw [parts, List.length_map, words_count]

/-- Closed ones, out of two parts. -/
theorem cls_halves (a : Sp) (k0 : 0 ≤ a.h) (k7 : a.h ≤ 7) (m n : Nat) :
    ((parts a m).flatMap fun p => (grp (wayB p.1) (parts sp0 n)).map fun v => p.2 ++ v) = clsL a (m + n) := by
  rw [clsL, words_add, List.filter_flatMap, show parts a m = (words m).map fun w => (fin a w, w) from rfl, List.flatMap_map]
  congr 1
  funext u
  simp only [grp, parts, List.filter_map, List.map_map, Function.comp_def]
  rw [show (fun w : List UInt8 => u ++ w) = (fun v => u ++ v) from rfl]
  congr 1
  apply List.filter_congr
  intro v _
  have hb : (fin a u).okB _ := fin_ok (s := a) (n := (a.x0.natAbs + a.x1.natAbs + a.x2.natAbs + a.x3.natAbs : Nat)) (by simp only [Sp.okB]; omega) u
  simp only [Sp.okB] at hb
  have h := fin_back (fin a u) hb.2.2.2.2.1 hb.2.2.2.2.2 v
  rw [Bool.eq_iff_iff, spE_iff, spE_iff, fin_append, h]

end Go.Proofs.YtoenkgenoloihaaDoor

/- Rings spun, mirrored and laid backward are rings; classes; the first ones of all classes. Nothing of the program. -/
namespace Go.Proofs.YtoenkgenoloihaaDoor

set_option linter.unusedSimpArgs false
set_option linter.unusedVariables false

theorem mir_ltrA {c : UInt8} (h : c ∈ ltr) : mir c ∈ ltr := by
  simp only [ltr, List.mem_cons, List.not_mem_nil, or_false] at h
  rcases h with rfl | rfl | rfl <;> decide

theorem mir_mirA {c : UInt8} (h : c ∈ ltr) : mir (mir c) = c := by
  simp only [ltr, List.mem_cons, List.not_mem_nil, or_false] at h
  rcases h with rfl | rfl | rfl <;> decide

theorem words_iffA : ∀ (n : Nat) (w : List UInt8), w ∈ words n ↔ w.length = n ∧ ∀ c ∈ w, c ∈ ltr
  | 0, w => by
    simp only [words, List.mem_cons, List.not_mem_nil, or_false, List.length_eq_zero_iff]
    constructor
    · rintro rfl; simp
    · exact fun h => h.1
  | n + 1, [] => by simp [words_cons]
  | n + 1, c :: w => by
    rw [words_cons]
    simp only [List.mem_flatMap, List.mem_map, List.cons.injEq, List.length_cons, Nat.add_right_cancel_iff, List.mem_cons, forall_eq_or_imp]
    constructor
    · rintro ⟨d, hd, u, hu, rfl, rfl⟩
      have := (words_iffA n u).1 hu
      exact ⟨this.1, hd, this.2⟩
    · rintro ⟨h1, h2, h3⟩
      exact ⟨c, h2, w, (words_iffA n w).2 ⟨h1, h3⟩, rfl, rfl⟩

theorem cls_iffA {n : Nat} {w : List UInt8} : w ∈ clsL sp0 n ↔ (w.length = n ∧ ∀ c ∈ w, c ∈ ltr) ∧ fin sp0 w = sp0 := by
  rw [clsL, List.mem_filter, words_iffA, spE_iff]

theorem fin_hd (l : List UInt8) : 0 ≤ (fin sp0 l).h ∧ (fin sp0 l).h ≤ 7 := by
  have h := fin_ok sp0_ok l
  simp only [Sp.okB] at h
  exact ⟨h.2.2.2.2.1, h.2.2.2.2.2⟩

theorem wayB_hd (a : Sp) (k0 : 0 ≤ a.h) (k7 : a.h ≤ 7) : 0 ≤ (wayB a).h ∧ (wayB a).h ≤ 7 := by
  simp only [wayB]; omega

theorem wayB_wayB (a : Sp) (k0 : 0 ≤ a.h) (k7 : a.h ≤ 7) : wayB (wayB a) = a := by
  obtain ⟨a0, a1, a2, a3, a4⟩ := a
  simp only at k0 k7
  have e8 : a4 = 0 ∨ a4 = 1 ∨ a4 = 2 ∨ a4 = 3 ∨ a4 = 4 ∨ a4 = 5 ∨ a4 = 6 ∨ a4 = 7 := by omega
  rcases e8 with rfl | rfl | rfl | rfl | rfl | rfl | rfl | rfl <;> simp [wayB, tu0, tu1, tu2, tu3]

theorem spn_letters {w : List UInt8} (h : ∀ c ∈ w, c ∈ ltr) (k : Nat) : ∀ c ∈ spn w k, c ∈ ltr := fun c hc => by
  simp only [spn, List.mem_append] at hc
  rcases hc with hc | hc
  · exact h c (List.mem_of_mem_drop hc)
  · exact h c (List.mem_of_mem_take hc)

theorem cls_spn {n : Nat} {w : List UInt8} (h : w ∈ clsL sp0 n) (k : Nat) : spn w k ∈ clsL sp0 n := by
  rw [cls_iffA] at h ⊢
  refine ⟨⟨by rw [spn_len, h.1.1], spn_letters h.1.2 k⟩, ?_⟩
  have h1 := h.2
  rw [← List.take_append_drop k w, fin_append] at h1
  obtain ⟨b0, b7⟩ := fin_hd (w.take k)
  have h2 := (fin_back _ b0 b7 _).1 h1
  obtain ⟨c0, c7⟩ := wayB_hd _ b0 b7
  rw [spn, fin_append, h2]
  exact (fin_back _ c0 c7 _).2 (wayB_wayB _ b0 b7).symm

def aroundA (s : Sp) : Sp := ⟨s.x0, s.x1, s.x2, s.x3, (s.h + 4) % 8⟩

def hdsA : List Int := [0, 1, 2, 3, 4, 5, 6, 7]

theorem hdsA_mem {h : Int} (h0 : 0 ≤ h) (h7 : h ≤ 7) : h ∈ hdsA := by
  have e : h = 0 ∨ h = 1 ∨ h = 2 ∨ h = 3 ∨ h = 4 ∨ h = 5 ∨ h = 6 ∨ h = 7 := by omega
  rcases e with rfl | rfl | rfl | rfl | rfl | rfl | rfl | rfl <;> simp [hdsA]

theorem step_backA8 : ∀ c ∈ ltr, ∀ h ∈ hdsA, dd0 c h + dd0 (mir c) ((nh c h + 4) % 8) = 0 ∧ dd1 c h + dd1 (mir c) ((nh c h + 4) % 8) = 0 ∧ dd2 c h + dd2 (mir c) ((nh c h + 4) % 8) = 0 ∧ dd3 c h + dd3 (mir c) ((nh c h + 4) % 8) = 0 ∧ nh (mir c) ((nh c h + 4) % 8) = (h + 4) % 8 := by decide +kernel

theorem fin_backA : ∀ (l : List UInt8) (s : Sp), (∀ c ∈ l, c ∈ ltr) → 0 ≤ s.h → s.h ≤ 7 → fin (aroundA (fin s l)) (bak l) = aroundA s
  | [], s, _, _, _ => rfl
  | c :: l, s, hl, h0, h7 => by
    have hc := hl c (by simp)
    have hb := nh_bd c s.h h0 h7
    have ih := fin_backA l (s.next c) (fun d hd => hl d (by simp [hd])) hb.1 hb.2
    have e : bak (c :: l) = bak l ++ [mir c] := by simp [bak]
    rw [e, fin_cons, fin_snoc, ih]
    obtain ⟨e0, e1, e2, e3, e4⟩ := step_backA8 c hc s.h (hdsA_mem h0 h7)
    simp only [aroundA, Sp.next, Sp.mk.injEq]
    exact ⟨by omega, by omega, by omega, by omega, e4⟩

theorem cls_bak {n : Nat} {w : List UInt8} (h : w ∈ clsL sp0 n) : bak w ∈ clsL sp0 n := by
  rw [cls_iffA] at h ⊢
  refine ⟨⟨by rw [bak_len, h.1.1], fun c hc => ?_⟩, ?_⟩
  · simp only [bak, List.mem_reverse, List.mem_map] at hc
    obtain ⟨d, hd, rfl⟩ := hc
    exact mir_ltrA (h.1.2 d hd)
  · have e := fin_backA w sp0 h.1.2 (by decide) (by decide)
    rw [h.2, fin_rot (aroundA sp0) (by decide) (by decide)] at e
    obtain ⟨c0, c7⟩ := fin_hd (bak w)
    generalize fin sp0 (bak w) = v at *
    obtain ⟨v0, v1, v2, v3, v4⟩ := v
    simp only at c0 c7
    simp [rot, aroundA, sp0, tu0, tu1, tu2, tu3] at e ⊢
    omega

def cj (s : Sp) : Sp := ⟨s.x0, -s.x3, -s.x2, -s.x1, (8 - s.h) % 8⟩

theorem step_cj8 : ∀ c ∈ ltr, ∀ h ∈ hdsA, dd0 (mir c) ((8 - h) % 8) = dd0 c h ∧ dd1 (mir c) ((8 - h) % 8) = -dd3 c h ∧ dd2 (mir c) ((8 - h) % 8) = -dd2 c h ∧ dd3 (mir c) ((8 - h) % 8) = -dd1 c h ∧ nh (mir c) ((8 - h) % 8) = (8 - nh c h) % 8 := by decide +kernel

theorem fin_cj : ∀ (l : List UInt8) (s : Sp), (∀ c ∈ l, c ∈ ltr) → 0 ≤ s.h → s.h ≤ 7 → fin (cj s) (l.map mir) = cj (fin s l)
  | [], s, _, _, _ => rfl
  | c :: l, s, hl, h0, h7 => by
    have hb := nh_bd c s.h h0 h7
    have ih := fin_cj l (s.next c) (fun d hd => hl d (by simp [hd])) hb.1 hb.2
    rw [List.map_cons, fin_cons, fin_cons, ← ih]
    congr 1
    obtain ⟨e0, e1, e2, e3, e4⟩ := step_cj8 c (hl c (by simp)) s.h (hdsA_mem h0 h7)
    simp only [cj, Sp.next, Sp.mk.injEq]
    exact ⟨by omega, by omega, by omega, by omega, e4⟩

theorem cls_mir {n : Nat} {w : List UInt8} (h : w ∈ clsL sp0 n) : w.map mir ∈ clsL sp0 n := by
  rw [cls_iffA] at h ⊢
  refine ⟨⟨by rw [List.length_map, h.1.1], fun c hc => ?_⟩, ?_⟩
  · obtain ⟨d, hd, rfl⟩ := List.mem_map.1 hc
    exact mir_ltrA (h.1.2 d hd)
  · have e := fin_cj w sp0 h.1.2 (by decide) (by decide)
    rw [h.2] at e
    exact e

theorem cls_four {n : Nat} {w : List UInt8} (h : w ∈ clsL sp0 n) : ∀ x ∈ four w, x ∈ clsL sp0 n := fun x hx => by
  simp only [four, List.mem_cons, List.not_mem_nil, or_false] at hx
  rcases hx with rfl | rfl | rfl | rfl
  · exact h
  · exact cls_mir h
  · exact cls_bak h
  · exact cls_mir (cls_bak h)

/-- Of one class: spun, mirrored, laid backward. -/
def kin (a y : List UInt8) : Prop := ∃ x ∈ four a, orb x y

theorem cls_kin {n : Nat} {a y : List UInt8} (h : a ∈ clsL sp0 n) (hk : kin a y) : y ∈ clsL sp0 n := by
  obtain ⟨x, hx, k, _, rfl⟩ := hk
  exact cls_spn (cls_four h x hx) k

def ac (p q : Bool) (l : List UInt8) : List UInt8 := cond q (cond p (l.map mir) l).reverse (cond p (l.map mir) l)

def lett (l : List UInt8) : Prop := ∀ c ∈ l, c ∈ ltr

theorem lett_mm {l : List UInt8} (h : lett l) : (l.map mir).map mir = l := by
  rw [List.map_map]
  conv => rhs; rw [← List.map_id l]
  exact List.map_congr_left fun c hc => mir_mirA (h c hc)

theorem ac_ac {l : List UInt8} (h : lett l) (p q p' q' : Bool) : ac p' q' (ac p q l) = ac (p != p') (q != q') l := by
  have hm := lett_mm h
  cases p <;> cases q <;> cases p' <;> cases q' <;> simp [ac, hm]

theorem kin_ac {a y : List UInt8} (h : lett a) : kin a y ↔ ∃ p q, orb (ac p q a) y := by
  have hr : (bak a).map mir = a.reverse := by rw [bak, List.map_reverse, lett_mm h]
  constructor
  · rintro ⟨x, hx, ho⟩
    simp only [four, List.mem_cons, List.not_mem_nil, or_false] at hx
    rcases hx with rfl | rfl | rfl | rfl
    · exact ⟨false, false, ho⟩
    · exact ⟨true, false, ho⟩
    · exact ⟨true, true, ho⟩
    · rw [hr] at ho; exact ⟨false, true, ho⟩
  · rintro ⟨p, q, ho⟩
    cases p <;> cases q
    · exact ⟨a, by simp [four], ho⟩
    · exact ⟨(bak a).map mir, by simp [four], by rw [hr]; exact ho⟩
    · exact ⟨a.map mir, by simp [four], ho⟩
    · exact ⟨bak a, by simp [four], ho⟩

theorem orb_map {a x : List UInt8} (h : orb a x) : orb (a.map mir) (x.map mir) := by
  obtain ⟨k, hk, rfl⟩ := h
  exact ⟨k, by rw [List.length_map]; exact hk, by simp [spn, List.map_drop, List.map_take]⟩

theorem orb_rev {a x : List UInt8} (h : orb a x) : orb a.reverse x.reverse := by
  obtain ⟨k, hk, rfl⟩ := h
  refine ⟨a.length - k, by rw [List.length_reverse]; omega, ?_⟩
  simp only [spn, List.reverse_append]
  rw [List.drop_reverse, List.take_reverse]
  rw [show a.length - (a.length - k) = k by omega]

theorem orb_ac {a x : List UInt8} (h : orb a x) (p q : Bool) : orb (ac p q a) (ac p q x) := by
  cases p <;> cases q
  · exact h
  · exact orb_rev h
  · exact orb_map h
  · exact orb_rev (orb_map h)

theorem lett_ac {a : List UInt8} (h : lett a) (p q : Bool) : lett (ac p q a) := fun c hc => by
  have hm : ∀ c ∈ a.map mir, c ∈ ltr := fun c hc => by obtain ⟨d, hd, rfl⟩ := List.mem_map.1 hc; exact mir_ltrA (h d hd)
  cases p <;> cases q
  · exact h c hc
  · exact h c (List.mem_reverse.1 hc)
  · exact hm c hc
  · exact hm c (List.mem_reverse.1 hc)

theorem lett_orb {a x : List UInt8} (h : lett a) (ho : orb a x) : lett x := by obtain ⟨k, _, rfl⟩ := ho; exact spn_letters h k

theorem kin_lett {a y : List UInt8} (h : lett a) (hk : kin a y) : lett y := by
  obtain ⟨p, q, ho⟩ := (kin_ac h).1 hk
  exact lett_orb (lett_ac h p q) ho

theorem kin_refl (a : List UInt8) : kin a a := ⟨a, by simp [four], orb_refl a⟩

theorem kin_sym {a y : List UInt8} (h : lett a) (hk : kin a y) : kin y a := by
  obtain ⟨p, q, ho⟩ := (kin_ac h).1 hk
  have h2 := orb_ac ho p q
  rw [ac_ac h] at h2
  have e : ac (p != p) (q != q) a = a := by cases p <;> cases q <;> rfl
  rw [e] at h2
  exact (kin_ac (kin_lett h hk)).2 ⟨p, q, orb_symm h2⟩

theorem kin_trans {a x y : List UInt8} (h : lett a) (h1 : kin a x) (h2 : kin x y) : kin a y := by
  obtain ⟨p, q, ho⟩ := (kin_ac h).1 h1
  obtain ⟨p', q', ho'⟩ := (kin_ac (kin_lett h h1)).1 h2
  have h3 := orb_ac ho p' q'
  rw [ac_ac h] at h3
  exact (kin_ac h).2 ⟨_, _, orb_trans h3 ho'⟩

theorem class_kin {l : List UInt8} (h0 : 0 < l.length) : kin l (classL l) ∧ ∀ a, kin l a → ¬ a < classL l := by
  obtain ⟨h1, h2⟩ := class_spec h0
  exact ⟨h1, fun a ⟨x, hx, ho⟩ => h2 x hx a ho⟩

/-- The texts of n pieces come in order. -/
theorem words_lt : ∀ n, (words n).Pairwise fun a b => a < b
  | 0 => by simp [words]
  | n + 1 => by
    rw [words_cons, List.pairwise_flatMap]
    constructor
    · intro c _
      exact List.Pairwise.map _ (fun a b h => List.cons_lt_cons_iff.2 (.inr ⟨rfl, h⟩)) (words_lt n)
    · have hl : ltr.Pairwise fun a b => a < b := by decide
      refine hl.imp fun {a b} hab x hx y hy => ?_
      obtain ⟨u, _, rfl⟩ := List.mem_map.1 hx
      obtain ⟨v, _, rfl⟩ := List.mem_map.1 hy
      exact List.cons_lt_cons_iff.2 (.inl hab)

theorem cls_lt (a : Sp) (n : Nat) : (clsL a n).Pairwise fun a b => a < b := (words_lt n).filter _

def isFst (r : List UInt8) : Bool := decide (classL r = r)

/-- The first ones of all classes of rings of n pieces, in order. -/
def acL (n : Nat) : List (List UInt8) := (clsL sp0 n).filter isFst

/-- A ring is of a class that has been told if and only if it is not its class's first one. -/
theorem told_iff {n j : Nat} (hn : 0 < n) {r : List UInt8} (hr : (clsL sp0 n)[j]? = some r) : (∃ i x, i < j ∧ (clsL sp0 n)[i]? = some x ∧ kin x r) ↔ isFst r = false := by
  have hm := List.mem_of_getElem? hr
  have hi := cls_iffA.1 hm
  have h0 : 0 < r.length := by rw [hi.1.1]; exact hn
  obtain ⟨c1, c2⟩ := class_kin h0
  have hp := List.pairwise_iff_getElem.1 (cls_lt sp0 n)
  obtain ⟨hj, ej⟩ := List.getElem?_eq_some_iff.1 hr
  simp only [isFst, decide_eq_false_iff_not]
  constructor
  · rintro ⟨i, x, hij, hx, hk⟩ e
    obtain ⟨hi', ei⟩ := List.getElem?_eq_some_iff.1 hx
    have hlt := hp i j hi' hj hij
    rw [ei, ej] at hlt
    have hxm := cls_iffA.1 (List.mem_of_getElem? hx)
    refine c2 x (kin_sym hxm.1.2 hk) ?_
    rw [e]
    exact hlt
  · intro hne
    have hcm := cls_kin hm c1
    obtain ⟨i, hi2⟩ := List.mem_iff_getElem?.1 hcm
    obtain ⟨hi', ei⟩ := List.getElem?_eq_some_iff.1 hi2
    refine ⟨i, classL r, ?_, hi2, kin_sym hi.1.2 c1⟩
    rcases Nat.lt_trichotomy i j with h | h | h
    · exact h
    · subst h
      rw [hr] at hi2
      simp only [Option.some.injEq] at hi2
      exact absurd hi2.symm hne
    · have hlt := hp j i hj hi' h
      rw [ei, ej] at hlt
      exact absurd hlt (c2 r (kin_refl r))

end Go.Proofs.YtoenkgenoloihaaDoor

/- Which arrays have been told of when j rings have been looked at. -/
namespace Go.Proofs.YtoenkgenoloihaaDoor

set_option linter.unusedVariables false

theorem kin_len {a y : List UInt8} (h : kin a y) : y.length = a.length := by
  obtain ⟨x, hx, ho⟩ := h
  rw [orb_len ho, four_len hx]

def TD (n j : Nat) (T : List Lp) : Prop := ∀ y, y ∈ T ↔ ∃ i x a, i < j ∧ (clsL sp0 n)[i]? = some x ∧ kin x a ∧ y = mkLp a

theorem TD_start (n : Nat) : TD n 0 [] := fun y => by simp

theorem cls_lenA {n i : Nat} {x : List UInt8} (h : (clsL sp0 n)[i]? = some x) : x.length = n := (cls_iffA.1 (List.mem_of_getElem? h)).1.1

theorem cls_lett {n i : Nat} {x : List UInt8} (h : (clsL sp0 n)[i]? = some x) : lett x := (cls_iffA.1 (List.mem_of_getElem? h)).1.2

theorem TD_hit {n j : Nat} {T : List Lp} {r : List UInt8} (h : TD n j T) (hn : n ≤ 40) (hr : (clsL sp0 n)[j]? = some r) : mkLp r ∈ T ↔ ∃ i x, i < j ∧ (clsL sp0 n)[i]? = some x ∧ kin x r := by
  rw [h]
  constructor
  · rintro ⟨i, x, a, hi, hx, hk, e⟩
    have hl := cls_lenA hr
    have h2 := cls_lenA hx
    have h3 := kin_len hk
    have := mk_inj (by omega) (by omega) e
    exact ⟨i, x, hi, hx, this ▸ hk⟩
  · rintro ⟨i, x, hi, hx, hk⟩
    exact ⟨i, x, r, hi, hx, hk, rfl⟩

theorem TD_told {n j : Nat} {T : List Lp} {r : List UInt8} (h : TD n j T) (h0 : 0 < n) (hn : n ≤ 40) (hr : (clsL sp0 n)[j]? = some r) : decide (mkLp r ∈ T) = !isFst r := by
  have h1 := (TD_hit h hn hr).trans (told_iff h0 hr)
  cases hf : isFst r with
  | false => rw [decide_eq_true (h1.2 hf)]; rfl
  | true => rw [decide_eq_false (fun g => by rw [h1.1 g] at hf; cases hf)]; rfl

theorem TD_skip {n j : Nat} {T : List Lp} {r : List UInt8} (h : TD n j T) (h0 : 0 < n) (hn : n ≤ 40) (hr : (clsL sp0 n)[j]? = some r) (hf : isFst r = false) : TD n (j + 1) T := fun y => by
  rw [h]
  constructor
  · rintro ⟨i, x, a, hi, hx, hk, e⟩; exact ⟨i, x, a, by omega, hx, hk, e⟩
  · rintro ⟨i, x, a, hi, hx, hk, e⟩
    by_cases hij : i = j
    · subst hij
      rw [hr] at hx
      simp only [Option.some.injEq] at hx
      subst hx
      obtain ⟨i2, x2, hi2, hx2, hk2⟩ := (told_iff h0 hr).2 hf
      exact ⟨i2, x2, a, hi2, hx2, kin_trans (cls_lett hx2) hk2 hk, e⟩
    · exact ⟨i, x, a, by omega, hx, hk, e⟩

theorem TD_next {n j : Nat} {T V : List Lp} {r : List UInt8} (h : TD n j T) (hr : (clsL sp0 n)[j]? = some r) (hV : IsVar r V) : TD n (j + 1) (T ++ V) := fun y => by
  rw [List.mem_append, h, hV.mem]
  constructor
  · rintro (⟨i, x, a, hi, hx, hk, e⟩ | ⟨x, hx, a, ho, e⟩)
    · exact ⟨i, x, a, by omega, hx, hk, e⟩
    · exact ⟨j, r, a, by omega, hr, ⟨x, hx, ho⟩, e⟩
  · rintro ⟨i, x, a, hi, hx, hk, e⟩
    by_cases hij : i = j
    · subst hij
      rw [hr] at hx
      simp only [Option.some.injEq] at hx
      subst hx
      obtain ⟨x2, hx2, ho⟩ := hk
      exact .inr ⟨x2, hx2, a, ho, e⟩
    · exact .inl ⟨i, x, a, by omega, hx, hk, e⟩

def acP (n j : Nat) : List (List UInt8) := ((clsL sp0 n).take j).filter isFst

theorem acP_start (n : Nat) : acP n 0 = [] := rfl

theorem acP_yes {n j : Nat} {r : List UInt8} (hr : (clsL sp0 n)[j]? = some r) (hf : isFst r = true) : acP n (j + 1) = acP n j ++ [r] := by
  rw [acP, List.take_add_one, hr, List.filter_append]
  simp [acP, hf]

theorem acP_no {n j : Nat} {r : List UInt8} (hr : (clsL sp0 n)[j]? = some r) (hf : isFst r = false) : acP n (j + 1) = acP n j := by
  rw [acP, List.take_add_one, hr, List.filter_append]
  simp [acP, hf]

theorem acP_end (n j : Nat) (h : (clsL sp0 n).length ≤ j) : acP n j = acL n := by rw [acP, List.take_of_length_le h]; rfl

theorem acP_le (n j : Nat) : (acP n j).length ≤ j := by
  refine Nat.le_trans (List.length_filter_le _ _) ?_
  rw [List.length_take]; omega

end Go.Proofs.YtoenkgenoloihaaDoor

/- Laws on a map that a call has made: an entry is met, then stored. -/
namespace Go.Proofs.YtoenkgenoloihaaDoor
open Go Go.ChangeMaps Go.MapKept Go.ChangeShapes Go.WideShapes
open Go.WideElems (Fit rd rg pl rd_val elemAt entry_then_store)
open Go.WideMaps (KeyLaw)
open Go.Maps (Keyed)

section
variable {H : Type} {P : Program} {k t e : TypeId} {R : Value → Option (DataW H × List MemPlace)} {w : World} {b n : Nat} {D : DataW H}

theorem own_block {es : Array MapEntry} {clock : Nat} (hb : w.heap[b]? = some (.map es clock)) (h : w.ownsMap P k R b n D) {w2 : World} (hb2 : w2.heap[b]? = some (.map es clock)) : w2.ownsMap P k R b n D := by
  obtain ⟨es', clock', hb', F, hs, hD⟩ := h
  rw [hb] at hb'
  cases hb'
  exact ⟨es, clock, hb2, F, hs, hD⟩

theorem setBlock_grown {es : Array MapEntry} {clock : Nat} {X' : Obj} (hb : w.heap[b]? = some (.map es clock)) : w.grownBy (setBlock w b X') (some b) :=
  ⟨rfl, rfl, rfl, by simp [setBlock], fun i _ hi => heap_setBlock_other hb _ (fun e => hi (by rw [e]))⟩

theorem map_entry (h : w.ownsMap P k R b n D) (K : KeyLaw P k) (ht : P.underlying t = some (.map k e)) (hn : n < maxLen) {z : Value} (hz : ∀ u : World, (zeroValue e).run P u = .ok z u) {zd : DataW H} {zp : List MemPlace} (hzd : R z = some (zd, zp))
    {key : Value} {kl : Lit} (hkey : keyOf P k key = some kl) :
    ∃ (v0 : Value) (st : Nat) (es1 : Array MapEntry) (c1 : Nat), (Instr.mapEntry t (.map (some b)) key).run P w = .ok (.tuple #[v0, goInt st]) (setBlock w b (.map es1 c1)) ∧ w.grownBy (setBlock w b (.map es1 c1)) (some b) ∧ (setBlock w b (.map es1 c1)).heap[b]? = some (.map es1 c1) ∧ (∃ ps, R v0 = some (D.atKey kl zd, ps)) ∧ b < w.heap.size ∧
      ∀ (w2 : World) (val : Value) (d : DataW H) (ps : List MemPlace), w2.heap[b]? = some (.map es1 c1) → R val = some (d, ps) →
        ∃ w3, (Instr.entryStore t (.map (some b)) (goInt st) val).run P w2 = .ok () w3 ∧ w3.ownsMap P k R b (n + 1) (D.put kl d) ∧ w2.grownBy w3 (some b) := by
  obtain ⟨v, ps, hrun, hRv⟩ := h.lookup (Keyed.of_law K) ht (hz w) hzd hkey
  have hup := fun (val : Value) (d : DataW H) (ps : List MemPlace) (hv : R val = some (d, ps)) => h.update (Keyed.of_law K) ht hn hkey hv
  obtain ⟨es, clock, hb, F, hs, hD⟩ := h
  obtain ⟨v0, st, es1, clock1, h1, h2, h3⟩ := entry_then_store K ht hz hb F hkey
  have e0 : v = v0 := by
    rcases K.find w hkey es.toList F.keys with ⟨f1, f2⟩ | ⟨j, e0, f1, f2, f3⟩
    · have hl : (Instr.lookup t (.map (some b)) key false).run P w = .ok z w := by simp [Instr.lookup, run_underlying ht, MapKept.run_getObj_map hb, K.check w _ hkey, f1, hz, Result.andThen]
      rw [hl] at hrun
      injection hrun with hrun
      rcases h2 with ⟨e1, he1, hk1, _⟩ | ⟨_, hv0⟩
      · exact absurd hk1 (f2 e1 he1)
      · rw [hv0, hrun]
    · have hl : (Instr.lookup t (.map (some b)) key false).run P w = .ok e0.val w := by simp [Instr.lookup, run_underlying ht, MapKept.run_getObj_map hb, K.check w _ hkey, f1, Result.andThen]
      have hj : es[j]? = some e0 := by simpa using f2
      have hm : ∃ r W', (Instr.mapEntry t (.map (some b)) key).run P w = .ok (.tuple #[e0.val, r]) W' := by
        refine ⟨goInt e0.born, setBlock w b (.map (es.modify j fun e => { e with key := key }) clock), ?_⟩
        simp [Instr.mapEntry, run_underlying ht, MapKept.run_getObj_map hb, K.check w false hkey, f1, hj, f3, K.stays w hkey, MapKept.run_setObj_map _ hb, Result.andThen, setBlock]
      obtain ⟨r, W', hm⟩ := hm
      rw [hl] at hrun
      injection hrun with hrun
      rw [h1] at hm
      injection hm with hm
      simp at hm
      rw [← hrun, hm.1]
  subst e0
  refine ⟨v, st, es1, clock1, h1, setBlock_grown hb, heap_setBlock_same hb _, ⟨ps, hRv⟩, (Array.getElem?_eq_some_iff.1 hb).1, fun w2 val d ps' hX hR => ?_⟩
  obtain ⟨es', clock', g1, g2⟩ := h3 w2 val hX
  obtain ⟨w', u1, u2, _⟩ := hup val d ps' hR
  rw [g2] at u1
  injection u1 with _ u1
  subst u1
  exact ⟨_, g1, own_block (heap_setBlock_same hb _) u2 (heap_setBlock_same hX _), setBlock_grown hX⟩

theorem wpList_mapEntry {ops : Array Oper} {rest : List Oper} {o : Oper} {a : Act} {Q : Exit → Act → World → Prop} (W1 : World) (r key : Value) (hg : o.guard = none) (m x : Operand) (hop : o.op = Op.mapEntry t m x)
    (hm : a.eval m = .map (some b)) (hx : a.eval x = key) (hrun : (Instr.mapEntry t (.map (some b)) key).run P w = .ok r W1) (hK : wpList P ops Q rest (a.put o.dst r) W1) : wpList P ops Q (o :: rest) a w := by
  refine wpList_plain hg fun K' hK' => ?_
  unfold Oper.wp
  simp [execOp, hop, hm, hx, hrun, Result.andThen]
  exact hK' _ _ hK

theorem wpList_entryStore {ops : Array Oper} {rest : List Oper} {o : Oper} {a : Act} {Q : Exit → Act → World → Prop} (W1 : World) (st val : Value) (hg : o.guard = none) (m s x : Operand) (hop : o.op = Op.entryStore t m s x)
    (hm : a.eval m = .map (some b)) (hs : a.eval s = st) (hx : a.eval x = val) (hrun : (Instr.entryStore t (.map (some b)) st val).run P w = .ok () W1) (hK : wpList P ops Q rest (a.put o.dst undef) W1) : wpList P ops Q (o :: rest) a w := by
  refine wpList_plain hg fun K' hK' => ?_
  unfold Oper.wp
  simp [execOp, hop, hm, hs, hx, hrun, Result.andThen]
  exact hK' _ _ hK

end

end Go.Proofs.YtoenkgenoloihaaDoor

/- Cells handed on, as in Cl: those of a part, and lists of parts. -/
namespace Go.Proofs.YtoenkgenoloihaaDoor
open Go.ChangeShapes Go.WideShapes Go.ChangeAt Go.RowKit

section
variable {B0 : Nat} {v00 v01 v02 v03 v04 v05 : Value} {W w1 : World}
theorem pr_below (h : W.cell? ⟨B0, 0, none⟩ = some v00 ∧ W.cell? ⟨B0, 1, none⟩ = some v01 ∧ W.cell? ⟨B0, 2, none⟩ = some v02 ∧ W.cell? ⟨B0, 3, none⟩ = some v03 ∧ W.cell? ⟨B0, 4, none⟩ = some v04 ∧ W.cell? ⟨B0, 5, none⟩ = some v05) (h0 : B0 < W.heap.size) (hb : Below W.heap.size W w1) : w1.cell? ⟨B0, 0, none⟩ = some v00 ∧ w1.cell? ⟨B0, 1, none⟩ = some v01 ∧ w1.cell? ⟨B0, 2, none⟩ = some v02 ∧ w1.cell? ⟨B0, 3, none⟩ = some v03 ∧ w1.cell? ⟨B0, 4, none⟩ = some v04 ∧ w1.cell? ⟨B0, 5, none⟩ = some v05 :=
  let ⟨k0, k1, k2, k3, k4, k5⟩ := h
  ⟨cl_below k0 h0 hb, cl_below k1 h0 hb, cl_below k2 h0 hb, cl_below k3 h0 hb, cl_below k4 h0 hb, cl_below k5 h0 hb⟩

theorem pr_alloc (h : W.cell? ⟨B0, 0, none⟩ = some v00 ∧ W.cell? ⟨B0, 1, none⟩ = some v01 ∧ W.cell? ⟨B0, 2, none⟩ = some v02 ∧ W.cell? ⟨B0, 3, none⟩ = some v03 ∧ W.cell? ⟨B0, 4, none⟩ = some v04 ∧ W.cell? ⟨B0, 5, none⟩ = some v05) (o : Obj) : (W.alloc o).cell? ⟨B0, 0, none⟩ = some v00 ∧ (W.alloc o).cell? ⟨B0, 1, none⟩ = some v01 ∧ (W.alloc o).cell? ⟨B0, 2, none⟩ = some v02 ∧ (W.alloc o).cell? ⟨B0, 3, none⟩ = some v03 ∧ (W.alloc o).cell? ⟨B0, 4, none⟩ = some v04 ∧ (W.alloc o).cell? ⟨B0, 5, none⟩ = some v05 :=
  let ⟨k0, k1, k2, k3, k4, k5⟩ := h
  ⟨cl_alloc k0 o, cl_alloc k1 o, cl_alloc k2 o, cl_alloc k3 o, cl_alloc k4 o, cl_alloc k5 o⟩

theorem pr_re {o : Obj} (h : (W.alloc o).cell? ⟨B0, 0, none⟩ = some v00 ∧ (W.alloc o).cell? ⟨B0, 1, none⟩ = some v01 ∧ (W.alloc o).cell? ⟨B0, 2, none⟩ = some v02 ∧ (W.alloc o).cell? ⟨B0, 3, none⟩ = some v03 ∧ (W.alloc o).cell? ⟨B0, 4, none⟩ = some v04 ∧ (W.alloc o).cell? ⟨B0, 5, none⟩ = some v05) (h0 : B0 < W.heap.size) (o2 : Obj) : (W.alloc o2).cell? ⟨B0, 0, none⟩ = some v00 ∧ (W.alloc o2).cell? ⟨B0, 1, none⟩ = some v01 ∧ (W.alloc o2).cell? ⟨B0, 2, none⟩ = some v02 ∧ (W.alloc o2).cell? ⟨B0, 3, none⟩ = some v03 ∧ (W.alloc o2).cell? ⟨B0, 4, none⟩ = some v04 ∧ (W.alloc o2).cell? ⟨B0, 5, none⟩ = some v05 :=
  let ⟨k0, k1, k2, k3, k4, k5⟩ := h
  ⟨cl_re k0 h0 o2, cl_re k1 h0 o2, cl_re k2 h0 o2, cl_re k3 h0 o2, cl_re k4 h0 o2, cl_re k5 h0 o2⟩

theorem pr_drew (h : W.cell? ⟨B0, 0, none⟩ = some v00 ∧ W.cell? ⟨B0, 1, none⟩ = some v01 ∧ W.cell? ⟨B0, 2, none⟩ = some v02 ∧ W.cell? ⟨B0, 3, none⟩ = some v03 ∧ W.cell? ⟨B0, 4, none⟩ = some v04 ∧ W.cell? ⟨B0, 5, none⟩ = some v05) : W.drew.cell? ⟨B0, 0, none⟩ = some v00 ∧ W.drew.cell? ⟨B0, 1, none⟩ = some v01 ∧ W.drew.cell? ⟨B0, 2, none⟩ = some v02 ∧ W.drew.cell? ⟨B0, 3, none⟩ = some v03 ∧ W.drew.cell? ⟨B0, 4, none⟩ = some v04 ∧ W.drew.cell? ⟨B0, 5, none⟩ = some v05 := h

theorem pr_undrew (h : W.drew.cell? ⟨B0, 0, none⟩ = some v00 ∧ W.drew.cell? ⟨B0, 1, none⟩ = some v01 ∧ W.drew.cell? ⟨B0, 2, none⟩ = some v02 ∧ W.drew.cell? ⟨B0, 3, none⟩ = some v03 ∧ W.drew.cell? ⟨B0, 4, none⟩ = some v04 ∧ W.drew.cell? ⟨B0, 5, none⟩ = some v05) : W.cell? ⟨B0, 0, none⟩ = some v00 ∧ W.cell? ⟨B0, 1, none⟩ = some v01 ∧ W.cell? ⟨B0, 2, none⟩ = some v02 ∧ W.cell? ⟨B0, 3, none⟩ = some v03 ∧ W.cell? ⟨B0, 4, none⟩ = some v04 ∧ W.cell? ⟨B0, 5, none⟩ = some v05 := h

theorem pr_set (h : W.cell? ⟨B0, 0, none⟩ = some v00 ∧ W.cell? ⟨B0, 1, none⟩ = some v01 ∧ W.cell? ⟨B0, 2, none⟩ = some v02 ∧ W.cell? ⟨B0, 3, none⟩ = some v03 ∧ W.cell? ⟨B0, 4, none⟩ = some v04 ∧ W.cell? ⟨B0, 5, none⟩ = some v05) (p : Addr) (u : Value) (h0 : p.block ≠ B0) : (W.setCell p u).cell? ⟨B0, 0, none⟩ = some v00 ∧ (W.setCell p u).cell? ⟨B0, 1, none⟩ = some v01 ∧ (W.setCell p u).cell? ⟨B0, 2, none⟩ = some v02 ∧ (W.setCell p u).cell? ⟨B0, 3, none⟩ = some v03 ∧ (W.setCell p u).cell? ⟨B0, 4, none⟩ = some v04 ∧ (W.setCell p u).cell? ⟨B0, 5, none⟩ = some v05 :=
  let ⟨k0, k1, k2, k3, k4, k5⟩ := h
  ⟨cl_set k0 p u h0, cl_set k1 p u h0, cl_set k2 p u h0, cl_set k3 p u h0, cl_set k4 p u h0, cl_set k5 p u h0⟩

theorem pr_far {row : Option Nat} (h : W.cell? ⟨B0, 0, none⟩ = some v00 ∧ W.cell? ⟨B0, 1, none⟩ = some v01 ∧ W.cell? ⟨B0, 2, none⟩ = some v02 ∧ W.cell? ⟨B0, 3, none⟩ = some v03 ∧ W.cell? ⟨B0, 4, none⟩ = some v04 ∧ W.cell? ⟨B0, 5, none⟩ = some v05) (h0 : some B0 ≠ row) (hg : W.grownBy w1 row) : w1.cell? ⟨B0, 0, none⟩ = some v00 ∧ w1.cell? ⟨B0, 1, none⟩ = some v01 ∧ w1.cell? ⟨B0, 2, none⟩ = some v02 ∧ w1.cell? ⟨B0, 3, none⟩ = some v03 ∧ w1.cell? ⟨B0, 4, none⟩ = some v04 ∧ w1.cell? ⟨B0, 5, none⟩ = some v05 :=
  let ⟨k0, k1, k2, k3, k4, k5⟩ := h
  ⟨hg.cell k0 h0, hg.cell k1 h0, hg.cell k2 h0, hg.cell k3 h0, hg.cell k4 h0, hg.cell k5 h0⟩
end

theorem flat_at {α : Type} (f : α → List Value) (n : Nat) (hf : ∀ a, (f a).length = n) : ∀ (l : List α) (i : Nat) (a : α), l[i]? = some a → ∀ j, j < n → ((l.map f).flatten)[n * i + j]? = (f a)[j]?
  | [], i, a, h, _, _ => by simp at h
  | b :: l, 0, a, h, j, hj => by
    simp only [List.getElem?_cons_zero, Option.some.injEq] at h
    subst h
    simp only [List.map_cons, List.flatten_cons, Nat.mul_zero, Nat.zero_add]
    rw [List.getElem?_append_left (by rw [hf]; exact hj)]
  | b :: l, i + 1, a, h, j, hj => by
    simp only [List.map_cons, List.flatten_cons]
    rw [List.getElem?_append_right (by rw [hf, Nat.mul_succ]; omega), hf, show n * (i + 1) + j - n = n * i + j by rw [Nat.mul_succ]; omega]
    exact flat_at f n hf l i a (by simpa using h) j hj

theorem flat_len {α : Type} (f : α → List Value) (n : Nat) (hf : ∀ a, (f a).length = n) (l : List α) : ((l.map f).flatten).length = l.length * n := by
  induction l with
  | nil => simp
  | cons a l ih => simp only [List.map_cons, List.flatten_cons, List.length_append, hf, ih, List.length_cons, Nat.succ_mul]; omega

def prtC (p : Sp × List UInt8) : List Value := [.int .i64 p.1.x0, .int .i64 p.1.x1, .int .i64 p.1.x2, .int .i64 p.1.x3, .int .i64 p.1.h, .string (ofL p.2)]

def prtCells (l : List (Sp × List UInt8)) : List Value := (l.map prtC).flatten

theorem prtCells_append (l m : List (Sp × List UInt8)) : prtCells (l ++ m) = prtCells l ++ prtCells m := by simp [prtCells]

/-- Parts at their place, in a block that was there. -/
def PrtAt (w : World) (g : Nat) (l : List (Sp × List UInt8)) : Prop :=
  ∀ i p, l[i]? = some p → w.cell? ⟨g, i * 6, none⟩ = some (.int .i64 p.1.x0) ∧ w.cell? ⟨g, i * 6 + 1, none⟩ = some (.int .i64 p.1.x1) ∧ w.cell? ⟨g, i * 6 + 2, none⟩ = some (.int .i64 p.1.x2) ∧ w.cell? ⟨g, i * 6 + 3, none⟩ = some (.int .i64 p.1.x3) ∧ w.cell? ⟨g, i * 6 + 4, none⟩ = some (.int .i64 p.1.h) ∧ w.cell? ⟨g, i * 6 + 5, none⟩ = some (.string (ofL p.2))

theorem PrtAt.below {w w' : World} {g n : Nat} {l : List (Sp × List UInt8)} (h : PrtAt w g l) (hg : g < n) (hb : Below n w w') : PrtAt w' g l := by
  intro i p hp
  obtain ⟨a, b, c, d, e, f⟩ := h i p hp
  refine ⟨?_, ?_, ?_, ?_, ?_, ?_⟩ <;> (rw [hb.cell hg]; assumption)

theorem prt_of {W : World} {B n g cap : Nat} {e : TypeId} {l : List (Sp × List UInt8)} (h : W.ownsRow B e 6 (.slice (some ⟨g, 0, none⟩) n cap) n (prtCells l)) (hn : l.length = n) : PrtAt W g l := by
  intro i p hp
  have hi : i < n := by rw [← hn]; exact (List.getElem?_eq_some_iff.1 hp).1
  have a := fun j (hj : j < 6) => (h.cellAt (i * 6 + j) (by omega)).trans ((by rw [Nat.mul_comm]) : _ = (prtCells l)[6 * i + j]?) |>.trans (flat_at prtC 6 (fun _ => rfl) l i p hp j hj)
  exact ⟨a 0 (by omega), a 1 (by omega), a 2 (by omega), a 3 (by omega), a 4 (by omega), a 5 (by omega)⟩

/-- The next longer parts. -/
def nxt (l : List (Sp × List UInt8)) : List (Sp × List UInt8) := l.flatMap fun p => ltr.map fun c => (p.1.next c, p.2 ++ [c])

theorem parts_nxt (a : Sp) (n : Nat) : parts a (n + 1) = nxt (parts a n) := parts_succ a n

theorem nxt_take {l : List (Sp × List UInt8)} {j : Nat} {p : Sp × List UInt8} (h : l[j]? = some p) : nxt (l.take (j + 1)) = nxt (l.take j) ++ ltr.map fun c => (p.1.next c, p.2 ++ [c]) := by
  rw [List.take_add_one, h]
  simp [nxt, List.flatMap_append]

theorem nxt_len (l : List (Sp × List UInt8)) : (nxt l).length = 3 * l.length := by
  induction l with
  | nil => rfl
  | cons a l ih =>
    simp only [nxt, List.flatMap_cons, List.length_append, List.length_map, List.length_cons] at ih ⊢
    rw [ih]
    simp [ltr]
    omega

theorem parts_ok {a : Sp} {m : Int} (ha : a.okB m) {n : Nat} {p : Sp × List UInt8} (h : p ∈ parts a n) : p.1.okB (m + 2 * n) ∧ p.2.length = n := by
  simp only [parts, List.mem_map] at h
  obtain ⟨w, hw, rfl⟩ := h
  have hl := words_len n w hw
  refine ⟨?_, hl⟩
  have := fin_ok ha w
  rwa [hl] at this

end Go.Proofs.YtoenkgenoloihaaDoor

/- A map from steps to texts that a call has made: what lies at each step. -/
namespace Go.Proofs.YtoenkgenoloihaaDoor
open Go Go.ChangeMaps Go.MapKept Go.ChangeShapes Go.WideShapes Go.RowKit
open Go.WideMaps (KeyLaw)
open Go.Maps (Keyed)

theorem stRow : (69 : TypeId) < Tryd.prog.types.size := of_decide_eq_true (by kernel_rfl)

theorem stDeep : Tryd.prog.keyTypeAt 4 69 = true := by kernel_rfl

theorem stLaid : laidOutB Tryd.prog = true := by kernel_rfl

set_option maxRecDepth 100000 in
theorem stLaw : KeyLaw Tryd.prog 69 := deep_law_laid stLaid (m := 4) (by omega) stRow stDeep (by rw [Tryd.underlying69])

def spV (s : Sp) : Value := .agg #[.int .i64 s.x0, .int .i64 s.x1, .int .i64 s.x2, .int .i64 s.x3, .int .i64 s.h]

/-- A step whose numbers fit. -/
def wfS (s : Sp) : Prop := (Lit.int .i64 s.x0).wf = true ∧ (Lit.int .i64 s.x1).wf = true ∧ (Lit.int .i64 s.x2).wf = true ∧ (Lit.int .i64 s.x3).wf = true ∧ (Lit.int .i64 s.h).wf = true

set_option maxRecDepth 100000 in
theorem stKey {s : Sp} (h : wfS s) : ∃ l, keyOf Tryd.prog 69 (spV s) = some l := by
  obtain ⟨h0, h1, h2, h3, h4⟩ := h
  have hkt : Tryd.prog.keyType 69 = true := by kernel_rfl
  have hc5 : Tryd.prog.cellsOf 69 = 5 := by kernel_rfl
  have hc4 : Tryd.prog.cellsOf 67 = 4 := by kernel_rfl
  have hc1 : Tryd.prog.cellsOf 3 = 1 := by kernel_rfl
  have hfs : Tryd.prog.underlying 69 = some (.struct (Tryd.prog.fieldsOf 69)) := by kernel_rfl
  obtain ⟨m, hm⟩ : ∃ m, Tryd.prog.types.size = m + 3 := ⟨Tryd.prog.types.size - 3, (Nat.sub_add_cancel (of_decide_eq_true (by kernel_rfl))).symm⟩
  have hL : Tryd.prog.keyLits (m + 4) 69 [.int .i64 s.x0, .int .i64 s.x1, .int .i64 s.x2, .int .i64 s.x3, .int .i64 s.h] = some [.int .i64 s.x0, .int .i64 s.x1, .int .i64 s.x2, .int .i64 s.x3, .int .i64 s.h] := by
    simp [Program.keyLits, Tryd.underlying69, Tryd.underlying67, Tryd.underlying3, hc5, hc4, hc1, h0, h1, h2, h3, h4]
    split
    · rfl
    · rename_i hc
      exact absurd (by decide) hc
  have hfm : (spV s).formed Tryd.prog 69 = true := by simp [Value.formed, spV, Tryd.underlying69, hc5]
  unfold keyOf
  rw [Tryd.underlying69]
  simp only [hkt, hfm, Bool.and_self, if_true]
  rw [hm, show (spV s).cells.toList = [.int .i64 s.x0, .int .i64 s.x1, .int .i64 s.x2, .int .i64 s.x3, .int .i64 s.h] from rfl, hL]
  exact ⟨_, rfl⟩

/-- The key that a step is. -/
noncomputable def klS (s : Sp) : Lit := (keyOf Tryd.prog 69 (spV s)).getD (.string [])
theorem klS_key {s : Sp} (h : wfS s) : keyOf Tryd.prog 69 (spV s) = some (klS s) := by
  obtain ⟨l, hl⟩ := stKey h
  simp [klS, hl]

theorem klS_inj {s s' : Sp} (h : wfS s) (h' : wfS s') (e : klS s = klS s') : s = s' := by
  have a := klS_key h
  have b := klS_key h'
  rw [e] at a
  have := stLaw.inj a b
  obtain ⟨a0, a1, a2, a3, a4⟩ := s
  obtain ⟨b0, b1, b2, b3, b4⟩ := s'
  simpa [spV] using this

set_option maxRecDepth 100000 in
theorem klS_lit {s : Sp} (h : wfS s) : WideAt.IsKeyLit (klS s) := (Keyed.of_law stLaw).key (klS_key h)

theorem wf_of {s : Sp} {n : Int} (h : s.okB n) (hn : n ≤ 1000000) : wfS s := by
  obtain ⟨⟨b0, b0'⟩, ⟨b1, b1'⟩, ⟨b2, b2'⟩, ⟨b3, b3'⟩, b4, b5⟩ := h
  refine ⟨?_, ?_, ?_, ?_, ?_⟩ <;> exact WalkArith.wf_i64 (by omega)

/-- How a slice's header reads. -/
def hdrR (v : Value) : Option (DataW Unit × List MemPlace) :=
  match v with
  | .slice none 0 0 => some (.nil, [])
  | .slice (some ⟨g, 0, none⟩) n c => some (.agg [.lit (.int .i64 g), .lit (.int .i64 n), .lit (.int .i64 c)], [])
  | _ => none

theorem hdrR_nil : hdrR (.slice none 0 0) = some (.nil, []) := rfl

theorem hdrR_some (g n c : Nat) : hdrR (.slice (some ⟨g, 0, none⟩) n c) = some (.agg [.lit (.int .i64 g), .lit (.int .i64 n), .lit (.int .i64 c)], []) := rfl

theorem hdrR_of {W : World} {B e size n : Nat} {v : Value} {xs : List Value} (h : W.ownsRow B e size v n xs) : ∃ d, hdrR v = some (d, []) := by
  rcases h.2 with ⟨rfl, _⟩ | ⟨g, cap, cur, rfl, _⟩
  · exact ⟨_, hdrR_nil⟩
  · exact ⟨_, hdrR_some g n cap⟩

theorem hdrR_inj {W : World} {B e size n : Nat} {v v' : Value} {xs : List Value} (h : W.ownsRow B e size v n xs) {d : DataW Unit} {ps ps' : List MemPlace} (h1 : hdrR v = some (d, ps)) (h2 : hdrR v' = some (d, ps')) : v = v' := by
  rcases h.2 with ⟨rfl, _⟩ | ⟨g, cap, cur, rfl, _⟩
  · rw [hdrR_nil] at h1
    unfold hdrR at h2
    split at h2
    · rfl
    · simp at h1 h2
      rw [← h1.1] at h2
      simp at h2
    · simp at h2
  · rw [hdrR_some] at h1
    unfold hdrR at h2
    split at h2
    · simp at h1 h2
      rw [← h1.1] at h2
      simp at h2
    · simp at h1 h2
      rw [← h1.1] at h2
      simp at h2
      obtain ⟨⟨e1, e2, e3⟩, _⟩ := h2
      rw [Int.ofNat_inj.1 e1, Int.ofNat_inj.1 e2, Int.ofNat_inj.1 e3]
    · simp at h2

def strV (l : List (List UInt8)) : List Value := l.map fun u => .string (ofL u)

theorem strV_append (l m : List (List UInt8)) : strV (l ++ m) = strV l ++ strV m := by simp [strV]

theorem spE_self (s : Sp) : spE s s = true := spE_iff.2 rfl

theorem spE_ne {s k : Sp} (h : s ≠ k) : spE s k = false := spE_no.2 h

theorem grp_same (s : Sp) (u : List UInt8) (G : List (Sp × List UInt8)) : grp s (G ++ [(s, u)]) = grp s G ++ [u] := by simp [grp, spE_self]

theorem grp_other {s k : Sp} (h : s ≠ k) (u : List UInt8) (G : List (Sp × List UInt8)) : grp k (G ++ [(s, u)]) = grp k G := by simp [grp, spE_ne h]

/-- Block b is a map from steps to the texts that stand at them in the list G; their rows lie from block base on, no two keys' in one. -/
def GrpAt (w : World) (b base m : Nat) (G : List (Sp × List UInt8)) : Prop :=
  b < base ∧ ∃ (D : DataW Unit) (V : Sp → Value), w.ownsMap Tryd.prog 69 hdrR b m D ∧
    (∀ s, wfS s → ∃ ps, hdrR (V s) = some (D.atKey (klS s) .nil, ps)) ∧
    (∀ s, wfS s → w.ownsRow base 9 1 (V s) (grp s G).length (strV (grp s G))) ∧
    (∀ s s', wfS s → wfS s' → s ≠ s' → (V s).ownBlock = none ∨ (V s).ownBlock ≠ (V s').ownBlock)

theorem own_far {W : World} {B b e size n : Nat} {v : Value} {xs : List Value} (h : W.ownsRow B e size v n xs) (hb : b < B) : v.ownBlock = none ∨ v.ownBlock ≠ some b := by
  cases hv : v.ownBlock with
  | none => exact .inl rfl
  | some k =>
    refine .inr fun e => ?_
    injection e with e
    have := (h.lt k hv).1
    omega

theorem own_far' {W : World} {B b e size n : Nat} {v : Value} {xs : List Value} (h : W.ownsRow B e size v n xs) (hb : b < B) : some b ≠ v.ownBlock := by
  intro e
  have := (h.lt b e.symm).1
  omega

theorem GrpAt_start (w : World) : GrpAt (w.alloc (.map #[] 0)) w.heap.size (w.heap.size + 1) 0 [] :=
  ⟨Nat.lt_succ_self _, .map [], fun _ => .slice none 0 0, World.ownsMap_made _ _ _ _, fun _ _ => ⟨[], by simp [hdrR_nil, DataW.atKey]⟩, fun _ _ => World.ownsRow_nil _ _ _ _, fun _ _ _ _ _ => .inl rfl⟩

theorem GrpAt.kept {w w' : World} {b base m : Nat} {G : List (Sp × List UInt8)} {row : Option Nat} (h : GrpAt w b base m G) (hg : w.grownBy w' row) (hb : some b ≠ row) (hr : ∀ k, row = some k → k < base ∨ w.heap.size ≤ k) : GrpAt w' b base m G := by
  obtain ⟨hbb, D, V, hM, hV, hR, hD⟩ := h
  refine ⟨hbb, D, V, hM.kept hg hb, hV, fun s hs => (hR s hs).kept hg ?_, hD⟩
  cases hv : (V s).ownBlock with
  | none => exact .inl rfl
  | some k =>
    refine .inr fun e => ?_
    have := (hR s hs).lt k hv
    rcases hr k e.symm with h | h <;> omega

set_option maxRecDepth 100000 in
theorem GrpAt.entry {w : World} {b base m : Nat} {G : List (Sp × List UInt8)} {s : Sp} (h : GrpAt w b base m G) (hs : wfS s) (hm : m < maxLen) :
    ∃ (v : Value) (st : Nat) (W1 : World), (Instr.mapEntry 86 (.map (some b)) (spV s)).run Tryd.prog w = .ok (.tuple #[v, goInt st]) W1 ∧ w.grownBy W1 (some b) ∧ W1.ownsRow base 9 1 v (grp s G).length (strV (grp s G)) ∧
      ∀ (w2 : World) (v' : Value) (u : List UInt8), W1.grownBy w2 v.ownBlock → w2.ownsRow base 9 1 v' ((grp s G).length + 1) (strV (grp s G) ++ [.string (ofL u)]) → (v.ownBlock = v'.ownBlock ∨ v'.ownBlock = some W1.heap.size) →
        ∃ w3, (Instr.entryStore 86 (.map (some b)) (goInt st) v').run Tryd.prog w2 = .ok () w3 ∧ GrpAt w3 b base (m + 1) (G ++ [(s, u)]) ∧ w2.grownBy w3 (some b) := by
  obtain ⟨hbb, D, V, hM, hV, hR, hD⟩ := h
  obtain ⟨v0, st, es1, c1, r1, g1, b1, ⟨ps, hv0⟩, hlt, hst⟩ := map_entry hM stLaw Tryd.underlying86 hm (z := .slice none 0 0) (fun u => by kernel_rfl) hdrR_nil (klS_key hs)
  obtain ⟨ps', hVs⟩ := hV s hs
  have hvs : V s = v0 := hdrR_inj (hR s hs) hVs hv0
  subst hvs
  refine ⟨V s, st, _, r1, g1, (hR s hs).kept g1 (own_far (hR s hs) hbb), fun w2 v' u hg hown hlies => ?_⟩
  have hb2 := (hg.block b (Nat.lt_of_lt_of_le hlt g1.size) (own_far' (hR s hs) hbb)).trans b1
  obtain ⟨d, hd⟩ := hdrR_of hown
  obtain ⟨w3, r3, m3, g3⟩ := hst w2 v' d [] hb2 hd
  refine ⟨w3, r3, ⟨hbb, D.put (klS s) d, fun k => cond (spE s k) v' (V k), m3, fun k hk => ?_, fun k hk => ?_, fun k k' hk hk' hne => ?_⟩, g3⟩
  · by_cases e : s = k
    · subst e
      exact ⟨[], by simp only [spE_self, cond_true]; rw [Maps.atKey_put_same hM.isMap (klS_lit hs)]; exact hd⟩
    · obtain ⟨q, hq⟩ := hV k hk
      exact ⟨q, by simp only [spE_ne e, cond_false]; rw [Maps.atKey_put_other (fun h => e (klS_inj hs hk h.symm))]; exact hq⟩
  · by_cases e : s = k
    · subst e
      simp only [spE_self, cond_true, grp_same, strV_append, List.length_append, List.length_cons, List.length_nil]
      exact hown.kept g3 (own_far hown hbb)
    · simp only [spE_ne e, cond_false, grp_other e]
      exact (((hR k hk).kept g1 (own_far (hR k hk) hbb)).kept hg (hD k s hk hs (Ne.symm e))).kept g3 (own_far (hR k hk) hbb)
  · have hnew : ∀ k, wfS k → s ≠ k → (V k).ownBlock = none ∨ (V k).ownBlock ≠ v'.ownBlock := by
      intro k hk e
      rcases hlies with h | h
      · rw [← h]; exact hD k s hk hs (Ne.symm e)
      · cases hv : (V k).ownBlock with
        | none => exact .inl rfl
        | some j =>
          refine .inr fun e2 => ?_
          rw [h] at e2
          injection e2 with e2
          have h1 := ((hR k hk).lt j hv).2
          have h2 := g1.size
          omega
    by_cases e : s = k
    · subst e
      simp only [spE_self, cond_true, spE_ne hne, cond_false]
      cases hv : v'.ownBlock with
      | none => exact .inl rfl
      | some j =>
        refine .inr fun e2 => ?_
        rcases hnew k' hk' hne with h | h
        · rw [h] at e2; cases e2
        · exact h (e2.symm.trans hv.symm)
    · by_cases e' : s = k'
      · subst e'
        simp only [spE_self, cond_true, spE_ne e, cond_false]
        exact hnew k hk e
      · simp only [spE_ne e, spE_ne e', cond_false]
        exact hD k k' hk hk' hne

theorem GrpAt_begin {w : World} {b : Nat} (hM : w.ownsMap Tryd.prog 69 hdrR b 0 (.map [] : DataW Unit)) : GrpAt w b w.heap.size 0 [] :=
  ⟨hM.lt, .map [], fun _ => .slice none 0 0, hM, fun _ _ => ⟨[], by simp [hdrR_nil, DataW.atKey]⟩, fun _ _ => World.ownsRow_nil _ _ _ _, fun _ _ _ _ _ => .inl rfl⟩

/-- 'm[k]': the texts at a step, in whatever world the map stands. -/
theorem GrpAt.look {w : World} {b base m : Nat} {G : List (Sp × List UInt8)} {s : Sp} (h : GrpAt w b base m G) (hs : wfS s) :
    ∃ v : Value, w.ownsRow base 9 1 v (grp s G).length (strV (grp s G)) ∧
      ∀ (w' : World) (row : Option Nat), w.grownBy w' row → some b ≠ row → (Instr.lookup 86 (.map (some b)) (spV s) false).run Tryd.prog w' = .ok v w' := by
  obtain ⟨hbb, D, V, hM, hV, hR, hD⟩ := h
  refine ⟨V s, hR s hs, fun w' row hg hne => ?_⟩
  obtain ⟨v, ps, hrun, hv⟩ := (hM.kept hg hne).lookup (Keyed.of_law stLaw) Tryd.underlying86 (z := .slice none 0 0) (by kernel_rfl) hdrR_nil (klS_key hs)
  obtain ⟨ps', hVs⟩ := hV s hs
  have hvs : V s = v := hdrR_inj (hR s hs) hVs hv
  subst hvs
  exact hrun

theorem below_grown {w w' : World} (h : Below w.heap.size w w') : w.grownBy w' none := ⟨h.os, h.tape, h.output, h.size, fun k hk _ => h.block k hk⟩

theorem GrpAt.below {w w' : World} {b base m : Nat} {G : List (Sp × List UInt8)} (h : GrpAt w b base m G) (hb : Below w.heap.size w w') : GrpAt w' b base m G :=
  h.kept (below_grown hb) (by simp) (by simp)

/-- One stretch behind another one whose row is new. -/
theorem grown_row {a c d : World} {row row' : Option Nat} (h : a.grownBy c row) (g : c.grownBy d row') (hr : ∀ k, row' = some k → a.heap.size ≤ k ∨ row = some k) : a.grownBy d row :=
  ⟨g.os.trans h.os, g.tape.trans h.tape, g.output.trans h.output, Nat.le_trans h.size g.size, fun k hk hne => (g.block k (Nat.lt_of_lt_of_le hk h.size) (fun e => by
    rcases hr k e.symm with h1 | h1
    · omega
    · exact hne h1.symm)).trans (h.block k hk hne)⟩

theorem grp_le (k : Sp) (l : List (Sp × List UInt8)) : (grp k l).length ≤ l.length := by
  simp only [grp, List.length_map]
  exact List.length_filter_le _ _

end Go.Proofs.YtoenkgenoloihaaDoor

/- Contract: the program's 'partsFrom'. -/
namespace Go.Proofs.YtoenkgenoloihaaDoor
open Go.ChangeShapes Go.WideShapes Go.ChangeAt Go.RowKit

set_option linter.unusedVariables false

theorem ptInfoP : (Tryd.prog.info? 90).map (fun i => (i.zero, i.size, i.bytes)) = some (some (.agg #[.int .i64 0, .int .i64 0, .int .i64 0, .int .i64 0, .int .i64 0, .string ByteArray.empty]), 6, 56) := by kernel_rfl

/-- How a piece is laid. -/
theorem laying_any {c : UInt8} (hc : pcb c = true) : ∃ g : FuncId, (g = 124 ∨ g = 125 ∨ g = 126) ∧ (∀ (x : ByteArray) (w : World), x = ⟨#[c]⟩ → Calls Tryd.prog 103 #[.string x] w fun e w' => e = .returned (.func (Fn.func g) #[] #[]) ∧ w = w') ∧
    ∀ (s : Sp), s.okB 1000000 → ∀ w : World, Calls Tryd.prog g #[.agg #[.int .i64 s.x0, .int .i64 s.x1, .int .i64 s.x2, .int .i64 s.x3, .int .i64 s.h]] w fun e w' =>
      e = .returned (.agg #[.int .i64 (s.next c).x0, .int .i64 (s.next c).x1, .int .i64 (s.next c).x2, .int .i64 (s.next c).x3, .int .i64 (s.next c).h]) ∧ Below w.heap.size w w' := by
  rcases pcb_cases hc with rfl | rfl | rfl
  · refine ⟨_, .inl rfl, fun x w hx => lay_S' x hx w, fun s hs w => ?_⟩
    obtain ⟨⟨b0, b0'⟩, ⟨b1, b1'⟩, ⟨b2, b2'⟩, ⟨b3, b3'⟩, b4, b5⟩ := hs
    exact straightP s.x0 s.x1 s.x2 s.x3 s.h b4 b5 b0 b0' b1 b1' b2 b2' b3 b3' w
  · refine ⟨_, .inr (.inl rfl), fun x w hx => lay_L' x hx w, fun s hs w => ?_⟩
    obtain ⟨⟨b0, b0'⟩, ⟨b1, b1'⟩, ⟨b2, b2'⟩, ⟨b3, b3'⟩, b4, b5⟩ := hs
    exact leftP s.x0 s.x1 s.x2 s.x3 s.h b4 b5 b0 b0' b1 b1' b2 b2' b3 b3' w
  · refine ⟨_, .inr (.inr rfl), fun x w hx => lay_R' x hx w, fun s hs w => ?_⟩
    obtain ⟨⟨b0, b0'⟩, ⟨b1, b1'⟩, ⟨b2, b2'⟩, ⟨b3, b3'⟩, b4, b5⟩ := hs
    exact rightP s.x0 s.x1 s.x2 s.x3 s.h b4 b5 b0 b0' b1 b1' b2 b2' b3 b3' w

def PrtPost (a : Sp) (n : Nat) (w : World) (e : Ending) (w' : World) : Prop :=
  ∃ g cap, e = .returned (.slice (some ⟨g, 0, none⟩) ((3 ^ n : Nat)) cap) ∧ w'.ownsRow w.heap.size 90 6 (.slice (some ⟨g, 0, none⟩) (3 ^ n) cap) (3 ^ n) (prtCells (parts a n)) ∧ Below w.heap.size w w'

theorem ltr_at {k : Nat} (hk : k < 3) : ∃ c, ltr[k]? = some c ∧ pcb c = true ∧ (ByteArray.mk #[76, 82, 83]).extract k (k + 1) = ⟨#[c]⟩ ∧ ltr.take (k + 1) = ltr.take k ++ [c] := by
  match k, hk with
  | 0, _ => exact ⟨76, rfl, rfl, by decide, rfl⟩
  | 1, _ => exact ⟨82, rfl, rfl, by decide, rfl⟩
  | 2, _ => exact ⟨83, rfl, rfl, by decide, rfl⟩

theorem parts_start (a : Sp) : prtCells (parts a 0) = [.int .i64 a.x0, .int .i64 a.x1, .int .i64 a.x2, .int .i64 a.x3, .int .i64 a.h, .string ⟨#[]⟩] := rfl

theorem litCellsP {W : World} {B n : Nat} {e : TypeId} {size : Nat} {cs : Array Value} {xs : List Value} (hn : W.heap.size = n) (hb : B ≤ n) (hs : cs.size = size) (hx : cs.toList = xs) : (W.alloc (.cells cs e)).ownsRow B e size (.slice (some ⟨n, 0, none⟩) 1 1) 1 xs := by
  subst hn hs hx
  exact ⟨by simp, .inr ⟨W.heap.size, 1, cs, rfl, hb, heap_alloc_new _ _, Nat.le_refl _, by decide, by simp, by rw [Nat.one_mul]; exact List.take_of_length_le (by simp)⟩⟩

theorem concat_run {a b t : ByteArray} (ht : a ++ b = t) (h : a.size + b.size ≤ 1000000) (w : World) : (Op.stringOp .add a b).run Tryd.prog w = .ok (.string t) w := by
  rw [← ht]
  exact run_string_add_sum w a b (by omega)

theorem blk6 {W : World} {g : Nat} {t : TypeId} {a0 a1 a2 a3 a4 a5 : Value} (h : W.heap[g]? = some (.cells #[a0, a1, a2, a3, a4, a5] t (0, 0))) :
    W.cell? ⟨g, 0, none⟩ = some a0 ∧ W.cell? ⟨g, 1, none⟩ = some a1 ∧ W.cell? ⟨g, 2, none⟩ = some a2 ∧ W.cell? ⟨g, 3, none⟩ = some a3 ∧ W.cell? ⟨g, 4, none⟩ = some a4 ∧ W.cell? ⟨g, 5, none⟩ = some a5 := by
  simp [World.cell?, h]

theorem blkLt {W : World} {g : Nat} {o : Obj} (h : W.heap[g]? = some o) : g < W.heap.size := (Array.getElem?_eq_some_iff.1 h).1

theorem own_lessP {W : World} {B B' : Nat} {e : TypeId} {size n : Nat} {v : Value} {xs : List Value} (h : W.ownsRow B e size v n xs) (hB : B' ≤ B) : W.ownsRow B' e size v n xs := by
  refine ⟨h.1, ?_⟩
  rcases h.2 with h2 | ⟨g, cap, cur, h1, h2, h3⟩
  · exact .inl h2
  · exact .inr ⟨g, cap, cur, h1, by omega, h3⟩

theorem own_nb {W : World} {B e size n : Nat} {v : Value} {xs : List Value} (h : W.ownsRow B e size v n xs) : v.ownBlock ≠ some W.heap.size := by
  intro hv
  have := (h.lt _ hv).2
  omega

set_option maxRecDepth 100000 in
set_option maxHeartbeats 3200000 in
theorem partsFrom_any (a : Sp) (ha : a.okB 900000) (n : Nat) (hn : n ≤ 10) (w : World) :
    Calls Tryd.prog 86 #[.agg #[.int .i64 a.x0, .int .i64 a.x1, .int .i64 a.x2, .int .i64 a.x3, .int .i64 a.h], .int .i64 n] w (PrtPost a n w) := by
  obtain ⟨i0, hi, iz0, iz1, iz2⟩ := info_parts ptInfoP
  go_enter Tryd.func86, Tryd.ntmps86
  go_wp2_with fail
  go_loopw [5, 15] (fun v i wr => ∃ k : Nat, k ≤ n ∧ i = .int .i64 k ∧ wr.ownsRow w.heap.size 90 6 v (3 ^ k) (prtCells (parts a k)) ∧ Below w.heap.size w wr) (fun _ i _ => n - (intOf i).toNat)
  case atStart => exact ⟨0, Nat.zero_le _, rfl, by rw [parts_start]; exact litCellsP (by simp) (Nat.le_succ _) rfl rfl, by go_grown⟩
  case round =>
    obtain ⟨k, hk, rfl, hO, hb⟩ := hrel
    have hz : w.heap.size ≤ wr.heap.size := hb.size
    have h3 : 0 < 3 ^ k := Nat.pow_pos (by decide)
    obtain ⟨g, cap, rfl, hg0, hcp⟩ := hO.form h3
    by_cases hlt : k < n
    · obtain ⟨M, hM⟩ : ∃ M, 3 ^ k = M := ⟨_, rfl⟩
      have hM1 : M ≤ 59049 := by rw [← hM]; exact Nat.pow_le_pow_right (by decide) (show k ≤ 10 by omega)
      have hMS := Lib.hid (show 3 ^ (k + 1) = 3 * M by rw [Nat.pow_succ, hM, Nat.mul_comm])
      rw [hM] at hO h3
      have hl := parts_len a k
      rw [hM] at hl
      have hok : ∀ p ∈ parts a k, p.1.okB 950000 ∧ p.2.length ≤ 10 := fun p hp => ⟨(parts_ok ha hp).1.mono (by omega), by rw [(parts_ok ha hp).2]; omega⟩
      have hnx := parts_nxt a k
      generalize parts a k = l at hO hl hok hnx
      have hg := (hO.lt g rfl).2
      have HP := Lib.hid (prt_of hO hl)
      have HL := Lib.hid hl
      have HOK := Lib.hid hok
      have HNX := Lib.hid hnx
      have HB := Lib.hid hb
      obtain ⟨wo, rfl⟩ : ∃ wo : World, wo = wr := ⟨_, rfl⟩
      rw [hM]
      clear hO hl hok hnx hb hM
      go_wp2_with fail
      go_loopw [6, 19] (fun t j wr => ∃ (jj : Nat) (v : Value), jj ≤ M ∧ j = .int .i64 jj ∧ v = t ∧ wr.ownsRow wo.heap.size 90 6 v (3 * jj) (prtCells (nxt (l.take jj))) ∧ Below wo.heap.size wo wr) (fun _ j _ => M - (intOf j).toNat)
      case atStart => exact ⟨0, _, Nat.zero_le _, rfl, rfl, World.ownsRow_nil _ _ _ _, Below.refl _ _⟩
      case round =>
        obtain ⟨j, v, hj, rfl, rfl, hN, hb2⟩ := hrel
        have hz2 := hb2.size
        by_cases hlj : j < M
        · obtain ⟨p, hp⟩ : ∃ p, l[j]? = some p := ⟨_, List.getElem?_eq_getElem (by rw [HL.out]; exact hlj)⟩
          obtain ⟨c0, c1, c2, c3, c4, c5⟩ := (HP.out.below hg hb2) j p hp
          obtain ⟨hpo, hpl⟩ := HOK.out p (List.mem_of_getElem? hp)
          have HT := Lib.hid (nxt_take hp)
          obtain ⟨s, u⟩ := p
          simp only at c0 c1 c2 c3 c4 c5 hpo hpl
          have HPO := Lib.hid hpo
          have HN := Lib.hid hN
          have HB2 := Lib.hid hb2
          obtain ⟨wi, rfl⟩ : ∃ wi : World, wi = wr := ⟨_, rfl⟩
          clear hp hpo hN hb2
          go_wp2_with fail
          go_loopw [6, 23] (fun t c wr => ∃ (cc : Nat) (v : Value), cc ≤ 3 ∧ c = .int .i64 cc ∧ v = t ∧ wr.ownsRow wo.heap.size 90 6 v (3 * j + cc) (prtCells (nxt (l.take j) ++ (ltr.take cc).map fun c => (s.next c, u ++ [c]))) ∧ v.ownBlock ≠ some wi.heap.size ∧
            wr.heap[wi.heap.size]? = some (.cells #[.int .i64 s.x0, .int .i64 s.x1, .int .i64 s.x2, .int .i64 s.x3, .int .i64 s.h, .string (ofL u)] 90 (0, 0)) ∧ Below wo.heap.size wo wr) (fun _ c _ => 4 - (intOf c).toNat)
          case atStart => exact ⟨0, v, by omega, rfl, rfl, by simpa using HN.out.alloc _, own_nb HN.out, heap_alloc_new _ _, HB2.out.alloc hz2 _⟩
          case round =>
            obtain ⟨cc, v, hcc, rfl, rfl, hN, hnb, hblk, hb2⟩ := hrel
            have hz3 := hb2.size
            have hzl := blkLt hblk
            by_cases hlc : cc < 3
            · obtain ⟨c, hc, hpc, hx, hta⟩ := ltr_at hlc
              obtain ⟨F, hF, lay1, lay2⟩ := laying_any hpc
              have LAY1 := Lib.hid (fun w => lay1 _ w hx)
              have LAY2 := Lib.hid (lay2 s (HPO.out.mono (by decide)))
              obtain ⟨T, hT⟩ : ∃ T, ofL (u ++ [c]) = T := ⟨_, rfl⟩
              have k1 : ∀ w : World, (Op.stringOp .add (ofL u) ((ByteArray.mk #[76, 82, 83]).extract cc (cc + 1))).run Tryd.prog w = .ok (.string T) w := fun w => concat_run (by rw [hx, ofL_snoc, hT]) (by rw [hx, ofL_size]; show _ + 1 ≤ _; omega) w
              have hS0 := blk6 hblk
              have HTA := Lib.hid hta
              have HTT := Lib.hid hT
              have HN := Lib.hid hN
              have HNB := Lib.hid hnb
              have HK := Lib.hid hblk
              have HB3 := Lib.hid hb2
              obtain ⟨q, hq⟩ : ∃ q, s.next c = q := ⟨_, rfl⟩
              have HV := Lib.hid (show prtCells (nxt (l.take j) ++ (ltr.take (cc + 1)).map fun c => (s.next c, u ++ [c])) = prtCells (nxt (l.take j) ++ (ltr.take cc).map fun c => (s.next c, u ++ [c])) ++ [.int .i64 q.x0, .int .i64 q.x1, .int .i64 q.x2, .int .i64 q.x3, .int .i64 q.h, .string T] by
                rw [hta, List.map_append, ← List.append_assoc, prtCells_append (_ ++ _), ← hq, ← hT]
                rfl)
              rw [hq] at LAY2
              have HQ := Lib.hid hq
              clear lay1 lay2 hx hta hT hN hnb hblk hb2 hq hc
              rcases hF with rfl | rfl | rfl
              all_goals
                go_wp2_with fail
                go_region_held3 (fun w' => w'.cell? ⟨wi.heap.size, 0, none⟩ = some (.int .i64 s.x0) ∧ w'.cell? ⟨wi.heap.size, 1, none⟩ = some (.int .i64 s.x1) ∧ w'.cell? ⟨wi.heap.size, 2, none⟩ = some (.int .i64 s.x2) ∧ w'.cell? ⟨wi.heap.size, 3, none⟩ = some (.int .i64 s.x3) ∧ w'.cell? ⟨wi.heap.size, 4, none⟩ = some (.int .i64 s.h) ∧ w'.cell? ⟨wi.heap.size, 5, none⟩ = some (.string (ofL u)))
                  (first | (first | (with_reducible assumption) | (with_reducible exact pr_drew hS0) | (with_reducible exact pr_drew (pr_alloc hS0 _)) | (with_reducible exact pr_alloc (pr_drew hS0) _) | (with_reducible refine pr_drew ?_; with_reducible assumption) | (with_reducible refine pr_alloc ?_ _; with_reducible assumption) | (with_reducible refine pr_re (by with_reducible assumption) ?_ _; (focus first | (with_reducible assumption) | omega | (simp; done) | (simp; omega))) | (with_reducible refine pr_below ?_ ?_ h1; (focus first | (with_reducible assumption) | (with_reducible refine pr_undrew ?_; with_reducible assumption)); (focus first | (with_reducible assumption) | omega | (simp; done) | (simp; omega))) | ((repeat (with_reducible refine pr_set ?_ _ _ ?_; rotate_left 1; (focus first | (with_reducible assumption) | omega | (simp; done) | (simp; omega)))); with_reducible assumption)) | (with_reducible refine pr_far ?_ ?_ hgrow; (first | (with_reducible assumption) | (with_reducible exact pr_drew (pr_alloc (by with_reducible assumption) _)) | (with_reducible exact pr_alloc (by with_reducible assumption) _)); exact Ne.symm HNB.out))
                  (first | (go_at_call 103; refine (LAY1.out _).mono ?_; rintro e w' ⟨rfl, rfl⟩) | ((with_reducible refine (LAY2.out _).mono ?_); rintro e wA ⟨rfl, h1⟩; (try with_reducible replace h1 := undrew h1); have HOA := Lib.hid (own_below HN.out h1); have hqA := h1.size; (try simp at hqA); have hzA : wi.heap.size < wA.heap.size := (by omega)) | ((refine step_append_lies _ (by rfl) _ _ _ (by rfl) wo.heap.size 90 i0 (.agg #[.int .i64 0, .int .i64 0, .int .i64 0, .int .i64 0, .int .i64 0, .string ByteArray.empty]) 6 56 Tryd.underlying87 hi iz0 iz1 iz2 (by rfl) (by decide) v (3 * j + cc) _ (by rfl) (HOA.out.alloc _) ⟨wA.heap.size, 0, none⟩ 1 1 [.int .i64 q.x0, .int .i64 q.x1, .int .i64 q.x2, .int .i64 q.x3, .int .i64 q.h, .string T] (by rfl) (by rfl) (World.news_of_block (heap_alloc_new _ _)) (by intro u hu; simp at hu; rcases hu with rfl | rfl | rfl | rfl | rfl | rfl <;> rfl) (by decide) (by unfold maxLen; omega) (by omega) (by simp; omega) (wA.heap.size + 1) (by simp) ?_); intro g2 cap2 w3 hown3 hgrow hat hlt3))
                have hBA := HB3.out.trans (h1.mono hz3)
                have hlt' := (HOA.out.alloc (.cells #[.int .i64 q.x0, .int .i64 q.x1, .int .i64 q.x2, .int .i64 q.x3, .int .i64 q.h, .string T] 90)).lt
                have HB4 := Lib.hid ((hBA.alloc (by omega) (.cells #[.int .i64 q.x0, .int .i64 q.x1, .int .i64 q.x2, .int .i64 q.x3, .int .i64 q.h, .string T] 90)).grown hgrow (by simp; omega) (fun k hk => (hlt' k hk).1))
                have hbA := (h1.block wi.heap.size hzl).trans HK.out
                have hbB := (Below.heap_alloc wA (.cells #[.int .i64 q.x0, .int .i64 q.x1, .int .i64 q.x2, .int .i64 q.x3, .int .i64 q.h, .string T] 90) wi.heap.size hzA).trans hbA
                have HK4 := Lib.hid ((hgrow.block wi.heap.size (by simp; omega) (Ne.symm HNB.out)).trans hbB)
                have hne4 : (Value.slice (some ⟨g2, 0, none⟩) (3 * j + cc + 1) cap2).ownBlock ≠ some wi.heap.size := by
                  rcases hat with h | h
                  · intro h'; exact HNB.out (h.trans h')
                  · intro h'; simp only [Value.ownBlock, Option.some.injEq] at h'; omega
                have HN4 := Lib.hid hown3
                have HE4 := Lib.hid hne4
                clear hBA hlt' hbA hbB hne4 hown3 hgrow hat h1 hS0
                go_wp2_with fail
                go_roundw
                case rel => exact ⟨cc + 1, _, by omega, by go_num, rfl, by rw [HV.out]; exact HN4.out, HE4.out, HK4.out, HB4.out⟩
                case measure => simp [intOf]; omega
            · obtain rfl : cc = 3 := by omega
              have HN := Lib.hid hN
              have HB3 := Lib.hid hb2
              clear hN hnb hblk hb2
              go_wp2_with fail
              go_roundw
              case rel => exact ⟨j + 1, v, by omega, by go_num, rfl, by rw [HT.out]; exact HN.out, HB3.out⟩
              case measure => simp [intOf]; omega
        · obtain rfl : j = M := by omega
          have hta : l.take j = l := List.take_of_length_le (by rw [HL.out]; exact Nat.le_refl _)
          rw [hta] at hN
          have HN := Lib.hid (own_lessP hN hz)
          have HB2 := Lib.hid (HB.out.trans (hb2.mono hz))
          clear hN hb2 hta
          go_wp2_with fail
          go_roundw
          case rel => exact ⟨k + 1, by omega, by go_num, by rw [hMS.out, HNX.out]; exact HN.out, HB2.out⟩
          case measure => simp [intOf]; omega
    · obtain rfl : k = n := by omega
      have HO := Lib.hid hO
      have HB := Lib.hid hb
      clear hO hb
      go_wp2_with fail
      go_ret
      exact ⟨g, cap, rfl, HO.out, HB.out⟩

end Go.Proofs.YtoenkgenoloihaaDoor
