/- Contracts and facts, put together (part 4). Conditions: each says its own. -/
import Derived.Test.YtoenkgenoloihabQ3
import Derived.Test.YtoenkgenoloihabProg
import Derived.Maps.OwnSet
import Derived.WideKeyEntry
import Derived.DeepKeys4
import Derived.Tactics
import Derived.Laws.AppendOwn
import Derived.Deep.AppendLies
import Derived.Maps.AppendAt
import Derived.Lib.Hide
import Derived.Laws.OwnMore

/- Contracts: a sorted list searched; the key of an end, in the model. -/
namespace Go.Proofs.Ytoenkgenoloihab
open Go.ChangeShapes Go.WideShapes Go.ChangeAt Go.RowKit

set_option linter.unusedVariables false

set_option maxRecDepth 100000 in
theorem clSort_small (xs : List Int) (h2 : xs.length < 2) (v : Value) (w : World) (hv : IntV w v xs) : Calls Try.prog 58 #[v] w (SortPost xs w) := by
  have HV := Lib.hid hv
  obtain ⟨av, cap, rfl, hc1, hc2, hr⟩ := hv
  have hp : xs.Pairwise (· ≤ ·) := by
    match xs, h2 with
    | [], _ => exact List.Pairwise.nil
    | [a], _ => simp
  have HP := Lib.hid hp
  clear hr hp
  go_enter Try.func58, Try.ntmps58
  go_wp2_with fail
  go_ret
  exact ⟨_, xs, rfl, HV.out, List.Perm.refl _, HP.out, Below.refl _ _⟩

theorem clSort_all : ∀ (N : Nat) (xs : List Int) (v : Value) (w : World), xs.length ≤ N → xs.length ≤ 5000 → IntV w v xs → Calls Try.prog 58 #[v] w (SortPost xs w)
  | 0, xs, v, w, hN, _, hv => clSort_small xs (by omega) v w hv
  | N + 1, xs, v, w, hN, hb, hv => by
    by_cases h2 : 2 ≤ xs.length
    · exact clSort_step xs hb h2 v (fun zs v w hz hv => clSort_all N zs v w (by omega) (by omega) hv) w hv
    · exact clSort_small xs (by omega) v w hv

theorem clSort_any (xs : List Int) (hb : xs.length ≤ 5000) (v : Value) (w : World) (hv : IntV w v xs) : Calls Try.prog 58 #[v] w (SortPost xs w) := clSort_all xs.length xs v w (Nat.le_refl _) hb hv

theorem cnt_split (xs : List Int) (x : Int) (k : Nat) (hk : k ≤ xs.length) (h1 : ∀ i z, i < k → xs[i]? = some z → z < x) (h2 : ∀ i z, k ≤ i → xs[i]? = some z → x ≤ z) : xs.countP (fun z => decide (z < x)) = k := by
  rw [← List.take_append_drop k xs, List.countP_append]
  have e1 : (xs.take k).countP (fun z => decide (z < x)) = (xs.take k).length := List.countP_eq_length.2 fun z hz => by
    obtain ⟨i, hi⟩ := List.getElem?_of_mem hz
    have hl := (List.getElem?_eq_some_iff.1 hi).1
    rw [List.length_take] at hl
    rw [List.getElem?_take_of_lt (by omega)] at hi
    exact decide_eq_true (h1 i z (by omega) hi)
  have e2 : (xs.drop k).countP (fun z => decide (z < x)) = 0 := List.countP_eq_zero.2 fun z hz => by
    obtain ⟨i, hi⟩ := List.getElem?_of_mem hz
    rw [List.getElem?_drop] at hi
    have := h2 (k + i) z (by omega) hi
    simp; omega
  rw [e1, e2, List.length_take]
  omega

theorem sorted_le {xs : List Int} (h : xs.Pairwise (· ≤ ·)) {i j : Nat} {x y : Int} (hi : xs[i]? = some x) (hj : xs[j]? = some y) (hij : i ≤ j) : x ≤ y := by
  by_cases e : i = j
  · subst e
    rw [hi] at hj
    injection hj with hj
    omega
  · obtain ⟨h1, rfl⟩ := List.getElem?_eq_some_iff.1 hi
    obtain ⟨h2, rfl⟩ := List.getElem?_eq_some_iff.1 hj
    exact List.pairwise_iff_getElem.1 h i j h1 h2 (by omega)

set_option maxRecDepth 100000 in
set_option maxHeartbeats 800000 in
theorem clBelow_any (xs : List Int) (hb : xs.length ≤ 5000) (hs : xs.Pairwise (· ≤ ·)) (v : Value) (x : Int) (w : World) (hv : IntV w v xs) :
    Calls Try.prog 60 #[v, .int .i64 x] w fun e w' => e = .returned (.int .i64 ((xs.countP fun z => decide (z < x)) : Nat)) ∧ w = w' := by
  obtain ⟨av, cap, rfl, hc1, hc2, hr⟩ := hv
  obtain ⟨n, hn⟩ : ∃ n, xs.length = n := ⟨_, rfl⟩
  rw [hn] at hb hc1 ⊢
  have HN := Lib.hid hn
  have HR := Lib.hid hr
  have HS := Lib.hid hs
  clear hn hr hs
  go_enter Try.func60, Try.ntmps60
  go_wp2_with fail
  go_loop [5, 6] (fun p q => ∃ lo hi : Nat, p = .int .i64 (lo : Nat) ∧ q = .int .i64 (hi : Nat) ∧ lo ≤ hi ∧ hi ≤ n ∧ (∀ i z, i < lo → xs[i]? = some z → z < x) ∧ (∀ i z, hi ≤ i → xs[i]? = some z → x ≤ z)) (fun p q => (intOf q).toNat - (intOf p).toNat)
  case atStart => exact ⟨0, n, rfl, rfl, Nat.zero_le _, Nat.le_refl _, fun i z h => absurd h (by omega), fun i z h hz => by have := (List.getElem?_eq_some_iff.1 hz).1; rw [HN.out] at this; omega⟩
  case round =>
    obtain ⟨lo, hi, rfl, rfl, h1, h2, h3, h4⟩ := hrel
    have H3 := Lib.hid h3
    have H4 := Lib.hid h4
    clear h3 h4
    by_cases hlt : lo < hi
    · obtain ⟨m, hm⟩ : ∃ m, (lo + hi) / 2 = m := ⟨_, rfl⟩
      obtain ⟨y, hy⟩ : ∃ y, xs[m]? = some y := ⟨_, List.getElem?_eq_getElem (by rw [HN.out]; omega)⟩
      obtain ⟨g, o, rfl, hg, hcell⟩ := HR.out.resolve_left (fun h => by have := HN.out; rw [h] at this; simp at this; omega)
      have c0 := hcell m y hy
      have HY := Lib.hid hy
      have hq : ((lo : Int) + (hi : Int)).tdiv 2 = (m : Int) := by rw [Int.tdiv_eq_ediv_of_nonneg (by omega)]; omega
      have m1 : lo ≤ m := by omega
      have m2 : m < hi := by omega
      have i1 : (0 : Int) ≤ (m : Int) := by omega
      have i2 : (m : Int) < (n : Int) := by omega
      have hm5 : m ≤ 5000 := by omega
      have hwm : IntKind.i64.wrap (m : Int) = (m : Int) := by rw [IntKind.wrap_i64]; omega
      clear hm hcell hy
      by_cases hxy : y < x
      · go_wp2_with fail
        go_round
        case rel => exact ⟨m + 1, hi, by go_num, rfl, by omega, h2, fun i z hi hz => Int.lt_of_le_of_lt (sorted_le HS.out hz HY.out (by omega)) hxy, H4.out⟩
        case measure => simp [intOf]; omega
      · go_wp2_with fail
        go_round
        case rel => exact ⟨lo, m, rfl, rfl, by omega, by omega, H3.out, fun i z hi hz => Int.le_trans (by omega) (sorted_le HS.out HY.out hz hi)⟩
        case measure => simp [intOf]; omega
    · obtain rfl : lo = hi := by omega
      have HC := Lib.hid (cnt_split xs x lo (by rw [HN.out]; exact h2) H3.out H4.out)
      go_wp2_with fail
      go_ret
      exact ⟨by rw [HC.out]; rfl, rfl⟩

/-- The key of a point and a turn. -/
def keyI (s : Sp) (t : Int) : Int := ((((s.x0 + 64) * 128 + s.x1 + 64) * 128 + s.x2 + 64) * 128 + s.x3 + 64) * 128 + t + 64

def smK (s : Sp) (t : Int) : Prop := (-60 ≤ s.x0 ∧ s.x0 ≤ 60) ∧ (-60 ≤ s.x1 ∧ s.x1 ≤ 60) ∧ (-60 ≤ s.x2 ∧ s.x2 ≤ 60) ∧ (-60 ≤ s.x3 ∧ s.x3 ≤ 60) ∧ -60 ≤ t ∧ t ≤ 60

theorem keyI_inj {s s' : Sp} {t t' : Int} (h : smK s t) (h' : smK s' t') (e : keyI s t = keyI s' t') : (s.x0 = s'.x0 ∧ s.x1 = s'.x1 ∧ s.x2 = s'.x2 ∧ s.x3 = s'.x3) ∧ t = t' := by
  unfold smK at h h'
  unfold keyI at e
  omega

theorem keyI_bd {s : Sp} {t : Int} (h : smK s t) : 0 ≤ keyI s t ∧ keyI s t ≤ 40000000000 := by
  unfold smK at h
  unfold keyI
  omega

set_option maxRecDepth 100000 in
set_option maxHeartbeats 800000 in
theorem clKey_any (s : Sp) (t : Int) (h : smK s t) (w : World) :
    Calls Try.prog 57 #[.agg #[.int .i64 s.x0, .int .i64 s.x1, .int .i64 s.x2, .int .i64 s.x3], .int .i64 t] w fun e w' => e = .returned (.int .i64 (keyI s t)) ∧ Below w.heap.size w w' := by
  obtain ⟨x0, x1, x2, x3, x4⟩ := s
  obtain ⟨⟨a0, b0⟩, ⟨a1, b1⟩, ⟨a2, b2⟩, ⟨a3, b3⟩, a4, b4⟩ := h
  simp only at a0 b0 a1 b1 a2 b2 a3 b3
  go_enter Try.func57, Try.ntmps57
  go_wp2_with fail
  go_ret
  exact ⟨rfl, by go_grown⟩

end Go.Proofs.Ytoenkgenoloihab

/- Laws on a map that a call has made: an entry is met, then stored. -/
namespace Go.Proofs.Ytoenkgenoloihab
open Go Go.ChangeMaps Go.MapKept Go.ChangeShapes Go.WideShapes
open Go.WideElems (Fit rd rg pl rd_val elemAt entry_then_store)
open Go.WideMaps (KeyLaw)
open Go.Maps (Keyed)

section
variable {H : Type} {P : Program} {k t e : TypeId} {R : Value → Option (DataW H × List MemPlace)} {w : World} {b n : Nat} {D : DataW H}

theorem own_block {es : Array MapEntry} {clock : Nat} (hb : w.heap[b]? = some (.map es clock)) (h : w.ownsMap P k R b n D) {w2 : World} (hb2 : w2.heap[b]? = some (.map es clock)) : w2.ownsMap P k R b n D := by
  obtain ⟨es', clock', hb', F, hs, hD⟩ := h
  rw [hb] at hb'
  cases hb'
  exact ⟨es, clock, hb2, F, hs, hD⟩

theorem setBlock_grown {es : Array MapEntry} {clock : Nat} {X' : Obj} (hb : w.heap[b]? = some (.map es clock)) : w.grownBy (setBlock w b X') (some b) :=
  ⟨rfl, rfl, rfl, by simp [setBlock], fun i _ hi => heap_setBlock_other hb _ (fun e => hi (by rw [e]))⟩

theorem map_entry (h : w.ownsMap P k R b n D) (K : KeyLaw P k) (ht : P.underlying t = some (.map k e)) (hn : n < maxLen) {z : Value} (hz : ∀ u : World, (zeroValue e).run P u = .ok z u) {zd : DataW H} {zp : List MemPlace} (hzd : R z = some (zd, zp))
    {key : Value} {kl : Lit} (hkey : keyOf P k key = some kl) :
    ∃ (v0 : Value) (st : Nat) (es1 : Array MapEntry) (c1 : Nat), (Instr.mapEntry t (.map (some b)) key).run P w = .ok (.tuple #[v0, goInt st]) (setBlock w b (.map es1 c1)) ∧ w.grownBy (setBlock w b (.map es1 c1)) (some b) ∧ (setBlock w b (.map es1 c1)).heap[b]? = some (.map es1 c1) ∧ (∃ ps, R v0 = some (D.atKey kl zd, ps)) ∧ b < w.heap.size ∧
      ∀ (w2 : World) (val : Value) (d : DataW H) (ps : List MemPlace), w2.heap[b]? = some (.map es1 c1) → R val = some (d, ps) →
        ∃ w3, (Instr.entryStore t (.map (some b)) (goInt st) val).run P w2 = .ok () w3 ∧ w3.ownsMap P k R b (n + 1) (D.put kl d) ∧ w2.grownBy w3 (some b) := by
  obtain ⟨v, ps, hrun, hRv⟩ := h.lookup (Keyed.of_law K) ht (hz w) hzd hkey
  have hup := fun (val : Value) (d : DataW H) (ps : List MemPlace) (hv : R val = some (d, ps)) => h.update (Keyed.of_law K) ht hn hkey hv
  obtain ⟨es, clock, hb, F, hs, hD⟩ := h
  obtain ⟨v0, st, es1, clock1, h1, h2, h3⟩ := entry_then_store K ht hz hb F hkey
  have e0 : v = v0 := by
    rcases K.find w hkey es.toList F.keys with ⟨f1, f2⟩ | ⟨j, e0, f1, f2, f3⟩
    · have hl : (Instr.lookup t (.map (some b)) key false).run P w = .ok z w := by simp [Instr.lookup, run_underlying ht, MapKept.run_getObj_map hb, K.check w _ hkey, f1, hz, Result.andThen]
      rw [hl] at hrun
      injection hrun with hrun
      rcases h2 with ⟨e1, he1, hk1, _⟩ | ⟨_, hv0⟩
      · exact absurd hk1 (f2 e1 he1)
      · rw [hv0, hrun]
    · have hl : (Instr.lookup t (.map (some b)) key false).run P w = .ok e0.val w := by simp [Instr.lookup, run_underlying ht, MapKept.run_getObj_map hb, K.check w _ hkey, f1, Result.andThen]
      have hj : es[j]? = some e0 := by simpa using f2
      have hm : ∃ r W', (Instr.mapEntry t (.map (some b)) key).run P w = .ok (.tuple #[e0.val, r]) W' := by
        refine ⟨goInt e0.born, setBlock w b (.map (es.modify j fun e => { e with key := key }) clock), ?_⟩
        simp [Instr.mapEntry, run_underlying ht, MapKept.run_getObj_map hb, K.check w false hkey, f1, hj, f3, K.stays w hkey, MapKept.run_setObj_map _ hb, Result.andThen, setBlock]
      obtain ⟨r, W', hm⟩ := hm
      rw [hl] at hrun
      injection hrun with hrun
      rw [h1] at hm
      injection hm with hm
      simp at hm
      rw [← hrun, hm.1]
  subst e0
  refine ⟨v, st, es1, clock1, h1, setBlock_grown hb, heap_setBlock_same hb _, ⟨ps, hRv⟩, (Array.getElem?_eq_some_iff.1 hb).1, fun w2 val d ps' hX hR => ?_⟩
  obtain ⟨es', clock', g1, g2⟩ := h3 w2 val hX
  obtain ⟨w', u1, u2, _⟩ := hup val d ps' hR
  rw [g2] at u1
  injection u1 with _ u1
  subst u1
  exact ⟨_, g1, own_block (heap_setBlock_same hb _) u2 (heap_setBlock_same hX _), setBlock_grown hX⟩

theorem wpList_mapEntry {ops : Array Oper} {rest : List Oper} {o : Oper} {a : Act} {Q : Exit → Act → World → Prop} (W1 : World) (r key : Value) (hg : o.guard = none) (m x : Operand) (hop : o.op = Op.mapEntry t m x)
    (hm : a.eval m = .map (some b)) (hx : a.eval x = key) (hrun : (Instr.mapEntry t (.map (some b)) key).run P w = .ok r W1) (hK : wpList P ops Q rest (a.put o.dst r) W1) : wpList P ops Q (o :: rest) a w := by
  refine wpList_plain hg fun K' hK' => ?_
  unfold Oper.wp
  simp [execOp, hop, hm, hx, hrun, Result.andThen]
  exact hK' _ _ hK

theorem wpList_entryStore {ops : Array Oper} {rest : List Oper} {o : Oper} {a : Act} {Q : Exit → Act → World → Prop} (W1 : World) (st val : Value) (hg : o.guard = none) (m s x : Operand) (hop : o.op = Op.entryStore t m s x)
    (hm : a.eval m = .map (some b)) (hs : a.eval s = st) (hx : a.eval x = val) (hrun : (Instr.entryStore t (.map (some b)) st val).run P w = .ok () W1) (hK : wpList P ops Q rest (a.put o.dst undef) W1) : wpList P ops Q (o :: rest) a w := by
  refine wpList_plain hg fun K' hK' => ?_
  unfold Oper.wp
  simp [execOp, hop, hm, hs, hx, hrun, Result.andThen]
  exact hK' _ _ hK

end

end Go.Proofs.Ytoenkgenoloihab

/- Cells handed on, as in Cl: those of a part, and lists of parts. -/
namespace Go.Proofs.Ytoenkgenoloihab
open Go.ChangeShapes Go.WideShapes Go.ChangeAt Go.RowKit

section
variable {B0 : Nat} {v00 v01 v02 v03 v04 v05 : Value} {W w1 : World}
theorem pr_below (h : W.cell? ⟨B0, 0, none⟩ = some v00 ∧ W.cell? ⟨B0, 1, none⟩ = some v01 ∧ W.cell? ⟨B0, 2, none⟩ = some v02 ∧ W.cell? ⟨B0, 3, none⟩ = some v03 ∧ W.cell? ⟨B0, 4, none⟩ = some v04 ∧ W.cell? ⟨B0, 5, none⟩ = some v05) (h0 : B0 < W.heap.size) (hb : Below W.heap.size W w1) : w1.cell? ⟨B0, 0, none⟩ = some v00 ∧ w1.cell? ⟨B0, 1, none⟩ = some v01 ∧ w1.cell? ⟨B0, 2, none⟩ = some v02 ∧ w1.cell? ⟨B0, 3, none⟩ = some v03 ∧ w1.cell? ⟨B0, 4, none⟩ = some v04 ∧ w1.cell? ⟨B0, 5, none⟩ = some v05 :=
  let ⟨k0, k1, k2, k3, k4, k5⟩ := h
  ⟨cl_below k0 h0 hb, cl_below k1 h0 hb, cl_below k2 h0 hb, cl_below k3 h0 hb, cl_below k4 h0 hb, cl_below k5 h0 hb⟩

theorem pr_alloc (h : W.cell? ⟨B0, 0, none⟩ = some v00 ∧ W.cell? ⟨B0, 1, none⟩ = some v01 ∧ W.cell? ⟨B0, 2, none⟩ = some v02 ∧ W.cell? ⟨B0, 3, none⟩ = some v03 ∧ W.cell? ⟨B0, 4, none⟩ = some v04 ∧ W.cell? ⟨B0, 5, none⟩ = some v05) (o : Obj) : (W.alloc o).cell? ⟨B0, 0, none⟩ = some v00 ∧ (W.alloc o).cell? ⟨B0, 1, none⟩ = some v01 ∧ (W.alloc o).cell? ⟨B0, 2, none⟩ = some v02 ∧ (W.alloc o).cell? ⟨B0, 3, none⟩ = some v03 ∧ (W.alloc o).cell? ⟨B0, 4, none⟩ = some v04 ∧ (W.alloc o).cell? ⟨B0, 5, none⟩ = some v05 :=
  let ⟨k0, k1, k2, k3, k4, k5⟩ := h
  ⟨cl_alloc k0 o, cl_alloc k1 o, cl_alloc k2 o, cl_alloc k3 o, cl_alloc k4 o, cl_alloc k5 o⟩

theorem pr_re {o : Obj} (h : (W.alloc o).cell? ⟨B0, 0, none⟩ = some v00 ∧ (W.alloc o).cell? ⟨B0, 1, none⟩ = some v01 ∧ (W.alloc o).cell? ⟨B0, 2, none⟩ = some v02 ∧ (W.alloc o).cell? ⟨B0, 3, none⟩ = some v03 ∧ (W.alloc o).cell? ⟨B0, 4, none⟩ = some v04 ∧ (W.alloc o).cell? ⟨B0, 5, none⟩ = some v05) (h0 : B0 < W.heap.size) (o2 : Obj) : (W.alloc o2).cell? ⟨B0, 0, none⟩ = some v00 ∧ (W.alloc o2).cell? ⟨B0, 1, none⟩ = some v01 ∧ (W.alloc o2).cell? ⟨B0, 2, none⟩ = some v02 ∧ (W.alloc o2).cell? ⟨B0, 3, none⟩ = some v03 ∧ (W.alloc o2).cell? ⟨B0, 4, none⟩ = some v04 ∧ (W.alloc o2).cell? ⟨B0, 5, none⟩ = some v05 :=
  let ⟨k0, k1, k2, k3, k4, k5⟩ := h
  ⟨cl_re k0 h0 o2, cl_re k1 h0 o2, cl_re k2 h0 o2, cl_re k3 h0 o2, cl_re k4 h0 o2, cl_re k5 h0 o2⟩

theorem pr_drew (h : W.cell? ⟨B0, 0, none⟩ = some v00 ∧ W.cell? ⟨B0, 1, none⟩ = some v01 ∧ W.cell? ⟨B0, 2, none⟩ = some v02 ∧ W.cell? ⟨B0, 3, none⟩ = some v03 ∧ W.cell? ⟨B0, 4, none⟩ = some v04 ∧ W.cell? ⟨B0, 5, none⟩ = some v05) : W.drew.cell? ⟨B0, 0, none⟩ = some v00 ∧ W.drew.cell? ⟨B0, 1, none⟩ = some v01 ∧ W.drew.cell? ⟨B0, 2, none⟩ = some v02 ∧ W.drew.cell? ⟨B0, 3, none⟩ = some v03 ∧ W.drew.cell? ⟨B0, 4, none⟩ = some v04 ∧ W.drew.cell? ⟨B0, 5, none⟩ = some v05 := h

theorem pr_undrew (h : W.drew.cell? ⟨B0, 0, none⟩ = some v00 ∧ W.drew.cell? ⟨B0, 1, none⟩ = some v01 ∧ W.drew.cell? ⟨B0, 2, none⟩ = some v02 ∧ W.drew.cell? ⟨B0, 3, none⟩ = some v03 ∧ W.drew.cell? ⟨B0, 4, none⟩ = some v04 ∧ W.drew.cell? ⟨B0, 5, none⟩ = some v05) : W.cell? ⟨B0, 0, none⟩ = some v00 ∧ W.cell? ⟨B0, 1, none⟩ = some v01 ∧ W.cell? ⟨B0, 2, none⟩ = some v02 ∧ W.cell? ⟨B0, 3, none⟩ = some v03 ∧ W.cell? ⟨B0, 4, none⟩ = some v04 ∧ W.cell? ⟨B0, 5, none⟩ = some v05 := h

theorem pr_set (h : W.cell? ⟨B0, 0, none⟩ = some v00 ∧ W.cell? ⟨B0, 1, none⟩ = some v01 ∧ W.cell? ⟨B0, 2, none⟩ = some v02 ∧ W.cell? ⟨B0, 3, none⟩ = some v03 ∧ W.cell? ⟨B0, 4, none⟩ = some v04 ∧ W.cell? ⟨B0, 5, none⟩ = some v05) (p : Addr) (u : Value) (h0 : p.block ≠ B0) : (W.setCell p u).cell? ⟨B0, 0, none⟩ = some v00 ∧ (W.setCell p u).cell? ⟨B0, 1, none⟩ = some v01 ∧ (W.setCell p u).cell? ⟨B0, 2, none⟩ = some v02 ∧ (W.setCell p u).cell? ⟨B0, 3, none⟩ = some v03 ∧ (W.setCell p u).cell? ⟨B0, 4, none⟩ = some v04 ∧ (W.setCell p u).cell? ⟨B0, 5, none⟩ = some v05 :=
  let ⟨k0, k1, k2, k3, k4, k5⟩ := h
  ⟨cl_set k0 p u h0, cl_set k1 p u h0, cl_set k2 p u h0, cl_set k3 p u h0, cl_set k4 p u h0, cl_set k5 p u h0⟩

theorem pr_far {row : Option Nat} (h : W.cell? ⟨B0, 0, none⟩ = some v00 ∧ W.cell? ⟨B0, 1, none⟩ = some v01 ∧ W.cell? ⟨B0, 2, none⟩ = some v02 ∧ W.cell? ⟨B0, 3, none⟩ = some v03 ∧ W.cell? ⟨B0, 4, none⟩ = some v04 ∧ W.cell? ⟨B0, 5, none⟩ = some v05) (h0 : some B0 ≠ row) (hg : W.grownBy w1 row) : w1.cell? ⟨B0, 0, none⟩ = some v00 ∧ w1.cell? ⟨B0, 1, none⟩ = some v01 ∧ w1.cell? ⟨B0, 2, none⟩ = some v02 ∧ w1.cell? ⟨B0, 3, none⟩ = some v03 ∧ w1.cell? ⟨B0, 4, none⟩ = some v04 ∧ w1.cell? ⟨B0, 5, none⟩ = some v05 :=
  let ⟨k0, k1, k2, k3, k4, k5⟩ := h
  ⟨hg.cell k0 h0, hg.cell k1 h0, hg.cell k2 h0, hg.cell k3 h0, hg.cell k4 h0, hg.cell k5 h0⟩
end

theorem flat_at {α : Type} (f : α → List Value) (n : Nat) (hf : ∀ a, (f a).length = n) : ∀ (l : List α) (i : Nat) (a : α), l[i]? = some a → ∀ j, j < n → ((l.map f).flatten)[n * i + j]? = (f a)[j]?
  | [], i, a, h, _, _ => by simp at h
  | b :: l, 0, a, h, j, hj => by
    simp only [List.getElem?_cons_zero, Option.some.injEq] at h
    subst h
    simp only [List.map_cons, List.flatten_cons, Nat.mul_zero, Nat.zero_add]
    rw [List.getElem?_append_left (by rw [hf]; exact hj)]
  | b :: l, i + 1, a, h, j, hj => by
    simp only [List.map_cons, List.flatten_cons]
    rw [List.getElem?_append_right (by rw [hf, Nat.mul_succ]; omega), hf, show n * (i + 1) + j - n = n * i + j by rw [Nat.mul_succ]; omega]
    exact flat_at f n hf l i a (by simpa using h) j hj

theorem flat_len {α : Type} (f : α → List Value) (n : Nat) (hf : ∀ a, (f a).length = n) (l : List α) : ((l.map f).flatten).length = l.length * n := by
  induction l with
  | nil => simp
  | cons a l ih => simp only [List.map_cons, List.flatten_cons, List.length_append, hf, ih, List.length_cons, Nat.succ_mul]; omega

def prtC (p : Sp × List UInt8) : List Value := [.int .i64 p.1.x0, .int .i64 p.1.x1, .int .i64 p.1.x2, .int .i64 p.1.x3, .int .i64 p.1.h, .string (ofL p.2)]

def prtCells (l : List (Sp × List UInt8)) : List Value := (l.map prtC).flatten

theorem prtCells_append (l m : List (Sp × List UInt8)) : prtCells (l ++ m) = prtCells l ++ prtCells m := by simp [prtCells]

/-- Parts at their place, in a block that was there. -/
def PrtAt (w : World) (g : Nat) (l : List (Sp × List UInt8)) : Prop :=
  ∀ i p, l[i]? = some p → w.cell? ⟨g, i * 6, none⟩ = some (.int .i64 p.1.x0) ∧ w.cell? ⟨g, i * 6 + 1, none⟩ = some (.int .i64 p.1.x1) ∧ w.cell? ⟨g, i * 6 + 2, none⟩ = some (.int .i64 p.1.x2) ∧ w.cell? ⟨g, i * 6 + 3, none⟩ = some (.int .i64 p.1.x3) ∧ w.cell? ⟨g, i * 6 + 4, none⟩ = some (.int .i64 p.1.h) ∧ w.cell? ⟨g, i * 6 + 5, none⟩ = some (.string (ofL p.2))

theorem PrtAt.below {w w' : World} {g n : Nat} {l : List (Sp × List UInt8)} (h : PrtAt w g l) (hg : g < n) (hb : Below n w w') : PrtAt w' g l := by
  intro i p hp
  obtain ⟨a, b, c, d, e, f⟩ := h i p hp
  refine ⟨?_, ?_, ?_, ?_, ?_, ?_⟩ <;> (rw [hb.cell hg]; assumption)

theorem prt_of {W : World} {B n g cap : Nat} {e : TypeId} {l : List (Sp × List UInt8)} (h : W.ownsRow B e 6 (.slice (some ⟨g, 0, none⟩) n cap) n (prtCells l)) (hn : l.length = n) : PrtAt W g l := by
  intro i p hp
  have hi : i < n := by rw [← hn]; exact (List.getElem?_eq_some_iff.1 hp).1
  have a := fun j (hj : j < 6) => (h.cellAt (i * 6 + j) (by omega)).trans ((by rw [Nat.mul_comm]) : _ = (prtCells l)[6 * i + j]?) |>.trans (flat_at prtC 6 (fun _ => rfl) l i p hp j hj)
  exact ⟨a 0 (by omega), a 1 (by omega), a 2 (by omega), a 3 (by omega), a 4 (by omega), a 5 (by omega)⟩

/-- The next longer parts. -/
def nxt (l : List (Sp × List UInt8)) : List (Sp × List UInt8) := l.flatMap fun p => ltr.map fun c => (p.1.next c, p.2 ++ [c])

theorem parts_nxt (a : Sp) (n : Nat) : parts a (n + 1) = nxt (parts a n) := parts_succ a n

theorem nxt_take {l : List (Sp × List UInt8)} {j : Nat} {p : Sp × List UInt8} (h : l[j]? = some p) : nxt (l.take (j + 1)) = nxt (l.take j) ++ ltr.map fun c => (p.1.next c, p.2 ++ [c]) := by
  rw [List.take_add_one, h]
  simp [nxt, List.flatMap_append]

theorem nxt_len (l : List (Sp × List UInt8)) : (nxt l).length = 3 * l.length := by
  induction l with
  | nil => rfl
  | cons a l ih =>
    simp only [nxt, List.flatMap_cons, List.length_append, List.length_map, List.length_cons] at ih ⊢
    rw [ih]
    simp [ltr]
    omega

theorem parts_ok {a : Sp} {m : Int} (ha : a.okB m) {n : Nat} {p : Sp × List UInt8} (h : p ∈ parts a n) : p.1.okB (m + 2 * n) ∧ p.2.length = n := by
  simp only [parts, List.mem_map] at h
  obtain ⟨w, hw, rfl⟩ := h
  have hl := words_len n w hw
  refine ⟨?_, hl⟩
  have := fin_ok ha w
  rwa [hl] at this

end Go.Proofs.Ytoenkgenoloihab

/- A map from steps to texts that a call has made: what lies at each step. -/
namespace Go.Proofs.Ytoenkgenoloihab
open Go Go.ChangeMaps Go.MapKept Go.ChangeShapes Go.WideShapes Go.RowKit
open Go.WideMaps (KeyLaw)
open Go.Maps (Keyed)

theorem stRow : (69 : TypeId) < Try.prog.types.size := of_decide_eq_true (by kernel_rfl)

theorem stDeep : Try.prog.keyTypeAt 4 69 = true := by kernel_rfl

theorem stLaid : laidOutB Try.prog = true := by kernel_rfl

set_option maxRecDepth 100000 in
theorem stLaw : KeyLaw Try.prog 69 := deep_law_laid stLaid (m := 4) (by omega) stRow stDeep (by rw [Try.underlying69])

def spV (s : Sp) : Value := .agg #[.int .i64 s.x0, .int .i64 s.x1, .int .i64 s.x2, .int .i64 s.x3, .int .i64 s.h]

/-- A step whose numbers fit. -/
def wfS (s : Sp) : Prop := (Lit.int .i64 s.x0).wf = true ∧ (Lit.int .i64 s.x1).wf = true ∧ (Lit.int .i64 s.x2).wf = true ∧ (Lit.int .i64 s.x3).wf = true ∧ (Lit.int .i64 s.h).wf = true

set_option maxRecDepth 100000 in
theorem stKey {s : Sp} (h : wfS s) : ∃ l, keyOf Try.prog 69 (spV s) = some l := by
  obtain ⟨h0, h1, h2, h3, h4⟩ := h
  have hkt : Try.prog.keyType 69 = true := by kernel_rfl
  have hc5 : Try.prog.cellsOf 69 = 5 := by kernel_rfl
  have hc4 : Try.prog.cellsOf 44 = 4 := by kernel_rfl
  have hc1 : Try.prog.cellsOf 3 = 1 := by kernel_rfl
  have hfs : Try.prog.underlying 69 = some (.struct (Try.prog.fieldsOf 69)) := by kernel_rfl
  obtain ⟨m, hm⟩ : ∃ m, Try.prog.types.size = m + 3 := ⟨Try.prog.types.size - 3, (Nat.sub_add_cancel (of_decide_eq_true (by kernel_rfl))).symm⟩
  have hL : Try.prog.keyLits (m + 4) 69 [.int .i64 s.x0, .int .i64 s.x1, .int .i64 s.x2, .int .i64 s.x3, .int .i64 s.h] = some [.int .i64 s.x0, .int .i64 s.x1, .int .i64 s.x2, .int .i64 s.x3, .int .i64 s.h] := by
    simp [Program.keyLits, Try.underlying69, Try.underlying44, Try.underlying3, hc5, hc4, hc1, h0, h1, h2, h3, h4]
    split
    · rfl
    · rename_i hc
      exact absurd (by decide) hc
  have hfm : (spV s).formed Try.prog 69 = true := by simp [Value.formed, spV, Try.underlying69, hc5]
  unfold keyOf
  rw [Try.underlying69]
  simp only [hkt, hfm, Bool.and_self, if_true]
  rw [hm, show (spV s).cells.toList = [.int .i64 s.x0, .int .i64 s.x1, .int .i64 s.x2, .int .i64 s.x3, .int .i64 s.h] from rfl, hL]
  exact ⟨_, rfl⟩

/-- The key that a step is. -/
noncomputable def klS (s : Sp) : Lit := (keyOf Try.prog 69 (spV s)).getD (.string [])
theorem klS_key {s : Sp} (h : wfS s) : keyOf Try.prog 69 (spV s) = some (klS s) := by
  obtain ⟨l, hl⟩ := stKey h
  simp [klS, hl]

theorem klS_inj {s s' : Sp} (h : wfS s) (h' : wfS s') (e : klS s = klS s') : s = s' := by
  have a := klS_key h
  have b := klS_key h'
  rw [e] at a
  have := stLaw.inj a b
  obtain ⟨a0, a1, a2, a3, a4⟩ := s
  obtain ⟨b0, b1, b2, b3, b4⟩ := s'
  simpa [spV] using this

set_option maxRecDepth 100000 in
theorem klS_lit {s : Sp} (h : wfS s) : WideAt.IsKeyLit (klS s) := (Keyed.of_law stLaw).key (klS_key h)

theorem wf_of {s : Sp} {n : Int} (h : s.okB n) (hn : n ≤ 1000000) : wfS s := by
  obtain ⟨⟨b0, b0'⟩, ⟨b1, b1'⟩, ⟨b2, b2'⟩, ⟨b3, b3'⟩, b4, b5⟩ := h
  refine ⟨?_, ?_, ?_, ?_, ?_⟩ <;> exact WalkArith.wf_i64 (by omega)

/-- How a slice's header reads. -/
def hdrR (v : Value) : Option (DataW Unit × List MemPlace) :=
  match v with
  | .slice none 0 0 => some (.nil, [])
  | .slice (some ⟨g, 0, none⟩) n c => some (.agg [.lit (.int .i64 g), .lit (.int .i64 n), .lit (.int .i64 c)], [])
  | _ => none

theorem hdrR_nil : hdrR (.slice none 0 0) = some (.nil, []) := rfl

theorem hdrR_some (g n c : Nat) : hdrR (.slice (some ⟨g, 0, none⟩) n c) = some (.agg [.lit (.int .i64 g), .lit (.int .i64 n), .lit (.int .i64 c)], []) := rfl

theorem hdrR_of {W : World} {B e size n : Nat} {v : Value} {xs : List Value} (h : W.ownsRow B e size v n xs) : ∃ d, hdrR v = some (d, []) := by
  rcases h.2 with ⟨rfl, _⟩ | ⟨g, cap, cur, rfl, _⟩
  · exact ⟨_, hdrR_nil⟩
  · exact ⟨_, hdrR_some g n cap⟩

theorem hdrR_inj {W : World} {B e size n : Nat} {v v' : Value} {xs : List Value} (h : W.ownsRow B e size v n xs) {d : DataW Unit} {ps ps' : List MemPlace} (h1 : hdrR v = some (d, ps)) (h2 : hdrR v' = some (d, ps')) : v = v' := by
  rcases h.2 with ⟨rfl, _⟩ | ⟨g, cap, cur, rfl, _⟩
  · rw [hdrR_nil] at h1
    unfold hdrR at h2
    split at h2
    · rfl
    · simp at h1 h2
      rw [← h1.1] at h2
      simp at h2
    · simp at h2
  · rw [hdrR_some] at h1
    unfold hdrR at h2
    split at h2
    · simp at h1 h2
      rw [← h1.1] at h2
      simp at h2
    · simp at h1 h2
      rw [← h1.1] at h2
      simp at h2
      obtain ⟨⟨e1, e2, e3⟩, _⟩ := h2
      rw [Int.ofNat_inj.1 e1, Int.ofNat_inj.1 e2, Int.ofNat_inj.1 e3]
    · simp at h2

def strV (l : List (List UInt8)) : List Value := l.map fun u => .string (ofL u)

theorem strV_append (l m : List (List UInt8)) : strV (l ++ m) = strV l ++ strV m := by simp [strV]

theorem spE_self (s : Sp) : spE s s = true := spE_iff.2 rfl

theorem spE_ne {s k : Sp} (h : s ≠ k) : spE s k = false := spE_no.2 h

theorem grp_same (s : Sp) (u : List UInt8) (G : List (Sp × List UInt8)) : grp s (G ++ [(s, u)]) = grp s G ++ [u] := by simp [grp, spE_self]

theorem grp_other {s k : Sp} (h : s ≠ k) (u : List UInt8) (G : List (Sp × List UInt8)) : grp k (G ++ [(s, u)]) = grp k G := by simp [grp, spE_ne h]

/-- Block b is a map from steps to the texts that stand at them in the list G; their rows lie from block base on, no two keys' in one. -/
def GrpAt (w : World) (b base m : Nat) (G : List (Sp × List UInt8)) : Prop :=
  b < base ∧ ∃ (D : DataW Unit) (V : Sp → Value), w.ownsMap Try.prog 69 hdrR b m D ∧
    (∀ s, wfS s → ∃ ps, hdrR (V s) = some (D.atKey (klS s) .nil, ps)) ∧
    (∀ s, wfS s → w.ownsRow base 9 1 (V s) (grp s G).length (strV (grp s G))) ∧
    (∀ s s', wfS s → wfS s' → s ≠ s' → (V s).ownBlock = none ∨ (V s).ownBlock ≠ (V s').ownBlock)

theorem own_far {W : World} {B b e size n : Nat} {v : Value} {xs : List Value} (h : W.ownsRow B e size v n xs) (hb : b < B) : v.ownBlock = none ∨ v.ownBlock ≠ some b := by
  cases hv : v.ownBlock with
  | none => exact .inl rfl
  | some k =>
    refine .inr fun e => ?_
    injection e with e
    have := (h.lt k hv).1
    omega

theorem own_far' {W : World} {B b e size n : Nat} {v : Value} {xs : List Value} (h : W.ownsRow B e size v n xs) (hb : b < B) : some b ≠ v.ownBlock := by
  intro e
  have := (h.lt b e.symm).1
  omega

theorem GrpAt_start (w : World) : GrpAt (w.alloc (.map #[] 0)) w.heap.size (w.heap.size + 1) 0 [] :=
  ⟨Nat.lt_succ_self _, .map [], fun _ => .slice none 0 0, World.ownsMap_made _ _ _ _, fun _ _ => ⟨[], by simp [hdrR_nil, DataW.atKey]⟩, fun _ _ => World.ownsRow_nil _ _ _ _, fun _ _ _ _ _ => .inl rfl⟩

theorem GrpAt.kept {w w' : World} {b base m : Nat} {G : List (Sp × List UInt8)} {row : Option Nat} (h : GrpAt w b base m G) (hg : w.grownBy w' row) (hb : some b ≠ row) (hr : ∀ k, row = some k → k < base ∨ w.heap.size ≤ k) : GrpAt w' b base m G := by
  obtain ⟨hbb, D, V, hM, hV, hR, hD⟩ := h
  refine ⟨hbb, D, V, hM.kept hg hb, hV, fun s hs => (hR s hs).kept hg ?_, hD⟩
  cases hv : (V s).ownBlock with
  | none => exact .inl rfl
  | some k =>
    refine .inr fun e => ?_
    have := (hR s hs).lt k hv
    rcases hr k e.symm with h | h <;> omega

theorem GrpAt_begin {w : World} {b : Nat} (hM : w.ownsMap Try.prog 69 hdrR b 0 (.map [] : DataW Unit)) : GrpAt w b w.heap.size 0 [] :=
  ⟨hM.lt, .map [], fun _ => .slice none 0 0, hM, fun _ _ => ⟨[], by simp [hdrR_nil, DataW.atKey]⟩, fun _ _ => World.ownsRow_nil _ _ _ _, fun _ _ _ _ _ => .inl rfl⟩

theorem below_grown {w w' : World} (h : Below w.heap.size w w') : w.grownBy w' none := ⟨h.os, h.tape, h.output, h.size, fun k hk _ => h.block k hk⟩

theorem GrpAt.below {w w' : World} {b base m : Nat} {G : List (Sp × List UInt8)} (h : GrpAt w b base m G) (hb : Below w.heap.size w w') : GrpAt w' b base m G :=
  h.kept (below_grown hb) (by simp) (by simp)

/-- One stretch behind another one whose row is new. -/
theorem grown_row {a c d : World} {row row' : Option Nat} (h : a.grownBy c row) (g : c.grownBy d row') (hr : ∀ k, row' = some k → a.heap.size ≤ k ∨ row = some k) : a.grownBy d row :=
  ⟨g.os.trans h.os, g.tape.trans h.tape, g.output.trans h.output, Nat.le_trans h.size g.size, fun k hk hne => (g.block k (Nat.lt_of_lt_of_le hk h.size) (fun e => by
    rcases hr k e.symm with h1 | h1
    · omega
    · exact hne h1.symm)).trans (h.block k hk hne)⟩

theorem grp_le (k : Sp) (l : List (Sp × List UInt8)) : (grp k l).length ≤ l.length := by
  simp only [grp, List.length_map]
  exact List.length_filter_le _ _

end Go.Proofs.Ytoenkgenoloihab

/- Contracts: headings turned, and a point negated, in the program. -/
namespace Go.Proofs.Ytoenkgenoloihab
open Go.ChangeShapes Go.WideShapes Go.ChangeAt Go.RowKit

set_option linter.unusedVariables false
set_option linter.unusedSimpArgs false

theorem tm1_any (h : Int) (h0 : 0 ≤ h) (h7 : h ≤ 7) (w : World) :
    Calls Try.prog 31 #[.int .i64 h, .int .i64 (-1)] w fun e w' => e = .returned (.int .i64 ((h + 7) % 8)) ∧ w = w' := by
  have hm : (h + (-1) + 8) % 8 = (h + 7) % 8 := by omega
  have HM := Lib.hid hm
  clear hm
  go_enter Try.func31, Try.ntmps31
  go_wp2
  go_ret
  exact ⟨by first | rfl | (rw [← HM.out]; rfl) | (simp; omega), rfl⟩

theorem tm2_any (h : Int) (h0 : 0 ≤ h) (h7 : h ≤ 7) (w : World) :
    Calls Try.prog 31 #[.int .i64 h, .int .i64 (-2)] w fun e w' => e = .returned (.int .i64 ((h + 6) % 8)) ∧ w = w' := by
  have hm : (h + (-2) + 8) % 8 = (h + 6) % 8 := by omega
  have HM := Lib.hid hm
  clear hm
  go_enter Try.func31, Try.ntmps31
  go_wp2
  go_ret
  exact ⟨by first | rfl | (rw [← HM.out]; rfl) | (simp; omega), rfl⟩

theorem tp1_any (h : Int) (h0 : 0 ≤ h) (h7 : h ≤ 7) (w : World) :
    Calls Try.prog 31 #[.int .i64 h, .int .i64 1] w fun e w' => e = .returned (.int .i64 ((h + 1) % 8)) ∧ w = w' := by
  have hm : (h + 1 + 8) % 8 = (h + 1) % 8 := by omega
  have HM := Lib.hid hm
  clear hm
  go_enter Try.func31, Try.ntmps31
  go_wp2
  go_ret
  exact ⟨by first | rfl | (rw [← HM.out]; rfl) | (simp; omega), rfl⟩

theorem tp2_any (h : Int) (h0 : 0 ≤ h) (h7 : h ≤ 7) (w : World) :
    Calls Try.prog 31 #[.int .i64 h, .int .i64 2] w fun e w' => e = .returned (.int .i64 ((h + 2) % 8)) ∧ w = w' := by
  have hm : (h + 2 + 8) % 8 = (h + 2) % 8 := by omega
  have HM := Lib.hid hm
  clear hm
  go_enter Try.func31, Try.ntmps31
  go_wp2
  go_ret
  exact ⟨by first | rfl | (rw [← HM.out]; rfl) | (simp; omega), rfl⟩

theorem scN (x0 x1 x2 x3 : Int) (px0 : -999999 ≤ x0) (qx0 : x0 ≤ 999999) (px1 : -999999 ≤ x1) (qx1 : x1 ≤ 999999) (px2 : -999999 ≤ x2) (qx2 : x2 ≤ 999999) (px3 : -999999 ≤ x3) (qx3 : x3 ≤ 999999) (w : World) :
    Calls Try.prog 77 #[.agg #[.int .i64 x0, .int .i64 x1, .int .i64 x2, .int .i64 x3], .int .i64 (-1)] w fun e w' => e = .returned (.agg #[.int .i64 (-x0), .int .i64 (-x1), .int .i64 (-x2), .int .i64 (-x3)]) ∧ Below w.heap.size w w' :=
  (imScaled_any x0 x1 x2 x3 (-1) w).mono fun e w' ⟨h, hb⟩ => ⟨by rw [h, w64s (-1 * x0) (by omega) (by omega), w64s (-1 * x1) (by omega) (by omega), w64s (-1 * x2) (by omega) (by omega), w64s (-1 * x3) (by omega) (by omega)]; simp, hb⟩

end Go.Proofs.Ytoenkgenoloihab

/- Contracts: how a piece is laid from any step, in the program. -/
namespace Go.Proofs.Ytoenkgenoloihab
open Go.ChangeShapes Go.WideShapes Go.ChangeAt Go.RowKit

set_option linter.unusedVariables false
set_option linter.unusedSimpArgs false

theorem plP (x0 x1 x2 x3 y0 y1 y2 y3 : Int) (px0 : -9000000 ≤ x0) (qx0 : x0 ≤ 9000000) (px1 : -9000000 ≤ x1) (qx1 : x1 ≤ 9000000) (px2 : -9000000 ≤ x2) (qx2 : x2 ≤ 9000000) (px3 : -9000000 ≤ x3) (qx3 : x3 ≤ 9000000) (py0 : -9000000 ≤ y0) (qy0 : y0 ≤ 9000000) (py1 : -9000000 ≤ y1) (qy1 : y1 ≤ 9000000) (py2 : -9000000 ≤ y2) (qy2 : y2 ≤ 9000000) (py3 : -9000000 ≤ y3) (qy3 : y3 ≤ 9000000) (w : World) :
    Calls Try.prog 84 #[.agg #[.int .i64 x0, .int .i64 x1, .int .i64 x2, .int .i64 x3], .agg #[.int .i64 y0, .int .i64 y1, .int .i64 y2, .int .i64 y3]] w fun e w' => e = .returned (.agg #[.int .i64 (x0 + y0), .int .i64 (x1 + y1), .int .i64 (x2 + y2), .int .i64 (x3 + y3)]) ∧ Below w.heap.size w w' :=
  (imPlus_any x0 x1 x2 x3 y0 y1 y2 y3 w).mono fun e w' ⟨h, hb⟩ => ⟨by rw [h, w64s (x0 + y0) (by omega) (by omega), w64s (x1 + y1) (by omega) (by omega), w64s (x2 + y2) (by omega) (by omega), w64s (x3 + y3) (by omega) (by omega)], hb⟩

theorem ag5 {a b c d e a' b' c' d' e' : Int} (h0 : a = a') (h1 : b = b') (h2 : c = c') (h3 : d = d') (h4 : e = e') : Ending.returned (.agg #[.int .i64 a, .int .i64 b, .int .i64 c, .int .i64 d, .int .i64 e]) = Ending.returned (.agg #[.int .i64 a', .int .i64 b', .int .i64 c', .int .i64 d', .int .i64 e']) := by
  rw [h0, h1, h2, h3, h4]

set_option maxRecDepth 100000 in
set_option maxHeartbeats 1600000 in
theorem straightP (x0 x1 x2 x3 h : Int) (h0 : 0 ≤ h) (h7 : h ≤ 7) (px0 : -1000000 ≤ x0) (qx0 : x0 ≤ 1000000) (px1 : -1000000 ≤ x1) (qx1 : x1 ≤ 1000000) (px2 : -1000000 ≤ x2) (qx2 : x2 ≤ 1000000) (px3 : -1000000 ≤ x3) (qx3 : x3 ≤ 1000000) (w : World) :
    Calls Try.prog 73 #[.agg #[.int .i64 x0, .int .i64 x1, .int .i64 x2, .int .i64 x3, .int .i64 h]] w fun e w' => e = .returned (.agg #[.int .i64 (x0 + tu0 h 1 0 0 0), .int .i64 (x1 + tu1 h 1 0 0 0), .int .i64 (x2 + tu2 h 1 0 0 0), .int .i64 (x3 + tu3 h 1 0 0 0), .int .i64 h]) ∧ Below w.heap.size w w' := by
  obtain ⟨t0, t0'⟩ := tu_bd0 h h0 h7
  obtain ⟨t1, t1'⟩ := tu_bd1 h h0 h7
  obtain ⟨t2, t2'⟩ := tu_bd2 h h0 h7
  obtain ⟨t3, t3'⟩ := tu_bd3 h h0 h7
  have hS0 : ((w.alloc (.cells #[.int .i64 x0, .int .i64 x1, .int .i64 x2, .int .i64 x3, .int .i64 h] 69)).alloc (.cells #[.int .i64 0, .int .i64 0, .int .i64 0, .int .i64 0, .int .i64 0] 69)).cell? ⟨w.heap.size, 0, none⟩ = some (.int .i64 x0) ∧ ((w.alloc (.cells #[.int .i64 x0, .int .i64 x1, .int .i64 x2, .int .i64 x3, .int .i64 h] 69)).alloc (.cells #[.int .i64 0, .int .i64 0, .int .i64 0, .int .i64 0, .int .i64 0] 69)).cell? ⟨w.heap.size, 1, none⟩ = some (.int .i64 x1) ∧ ((w.alloc (.cells #[.int .i64 x0, .int .i64 x1, .int .i64 x2, .int .i64 x3, .int .i64 h] 69)).alloc (.cells #[.int .i64 0, .int .i64 0, .int .i64 0, .int .i64 0, .int .i64 0] 69)).cell? ⟨w.heap.size, 2, none⟩ = some (.int .i64 x2) ∧ ((w.alloc (.cells #[.int .i64 x0, .int .i64 x1, .int .i64 x2, .int .i64 x3, .int .i64 h] 69)).alloc (.cells #[.int .i64 0, .int .i64 0, .int .i64 0, .int .i64 0, .int .i64 0] 69)).cell? ⟨w.heap.size, 3, none⟩ = some (.int .i64 x3) ∧ ((w.alloc (.cells #[.int .i64 x0, .int .i64 x1, .int .i64 x2, .int .i64 x3, .int .i64 h] 69)).alloc (.cells #[.int .i64 0, .int .i64 0, .int .i64 0, .int .i64 0, .int .i64 0] 69)).cell? ⟨w.heap.size, 4, none⟩ = some (.int .i64 h) := by refine ⟨?_, ?_, ?_, ?_, ?_⟩ <;> go_simp
  have hR : ((w.alloc (.cells #[.int .i64 x0, .int .i64 x1, .int .i64 x2, .int .i64 x3, .int .i64 h] 69)).alloc (.cells #[.int .i64 0, .int .i64 0, .int .i64 0, .int .i64 0, .int .i64 0] 69)).cell? ⟨w.heap.size + 1, 0, none⟩ = some (.int .i64 0) ∧ ((w.alloc (.cells #[.int .i64 x0, .int .i64 x1, .int .i64 x2, .int .i64 x3, .int .i64 h] 69)).alloc (.cells #[.int .i64 0, .int .i64 0, .int .i64 0, .int .i64 0, .int .i64 0] 69)).cell? ⟨w.heap.size + 1, 1, none⟩ = some (.int .i64 0) ∧ ((w.alloc (.cells #[.int .i64 x0, .int .i64 x1, .int .i64 x2, .int .i64 x3, .int .i64 h] 69)).alloc (.cells #[.int .i64 0, .int .i64 0, .int .i64 0, .int .i64 0, .int .i64 0] 69)).cell? ⟨w.heap.size + 1, 2, none⟩ = some (.int .i64 0) ∧ ((w.alloc (.cells #[.int .i64 x0, .int .i64 x1, .int .i64 x2, .int .i64 x3, .int .i64 h] 69)).alloc (.cells #[.int .i64 0, .int .i64 0, .int .i64 0, .int .i64 0, .int .i64 0] 69)).cell? ⟨w.heap.size + 1, 3, none⟩ = some (.int .i64 0) ∧ ((w.alloc (.cells #[.int .i64 x0, .int .i64 x1, .int .i64 x2, .int .i64 x3, .int .i64 h] 69)).alloc (.cells #[.int .i64 0, .int .i64 0, .int .i64 0, .int .i64 0, .int .i64 0] 69)).cell? ⟨w.heap.size + 1, 4, none⟩ = some (.int .i64 0) := by refine ⟨?_, ?_, ?_, ?_, ?_⟩ <;> go_simp
  go_enter Try.func73, Try.ntmps73
  go_wp2_with fail
  go_region_held3 (fun w' => w'.cell? ⟨w.heap.size, 0, none⟩ = some (.int .i64 x0) ∧ w'.cell? ⟨w.heap.size, 1, none⟩ = some (.int .i64 x1) ∧ w'.cell? ⟨w.heap.size, 2, none⟩ = some (.int .i64 x2) ∧ w'.cell? ⟨w.heap.size, 3, none⟩ = some (.int .i64 x3) ∧ w'.cell? ⟨w.heap.size, 4, none⟩ = some (.int .i64 h))
    (first | (with_reducible assumption) | (with_reducible exact st_drew hS0) | (with_reducible exact st_drew (st_alloc hS0 _)) | (with_reducible exact st_alloc (st_drew hS0) _) | (with_reducible refine st_drew ?_; with_reducible assumption) | (with_reducible refine st_alloc ?_ _; with_reducible assumption) | (with_reducible refine st_re (by with_reducible assumption) ?_ _; (focus first | (with_reducible assumption) | omega | (simp; done) | (simp; omega))) | (with_reducible refine st_below ?_ ?_ h1; (focus first | (with_reducible assumption) | (with_reducible refine st_undrew ?_; with_reducible assumption)); (focus first | (with_reducible assumption) | omega | (simp; done) | (simp; omega))) | ((repeat (with_reducible refine st_set ?_ _ _ ?_; rotate_left 1; (focus first | (with_reducible assumption) | omega | (simp; done) | (simp; omega)))); with_reducible assumption))
    (first | (go_at_call 79; (with_reducible refine (power_any h h0 h7 _).mono ?_); rintro e wC ⟨rfl, h1⟩; (try with_reducible replace h1 := undrew h1); have hB : Below w.heap.size w wC := ba (by go_grown) h1; obtain ⟨hcwC, hfwC⟩ := bcell h1; have hqwC := h1.size; (try simp at hqwC); (try have hz0wC : w.heap.size < wC.heap.size := (by omega)); (try have he0wC : w.heap.size ≤ wC.heap.size := (by omega)); (try have hz1wC : w.heap.size + 1 < wC.heap.size := (by omega)); (try have he1wC : w.heap.size + 1 ≤ wC.heap.size := (by omega)); have hR := st_below hR (by first | omega | (simp; done) | (simp; omega)) h1) | (go_at_call 84; (with_reducible refine (plP x0 x1 x2 x3 (tu0 h 1 0 0 0) (tu1 h 1 0 0 0) (tu2 h 1 0 0 0) (tu3 h 1 0 0 0) (by omega) (by omega) (by omega) (by omega) (by omega) (by omega) (by omega) (by omega) (by omega) (by omega) (by omega) (by omega) (by omega) (by omega) (by omega) (by omega) _).mono ?_); rintro e wD ⟨rfl, h1⟩; (try with_reducible replace h1 := undrew h1); have hB : Below w.heap.size w wD := ba (by go_grown) h1; obtain ⟨hcwD, hfwD⟩ := bcell h1; have hqwD := h1.size; (try simp at hqwD); (try have hz0wD : w.heap.size < wD.heap.size := (by omega)); (try have he0wD : w.heap.size ≤ wD.heap.size := (by omega)); (try have hz1wD : w.heap.size + 1 < wD.heap.size := (by omega)); (try have he1wD : w.heap.size + 1 ≤ wD.heap.size := (by omega)); have hR := st_below hR (by first | omega | (simp; done) | (simp; omega)) h1))
  go_wp2_with fail
  refine bodyPost_ret (by simp [results, Try.results73, go_sem, *]; try rfl) rfl ?_
  exact ⟨rfl, by go_grown⟩

set_option maxRecDepth 100000 in
set_option maxHeartbeats 3200000 in
theorem curveLeftP (x0 x1 x2 x3 h : Int) (h0 : 0 ≤ h) (h7 : h ≤ 7) (px0 : -1000000 ≤ x0) (qx0 : x0 ≤ 1000000) (px1 : -1000000 ≤ x1) (qx1 : x1 ≤ 1000000) (px2 : -1000000 ≤ x2) (qx2 : x2 ≤ 1000000) (px3 : -1000000 ≤ x3) (qx3 : x3 ≤ 1000000) (w : World) :
    Calls Try.prog 85 #[.agg #[.int .i64 x0, .int .i64 x1, .int .i64 x2, .int .i64 x3, .int .i64 h], .int .i64 1] w fun e w' => e = .returned (.agg #[.int .i64 (x0 + (tu0 ((h + 7) % 8) 1 0 0 0 - tu0 ((h + 6) % 8) 1 0 0 0)), .int .i64 (x1 + (tu1 ((h + 7) % 8) 1 0 0 0 - tu1 ((h + 6) % 8) 1 0 0 0)), .int .i64 (x2 + (tu2 ((h + 7) % 8) 1 0 0 0 - tu2 ((h + 6) % 8) 1 0 0 0)), .int .i64 (x3 + (tu3 ((h + 7) % 8) 1 0 0 0 - tu3 ((h + 6) % 8) 1 0 0 0)), .int .i64 ((h + 1) % 8)]) ∧ Below w.heap.size w w' := by
  have g0 : 0 ≤ ((h + 7) % 8) := by omega
  have g7 : ((h + 7) % 8) ≤ 7 := by omega
  have j0 : 0 ≤ ((h + 6) % 8) := by omega
  have j7 : ((h + 6) % 8) ≤ 7 := by omega
  obtain ⟨a0, a0'⟩ := tu_bd0 ((h + 7) % 8) (by omega) (by omega)
  obtain ⟨a1, a1'⟩ := tu_bd1 ((h + 7) % 8) (by omega) (by omega)
  obtain ⟨a2, a2'⟩ := tu_bd2 ((h + 7) % 8) (by omega) (by omega)
  obtain ⟨a3, a3'⟩ := tu_bd3 ((h + 7) % 8) (by omega) (by omega)
  obtain ⟨b0, b0'⟩ := tu_bd0 ((h + 6) % 8) (by omega) (by omega)
  obtain ⟨b1, b1'⟩ := tu_bd1 ((h + 6) % 8) (by omega) (by omega)
  obtain ⟨b2, b2'⟩ := tu_bd2 ((h + 6) % 8) (by omega) (by omega)
  obtain ⟨b3, b3'⟩ := tu_bd3 ((h + 6) % 8) (by omega) (by omega)
  go_enter Try.func85, Try.ntmps85
  go_wp2_with (go_at_call 31; refine (tm1_any h h0 h7 _).mono ?_; rintro e w' ⟨rfl, rfl⟩)
  (go_at_call 79; (with_reducible refine (power_any ((h + 7) % 8) g0 g7 _).mono ?_); rintro e wB ⟨rfl, h1⟩; (try with_reducible replace h1 := undrew h1); have hB : Below w.heap.size w wB := ba (by go_grown) h1; obtain ⟨hcwB, hfwB⟩ := bcell h1; have hqwB := h1.size; (try simp at hqwB); (try have hz0wB : w.heap.size < wB.heap.size := (by omega)); (try have he0wB : w.heap.size ≤ wB.heap.size := (by omega)); (try have hz1wB : w.heap.size + 1 < wB.heap.size := (by omega)); (try have he1wB : w.heap.size + 1 ≤ wB.heap.size := (by omega)))
  go_wp2_with (go_at_call 31; refine (tm2_any h h0 h7 _).mono ?_; rintro e w' ⟨rfl, rfl⟩)
  (go_at_call 79; (with_reducible refine (power_any ((h + 6) % 8) j0 j7 _).mono ?_); rintro e wC ⟨rfl, h1⟩; (try with_reducible replace h1 := undrew h1); have hB : Below w.heap.size w wC := ba (by go_grown) h1; obtain ⟨hcwC, hfwC⟩ := bcell h1; have hqwC := h1.size; (try simp at hqwC); (try have hz0wC : w.heap.size < wC.heap.size := (by omega)); (try have he0wC : w.heap.size ≤ wC.heap.size := (by omega)); (try have hz1wC : w.heap.size + 1 < wC.heap.size := (by omega)); (try have he1wC : w.heap.size + 1 ≤ wC.heap.size := (by omega)); (try have hz2wC : wB.heap.size < wC.heap.size := (by omega)); (try have he2wC : wB.heap.size ≤ wC.heap.size := (by omega)))
  go_wp2_with fail
  (go_at_call 77; (with_reducible refine (scN (tu0 ((h + 6) % 8) 1 0 0 0) (tu1 ((h + 6) % 8) 1 0 0 0) (tu2 ((h + 6) % 8) 1 0 0 0) (tu3 ((h + 6) % 8) 1 0 0 0) b0 b0' b1 b1' b2 b2' b3 b3' _).mono ?_); rintro e wD ⟨rfl, h1⟩; (try with_reducible replace h1 := undrew h1); have hB : Below w.heap.size w wD := ba (by go_grown) h1; obtain ⟨hcwD, hfwD⟩ := bcell h1; have hqwD := h1.size; (try simp at hqwD); (try have hz0wD : w.heap.size < wD.heap.size := (by omega)); (try have he0wD : w.heap.size ≤ wD.heap.size := (by omega)); (try have hz1wD : w.heap.size + 1 < wD.heap.size := (by omega)); (try have he1wD : w.heap.size + 1 ≤ wD.heap.size := (by omega)); (try have hz2wD : wB.heap.size < wD.heap.size := (by omega)); (try have he2wD : wB.heap.size ≤ wD.heap.size := (by omega)))
  go_wp2_with fail
  have hS0 : (wD.alloc (.cells #[.int .i64 (-(tu0 ((h + 6) % 8) 1 0 0 0)), .int .i64 (-(tu1 ((h + 6) % 8) 1 0 0 0)), .int .i64 (-(tu2 ((h + 6) % 8) 1 0 0 0)), .int .i64 (-(tu3 ((h + 6) % 8) 1 0 0 0))] 44)).cell? ⟨w.heap.size, 0, none⟩ = some (.int .i64 x0) ∧ (wD.alloc (.cells #[.int .i64 (-(tu0 ((h + 6) % 8) 1 0 0 0)), .int .i64 (-(tu1 ((h + 6) % 8) 1 0 0 0)), .int .i64 (-(tu2 ((h + 6) % 8) 1 0 0 0)), .int .i64 (-(tu3 ((h + 6) % 8) 1 0 0 0))] 44)).cell? ⟨w.heap.size, 1, none⟩ = some (.int .i64 x1) ∧ (wD.alloc (.cells #[.int .i64 (-(tu0 ((h + 6) % 8) 1 0 0 0)), .int .i64 (-(tu1 ((h + 6) % 8) 1 0 0 0)), .int .i64 (-(tu2 ((h + 6) % 8) 1 0 0 0)), .int .i64 (-(tu3 ((h + 6) % 8) 1 0 0 0))] 44)).cell? ⟨w.heap.size, 2, none⟩ = some (.int .i64 x2) ∧ (wD.alloc (.cells #[.int .i64 (-(tu0 ((h + 6) % 8) 1 0 0 0)), .int .i64 (-(tu1 ((h + 6) % 8) 1 0 0 0)), .int .i64 (-(tu2 ((h + 6) % 8) 1 0 0 0)), .int .i64 (-(tu3 ((h + 6) % 8) 1 0 0 0))] 44)).cell? ⟨w.heap.size, 3, none⟩ = some (.int .i64 x3) ∧ (wD.alloc (.cells #[.int .i64 (-(tu0 ((h + 6) % 8) 1 0 0 0)), .int .i64 (-(tu1 ((h + 6) % 8) 1 0 0 0)), .int .i64 (-(tu2 ((h + 6) % 8) 1 0 0 0)), .int .i64 (-(tu3 ((h + 6) % 8) 1 0 0 0))] 44)).cell? ⟨w.heap.size, 4, none⟩ = some (.int .i64 h) ∧ (wD.alloc (.cells #[.int .i64 (-(tu0 ((h + 6) % 8) 1 0 0 0)), .int .i64 (-(tu1 ((h + 6) % 8) 1 0 0 0)), .int .i64 (-(tu2 ((h + 6) % 8) 1 0 0 0)), .int .i64 (-(tu3 ((h + 6) % 8) 1 0 0 0))] 44)).cell? ⟨wB.heap.size, 0, none⟩ = some (.int .i64 (tu0 ((h + 7) % 8) 1 0 0 0)) ∧ (wD.alloc (.cells #[.int .i64 (-(tu0 ((h + 6) % 8) 1 0 0 0)), .int .i64 (-(tu1 ((h + 6) % 8) 1 0 0 0)), .int .i64 (-(tu2 ((h + 6) % 8) 1 0 0 0)), .int .i64 (-(tu3 ((h + 6) % 8) 1 0 0 0))] 44)).cell? ⟨wB.heap.size, 1, none⟩ = some (.int .i64 (tu1 ((h + 7) % 8) 1 0 0 0)) ∧ (wD.alloc (.cells #[.int .i64 (-(tu0 ((h + 6) % 8) 1 0 0 0)), .int .i64 (-(tu1 ((h + 6) % 8) 1 0 0 0)), .int .i64 (-(tu2 ((h + 6) % 8) 1 0 0 0)), .int .i64 (-(tu3 ((h + 6) % 8) 1 0 0 0))] 44)).cell? ⟨wB.heap.size, 2, none⟩ = some (.int .i64 (tu2 ((h + 7) % 8) 1 0 0 0)) ∧ (wD.alloc (.cells #[.int .i64 (-(tu0 ((h + 6) % 8) 1 0 0 0)), .int .i64 (-(tu1 ((h + 6) % 8) 1 0 0 0)), .int .i64 (-(tu2 ((h + 6) % 8) 1 0 0 0)), .int .i64 (-(tu3 ((h + 6) % 8) 1 0 0 0))] 44)).cell? ⟨wB.heap.size, 3, none⟩ = some (.int .i64 (tu3 ((h + 7) % 8) 1 0 0 0)) ∧ (wD.alloc (.cells #[.int .i64 (-(tu0 ((h + 6) % 8) 1 0 0 0)), .int .i64 (-(tu1 ((h + 6) % 8) 1 0 0 0)), .int .i64 (-(tu2 ((h + 6) % 8) 1 0 0 0)), .int .i64 (-(tu3 ((h + 6) % 8) 1 0 0 0))] 44)).cell? ⟨wD.heap.size, 0, none⟩ = some (.int .i64 (-(tu0 ((h + 6) % 8) 1 0 0 0))) ∧ (wD.alloc (.cells #[.int .i64 (-(tu0 ((h + 6) % 8) 1 0 0 0)), .int .i64 (-(tu1 ((h + 6) % 8) 1 0 0 0)), .int .i64 (-(tu2 ((h + 6) % 8) 1 0 0 0)), .int .i64 (-(tu3 ((h + 6) % 8) 1 0 0 0))] 44)).cell? ⟨wD.heap.size, 1, none⟩ = some (.int .i64 (-(tu1 ((h + 6) % 8) 1 0 0 0))) ∧ (wD.alloc (.cells #[.int .i64 (-(tu0 ((h + 6) % 8) 1 0 0 0)), .int .i64 (-(tu1 ((h + 6) % 8) 1 0 0 0)), .int .i64 (-(tu2 ((h + 6) % 8) 1 0 0 0)), .int .i64 (-(tu3 ((h + 6) % 8) 1 0 0 0))] 44)).cell? ⟨wD.heap.size, 2, none⟩ = some (.int .i64 (-(tu2 ((h + 6) % 8) 1 0 0 0))) ∧ (wD.alloc (.cells #[.int .i64 (-(tu0 ((h + 6) % 8) 1 0 0 0)), .int .i64 (-(tu1 ((h + 6) % 8) 1 0 0 0)), .int .i64 (-(tu2 ((h + 6) % 8) 1 0 0 0)), .int .i64 (-(tu3 ((h + 6) % 8) 1 0 0 0))] 44)).cell? ⟨wD.heap.size, 3, none⟩ = some (.int .i64 (-(tu3 ((h + 6) % 8) 1 0 0 0))) := by refine ⟨?_, ?_, ?_, ?_, ?_, ?_, ?_, ?_, ?_, ?_, ?_, ?_, ?_⟩ <;> go_simp
  have hR : (wD.alloc (.cells #[.int .i64 (-(tu0 ((h + 6) % 8) 1 0 0 0)), .int .i64 (-(tu1 ((h + 6) % 8) 1 0 0 0)), .int .i64 (-(tu2 ((h + 6) % 8) 1 0 0 0)), .int .i64 (-(tu3 ((h + 6) % 8) 1 0 0 0))] 44)).cell? ⟨w.heap.size + 1, 0, none⟩ = some (.int .i64 0) ∧ (wD.alloc (.cells #[.int .i64 (-(tu0 ((h + 6) % 8) 1 0 0 0)), .int .i64 (-(tu1 ((h + 6) % 8) 1 0 0 0)), .int .i64 (-(tu2 ((h + 6) % 8) 1 0 0 0)), .int .i64 (-(tu3 ((h + 6) % 8) 1 0 0 0))] 44)).cell? ⟨w.heap.size + 1, 1, none⟩ = some (.int .i64 0) ∧ (wD.alloc (.cells #[.int .i64 (-(tu0 ((h + 6) % 8) 1 0 0 0)), .int .i64 (-(tu1 ((h + 6) % 8) 1 0 0 0)), .int .i64 (-(tu2 ((h + 6) % 8) 1 0 0 0)), .int .i64 (-(tu3 ((h + 6) % 8) 1 0 0 0))] 44)).cell? ⟨w.heap.size + 1, 2, none⟩ = some (.int .i64 0) ∧ (wD.alloc (.cells #[.int .i64 (-(tu0 ((h + 6) % 8) 1 0 0 0)), .int .i64 (-(tu1 ((h + 6) % 8) 1 0 0 0)), .int .i64 (-(tu2 ((h + 6) % 8) 1 0 0 0)), .int .i64 (-(tu3 ((h + 6) % 8) 1 0 0 0))] 44)).cell? ⟨w.heap.size + 1, 3, none⟩ = some (.int .i64 0) ∧ (wD.alloc (.cells #[.int .i64 (-(tu0 ((h + 6) % 8) 1 0 0 0)), .int .i64 (-(tu1 ((h + 6) % 8) 1 0 0 0)), .int .i64 (-(tu2 ((h + 6) % 8) 1 0 0 0)), .int .i64 (-(tu3 ((h + 6) % 8) 1 0 0 0))] 44)).cell? ⟨w.heap.size + 1, 4, none⟩ = some (.int .i64 0) := by refine ⟨?_, ?_, ?_, ?_, ?_⟩ <;> go_simp
  go_region_held3 (fun w' => w'.cell? ⟨w.heap.size, 0, none⟩ = some (.int .i64 x0) ∧ w'.cell? ⟨w.heap.size, 1, none⟩ = some (.int .i64 x1) ∧ w'.cell? ⟨w.heap.size, 2, none⟩ = some (.int .i64 x2) ∧ w'.cell? ⟨w.heap.size, 3, none⟩ = some (.int .i64 x3) ∧ w'.cell? ⟨w.heap.size, 4, none⟩ = some (.int .i64 h) ∧ w'.cell? ⟨wB.heap.size, 0, none⟩ = some (.int .i64 (tu0 ((h + 7) % 8) 1 0 0 0)) ∧ w'.cell? ⟨wB.heap.size, 1, none⟩ = some (.int .i64 (tu1 ((h + 7) % 8) 1 0 0 0)) ∧ w'.cell? ⟨wB.heap.size, 2, none⟩ = some (.int .i64 (tu2 ((h + 7) % 8) 1 0 0 0)) ∧ w'.cell? ⟨wB.heap.size, 3, none⟩ = some (.int .i64 (tu3 ((h + 7) % 8) 1 0 0 0)) ∧ w'.cell? ⟨wD.heap.size, 0, none⟩ = some (.int .i64 (-(tu0 ((h + 6) % 8) 1 0 0 0))) ∧ w'.cell? ⟨wD.heap.size, 1, none⟩ = some (.int .i64 (-(tu1 ((h + 6) % 8) 1 0 0 0))) ∧ w'.cell? ⟨wD.heap.size, 2, none⟩ = some (.int .i64 (-(tu2 ((h + 6) % 8) 1 0 0 0))) ∧ w'.cell? ⟨wD.heap.size, 3, none⟩ = some (.int .i64 (-(tu3 ((h + 6) % 8) 1 0 0 0))))
    (first | (with_reducible assumption) | (with_reducible exact stpp_drew hS0) | (with_reducible exact stpp_drew (stpp_alloc hS0 _)) | (with_reducible exact stpp_alloc (stpp_drew hS0) _) | (with_reducible refine stpp_drew ?_; with_reducible assumption) | (with_reducible refine stpp_alloc ?_ _; with_reducible assumption) | (with_reducible refine stpp_re (by with_reducible assumption) ?_ ?_ ?_ _; (focus first | (with_reducible assumption) | omega | (simp; done) | (simp; omega)); (focus first | (with_reducible assumption) | omega | (simp; done) | (simp; omega)); (focus first | (with_reducible assumption) | omega | (simp; done) | (simp; omega))) | (with_reducible refine stpp_below ?_ ?_ ?_ ?_ h1; (focus first | (with_reducible assumption) | (with_reducible refine stpp_undrew ?_; with_reducible assumption)); (focus first | (with_reducible assumption) | omega | (simp; done) | (simp; omega)); (focus first | (with_reducible assumption) | omega | (simp; done) | (simp; omega)); (focus first | (with_reducible assumption) | omega | (simp; done) | (simp; omega))) | ((repeat (with_reducible refine stpp_set ?_ _ _ ?_ ?_ ?_; rotate_left 1; (focus first | (with_reducible assumption) | omega | (simp; done) | (simp; omega)); (focus first | (with_reducible assumption) | omega | (simp; done) | (simp; omega)); (focus first | (with_reducible assumption) | omega | (simp; done) | (simp; omega)))); with_reducible assumption))
    (first | (go_at_call 84; (with_reducible refine (plP x0 x1 x2 x3 (tu0 ((h + 7) % 8) 1 0 0 0) (tu1 ((h + 7) % 8) 1 0 0 0) (tu2 ((h + 7) % 8) 1 0 0 0) (tu3 ((h + 7) % 8) 1 0 0 0) (by omega) (by omega) (by omega) (by omega) (by omega) (by omega) (by omega) (by omega) (by omega) (by omega) (by omega) (by omega) (by omega) (by omega) (by omega) (by omega) _).mono ?_); rintro e wE ⟨rfl, h1⟩; (try with_reducible replace h1 := undrew h1); have hB : Below w.heap.size w wE := ba (by go_grown) h1; obtain ⟨hcwE, hfwE⟩ := bcell h1; have hqwE := h1.size; (try simp at hqwE); (try have hz0wE : w.heap.size < wE.heap.size := (by omega)); (try have he0wE : w.heap.size ≤ wE.heap.size := (by omega)); (try have hz1wE : w.heap.size + 1 < wE.heap.size := (by omega)); (try have he1wE : w.heap.size + 1 ≤ wE.heap.size := (by omega)); (try have hz2wE : wB.heap.size < wE.heap.size := (by omega)); (try have he2wE : wB.heap.size ≤ wE.heap.size := (by omega)); (try have hz3wE : wD.heap.size < wE.heap.size := (by omega)); (try have he3wE : wD.heap.size ≤ wE.heap.size := (by omega)); have hR := st_below hR (by first | omega | (simp; done) | (simp; omega)) h1) | (go_at_call 84; (with_reducible refine (plP (x0 + (tu0 ((h + 7) % 8) 1 0 0 0)) (x1 + (tu1 ((h + 7) % 8) 1 0 0 0)) (x2 + (tu2 ((h + 7) % 8) 1 0 0 0)) (x3 + (tu3 ((h + 7) % 8) 1 0 0 0)) (-(tu0 ((h + 6) % 8) 1 0 0 0)) (-(tu1 ((h + 6) % 8) 1 0 0 0)) (-(tu2 ((h + 6) % 8) 1 0 0 0)) (-(tu3 ((h + 6) % 8) 1 0 0 0)) (by omega) (by omega) (by omega) (by omega) (by omega) (by omega) (by omega) (by omega) (by omega) (by omega) (by omega) (by omega) (by omega) (by omega) (by omega) (by omega) _).mono ?_); rintro e wF ⟨rfl, h1⟩; (try with_reducible replace h1 := undrew h1); have hB : Below w.heap.size w wF := ba (by go_grown) h1; obtain ⟨hcwF, hfwF⟩ := bcell h1; have hqwF := h1.size; (try simp at hqwF); (try have hz0wF : w.heap.size < wF.heap.size := (by omega)); (try have he0wF : w.heap.size ≤ wF.heap.size := (by omega)); (try have hz1wF : w.heap.size + 1 < wF.heap.size := (by omega)); (try have he1wF : w.heap.size + 1 ≤ wF.heap.size := (by omega)); (try have hz2wF : wB.heap.size < wF.heap.size := (by omega)); (try have he2wF : wB.heap.size ≤ wF.heap.size := (by omega)); (try have hz3wF : wD.heap.size < wF.heap.size := (by omega)); (try have he3wF : wD.heap.size ≤ wF.heap.size := (by omega)); have hR := st_below hR (by first | omega | (simp; done) | (simp; omega)) h1) | (go_at_call 31; refine (tp1_any h h0 h7 _).mono ?_; rintro e w' ⟨rfl, rfl⟩))
  all_goals
    go_wp2_with fail
    refine bodyPost_ret (by simp [results, Try.results85, go_sem, *]; try rfl) rfl ?_
    exact ⟨ag5 (by omega) (by omega) (by omega) (by omega) rfl, by go_grown⟩

set_option maxRecDepth 100000 in
theorem leftP (x0 x1 x2 x3 h : Int) (h0 : 0 ≤ h) (h7 : h ≤ 7) (px0 : -1000000 ≤ x0) (qx0 : x0 ≤ 1000000) (px1 : -1000000 ≤ x1) (qx1 : x1 ≤ 1000000) (px2 : -1000000 ≤ x2) (qx2 : x2 ≤ 1000000) (px3 : -1000000 ≤ x3) (qx3 : x3 ≤ 1000000) (w : World) :
    Calls Try.prog 74 #[.agg #[.int .i64 x0, .int .i64 x1, .int .i64 x2, .int .i64 x3, .int .i64 h]] w fun e w' => e = .returned (.agg #[.int .i64 (x0 + (tu0 ((h + 7) % 8) 1 0 0 0 - tu0 ((h + 6) % 8) 1 0 0 0)), .int .i64 (x1 + (tu1 ((h + 7) % 8) 1 0 0 0 - tu1 ((h + 6) % 8) 1 0 0 0)), .int .i64 (x2 + (tu2 ((h + 7) % 8) 1 0 0 0 - tu2 ((h + 6) % 8) 1 0 0 0)), .int .i64 (x3 + (tu3 ((h + 7) % 8) 1 0 0 0 - tu3 ((h + 6) % 8) 1 0 0 0)), .int .i64 ((h + 1) % 8)]) ∧ Below w.heap.size w w' := by
  go_enter Try.func74, Try.ntmps74
  go_wp2_with (go_at_call 85; refine (curveLeftP x0 x1 x2 x3 h h0 h7 px0 qx0 px1 qx1 px2 qx2 px3 qx3 _).mono ?_; rintro e w1 ⟨rfl, h1⟩; have hB : Below w.heap.size w w1 := ba (by go_grown) h1; obtain ⟨hc1, hf1⟩ := bcell h1; have hq := h1.size; (try simp at hq); have hz0 : w.heap.size < w1.heap.size := (by omega); have hz1 : w.heap.size + 1 < w1.heap.size := (by omega); clear h1 hq)
  refine bodyPost_ret (by simp [results, Try.results74, go_sem, *]; try rfl) rfl ?_
  exact ⟨rfl, by go_grown⟩

set_option maxRecDepth 100000 in
set_option maxHeartbeats 3200000 in
theorem curveRightP (x0 x1 x2 x3 h : Int) (h0 : 0 ≤ h) (h7 : h ≤ 7) (px0 : -1000000 ≤ x0) (qx0 : x0 ≤ 1000000) (px1 : -1000000 ≤ x1) (qx1 : x1 ≤ 1000000) (px2 : -1000000 ≤ x2) (qx2 : x2 ≤ 1000000) (px3 : -1000000 ≤ x3) (qx3 : x3 ≤ 1000000) (w : World) :
    Calls Try.prog 85 #[.agg #[.int .i64 x0, .int .i64 x1, .int .i64 x2, .int .i64 x3, .int .i64 h], .int .i64 (-1)] w fun e w' => e = .returned (.agg #[.int .i64 (x0 + (tu0 ((h + 1) % 8) 1 0 0 0 - tu0 ((h + 2) % 8) 1 0 0 0)), .int .i64 (x1 + (tu1 ((h + 1) % 8) 1 0 0 0 - tu1 ((h + 2) % 8) 1 0 0 0)), .int .i64 (x2 + (tu2 ((h + 1) % 8) 1 0 0 0 - tu2 ((h + 2) % 8) 1 0 0 0)), .int .i64 (x3 + (tu3 ((h + 1) % 8) 1 0 0 0 - tu3 ((h + 2) % 8) 1 0 0 0)), .int .i64 ((h + 7) % 8)]) ∧ Below w.heap.size w w' := by
  have g0 : 0 ≤ ((h + 1) % 8) := by omega
  have g7 : ((h + 1) % 8) ≤ 7 := by omega
  have j0 : 0 ≤ ((h + 2) % 8) := by omega
  have j7 : ((h + 2) % 8) ≤ 7 := by omega
  obtain ⟨a0, a0'⟩ := tu_bd0 ((h + 1) % 8) (by omega) (by omega)
  obtain ⟨a1, a1'⟩ := tu_bd1 ((h + 1) % 8) (by omega) (by omega)
  obtain ⟨a2, a2'⟩ := tu_bd2 ((h + 1) % 8) (by omega) (by omega)
  obtain ⟨a3, a3'⟩ := tu_bd3 ((h + 1) % 8) (by omega) (by omega)
  obtain ⟨b0, b0'⟩ := tu_bd0 ((h + 2) % 8) (by omega) (by omega)
  obtain ⟨b1, b1'⟩ := tu_bd1 ((h + 2) % 8) (by omega) (by omega)
  obtain ⟨b2, b2'⟩ := tu_bd2 ((h + 2) % 8) (by omega) (by omega)
  obtain ⟨b3, b3'⟩ := tu_bd3 ((h + 2) % 8) (by omega) (by omega)
  go_enter Try.func85, Try.ntmps85
  go_wp2_with (go_at_call 31; refine (tp1_any h h0 h7 _).mono ?_; rintro e w' ⟨rfl, rfl⟩)
  (go_at_call 79; (with_reducible refine (power_any ((h + 1) % 8) g0 g7 _).mono ?_); rintro e wB ⟨rfl, h1⟩; (try with_reducible replace h1 := undrew h1); have hB : Below w.heap.size w wB := ba (by go_grown) h1; obtain ⟨hcwB, hfwB⟩ := bcell h1; have hqwB := h1.size; (try simp at hqwB); (try have hz0wB : w.heap.size < wB.heap.size := (by omega)); (try have he0wB : w.heap.size ≤ wB.heap.size := (by omega)); (try have hz1wB : w.heap.size + 1 < wB.heap.size := (by omega)); (try have he1wB : w.heap.size + 1 ≤ wB.heap.size := (by omega)))
  go_wp2_with (go_at_call 31; refine (tp2_any h h0 h7 _).mono ?_; rintro e w' ⟨rfl, rfl⟩)
  (go_at_call 79; (with_reducible refine (power_any ((h + 2) % 8) j0 j7 _).mono ?_); rintro e wC ⟨rfl, h1⟩; (try with_reducible replace h1 := undrew h1); have hB : Below w.heap.size w wC := ba (by go_grown) h1; obtain ⟨hcwC, hfwC⟩ := bcell h1; have hqwC := h1.size; (try simp at hqwC); (try have hz0wC : w.heap.size < wC.heap.size := (by omega)); (try have he0wC : w.heap.size ≤ wC.heap.size := (by omega)); (try have hz1wC : w.heap.size + 1 < wC.heap.size := (by omega)); (try have he1wC : w.heap.size + 1 ≤ wC.heap.size := (by omega)); (try have hz2wC : wB.heap.size < wC.heap.size := (by omega)); (try have he2wC : wB.heap.size ≤ wC.heap.size := (by omega)))
  go_wp2_with fail
  (go_at_call 77; (with_reducible refine (scN (tu0 ((h + 2) % 8) 1 0 0 0) (tu1 ((h + 2) % 8) 1 0 0 0) (tu2 ((h + 2) % 8) 1 0 0 0) (tu3 ((h + 2) % 8) 1 0 0 0) b0 b0' b1 b1' b2 b2' b3 b3' _).mono ?_); rintro e wD ⟨rfl, h1⟩; (try with_reducible replace h1 := undrew h1); have hB : Below w.heap.size w wD := ba (by go_grown) h1; obtain ⟨hcwD, hfwD⟩ := bcell h1; have hqwD := h1.size; (try simp at hqwD); (try have hz0wD : w.heap.size < wD.heap.size := (by omega)); (try have he0wD : w.heap.size ≤ wD.heap.size := (by omega)); (try have hz1wD : w.heap.size + 1 < wD.heap.size := (by omega)); (try have he1wD : w.heap.size + 1 ≤ wD.heap.size := (by omega)); (try have hz2wD : wB.heap.size < wD.heap.size := (by omega)); (try have he2wD : wB.heap.size ≤ wD.heap.size := (by omega)))
  go_wp2_with fail
  have hS0 : (wD.alloc (.cells #[.int .i64 (-(tu0 ((h + 2) % 8) 1 0 0 0)), .int .i64 (-(tu1 ((h + 2) % 8) 1 0 0 0)), .int .i64 (-(tu2 ((h + 2) % 8) 1 0 0 0)), .int .i64 (-(tu3 ((h + 2) % 8) 1 0 0 0))] 44)).cell? ⟨w.heap.size, 0, none⟩ = some (.int .i64 x0) ∧ (wD.alloc (.cells #[.int .i64 (-(tu0 ((h + 2) % 8) 1 0 0 0)), .int .i64 (-(tu1 ((h + 2) % 8) 1 0 0 0)), .int .i64 (-(tu2 ((h + 2) % 8) 1 0 0 0)), .int .i64 (-(tu3 ((h + 2) % 8) 1 0 0 0))] 44)).cell? ⟨w.heap.size, 1, none⟩ = some (.int .i64 x1) ∧ (wD.alloc (.cells #[.int .i64 (-(tu0 ((h + 2) % 8) 1 0 0 0)), .int .i64 (-(tu1 ((h + 2) % 8) 1 0 0 0)), .int .i64 (-(tu2 ((h + 2) % 8) 1 0 0 0)), .int .i64 (-(tu3 ((h + 2) % 8) 1 0 0 0))] 44)).cell? ⟨w.heap.size, 2, none⟩ = some (.int .i64 x2) ∧ (wD.alloc (.cells #[.int .i64 (-(tu0 ((h + 2) % 8) 1 0 0 0)), .int .i64 (-(tu1 ((h + 2) % 8) 1 0 0 0)), .int .i64 (-(tu2 ((h + 2) % 8) 1 0 0 0)), .int .i64 (-(tu3 ((h + 2) % 8) 1 0 0 0))] 44)).cell? ⟨w.heap.size, 3, none⟩ = some (.int .i64 x3) ∧ (wD.alloc (.cells #[.int .i64 (-(tu0 ((h + 2) % 8) 1 0 0 0)), .int .i64 (-(tu1 ((h + 2) % 8) 1 0 0 0)), .int .i64 (-(tu2 ((h + 2) % 8) 1 0 0 0)), .int .i64 (-(tu3 ((h + 2) % 8) 1 0 0 0))] 44)).cell? ⟨w.heap.size, 4, none⟩ = some (.int .i64 h) ∧ (wD.alloc (.cells #[.int .i64 (-(tu0 ((h + 2) % 8) 1 0 0 0)), .int .i64 (-(tu1 ((h + 2) % 8) 1 0 0 0)), .int .i64 (-(tu2 ((h + 2) % 8) 1 0 0 0)), .int .i64 (-(tu3 ((h + 2) % 8) 1 0 0 0))] 44)).cell? ⟨wB.heap.size, 0, none⟩ = some (.int .i64 (tu0 ((h + 1) % 8) 1 0 0 0)) ∧ (wD.alloc (.cells #[.int .i64 (-(tu0 ((h + 2) % 8) 1 0 0 0)), .int .i64 (-(tu1 ((h + 2) % 8) 1 0 0 0)), .int .i64 (-(tu2 ((h + 2) % 8) 1 0 0 0)), .int .i64 (-(tu3 ((h + 2) % 8) 1 0 0 0))] 44)).cell? ⟨wB.heap.size, 1, none⟩ = some (.int .i64 (tu1 ((h + 1) % 8) 1 0 0 0)) ∧ (wD.alloc (.cells #[.int .i64 (-(tu0 ((h + 2) % 8) 1 0 0 0)), .int .i64 (-(tu1 ((h + 2) % 8) 1 0 0 0)), .int .i64 (-(tu2 ((h + 2) % 8) 1 0 0 0)), .int .i64 (-(tu3 ((h + 2) % 8) 1 0 0 0))] 44)).cell? ⟨wB.heap.size, 2, none⟩ = some (.int .i64 (tu2 ((h + 1) % 8) 1 0 0 0)) ∧ (wD.alloc (.cells #[.int .i64 (-(tu0 ((h + 2) % 8) 1 0 0 0)), .int .i64 (-(tu1 ((h + 2) % 8) 1 0 0 0)), .int .i64 (-(tu2 ((h + 2) % 8) 1 0 0 0)), .int .i64 (-(tu3 ((h + 2) % 8) 1 0 0 0))] 44)).cell? ⟨wB.heap.size, 3, none⟩ = some (.int .i64 (tu3 ((h + 1) % 8) 1 0 0 0)) ∧ (wD.alloc (.cells #[.int .i64 (-(tu0 ((h + 2) % 8) 1 0 0 0)), .int .i64 (-(tu1 ((h + 2) % 8) 1 0 0 0)), .int .i64 (-(tu2 ((h + 2) % 8) 1 0 0 0)), .int .i64 (-(tu3 ((h + 2) % 8) 1 0 0 0))] 44)).cell? ⟨wD.heap.size, 0, none⟩ = some (.int .i64 (-(tu0 ((h + 2) % 8) 1 0 0 0))) ∧ (wD.alloc (.cells #[.int .i64 (-(tu0 ((h + 2) % 8) 1 0 0 0)), .int .i64 (-(tu1 ((h + 2) % 8) 1 0 0 0)), .int .i64 (-(tu2 ((h + 2) % 8) 1 0 0 0)), .int .i64 (-(tu3 ((h + 2) % 8) 1 0 0 0))] 44)).cell? ⟨wD.heap.size, 1, none⟩ = some (.int .i64 (-(tu1 ((h + 2) % 8) 1 0 0 0))) ∧ (wD.alloc (.cells #[.int .i64 (-(tu0 ((h + 2) % 8) 1 0 0 0)), .int .i64 (-(tu1 ((h + 2) % 8) 1 0 0 0)), .int .i64 (-(tu2 ((h + 2) % 8) 1 0 0 0)), .int .i64 (-(tu3 ((h + 2) % 8) 1 0 0 0))] 44)).cell? ⟨wD.heap.size, 2, none⟩ = some (.int .i64 (-(tu2 ((h + 2) % 8) 1 0 0 0))) ∧ (wD.alloc (.cells #[.int .i64 (-(tu0 ((h + 2) % 8) 1 0 0 0)), .int .i64 (-(tu1 ((h + 2) % 8) 1 0 0 0)), .int .i64 (-(tu2 ((h + 2) % 8) 1 0 0 0)), .int .i64 (-(tu3 ((h + 2) % 8) 1 0 0 0))] 44)).cell? ⟨wD.heap.size, 3, none⟩ = some (.int .i64 (-(tu3 ((h + 2) % 8) 1 0 0 0))) := by refine ⟨?_, ?_, ?_, ?_, ?_, ?_, ?_, ?_, ?_, ?_, ?_, ?_, ?_⟩ <;> go_simp
  have hR : (wD.alloc (.cells #[.int .i64 (-(tu0 ((h + 2) % 8) 1 0 0 0)), .int .i64 (-(tu1 ((h + 2) % 8) 1 0 0 0)), .int .i64 (-(tu2 ((h + 2) % 8) 1 0 0 0)), .int .i64 (-(tu3 ((h + 2) % 8) 1 0 0 0))] 44)).cell? ⟨w.heap.size + 1, 0, none⟩ = some (.int .i64 0) ∧ (wD.alloc (.cells #[.int .i64 (-(tu0 ((h + 2) % 8) 1 0 0 0)), .int .i64 (-(tu1 ((h + 2) % 8) 1 0 0 0)), .int .i64 (-(tu2 ((h + 2) % 8) 1 0 0 0)), .int .i64 (-(tu3 ((h + 2) % 8) 1 0 0 0))] 44)).cell? ⟨w.heap.size + 1, 1, none⟩ = some (.int .i64 0) ∧ (wD.alloc (.cells #[.int .i64 (-(tu0 ((h + 2) % 8) 1 0 0 0)), .int .i64 (-(tu1 ((h + 2) % 8) 1 0 0 0)), .int .i64 (-(tu2 ((h + 2) % 8) 1 0 0 0)), .int .i64 (-(tu3 ((h + 2) % 8) 1 0 0 0))] 44)).cell? ⟨w.heap.size + 1, 2, none⟩ = some (.int .i64 0) ∧ (wD.alloc (.cells #[.int .i64 (-(tu0 ((h + 2) % 8) 1 0 0 0)), .int .i64 (-(tu1 ((h + 2) % 8) 1 0 0 0)), .int .i64 (-(tu2 ((h + 2) % 8) 1 0 0 0)), .int .i64 (-(tu3 ((h + 2) % 8) 1 0 0 0))] 44)).cell? ⟨w.heap.size + 1, 3, none⟩ = some (.int .i64 0) ∧ (wD.alloc (.cells #[.int .i64 (-(tu0 ((h + 2) % 8) 1 0 0 0)), .int .i64 (-(tu1 ((h + 2) % 8) 1 0 0 0)), .int .i64 (-(tu2 ((h + 2) % 8) 1 0 0 0)), .int .i64 (-(tu3 ((h + 2) % 8) 1 0 0 0))] 44)).cell? ⟨w.heap.size + 1, 4, none⟩ = some (.int .i64 0) := by refine ⟨?_, ?_, ?_, ?_, ?_⟩ <;> go_simp
  go_region_held3 (fun w' => w'.cell? ⟨w.heap.size, 0, none⟩ = some (.int .i64 x0) ∧ w'.cell? ⟨w.heap.size, 1, none⟩ = some (.int .i64 x1) ∧ w'.cell? ⟨w.heap.size, 2, none⟩ = some (.int .i64 x2) ∧ w'.cell? ⟨w.heap.size, 3, none⟩ = some (.int .i64 x3) ∧ w'.cell? ⟨w.heap.size, 4, none⟩ = some (.int .i64 h) ∧ w'.cell? ⟨wB.heap.size, 0, none⟩ = some (.int .i64 (tu0 ((h + 1) % 8) 1 0 0 0)) ∧ w'.cell? ⟨wB.heap.size, 1, none⟩ = some (.int .i64 (tu1 ((h + 1) % 8) 1 0 0 0)) ∧ w'.cell? ⟨wB.heap.size, 2, none⟩ = some (.int .i64 (tu2 ((h + 1) % 8) 1 0 0 0)) ∧ w'.cell? ⟨wB.heap.size, 3, none⟩ = some (.int .i64 (tu3 ((h + 1) % 8) 1 0 0 0)) ∧ w'.cell? ⟨wD.heap.size, 0, none⟩ = some (.int .i64 (-(tu0 ((h + 2) % 8) 1 0 0 0))) ∧ w'.cell? ⟨wD.heap.size, 1, none⟩ = some (.int .i64 (-(tu1 ((h + 2) % 8) 1 0 0 0))) ∧ w'.cell? ⟨wD.heap.size, 2, none⟩ = some (.int .i64 (-(tu2 ((h + 2) % 8) 1 0 0 0))) ∧ w'.cell? ⟨wD.heap.size, 3, none⟩ = some (.int .i64 (-(tu3 ((h + 2) % 8) 1 0 0 0))))
    (first | (with_reducible assumption) | (with_reducible exact stpp_drew hS0) | (with_reducible exact stpp_drew (stpp_alloc hS0 _)) | (with_reducible exact stpp_alloc (stpp_drew hS0) _) | (with_reducible refine stpp_drew ?_; with_reducible assumption) | (with_reducible refine stpp_alloc ?_ _; with_reducible assumption) | (with_reducible refine stpp_re (by with_reducible assumption) ?_ ?_ ?_ _; (focus first | (with_reducible assumption) | omega | (simp; done) | (simp; omega)); (focus first | (with_reducible assumption) | omega | (simp; done) | (simp; omega)); (focus first | (with_reducible assumption) | omega | (simp; done) | (simp; omega))) | (with_reducible refine stpp_below ?_ ?_ ?_ ?_ h1; (focus first | (with_reducible assumption) | (with_reducible refine stpp_undrew ?_; with_reducible assumption)); (focus first | (with_reducible assumption) | omega | (simp; done) | (simp; omega)); (focus first | (with_reducible assumption) | omega | (simp; done) | (simp; omega)); (focus first | (with_reducible assumption) | omega | (simp; done) | (simp; omega))) | ((repeat (with_reducible refine stpp_set ?_ _ _ ?_ ?_ ?_; rotate_left 1; (focus first | (with_reducible assumption) | omega | (simp; done) | (simp; omega)); (focus first | (with_reducible assumption) | omega | (simp; done) | (simp; omega)); (focus first | (with_reducible assumption) | omega | (simp; done) | (simp; omega)))); with_reducible assumption))
    (first | (go_at_call 84; (with_reducible refine (plP x0 x1 x2 x3 (tu0 ((h + 1) % 8) 1 0 0 0) (tu1 ((h + 1) % 8) 1 0 0 0) (tu2 ((h + 1) % 8) 1 0 0 0) (tu3 ((h + 1) % 8) 1 0 0 0) (by omega) (by omega) (by omega) (by omega) (by omega) (by omega) (by omega) (by omega) (by omega) (by omega) (by omega) (by omega) (by omega) (by omega) (by omega) (by omega) _).mono ?_); rintro e wE ⟨rfl, h1⟩; (try with_reducible replace h1 := undrew h1); have hB : Below w.heap.size w wE := ba (by go_grown) h1; obtain ⟨hcwE, hfwE⟩ := bcell h1; have hqwE := h1.size; (try simp at hqwE); (try have hz0wE : w.heap.size < wE.heap.size := (by omega)); (try have he0wE : w.heap.size ≤ wE.heap.size := (by omega)); (try have hz1wE : w.heap.size + 1 < wE.heap.size := (by omega)); (try have he1wE : w.heap.size + 1 ≤ wE.heap.size := (by omega)); (try have hz2wE : wB.heap.size < wE.heap.size := (by omega)); (try have he2wE : wB.heap.size ≤ wE.heap.size := (by omega)); (try have hz3wE : wD.heap.size < wE.heap.size := (by omega)); (try have he3wE : wD.heap.size ≤ wE.heap.size := (by omega)); have hR := st_below hR (by first | omega | (simp; done) | (simp; omega)) h1) | (go_at_call 84; (with_reducible refine (plP (x0 + (tu0 ((h + 1) % 8) 1 0 0 0)) (x1 + (tu1 ((h + 1) % 8) 1 0 0 0)) (x2 + (tu2 ((h + 1) % 8) 1 0 0 0)) (x3 + (tu3 ((h + 1) % 8) 1 0 0 0)) (-(tu0 ((h + 2) % 8) 1 0 0 0)) (-(tu1 ((h + 2) % 8) 1 0 0 0)) (-(tu2 ((h + 2) % 8) 1 0 0 0)) (-(tu3 ((h + 2) % 8) 1 0 0 0)) (by omega) (by omega) (by omega) (by omega) (by omega) (by omega) (by omega) (by omega) (by omega) (by omega) (by omega) (by omega) (by omega) (by omega) (by omega) (by omega) _).mono ?_); rintro e wF ⟨rfl, h1⟩; (try with_reducible replace h1 := undrew h1); have hB : Below w.heap.size w wF := ba (by go_grown) h1; obtain ⟨hcwF, hfwF⟩ := bcell h1; have hqwF := h1.size; (try simp at hqwF); (try have hz0wF : w.heap.size < wF.heap.size := (by omega)); (try have he0wF : w.heap.size ≤ wF.heap.size := (by omega)); (try have hz1wF : w.heap.size + 1 < wF.heap.size := (by omega)); (try have he1wF : w.heap.size + 1 ≤ wF.heap.size := (by omega)); (try have hz2wF : wB.heap.size < wF.heap.size := (by omega)); (try have he2wF : wB.heap.size ≤ wF.heap.size := (by omega)); (try have hz3wF : wD.heap.size < wF.heap.size := (by omega)); (try have he3wF : wD.heap.size ≤ wF.heap.size := (by omega)); have hR := st_below hR (by first | omega | (simp; done) | (simp; omega)) h1) | (go_at_call 31; refine (tm1_any h h0 h7 _).mono ?_; rintro e w' ⟨rfl, rfl⟩))
  all_goals
    go_wp2_with fail
    refine bodyPost_ret (by simp [results, Try.results85, go_sem, *]; try rfl) rfl ?_
    exact ⟨ag5 (by omega) (by omega) (by omega) (by omega) rfl, by go_grown⟩

set_option maxRecDepth 100000 in
theorem rightP (x0 x1 x2 x3 h : Int) (h0 : 0 ≤ h) (h7 : h ≤ 7) (px0 : -1000000 ≤ x0) (qx0 : x0 ≤ 1000000) (px1 : -1000000 ≤ x1) (qx1 : x1 ≤ 1000000) (px2 : -1000000 ≤ x2) (qx2 : x2 ≤ 1000000) (px3 : -1000000 ≤ x3) (qx3 : x3 ≤ 1000000) (w : World) :
    Calls Try.prog 75 #[.agg #[.int .i64 x0, .int .i64 x1, .int .i64 x2, .int .i64 x3, .int .i64 h]] w fun e w' => e = .returned (.agg #[.int .i64 (x0 + (tu0 ((h + 1) % 8) 1 0 0 0 - tu0 ((h + 2) % 8) 1 0 0 0)), .int .i64 (x1 + (tu1 ((h + 1) % 8) 1 0 0 0 - tu1 ((h + 2) % 8) 1 0 0 0)), .int .i64 (x2 + (tu2 ((h + 1) % 8) 1 0 0 0 - tu2 ((h + 2) % 8) 1 0 0 0)), .int .i64 (x3 + (tu3 ((h + 1) % 8) 1 0 0 0 - tu3 ((h + 2) % 8) 1 0 0 0)), .int .i64 ((h + 7) % 8)]) ∧ Below w.heap.size w w' := by
  go_enter Try.func75, Try.ntmps75
  go_wp2_with (go_at_call 85; refine (curveRightP x0 x1 x2 x3 h h0 h7 px0 qx0 px1 qx1 px2 qx2 px3 qx3 _).mono ?_; rintro e w1 ⟨rfl, h1⟩; have hB : Below w.heap.size w w1 := ba (by go_grown) h1; obtain ⟨hc1, hf1⟩ := bcell h1; have hq := h1.size; (try simp at hq); have hz0 : w.heap.size < w1.heap.size := (by omega); have hz1 : w.heap.size + 1 < w1.heap.size := (by omega); clear h1 hq)
  refine bodyPost_ret (by simp [results, Try.results75, go_sem, *]; try rfl) rfl ?_
  exact ⟨rfl, by go_grown⟩

end Go.Proofs.Ytoenkgenoloihab

/- Contract: the program's stepsOf. -/
namespace Go.Proofs.Ytoenkgenoloihab
open Go.ChangeShapes Go.WideShapes Go.ChangeAt Go.RowKit

theorem stInfo : (Try.prog.info? 69).map (fun i => (i.zero, i.size, i.bytes)) = some (some (.agg #[.int .i64 0, .int .i64 0, .int .i64 0, .int .i64 0, .int .i64 0]), 5, 40) := by kernel_rfl

theorem own_below {W w1 : World} {B : Nat} {e : TypeId} {size n : Nat} {v : Value} {xs : List Value} (h : W.ownsRow B e size v n xs) (hb : Below W.heap.size W w1) : w1.ownsRow B e size v n xs :=
  h.kept (row := none) ⟨hb.os, hb.tape, hb.output, hb.size, fun k hk _ => hb.block k hk⟩ (by cases v.ownBlock <;> simp)

theorem own_sp {W : World} {B n g cap i : Nat} {e : TypeId} {l : List Sp} {s : Sp} (h : W.ownsRow B e 5 (.slice (some ⟨g, 0, none⟩) n cap) n (spCells l)) (hn : l.length = n) (hs : l[i]? = some s) :
    W.cell? ⟨g, i * 5, none⟩ = some (.int .i64 s.x0) ∧ W.cell? ⟨g, i * 5 + 1, none⟩ = some (.int .i64 s.x1) ∧ W.cell? ⟨g, i * 5 + 2, none⟩ = some (.int .i64 s.x2) ∧ W.cell? ⟨g, i * 5 + 3, none⟩ = some (.int .i64 s.x3) ∧ W.cell? ⟨g, i * 5 + 4, none⟩ = some (.int .i64 s.h) := by
  have hi : i < n := by rw [← hn]; exact (List.getElem?_eq_some_iff.1 hs).1
  have a := fun j (hj : j < 5) => (h.cellAt (i * 5 + j) (by omega)).trans ((by rw [Nat.mul_comm]) : _ = (spCells l)[5 * i + j]?) |>.trans (spCells_at l hs j hj)
  exact ⟨a 0 (by omega), a 1 (by omega), a 2 (by omega), a 3 (by omega), a 4 (by omega)⟩

def StepsPost (s : ByteArray) (w : World) (e : Ending) (w' : World) : Prop :=
  ∃ g cap, e = .returned (.tuple #[.slice (some ⟨g, 0, none⟩) (s.size + 1) cap, .bool true]) ∧ w'.ownsRow w.heap.size 69 5 (.slice (some ⟨g, 0, none⟩) (s.size + 1) cap) (s.size + 1) (spCells (lays sp0 s.data.toList)) ∧ Below w.heap.size w w'

theorem lays_take (s : ByteArray) (k : Nat) (hk : k < s.size) (c : UInt8) (hc : s[k] = c) : lays sp0 (s.data.toList.take (k + 1)) = lays sp0 (s.data.toList.take k) ++ [(fin sp0 (s.data.toList.take k)).next c] := by
  rw [take_snoc s k hk, lays_snoc, hc]

theorem lays_at (s : ByteArray) (k : Nat) (hk : k ≤ s.size) : (lays sp0 (s.data.toList.take k))[k]? = some (fin sp0 (s.data.toList.take k)) := by
  have h := lays_last sp0 (s.data.toList.take k)
  rwa [List.length_take, size_list, Nat.min_eq_left hk] at h

theorem lays_len (s : ByteArray) (k : Nat) (hk : k ≤ s.size) : (lays sp0 (s.data.toList.take k)).length = k + 1 := by
  rw [lays_length, List.length_take, size_list, Nat.min_eq_left hk]

set_option maxRecDepth 100000 in
set_option maxHeartbeats 1600000 in
theorem stepsOf_yes (s : ByteArray) (ht : tkB s = true) (w : World) :
    Calls Try.prog 51 #[.string s] w (StepsPost s w) := by
  have h40 := tkB_size ht
  have hs : s.size ≤ 1048576 := by omega
  have HT := Lib.hid (fun k hk => tkB_at ht (k := k) hk)
  obtain ⟨i0, hi, hz0, hz1, hz2⟩ := info_parts stInfo
  go_enter Try.func51, Try.ntmps51
  go_wp2_with (go_at_call 52; refine (imIsTrack_any s hs _).mono ?_; rintro e w' ⟨rfl, rfl⟩)
  go_loopw [4, 14] (fun v i wr => ∃ (k g cap : Nat), k ≤ s.size ∧ i = .int .i64 k ∧ v = .slice (some ⟨g, 0, none⟩) ((k + 1 : Nat)) cap ∧ wr.ownsRow w.heap.size 69 5 (.slice (some ⟨g, 0, none⟩) (k + 1) cap) (k + 1) (spCells (lays sp0 (s.data.toList.take k))) ∧ Below w.heap.size w wr) (fun _ i _ => s.size - (intOf i).toNat)
  case atStart => exact ⟨0, w.heap.size, 1, Nat.zero_le _, rfl, rfl, ⟨rfl, .inr ⟨w.heap.size, 1, _, rfl, Nat.le_refl _, heap_alloc_new w _, Nat.le_refl _, by decide, rfl, rfl⟩⟩, by go_grown⟩
  case round =>
    obtain ⟨k, g, cap, hk, rfl, rfl, hown, hb⟩ := hrel
    have hz : w.heap.size ≤ wr.heap.size := hb.size
    by_cases hlt : k < s.size
    · have HX := Lib.hid (ext_one s k hlt)
      have hp := HT.out k hlt
      have hok := fin_ok sp0_ok (s.data.toList.take k)
      have hl : (s.data.toList.take k).length ≤ 40 := by rw [List.length_take, size_list]; omega
      have hF := lays_at s k hk
      generalize hc : s[k] = c at HX hp
      have HN := Lib.hid (lays_take s k hlt c hc)
      clear hc
      have hcells := own_sp hown (lays_len s k hk) hF
      generalize fin sp0 (s.data.toList.take k) = p at HN hok hcells hF
      obtain ⟨x0, x1, x2, x3, h⟩ := p
      simp only [Sp.okB] at hok
      obtain ⟨⟨b0, b0'⟩, ⟨b1, b1'⟩, ⟨b2, b2'⟩, ⟨b3, b3'⟩, b4, b5⟩ := hok
      obtain ⟨c0, c1, c2, c3, c4⟩ := hcells
      have HO := Lib.hid hown
      have HB := Lib.hid hb
      clear hF hown hb
      rcases pcb_cases hp with rfl | rfl | rfl
      · clear hp
        go_wp2_with (go_at_call 62; refine (lay_S' _ HX.out _).mono ?_; rintro e w' ⟨rfl, rfl⟩)
        refine (straightP x0 x1 x2 x3 h b4 b5 (by omega) (by omega) (by omega) (by omega) (by omega) (by omega) (by omega) (by omega) _).mono ?_
        rintro e w1 ⟨rfl, hb1⟩
        have HO1 := Lib.hid (own_below HO.out hb1)
        have hz1' : wr.heap.size ≤ w1.heap.size := hb1.size
        have HB1 := Lib.hid (HB.out.trans (hb1.mono hz))
        clear hb1 c0 c1 c2 c3 c4
        go_wp2_with (at_builtin; refine wpList_append_own _ rfl _ _ 73 rfl w.heap.size 69 i0 (.agg #[.int .i64 0, .int .i64 0, .int .i64 0, .int .i64 0, .int .i64 0]) 5 40 Try.underlying73 hi hz0 hz1 hz2 rfl (by decide) _ _ _ rfl (HO1.out.alloc _) ⟨w1.heap.size, 0, none⟩ 1 1 [.int .i64 (x0 + tu0 h 1 0 0 0), .int .i64 (x1 + tu1 h 1 0 0 0), .int .i64 (x2 + tu2 h 1 0 0 0), .int .i64 (x3 + tu3 h 1 0 0 0), .int .i64 h] rfl rfl ?c1 ?c2 ?c3 ?c4 ?c5 ?_)
        case c1 =>
          intro j u hj
          match j, hj with
          | 0, hj => simp at hj; subst hj; simp [Addr.add]
          | 1, hj => simp at hj; subst hj; simp [Addr.add]
          | 2, hj => simp at hj; subst hj; simp [Addr.add]
          | 3, hj => simp at hj; subst hj; simp [Addr.add]
          | 4, hj => simp at hj; subst hj; simp [Addr.add]
        case c2 => intro u hu; simp at hu; rcases hu with rfl | rfl | rfl | rfl | rfl <;> rfl
        case c3 => unfold maxLen; omega
        case c4 => omega
        case c5 => simp; omega
        intro v' w2 hown' hgrow _
        have hlt' := (HO1.out.alloc (.cells #[.int .i64 (x0 + tu0 h 1 0 0 0), .int .i64 (x1 + tu1 h 1 0 0 0), .int .i64 (x2 + tu2 h 1 0 0 0), .int .i64 (x3 + tu3 h 1 0 0 0), .int .i64 h] 69)).lt
        have HB2 := Lib.hid ((HB1.out.alloc (by omega) (.cells #[.int .i64 (x0 + tu0 h 1 0 0 0), .int .i64 (x1 + tu1 h 1 0 0 0), .int .i64 (x2 + tu2 h 1 0 0 0), .int .i64 (x3 + tu3 h 1 0 0 0), .int .i64 h] 69)).grown hgrow (by simp; omega) (fun k hk => (hlt' k hk).1))
        obtain ⟨g', cap', rfl, _⟩ := hown'.form (by omega)
        have HW := Lib.hid hown'
        clear hown' hgrow hlt'
        go_wp2_with fail
        go_roundw
        case rel => exact ⟨k + 1, g', cap', by omega, by go_num, rfl, by rw [HN.out, spCells_append]; exact HW.out, HB2.out⟩
        case measure => simp [intOf]; omega
      · clear hp
        go_wp2_with (go_at_call 62; refine (lay_L' _ HX.out _).mono ?_; rintro e w' ⟨rfl, rfl⟩)
        refine (leftP x0 x1 x2 x3 h b4 b5 (by omega) (by omega) (by omega) (by omega) (by omega) (by omega) (by omega) (by omega) _).mono ?_
        rintro e w1 ⟨rfl, hb1⟩
        have HO1 := Lib.hid (own_below HO.out hb1)
        have hz1' : wr.heap.size ≤ w1.heap.size := hb1.size
        have HB1 := Lib.hid (HB.out.trans (hb1.mono hz))
        clear hb1 c0 c1 c2 c3 c4
        go_wp2_with (at_builtin; refine wpList_append_own _ rfl _ _ 73 rfl w.heap.size 69 i0 (.agg #[.int .i64 0, .int .i64 0, .int .i64 0, .int .i64 0, .int .i64 0]) 5 40 Try.underlying73 hi hz0 hz1 hz2 rfl (by decide) _ _ _ rfl (HO1.out.alloc _) ⟨w1.heap.size, 0, none⟩ 1 1 [.int .i64 (x0 + (tu0 ((h + 7) % 8) 1 0 0 0 - tu0 ((h + 6) % 8) 1 0 0 0)), .int .i64 (x1 + (tu1 ((h + 7) % 8) 1 0 0 0 - tu1 ((h + 6) % 8) 1 0 0 0)), .int .i64 (x2 + (tu2 ((h + 7) % 8) 1 0 0 0 - tu2 ((h + 6) % 8) 1 0 0 0)), .int .i64 (x3 + (tu3 ((h + 7) % 8) 1 0 0 0 - tu3 ((h + 6) % 8) 1 0 0 0)), .int .i64 ((h + 1) % 8)] rfl rfl ?c1 ?c2 ?c3 ?c4 ?c5 ?_)
        case c1 =>
          intro j u hj
          match j, hj with
          | 0, hj => simp at hj; subst hj; simp [Addr.add]
          | 1, hj => simp at hj; subst hj; simp [Addr.add]
          | 2, hj => simp at hj; subst hj; simp [Addr.add]
          | 3, hj => simp at hj; subst hj; simp [Addr.add]
          | 4, hj => simp at hj; subst hj; simp [Addr.add]
        case c2 => intro u hu; simp at hu; rcases hu with rfl | rfl | rfl | rfl | rfl <;> rfl
        case c3 => unfold maxLen; omega
        case c4 => omega
        case c5 => simp; omega
        intro v' w2 hown' hgrow _
        have hlt' := (HO1.out.alloc (.cells #[.int .i64 (x0 + (tu0 ((h + 7) % 8) 1 0 0 0 - tu0 ((h + 6) % 8) 1 0 0 0)), .int .i64 (x1 + (tu1 ((h + 7) % 8) 1 0 0 0 - tu1 ((h + 6) % 8) 1 0 0 0)), .int .i64 (x2 + (tu2 ((h + 7) % 8) 1 0 0 0 - tu2 ((h + 6) % 8) 1 0 0 0)), .int .i64 (x3 + (tu3 ((h + 7) % 8) 1 0 0 0 - tu3 ((h + 6) % 8) 1 0 0 0)), .int .i64 ((h + 1) % 8)] 69)).lt
        have HB2 := Lib.hid ((HB1.out.alloc (by omega) (.cells #[.int .i64 (x0 + (tu0 ((h + 7) % 8) 1 0 0 0 - tu0 ((h + 6) % 8) 1 0 0 0)), .int .i64 (x1 + (tu1 ((h + 7) % 8) 1 0 0 0 - tu1 ((h + 6) % 8) 1 0 0 0)), .int .i64 (x2 + (tu2 ((h + 7) % 8) 1 0 0 0 - tu2 ((h + 6) % 8) 1 0 0 0)), .int .i64 (x3 + (tu3 ((h + 7) % 8) 1 0 0 0 - tu3 ((h + 6) % 8) 1 0 0 0)), .int .i64 ((h + 1) % 8)] 69)).grown hgrow (by simp; omega) (fun k hk => (hlt' k hk).1))
        obtain ⟨g', cap', rfl, _⟩ := hown'.form (by omega)
        have HW := Lib.hid hown'
        clear hown' hgrow hlt'
        go_wp2_with fail
        go_roundw
        case rel => exact ⟨k + 1, g', cap', by omega, by go_num, rfl, by rw [HN.out, spCells_append]; exact HW.out, HB2.out⟩
        case measure => simp [intOf]; omega
      · clear hp
        go_wp2_with (go_at_call 62; refine (lay_R' _ HX.out _).mono ?_; rintro e w' ⟨rfl, rfl⟩)
        refine (rightP x0 x1 x2 x3 h b4 b5 (by omega) (by omega) (by omega) (by omega) (by omega) (by omega) (by omega) (by omega) _).mono ?_
        rintro e w1 ⟨rfl, hb1⟩
        have HO1 := Lib.hid (own_below HO.out hb1)
        have hz1' : wr.heap.size ≤ w1.heap.size := hb1.size
        have HB1 := Lib.hid (HB.out.trans (hb1.mono hz))
        clear hb1 c0 c1 c2 c3 c4
        go_wp2_with (at_builtin; refine wpList_append_own _ rfl _ _ 73 rfl w.heap.size 69 i0 (.agg #[.int .i64 0, .int .i64 0, .int .i64 0, .int .i64 0, .int .i64 0]) 5 40 Try.underlying73 hi hz0 hz1 hz2 rfl (by decide) _ _ _ rfl (HO1.out.alloc _) ⟨w1.heap.size, 0, none⟩ 1 1 [.int .i64 (x0 + (tu0 ((h + 1) % 8) 1 0 0 0 - tu0 ((h + 2) % 8) 1 0 0 0)), .int .i64 (x1 + (tu1 ((h + 1) % 8) 1 0 0 0 - tu1 ((h + 2) % 8) 1 0 0 0)), .int .i64 (x2 + (tu2 ((h + 1) % 8) 1 0 0 0 - tu2 ((h + 2) % 8) 1 0 0 0)), .int .i64 (x3 + (tu3 ((h + 1) % 8) 1 0 0 0 - tu3 ((h + 2) % 8) 1 0 0 0)), .int .i64 ((h + 7) % 8)] rfl rfl ?c1 ?c2 ?c3 ?c4 ?c5 ?_)
        case c1 =>
          intro j u hj
          match j, hj with
          | 0, hj => simp at hj; subst hj; simp [Addr.add]
          | 1, hj => simp at hj; subst hj; simp [Addr.add]
          | 2, hj => simp at hj; subst hj; simp [Addr.add]
          | 3, hj => simp at hj; subst hj; simp [Addr.add]
          | 4, hj => simp at hj; subst hj; simp [Addr.add]
        case c2 => intro u hu; simp at hu; rcases hu with rfl | rfl | rfl | rfl | rfl <;> rfl
        case c3 => unfold maxLen; omega
        case c4 => omega
        case c5 => simp; omega
        intro v' w2 hown' hgrow _
        have hlt' := (HO1.out.alloc (.cells #[.int .i64 (x0 + (tu0 ((h + 1) % 8) 1 0 0 0 - tu0 ((h + 2) % 8) 1 0 0 0)), .int .i64 (x1 + (tu1 ((h + 1) % 8) 1 0 0 0 - tu1 ((h + 2) % 8) 1 0 0 0)), .int .i64 (x2 + (tu2 ((h + 1) % 8) 1 0 0 0 - tu2 ((h + 2) % 8) 1 0 0 0)), .int .i64 (x3 + (tu3 ((h + 1) % 8) 1 0 0 0 - tu3 ((h + 2) % 8) 1 0 0 0)), .int .i64 ((h + 7) % 8)] 69)).lt
        have HB2 := Lib.hid ((HB1.out.alloc (by omega) (.cells #[.int .i64 (x0 + (tu0 ((h + 1) % 8) 1 0 0 0 - tu0 ((h + 2) % 8) 1 0 0 0)), .int .i64 (x1 + (tu1 ((h + 1) % 8) 1 0 0 0 - tu1 ((h + 2) % 8) 1 0 0 0)), .int .i64 (x2 + (tu2 ((h + 1) % 8) 1 0 0 0 - tu2 ((h + 2) % 8) 1 0 0 0)), .int .i64 (x3 + (tu3 ((h + 1) % 8) 1 0 0 0 - tu3 ((h + 2) % 8) 1 0 0 0)), .int .i64 ((h + 7) % 8)] 69)).grown hgrow (by simp; omega) (fun k hk => (hlt' k hk).1))
        obtain ⟨g', cap', rfl, _⟩ := hown'.form (by omega)
        have HW := Lib.hid hown'
        clear hown' hgrow hlt'
        go_wp2_with fail
        go_roundw
        case rel => exact ⟨k + 1, g', cap', by omega, by go_num, rfl, by rw [HN.out, spCells_append]; exact HW.out, HB2.out⟩
        case measure => simp [intOf]; omega
    · obtain rfl : k = s.size := by omega
      have hE := take_all s hlt
      rw [hE] at hown
      have HO := Lib.hid hown
      have HB := Lib.hid hb
      clear hown hb hE
      go_wp2_with fail
      go_ret2
      exact ⟨g, cap, rfl, HO.out, HB.out⟩

end Go.Proofs.Ytoenkgenoloihab
