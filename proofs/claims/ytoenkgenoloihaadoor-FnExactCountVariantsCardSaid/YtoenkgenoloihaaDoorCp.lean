/- Contract: the library's slices.Compact at arrays of forty bytes. -/
import Derived.Test.YtoenkgenoloihaaDoorCpH
namespace Go.Proofs.YtoenkgenoloihaaDoor
open Go.ChangeShapes Go.WideShapes Go.ChangeAt Go.RowKit Go.Lib

set_option linter.unusedVariables false

theorem zero_one : ∀ v ∈ (Builtin.zeroCells (arr zLp) 0).toList, v.oneCell' = true := by simp [Builtin.zeroCells]

theorem zeroCells_size (m : Nat) : (Builtin.zeroCells (arr zLp) m).toList.length = m * 40 := by simp [Builtin.zeroCells, arr_size]

theorem zeroCells_one (m : Nat) : ∀ v ∈ (Builtin.zeroCells (arr zLp) m).toList, v.oneCell' = true := by
  intro v hv
  simp only [Builtin.zeroCells, Array.toList_map, List.mem_map, arr_size] at hv
  obtain ⟨t, _, rfl⟩ := hv
  have hr : t % 40 < 40 := Nat.mod_lt _ (by decide)
  have h := arr_at zLp (t % 40) hr
  rw [getElem!_pos (arr zLp) (t % 40) (by rw [arr_size]; exact hr)]
  obtain ⟨_, h2⟩ := Array.getElem?_eq_some_iff.1 h
  rw [h2]
  rfl

theorem clear_run {W : World} {g i n K : Nat} {d : Array Lp} (h : HoldsLp W g d) (hK : K = 40) (hi : i < n) (hn : d.size = n) (ty : TypeId) (c : Nat) :
    (Builtin.clear_ #[49] ty #[.slice (some ⟨g, i * K, none⟩) (n - i) c]).run Tryd.prog W = .ok (.tuple #[]) (W.setCells g (i * K) (Builtin.zeroCells (arr zLp) (n - i)).toList) := by
  subst hK
  have hz := (zero_of_info (P := Tryd.prog) lpInfo).1
  have hc : ∀ j, j < (n - i) * 40 → W.cell? ⟨g, i * 40 + j, none⟩ = some (Sort.flatK encLp 40 d)[i * 40 + j]! ∧ W.frozen? ⟨g, i * 40 + j, none⟩ = false := fun j hj => by
    have := h (i * 40 + j) (by rw [Sort.size_flatK, hn]; have := Nat.sub_mul n i 40; omega)
    rw [Nat.zero_add] at this
    exact this
  have hst := run_storeCells_cells (P := Tryd.prog) g (i * 40) (Builtin.zeroCells (arr zLp) (n - i)).toList 0 W
    (fun j hj => by rw [zeroCells_size] at hj; rw [Nat.add_zero, (hc j hj).1]; rfl) (fun j hj => by rw [zeroCells_size] at hj; rw [Nat.add_zero]; exact (hc j hj).2) (zeroCells_one _)
  rw [Nat.add_zero] at hst
  obtain ⟨m, hm⟩ : ∃ m, n - i = m + 1 := ⟨n - i - 1, by omega⟩
  rw [hm] at hst ⊢
  simp [Builtin.clear_, run_underlying Tryd.underlying49, hz, Value.cells, hst]

theorem row_cut {W : World} {g n k : Nat} {d dk : Array Lp} (h : HoldsLp W g dk) (hI : CompInv d n k dk) (hk : k ≤ dk.size) (vs : List Value) {K : Nat} (hK : K = 40) : RowLp (W.setCells g (k * K) vs) g (compactUpTo d n) := fun j x hx i v hv => by
  subst hK
  have hj : j < k := by have := (List.getElem?_eq_some_iff.1 hx).1; rw [hI.len] at this; exact this
  rw [hI.low j hj] at hx
  simp only [Option.some.injEq] at hx
  have hi : i < 40 := by have := (List.getElem?_eq_some_iff.1 hv).1; rwa [encLp_len] at this
  have hjk := lp_bnd hj
  rw [World.cell?_setCells_out g vs (k * 40) W ⟨g, j * 40 + i, none⟩ (fun _ _ => .inl (show j * 40 + i < k * 40 by omega))]
  have := HoldsK.cells h encLp_len (i := j) (by omega) i v (by rw [hx]; exact hv)
  rw [Addr.add_lit, Nat.zero_add] at this
  exact this

theorem eqL_t {x y : Lp} (h : x = y) : eqL x y = true := (eqL_iff x y).2 h

theorem eqL_f {x y : Lp} (h : ¬ x = y) : eqL x y = false := by
  cases he : eqL x y with
  | false => rfl
  | true => exact absurd ((eqL_iff x y).1 he) h

theorem guardLp : ∀ (op : BinOp) (a b : Operand) (x y : Lp) (w : World), Sem.run Tryd.prog (eqGuard op 45 a b (.agg (arr x)) (.agg (arr y))) w = .ok () w := eqlLp.2

set_option maxRecDepth 100000 in
set_option maxHeartbeats 1600000 in
theorem compact_any (d : Array Lp) (n : Nat) (hn : d.size = n) (hb5 : n ≤ 5000) (g cap : Nat) (hcap : n ≤ cap) (w : World) (hH : HoldsLp w g d) (hg : g < w.heap.size) :
    Calls Tryd.prog 80 #[.slice (some ⟨g, 0, none⟩) n cap] w fun e w' => e = .returned (.slice (some ⟨g, 0, none⟩) (compactUpTo d n).length cap) ∧ RowLp w' g (compactUpTo d n) ∧ Below g w w' := by
  have all : ∀ W, HoldsLp W g d → (∀ j, j < n → keeps d j = true) → (compactUpTo d n).length = n ∧ RowLp W g (compactUpTo d n) := fun W hW h => by
    have e : compactUpTo d n = d.toList := by rw [← hn] at h ⊢; rw [compactUpTo_all d _ h, range_map_get]
    rw [e]
    exact ⟨by simpa using hn, hW.row⟩
  have ALL := Lib.hid all
  have HH := Lib.hid hH
  clear all hH
  by_cases h2 : n < 2
  · have h2i : (n : Int) < 2 := by omega
    have hA := Lib.hid (ALL.out w HH.out (fun j hj => keeps_lt_one d j (by omega)))
    go_enter Tryd.func80, Tryd.ntmps80
    go_wp2_with fail
    go_ret
    exact ⟨by rw [hA.out.1]; rfl, hA.out.2, Below.refl _ _⟩
  have mixed := Tryd.indexLoop.mixed
  obtain ⟨K, hK⟩ : ∃ K, K = 40 := ⟨_, rfl⟩
  have HK := Lib.hid hK
  have zE := zK hK
  have HN := Lib.hid hn
  have h2i : ¬ (n : Int) < 2 := by omega
  clear hK hn
  go_enter Tryd.func80, Tryd.ntmps80
  go_wp2_with fail
  go_loopw [3] (fun i wr => ∃ k q : Nat, k + 1 ≤ n ∧ i = .int .i64 ((k : Int) + 1) ∧ wr = w.drewN q ∧ ∀ j, j < k + 1 → keeps d j = true) (fun i _ => n - (intOf i).toNat)
  case atStart => exact ⟨0, 0, by omega, rfl, rfl, keeps_lt_one d⟩
  case round =>
    obtain ⟨k, q, hk, rfl, rfl, hall⟩ := hrel
    have A := Lib.hid hall
    clear hall
    have i0 : (0 : Int) ≤ (k : Int) := by omega
    have i1 : (0 : Int) ≤ (k : Int) + 1 := by omega
    have i9 : ((k : Int) + 1).toNat = k + 1 := by omega
    have i8 : IntKind.i64.wrap (k : Int) = (k : Int) := by rw [IntKind.wrap_i64]; omega
    by_cases hlt : k + 1 < n
    · have i2 : (k : Int) + 1 < (n : Int) := by omega
      have i3 : (k : Int) < (n : Int) := by omega
      have i5 : (k : Int) + 1 ≤ (n : Int) := by omega
      have i6 : (n : Int) ≤ (cap : Int) := by omega
      have HQ := Lib.hid (HH.out.drewN q)
      have l1 : ∀ m, Sem.run Tryd.prog (loadCellsFrom ⟨g, (k + 1) * K, none⟩ 0 K #[]) ((w.drewN q).drewN m) = .ok (arr d[k + 1]!) ((w.drewN q).drewN m) := fun m => (HQ.out.drewN m).load HK.out (by rw [HN.out]; exact hlt)
      have l2 : ∀ m, Sem.run Tryd.prog (loadCellsFrom ⟨g, k * K, none⟩ 0 K #[]) ((w.drewN q).drewN m) = .ok (arr d[k]!) ((w.drewN q).drewN m) := fun m => (HQ.out.drewN m).load HK.out (by rw [HN.out]; omega)
      have HB := Lib.hid ((show Below g w (w.drewN q) from below_drewC (Below.refl g w) q))
      by_cases hdup : d[k + 1]! = d[k]!
      · have he := fun w => eql_run d[k + 1]! d[k]! w
        rw [eqL_t hdup] at he
        have hgd := fun op a b w => guardLp op a b d[k + 1]! d[k]! w
        have D := Lib.hid (show d[k + 1]! = d[k + 1 - 1]! from hdup)
        clear hdup
        obtain ⟨x, hx⟩ : ∃ x, d[k + 1]! = x := ⟨_, rfl⟩
        obtain ⟨y, hy⟩ : ∃ y, d[k]! = y := ⟨_, rfl⟩
        rw [hx] at l1; rw [hy] at l2; rw [hx, hy] at he hgd
        clear hx hy
        generalize w.drewN q = w1 at *
        go_wp2_with fail
        go_quiet_o (fail)
        have H2 := Lib.hid (HQ.out.drewN nq)
        have B2 := Lib.hid (below_drewC HB.out nq)
        clear l1 l2 he hgd
        generalize w1.drewN nq = w2 at *
        go_wp2_with fail
        go_loopw [3, 5] (fun i j wr => ∃ (kk c : Nat) (dk : Array Lp), i = .int .i64 kk ∧ j = .int .i64 ((c : Int) + 1) ∧ (k + 1) + (c + 1) ≤ n ∧ HoldsLp wr g dk ∧ CompInv d ((k + 1) + (c + 1)) kk dk ∧ Below g w wr) (fun _ j _ => n - (intOf j).toNat)
        case atStart => exact ⟨k + 1, 0, d, by go_num, rfl, by omega, H2.out, CompInv.start A.out (keeps_neg (by omega) D.out), B2.out⟩
        case round =>
          obtain ⟨kk, c, dk, rfl, rfl, hle, hHk, hI, hb⟩ := hrel
          have hkk := hI.lt
          have hds := hI.size
          have HI := Lib.hid hI
          have HB3 := Lib.hid hb
          have HH3 := Lib.hid hHk
          have j1 : (0 : Int) ≤ (c : Int) := by omega
          have j2 : (0 : Int) ≤ (kk : Int) := by omega
          have j3 : (kk : Int) ≤ (n : Int) := by omega
          have j4 : (0 : Int) ≤ (c : Int) + 1 := by omega
          have j9 : ((c : Int) + 1).toNat = c + 1 := by omega
          have j8 : IntKind.i64.wrap (c : Int) = (c : Int) := by rw [IntKind.wrap_i64]; omega
          by_cases hlt2 : (k + 1) + (c + 1) < n
          · have m1 : (c : Int) + 1 < ((n - (k + 1) : Nat) : Int) := by omega
            have m2 : (c : Int) < ((n - (k + 1) : Nat) : Int) := by omega
            have m3 : (kk : Int) < (n : Int) := by omega
            have l3 : ∀ m, Sem.run Tryd.prog (loadCellsFrom ⟨g, (k + 1) * K + (c + 1) * K, none⟩ 0 K #[]) (wr.drewN m) = .ok (arr d[(k + 1) + (c + 1)]!) (wr.drewN m) := fun m => by
              have := (HH3.out.drewN m).load HK.out (i := (k + 1) + (c + 1)) (by rw [hds, HN.out]; exact hlt2)
              rw [HI.out.high ((k + 1) + (c + 1)) (by omega), Nat.add_mul (k + 1)] at this
              exact this
            have l4 : ∀ m, Sem.run Tryd.prog (loadCellsFrom ⟨g, (k + 1) * K + c * K, none⟩ 0 K #[]) (wr.drewN m) = .ok (arr d[(k + 1) + c]!) (wr.drewN m) := fun m => by
              have := (HH3.out.drewN m).load HK.out (i := (k + 1) + c) (by rw [hds, HN.out]; omega)
              rw [HI.out.high ((k + 1) + c) (by omega), Nat.add_mul (k + 1)] at this
              exact this
            have hds' : kk < dk.size := by rw [hds, HN.out]; omega
            by_cases huv : d[(k + 1) + (c + 1)]! = d[(k + 1) + c]!
            · have hne := fun w => neq_run d[(k + 1) + (c + 1)]! d[(k + 1) + c]! w
              rw [eqL_t huv] at hne
              have hgd := fun op a b w => guardLp op a b d[(k + 1) + (c + 1)]! d[(k + 1) + c]! w
              have D3 := Lib.hid (HI.out.skip (keeps_neg (by omega) (show d[(k + 1) + (c + 1)]! = d[(k + 1) + (c + 1) - 1]! from huv)))
              clear huv hI hHk hb
              generalize d[(k + 1) + (c + 1)]! = u at *
              generalize d[(k + 1) + c]! = v at *
              go_wp2_with fail
              go_quiet_o (fail)
              have H4 := Lib.hid (HH3.out.drewN nq)
              have B4 := Lib.hid (below_drewC HB3.out nq)
              clear l3 l4
              generalize wr.drewN nq = w3 at *
              go_wp2_with fail
              go_roundw
              case rel => exact ⟨kk, c + 1, dk, rfl, by go_num, by omega, H4.out, D3.out, B4.out⟩
              case measure => simp [intOf]; omega
            · have hne := fun w => neq_run d[(k + 1) + (c + 1)]! d[(k + 1) + c]! w
              rw [eqL_f huv] at hne
              have hgd := fun op a b w => guardLp op a b d[(k + 1) + (c + 1)]! d[(k + 1) + c]! w
              have D3 := Lib.hid (HI.out.keep (by rw [HN.out]; exact hlt2) (keeps_pos (show ¬ d[(k + 1) + (c + 1)]! = d[(k + 1) + (c + 1) - 1]! from huv)))
              clear huv hI hHk hb
              generalize d[(k + 1) + (c + 1)]! = u at *
              generalize d[(k + 1) + c]! = v at *
              have hAu := aK HK.out u
              go_wp2_with fail
              go_quiet_o (fail)
              have H4 := Lib.hid (HH3.out.drewN nq)
              have B4 := Lib.hid (below_drewC HB3.out nq)
              have l5 := l3 nq
              clear l3 l4 hne hgd
              generalize wr.drewN nq = w3 at *
              have st := H4.out.store HK.out hds' u
              have H5 := Lib.hid (H4.out.set HK.out hds' u)
              have B5 := Lib.hid (below_setCells (encLp u) (kk * K) B4.out (Nat.le_refl g))
              go_wp2_with fail
              go_roundw
              case rel => exact ⟨kk + 1, c + 1, dk.setIfInBounds kk u, by go_num, by go_num, by omega, H5.out, D3.out, B5.out⟩
              case measure => simp [intOf]; omega
          · have hend : (k + 1) + (c + 1) = n := by omega
            have m1 : ¬ (c : Int) + 1 < ((n - (k + 1) : Nat) : Int) := by omega
            have hkn : kk < n := by omega
            have hcl := fun ty c => clear_run HH3.out HK.out hkn (by rw [hds, HN.out]) ty c
            have HI2 := Lib.hid (show CompInv d n kk dk from hend ▸ HI.out)
            have HR := Lib.hid (row_cut HH3.out HI2.out (by rw [hds, HN.out]; omega) (Builtin.zeroCells (arr zLp) (n - kk)).toList HK.out)
            have B5 := Lib.hid (below_setCells (Builtin.zeroCells (arr zLp) (n - kk)).toList (kk * K) HB3.out (Nat.le_refl g))
            clear hI hHk hb
            generalize (Builtin.zeroCells (arr zLp) (n - kk)).toList = zs at *
            go_wp2_with fail
            go_ret
            exact ⟨by rw [HI2.out.len]; rfl, HR.out, B5.out⟩
      · have he := fun w => eql_run d[k + 1]! d[k]! w
        rw [eqL_f hdup] at he
        have hgd := fun op a b w => guardLp op a b d[k + 1]! d[k]! w
        have D := Lib.hid (show ¬ d[k + 1]! = d[k + 1 - 1]! from hdup)
        clear hdup
        obtain ⟨x, hx⟩ : ∃ x, d[k + 1]! = x := ⟨_, rfl⟩
        obtain ⟨y, hy⟩ : ∃ y, d[k]! = y := ⟨_, rfl⟩
        rw [hx] at l1; rw [hy] at l2; rw [hx, hy] at he hgd
        clear hx hy
        obtain ⟨w1, hw1⟩ : ∃ w1, w.drewN q = w1 := ⟨_, rfl⟩
        rw [hw1] at l1 l2 ⊢
        have HW := Lib.hid hw1
        clear hw1
        go_wp2_with fail
        go_quiet_o (fail)
        clear l1 l2 he hgd
        go_wp2_with fail
        go_roundw
        case rel => exact ⟨k + 1, q + nq, by omega, by go_num, by rw [← HW.out, World.drewN_drewN], fun j hj => by
          by_cases e : j = k + 1
          · subst e; exact keeps_pos D.out
          · exact A.out j (by omega)⟩
        case measure => simp [intOf]; omega
    · have hkn : k + 1 = n := by omega
      have i2 : ¬ (k : Int) + 1 < (n : Int) := by omega
      have hA := Lib.hid (ALL.out (w.drewN q) (HH.out.drewN q) (fun j hj => A.out j (by omega)))
      have HB := Lib.hid ((show Below g w (w.drewN q) from below_drewC (Below.refl g w) q))
      clear hkn
      go_wp2_with fail
      go_ret
      exact ⟨by rw [hA.out.1]; rfl, hA.out.2, HB.out⟩

end Go.Proofs.YtoenkgenoloihaaDoor
