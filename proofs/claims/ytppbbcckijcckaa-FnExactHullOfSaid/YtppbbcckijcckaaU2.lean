/- Contracts and facts, put together (part 2). Conditions: each says its own. -/
import Derived.Test.YtppbbcckijcckaaU1
import Derived.Lib.SlicesCompact
import Derived.Shelf.SlicesE.Kit
import Derived.Shelf.SlicesQ.Load
import Derived.Deep.WholeRow
import Derived.Test.YtppbbcckijcckaaShelfH
import Derived.ArgAppend

/- Contract: the library's slices.Compact at places. -/
namespace Go.Proofs.Ytppbbcckijcckaa
open Go.ChangeShapes Go.WideShapes Go.ChangeAt Go.RowKit Go.Lib

set_option linter.unusedVariables false
set_option linter.unusedSimpArgs false

def arrP (x : Pl) : Array Value := (encP x).toArray

theorem arrP_size (x : Pl) : (arrP x).size = 4 := rfl

def zPl : Pl := ⟨⟨0, 0, 0, 0⟩, by unfold Bd; simp⟩

theorem plInfo : (Try.prog.info? 26).map (fun i => (i.zero, i.size)) = some (some (.agg (arrP zPl)), 4) := by kernel_rfl

theorem zK4 {K : Nat} (hK : K = 4) : ∀ w, Sem.run Try.prog (Go.sizeOf 26) w = .ok K w := by subst hK; exact Try.sizeOf26

theorem aK4 {K : Nat} (hK : K = 4) (x : Pl) : (arrP x).size = K := by rw [hK, arrP_size]

theorem arrP_at (x : Pl) (i : Nat) (hi : i < 4) : ∃ n : Int, (arrP x)[i]? = some (.int .i64 n) := by
  match i, hi with
  | 0, _ => exact ⟨_, rfl⟩
  | 1, _ => exact ⟨_, rfl⟩
  | 2, _ => exact ⟨_, rfl⟩
  | 3, _ => exact ⟨_, rfl⟩

def eqQ (x y : Pl) : Bool := decide (x.1 = y.1)

theorem eqlPl : EqlAt Try.prog 26 (fun x => .agg (encP x).toArray) eqQ := by
  refine ⟨fun x y w => ?_, GuardAt.agg _ (by kernel_rfl)⟩
  show (binOp .eql 26 (pv x.1) (pv y.1)).run Try.prog w = _
  rw [run_eql_struct, show (10000 : Nat) = 9998 + 1 + 1 from rfl, eqPtAt]
  rfl

theorem eqlQ_run (x y : Pl) (w : World) : (binOp .eql 26 (.agg (arrP x)) (.agg (arrP y))).run Try.prog w = .ok (.bool (eqQ x y)) w := eqlPl.1 x y w

theorem neqQ_run (x y : Pl) (w : World) : (binOp .neq 26 (.agg (arrP x)) (.agg (arrP y))).run Try.prog w = .ok (.bool (!eqQ x y)) w := by
  show (binOp .neq 26 (pv x.1) (pv y.1)).run Try.prog w = _
  rw [run_neq_struct, show (10000 : Nat) = 9998 + 1 + 1 from rfl, eqPtAt]
  rfl

theorem guardQ : ∀ (op : BinOp) (a b : Operand) (x y : Pl) (w : World), Sem.run Try.prog (eqGuard op 26 a b (.agg (arrP x)) (.agg (arrP y))) w = .ok () w := eqlPl.2

theorem eqQ_t {x y : Pl} (h : x = y) : eqQ x y = true := by subst h; simp [eqQ]

theorem eqQ_f {x y : Pl} (h : ¬ x = y) : eqQ x y = false := by
  simp only [eqQ, decide_eq_false_iff_not]
  exact fun e => h (Subtype.ext e)

def HoldsQ (W : World) (g : Nat) (d : Array Pl) : Prop := Sort.HoldsK encP 4 W g 0 d

theorem HoldsQ.row {W : World} {g : Nat} {d : Array Pl} (h : HoldsQ W g d) : HoldsP W g d.toList := by
  have h' : Sort.HoldsK encP 4 W g 0 d := h
  unfold HoldsP
  simpa using h'

theorem HoldsQ.load {W : World} {g i K : Nat} {d : Array Pl} (h : HoldsQ W g d) (hK : K = 4) (hi : i < d.size) : Sem.run Try.prog (loadCellsFrom ⟨g, i * K, none⟩ 0 K #[]) W = .ok (arrP d[i]!) W := by
  subst hK
  have := run_loadCellsFrom_list Try.prog W ⟨g, 0 + i * 4, none⟩ (encP d[i]!) 4 (encP_len _) (HoldsK.cells h encP_len hi)
  rwa [Nat.zero_add] at this

theorem plq_bnd {i n : Nat} (h : i < n) : i * 4 + 4 ≤ n * 4 := by
  have := Nat.mul_le_mul_right 4 (show i + 1 ≤ n from h); rwa [Nat.add_mul, Nat.one_mul] at this

theorem HoldsQ.store {W : World} {g i K : Nat} {d : Array Pl} (h : HoldsQ W g d) (hK : K = 4) (hi : i < d.size) (y : Pl) : Sem.run Try.prog (storeCells ⟨g, i * K, none⟩ (arrP y).toList) W = .ok () (W.setCells g (i * K) (encP y)) := by
  subst hK
  have := stores_of_holds Try.prog h (i * 4) (encP y) (by rw [Sort.size_flatK, encP_len]; exact plq_bnd hi) (encP_one y)
  rw [Nat.zero_add] at this
  simpa [arrP] using this

theorem setManyQ (d : Array Pl) (i : Nat) (hi : i < d.size) (y : Pl) : Sort.setMany (Sort.flatK encP 4 d) (i * 4) (encP y) = Sort.flatK encP 4 (d.setIfInBounds i y) := by
  refine Sort.ext_get! (by simp) fun t ht => ?_
  have ht' : t < d.size * 4 := by simpa using ht
  rw [Sort.get_setMany _ _ _ t (by simpa using ht'), Sort.get_flatK _ _ _ t ht', Sort.get_flatK _ _ _ t (by simpa using ht'), encP_len]
  have m : ∀ q, t / 4 = q → t - q * 4 = t % 4 := fun q h => by subst h; rw [Nat.mod_eq_sub_div_mul]
  by_cases a : t / 4 = i
  · rw [if_pos ((Sort.blk_iff 4 i t (by decide)).2 a), m i a, a, Sort.getElem!_set_same d i y hi]
  · rw [if_neg (fun h => a ((Sort.blk_iff 4 i t (by decide)).1 h)), Sort.getElem!_set_other d i (t / 4) y a]

theorem HoldsQ.set {W : World} {g i K : Nat} {d : Array Pl} (h : HoldsQ W g d) (hK : K = 4) (hi : i < d.size) (y : Pl) : HoldsQ (W.setCells g (i * K) (encP y)) g (d.setIfInBounds i y) := by
  subst hK
  have := holds_setCells_c h (i * 4) (encP y) (by rw [Sort.size_flatK, encP_len]; exact plq_bnd hi)
  rw [Nat.zero_add, setManyQ d i hi y] at this
  exact this

theorem HoldsQ.drewN {W : World} {g : Nat} {d : Array Pl} (h : HoldsQ W g d) (q : Nat) : HoldsQ (W.drewN q) g d := h

theorem below_setCellsQ : ∀ (vs : List Value) (o : Nat) {m g : Nat} {a w : World}, Below m a w → m ≤ g → Below m a (w.setCells g o vs)
  | [], _, _, _, _, _, h, _ => h
  | v :: r, o, _, g, _, _, h, hg => below_setCellsQ r (o + 1) (h.setCell (p := ⟨g, o, none⟩) hg v) hg

theorem zeroQ_one : ∀ v ∈ (Builtin.zeroCells (arrP zPl) 0).toList, v.oneCell' = true := by simp [Builtin.zeroCells]

theorem zeroCellsQ_size (m : Nat) : (Builtin.zeroCells (arrP zPl) m).toList.length = m * 4 := by simp [Builtin.zeroCells, arrP_size]

theorem zeroCellsQ_one (m : Nat) : ∀ v ∈ (Builtin.zeroCells (arrP zPl) m).toList, v.oneCell' = true := by
  intro v hv
  simp only [Builtin.zeroCells, Array.toList_map, List.mem_map, arrP_size] at hv
  obtain ⟨t, _, rfl⟩ := hv
  have hr : t % 4 < 4 := Nat.mod_lt _ (by decide)
  obtain ⟨n, h⟩ := arrP_at zPl (t % 4) hr
  rw [getElem!_pos (arrP zPl) (t % 4) (by rw [arrP_size]; exact hr)]
  obtain ⟨_, h2⟩ := Array.getElem?_eq_some_iff.1 h
  rw [h2]
  rfl

theorem clearQ_run {W : World} {g i n K : Nat} {d : Array Pl} (h : HoldsQ W g d) (hK : K = 4) (hi : i < n) (hn : d.size = n) (ty : TypeId) (c : Nat) :
    (Builtin.clear_ #[47] ty #[.slice (some ⟨g, i * K, none⟩) (n - i) c]).run Try.prog W = .ok (.tuple #[]) (W.setCells g (i * K) (Builtin.zeroCells (arrP zPl) (n - i)).toList) := by
  subst hK
  have hz := (zero_of_info (P := Try.prog) plInfo).1
  have hc : ∀ j, j < (n - i) * 4 → W.cell? ⟨g, i * 4 + j, none⟩ = some (Sort.flatK encP 4 d)[i * 4 + j]! ∧ W.frozen? ⟨g, i * 4 + j, none⟩ = false := fun j hj => by
    have := h (i * 4 + j) (by rw [Sort.size_flatK, hn]; have := Nat.sub_mul n i 4; omega)
    rw [Nat.zero_add] at this
    exact this
  have hst := run_storeCells_cells (P := Try.prog) g (i * 4) (Builtin.zeroCells (arrP zPl) (n - i)).toList 0 W
    (fun j hj => by rw [zeroCellsQ_size] at hj; rw [Nat.add_zero, (hc j hj).1]; rfl) (fun j hj => by rw [zeroCellsQ_size] at hj; rw [Nat.add_zero]; exact (hc j hj).2) (zeroCellsQ_one _)
  rw [Nat.add_zero] at hst
  obtain ⟨m, hm⟩ : ∃ m, n - i = m + 1 := ⟨n - i - 1, by omega⟩
  rw [hm] at hst ⊢
  simp [Builtin.clear_, run_underlying Try.underlying47, hz, Value.cells, hst]

theorem rowQ_cut {W : World} {g n k : Nat} {d dk : Array Pl} (h : HoldsQ W g dk) (hI : CompInv d n k dk) (hk : k ≤ dk.size) (vs : List Value) {K : Nat} (hK : K = 4) : HoldsP (W.setCells g (k * K) vs) g (compactUpTo d n) := by
  subst hK
  have hlen := hI.len
  intro j hj
  rw [Sort.size_flatK] at hj
  have hj4 : j < k * 4 := by simpa [hlen] using hj
  have hjk : j / 4 < k := by omega
  have h0 := h j (by rw [Sort.size_flatK]; omega)
  rw [Nat.zero_add] at h0 ⊢
  refine ⟨?_, by rw [World.frozen?_setCells]; exact h0.2⟩
  rw [World.cell?_setCells_out g vs (k * 4) W ⟨g, j, none⟩ (fun _ _ => .inl hj4)]
  have e : (compactUpTo d n).toArray[j / 4]! = dk[j / 4]! := by
    have := hI.low (j / 4) hjk
    rw [getElem!_pos _ _ (by simp [hlen]; exact hjk)]
    have h2 := (List.getElem?_eq_some_iff.1 this).2
    simpa using h2
  rw [h0.1, Sort.get_flatK _ _ _ _ (by omega), Sort.get_flatK _ _ _ _ hj, e]

set_option maxRecDepth 100000 in
set_option maxHeartbeats 1600000 in
theorem compactP (d : Array Pl) (n : Nat) (hn : d.size = n) (hb5 : n ≤ 5000) (g cap : Nat) (hcap : n ≤ cap) (w : World) (hH : HoldsQ w g d) (hg : g < w.heap.size) :
    Calls Try.prog 91 #[.slice (some ⟨g, 0, none⟩) n cap] w fun e w' => e = .returned (.slice (some ⟨g, 0, none⟩) (compactUpTo d n).length cap) ∧ HoldsP w' g (compactUpTo d n) ∧ Below g w w' := by
  have all : ∀ W, HoldsQ W g d → (∀ j, j < n → keeps d j = true) → (compactUpTo d n).length = n ∧ HoldsP W g (compactUpTo d n) := fun W hW h => by
    have e : compactUpTo d n = d.toList := by rw [← hn] at h ⊢; rw [compactUpTo_all d _ h, range_map_get]
    rw [e]
    exact ⟨by simpa using hn, hW.row⟩
  have ALL := Lib.hid all
  have HH := Lib.hid hH
  clear all hH
  by_cases h2 : n < 2
  · have h2i : (n : Int) < 2 := by omega
    have hA := Lib.hid (ALL.out w HH.out (fun j hj => keeps_lt_one d j (by omega)))
    go_enter Try.func91, Try.ntmps91
    go_wp2_with fail
    go_ret
    exact ⟨by rw [hA.out.1]; rfl, hA.out.2, Below.refl _ _⟩
  have mixed := Try.revPt.mixed
  obtain ⟨K, hK⟩ : ∃ K, K = 4 := ⟨_, rfl⟩
  have HK := Lib.hid hK
  have zE := zK4 hK
  have HN := Lib.hid hn
  have h2i : ¬ (n : Int) < 2 := by omega
  clear hK hn
  go_enter Try.func91, Try.ntmps91
  go_wp2_with fail
  go_loopw [3] (fun i wr => ∃ k q : Nat, k + 1 ≤ n ∧ i = .int .i64 ((k : Int) + 1) ∧ wr = w.drewN q ∧ ∀ j, j < k + 1 → keeps d j = true) (fun i _ => n - (intOf i).toNat)
  case atStart => exact ⟨0, 0, by omega, rfl, rfl, keeps_lt_one d⟩
  case round =>
    obtain ⟨k, q, hk, rfl, rfl, hall⟩ := hrel
    have A := Lib.hid hall
    clear hall
    have i0 : (0 : Int) ≤ (k : Int) := by omega
    have i1 : (0 : Int) ≤ (k : Int) + 1 := by omega
    have i9 : ((k : Int) + 1).toNat = k + 1 := by omega
    have i8 : IntKind.i64.wrap (k : Int) = (k : Int) := by rw [IntKind.wrap_i64]; omega
    by_cases hlt : k + 1 < n
    · have i2 : (k : Int) + 1 < (n : Int) := by omega
      have i3 : (k : Int) < (n : Int) := by omega
      have i5 : (k : Int) + 1 ≤ (n : Int) := by omega
      have i6 : (n : Int) ≤ (cap : Int) := by omega
      have HQ := Lib.hid (HH.out.drewN q)
      have l1 : ∀ m, Sem.run Try.prog (loadCellsFrom ⟨g, (k + 1) * K, none⟩ 0 K #[]) ((w.drewN q).drewN m) = .ok (arrP d[k + 1]!) ((w.drewN q).drewN m) := fun m => (HQ.out.drewN m).load HK.out (by rw [HN.out]; exact hlt)
      have l2 : ∀ m, Sem.run Try.prog (loadCellsFrom ⟨g, k * K, none⟩ 0 K #[]) ((w.drewN q).drewN m) = .ok (arrP d[k]!) ((w.drewN q).drewN m) := fun m => (HQ.out.drewN m).load HK.out (by rw [HN.out]; omega)
      have HB := Lib.hid ((show Below g w (w.drewN q) from below_drewN (Below.refl g w) q))
      by_cases hdup : d[k + 1]! = d[k]!
      · have he := fun w => eqlQ_run d[k + 1]! d[k]! w
        rw [eqQ_t hdup] at he
        have hgd := fun op a b w => guardQ op a b d[k + 1]! d[k]! w
        have D := Lib.hid (show d[k + 1]! = d[k + 1 - 1]! from hdup)
        clear hdup
        obtain ⟨x, hx⟩ : ∃ x, d[k + 1]! = x := ⟨_, rfl⟩
        obtain ⟨y, hy⟩ : ∃ y, d[k]! = y := ⟨_, rfl⟩
        rw [hx] at l1; rw [hy] at l2; rw [hx, hy] at he hgd
        clear hx hy
        generalize w.drewN q = w1 at *
        go_wp2_with fail
        go_quiet_o (fail)
        have H2 := Lib.hid (HQ.out.drewN nq)
        have B2 := Lib.hid (below_drewN HB.out nq)
        clear l1 l2 he hgd
        generalize w1.drewN nq = w2 at *
        go_wp2_with fail
        go_loopw [3, 5] (fun i j wr => ∃ (kk c : Nat) (dk : Array Pl), i = .int .i64 kk ∧ j = .int .i64 ((c : Int) + 1) ∧ (k + 1) + (c + 1) ≤ n ∧ HoldsQ wr g dk ∧ CompInv d ((k + 1) + (c + 1)) kk dk ∧ Below g w wr) (fun _ j _ => n - (intOf j).toNat)
        case atStart => exact ⟨k + 1, 0, d, by go_num, rfl, by omega, H2.out, CompInv.start A.out (keeps_neg (by omega) D.out), B2.out⟩
        case round =>
          obtain ⟨kk, c, dk, rfl, rfl, hle, hHk, hI, hb⟩ := hrel
          have hkk := hI.lt
          have hds := hI.size
          have HI := Lib.hid hI
          have HB3 := Lib.hid hb
          have HH3 := Lib.hid hHk
          have j1 : (0 : Int) ≤ (c : Int) := by omega
          have j2 : (0 : Int) ≤ (kk : Int) := by omega
          have j3 : (kk : Int) ≤ (n : Int) := by omega
          have j4 : (0 : Int) ≤ (c : Int) + 1 := by omega
          have j9 : ((c : Int) + 1).toNat = c + 1 := by omega
          have j8 : IntKind.i64.wrap (c : Int) = (c : Int) := by rw [IntKind.wrap_i64]; omega
          by_cases hlt2 : (k + 1) + (c + 1) < n
          · have m1 : (c : Int) + 1 < ((n - (k + 1) : Nat) : Int) := by omega
            have m2 : (c : Int) < ((n - (k + 1) : Nat) : Int) := by omega
            have m3 : (kk : Int) < (n : Int) := by omega
            have l3 : ∀ m, Sem.run Try.prog (loadCellsFrom ⟨g, (k + 1) * K + (c + 1) * K, none⟩ 0 K #[]) (wr.drewN m) = .ok (arrP d[(k + 1) + (c + 1)]!) (wr.drewN m) := fun m => by
              have := (HH3.out.drewN m).load HK.out (i := (k + 1) + (c + 1)) (by rw [hds, HN.out]; exact hlt2)
              rw [HI.out.high ((k + 1) + (c + 1)) (by omega), Nat.add_mul (k + 1)] at this
              exact this
            have l4 : ∀ m, Sem.run Try.prog (loadCellsFrom ⟨g, (k + 1) * K + c * K, none⟩ 0 K #[]) (wr.drewN m) = .ok (arrP d[(k + 1) + c]!) (wr.drewN m) := fun m => by
              have := (HH3.out.drewN m).load HK.out (i := (k + 1) + c) (by rw [hds, HN.out]; omega)
              rw [HI.out.high ((k + 1) + c) (by omega), Nat.add_mul (k + 1)] at this
              exact this
            have hds' : kk < dk.size := by rw [hds, HN.out]; omega
            by_cases huv : d[(k + 1) + (c + 1)]! = d[(k + 1) + c]!
            · have hne := fun w => neqQ_run d[(k + 1) + (c + 1)]! d[(k + 1) + c]! w
              rw [eqQ_t huv] at hne
              have hgd := fun op a b w => guardQ op a b d[(k + 1) + (c + 1)]! d[(k + 1) + c]! w
              have D3 := Lib.hid (HI.out.skip (keeps_neg (by omega) (show d[(k + 1) + (c + 1)]! = d[(k + 1) + (c + 1) - 1]! from huv)))
              clear huv hI hHk hb
              generalize d[(k + 1) + (c + 1)]! = u at *
              generalize d[(k + 1) + c]! = v at *
              go_wp2_with fail
              go_quiet_o (fail)
              have H4 := Lib.hid (HH3.out.drewN nq)
              have B4 := Lib.hid (below_drewN HB3.out nq)
              clear l3 l4
              generalize wr.drewN nq = w3 at *
              go_wp2_with fail
              go_roundw
              case rel => exact ⟨kk, c + 1, dk, rfl, by go_num, by omega, H4.out, D3.out, B4.out⟩
              case measure => simp [intOf]; omega
            · have hne := fun w => neqQ_run d[(k + 1) + (c + 1)]! d[(k + 1) + c]! w
              rw [eqQ_f huv] at hne
              have hgd := fun op a b w => guardQ op a b d[(k + 1) + (c + 1)]! d[(k + 1) + c]! w
              have D3 := Lib.hid (HI.out.keep (by rw [HN.out]; exact hlt2) (keeps_pos (show ¬ d[(k + 1) + (c + 1)]! = d[(k + 1) + (c + 1) - 1]! from huv)))
              clear huv hI hHk hb
              generalize d[(k + 1) + (c + 1)]! = u at *
              generalize d[(k + 1) + c]! = v at *
              have hAu := aK4 HK.out u
              go_wp2_with fail
              go_quiet_o (fail)
              have H4 := Lib.hid (HH3.out.drewN nq)
              have B4 := Lib.hid (below_drewN HB3.out nq)
              have l5 := l3 nq
              clear l3 l4 hne hgd
              generalize wr.drewN nq = w3 at *
              have st := H4.out.store HK.out hds' u
              have H5 := Lib.hid (H4.out.set HK.out hds' u)
              have B5 := Lib.hid (below_setCellsQ (encP u) (kk * K) B4.out (Nat.le_refl g))
              go_wp2_with fail
              go_roundw
              case rel => exact ⟨kk + 1, c + 1, dk.setIfInBounds kk u, by go_num, by go_num, by omega, H5.out, D3.out, B5.out⟩
              case measure => simp [intOf]; omega
          · have hend : (k + 1) + (c + 1) = n := by omega
            have m1 : ¬ (c : Int) + 1 < ((n - (k + 1) : Nat) : Int) := by omega
            have hkn : kk < n := by omega
            have hcl := fun ty c => clearQ_run HH3.out HK.out hkn (by rw [hds, HN.out]) ty c
            have HI2 := Lib.hid (show CompInv d n kk dk from hend ▸ HI.out)
            have HR := Lib.hid (rowQ_cut HH3.out HI2.out (by rw [hds, HN.out]; omega) (Builtin.zeroCells (arrP zPl) (n - kk)).toList HK.out)
            have B5 := Lib.hid (below_setCellsQ (Builtin.zeroCells (arrP zPl) (n - kk)).toList (kk * K) HB3.out (Nat.le_refl g))
            clear hI hHk hb
            generalize (Builtin.zeroCells (arrP zPl) (n - kk)).toList = zs at *
            go_wp2_with fail
            go_ret
            exact ⟨by rw [HI2.out.len]; rfl, HR.out, B5.out⟩
      · have he := fun w => eqlQ_run d[k + 1]! d[k]! w
        rw [eqQ_f hdup] at he
        have hgd := fun op a b w => guardQ op a b d[k + 1]! d[k]! w
        have D := Lib.hid (show ¬ d[k + 1]! = d[k + 1 - 1]! from hdup)
        clear hdup
        obtain ⟨x, hx⟩ : ∃ x, d[k + 1]! = x := ⟨_, rfl⟩
        obtain ⟨y, hy⟩ : ∃ y, d[k]! = y := ⟨_, rfl⟩
        rw [hx] at l1; rw [hy] at l2; rw [hx, hy] at he hgd
        clear hx hy
        obtain ⟨w1, hw1⟩ : ∃ w1, w.drewN q = w1 := ⟨_, rfl⟩
        rw [hw1] at l1 l2 ⊢
        have HW := Lib.hid hw1
        clear hw1
        go_wp2_with fail
        go_quiet_o (fail)
        clear l1 l2 he hgd
        go_wp2_with fail
        go_roundw
        case rel => exact ⟨k + 1, q + nq, by omega, by go_num, by rw [← HW.out, World.drewN_drewN], fun j hj => by
          by_cases e : j = k + 1
          · subst e; exact keeps_pos D.out
          · exact A.out j (by omega)⟩
        case measure => simp [intOf]; omega
    · have hkn : k + 1 = n := by omega
      have i2 : ¬ (k : Int) + 1 < (n : Int) := by omega
      have hA := Lib.hid (ALL.out (w.drewN q) (HH.out.drewN q) (fun j hj => A.out j (by omega)))
      have HB := Lib.hid ((show Below g w (w.drewN q) from below_drewN (Below.refl g w) q))
      clear hkn
      go_wp2_with fail
      go_ret
      exact ⟨by rw [hA.out.1]; rfl, hA.out.2, HB.out⟩

end Go.Proofs.Ytppbbcckijcckaa

/- Contracts: HullOf, in the program. -/
namespace Go.Proofs.Ytppbbcckijcckaa
open Go.ChangeShapes Go.WideShapes Go.ChangeAt Go.RowKit Go.Sort

set_option linter.unusedVariables false
set_option linter.unusedSimpArgs false

theorem add_off7 (g j : Nat) : ((⟨g, 0, none⟩ : Addr).add j) = ⟨g, 0 + j, none⟩ := by by_cases e : j = 0 <;> simp [Addr.add, e]

theorem cloneP (g n cap : Nat) (l : List Pn) (hn : l.length = n) (hb : n ≤ 1048576) (w : World) (h1 : RowP w g l) :
    Calls Try.prog 88 #[.slice (some ⟨g, 0, none⟩) n cap] w fun e w' => ∃ v, e = .returned v ∧ w'.ownsRow w.heap.size 26 4 v n (pnCs l) ∧ Below w.heap.size w w' := by
  obtain ⟨i0, hi, iz0, iz1, iz2⟩ := info_parts ptInfo
  have h := AnyE.slices_Clone Try.clonePt i0 _ 4 32 hi iz0 iz1 iz2 (by rfl) (by decide) Try.sizeOf26 g 0 n cap (pnCs l) w (by rw [pnCs_length, hn]) (by unfold maxLen; omega) (by omega)
    (fun j u hu => by have := h1.cells j u hu; rw [add_off7] at this; exact this) (pnCs_one l)
  exact h.mono fun e w' ⟨v, a, b, _, c⟩ => ⟨v, a, b, c⟩

theorem Only.grown {g : Nat} {w w' : World} (h : Only g w w') : w.grownBy w' (some g) := ⟨h.os, h.tape, h.output, h.size, fun k hk hne => h.block k hk (fun e => hne (by rw [e]))⟩

theorem HoldsP.below {W W' : World} {g n : Nat} {l : List Pl} (h : HoldsP W g l) (hg : g < n) (hb : Below n W W') : HoldsP W' g l := fun j hj => by
  have := h j hj
  rw [hb.cell (p := ⟨g, 0 + j, none⟩) hg, hb.frozen (p := ⟨g, 0 + j, none⟩) hg]
  exact this

set_option maxRecDepth 100000 in
theorem revP (l : List Pl) (n : Nat) (hn : l.length = n) (hb : n ≤ 5000) (g cap : Nat) (w : World) (hH : HoldsP w g l) (hg : g < w.heap.size) :
    Calls Try.prog 93 #[.slice (some ⟨g, 0, none⟩) n cap] w fun e w' => e = .returned (.tuple #[]) ∧ HoldsP w' g l.reverse ∧ Only g w w' := by
  subst hn
  have h := AnyQ.slices_Reverse Try.revPt 4 Try.isAgg26 Try.sizeOf26 encP encP_len encP_one g 0 cap l.toArray w hH (by simp; omega)
  refine h.mono fun e w' ⟨h1, q, h2⟩ => ⟨h1, ?_, ?_⟩
  · rw [h2]
    have := holdsK_putRowK (enc := encP) (k := 4) (Sort.ahead w q) g 0 l.toArray l.toArray.reverse hH (by simp)
    unfold HoldsP
    simpa using this
  · rw [h2]
    refine ⟨rfl, rfl, rfl, ?_, fun k hk hne => ?_⟩
    · rw [show (putRowK encP 4 (Sort.ahead w q) g 0 l.toArray.reverse).heap.size = (Sort.ahead w q).heap.size from Sort.size_putRowK _ _ _ _ _ _]
      exact Nat.le_refl _
    · show (w.heap.modify g _)[k]? = _
      rw [Array.getElem?_modify, if_neg (by omega)]

theorem wlP (g n cap : Nat) (h1 : 1 ≤ n) (h2 : n ≤ cap) (h3 : n ≤ 1000000) (w : World) :
    Calls Try.prog 94 #[.slice (some ⟨g, 0, none⟩) n cap] w fun e w' => e = .returned (.slice (some ⟨g, 0, none⟩) (n - 1) (n - 1)) ∧ w = w' := by
  obtain ⟨m, rfl⟩ : ∃ m, n = m + 1 := ⟨n - 1, by omega⟩
  have i0 : (0 : Int) ≤ (m : Int) := by omega
  have i1 : IntKind.i64.wrap (m : Int) = (m : Int) := IntWalk.i64_in _ ⟨by omega, by omega⟩
  have i2 : IntKind.i64.wrap ((m : Int) + 1 - 1) = (m : Int) := by rw [Int.add_sub_cancel]; exact i1
  have i3 : (m : Int) ≤ (cap : Int) := by omega
  have i4 : m ≤ cap := by omega
  go_enter Try.func94, Try.ntmps94
  go_wp2_with fail
  go_ret
  exact ⟨rfl, rfl⟩

/-- A border of several places has two corners at least. -/
theorem bord_two {e : Bool} {L : List Pn} (hA : Pn.Asc e L) (h2 : 2 ≤ L.length) : 2 ≤ (Pn.bord L).length := by
  obtain ⟨_, h1, h3⟩ := Pn.bord_spec hA
  match L, h2 with
  | a :: b :: L, _ =>
    have hlast : (a :: b :: L).getLast? = some ((b :: L).getLast (by simp)) := by
      rw [List.getLast?_eq_some_getLast (by simp)]
      rw [List.getLast_cons (by simp)]
    rw [hlast] at h3
    simp only [List.head?_cons] at h1
    have hm : (b :: L).getLast (by simp) ∈ b :: L := List.getLast_mem _
    have hne := Pn.ltd_ne (hA.1 _ hm)
    match hb : Pn.bord (a :: b :: L) with
    | [] => rw [hb] at h1; simp at h1
    | [x] =>
      rw [hb] at h1 h3
      simp at h1 h3
      exact absurd (h1.symm.trans h3) hne
    | _ :: _ :: _ => simp

theorem RowP.drop {w : World} {g : Nat} {l : List Pn} (h : RowP w g l) : RowP w g l.dropLast := fun k p hp => h k p (by
  rw [List.dropLast_eq_take] at hp
  have hk := (List.getElem?_eq_some_iff.1 hp).1
  rw [List.length_take] at hk
  rw [List.getElem?_take_of_lt (by omega)] at hp
  exact hp)

theorem pnCs_drop (l : List Pn) : pnCs l.dropLast = (pnCs l).take ((l.length - 1) * 4) := by
  rw [List.dropLast_eq_take, pnCs_take]

/-- What HullOf answers, in the program. -/
def HoPost (l : List Pn) (w : World) (e : Ending) (w' : World) : Prop :=
  ∃ v, e = .returned (.tuple #[v, .bool (plsB l)]) ∧ (plsB l = false → v = .slice none 0 0) ∧ (plsB l = true → ∃ g' c', v = .slice (some ⟨g', 0, none⟩) (hlL l).length c' ∧ w.heap.size ≤ g' ∧ g' < w'.heap.size ∧ (hlL l).length ≤ c' ∧ RowP w' g' (hlL l) ∧ (∀ j, j < (hlL l).length * 4 → w'.frozen? ⟨g', j, none⟩ = false)) ∧ Below w.heap.size w w'

set_option maxRecDepth 100000 in
set_option maxHeartbeats 3200000 in
theorem imHullOf (g n cap : Nat) (l : List Pn) (hn : l.length = n) (hb : n ≤ 1048576) (w : World) (hg : g < w.heap.size) (h1 : RowP w g l) :
    Calls Try.prog 42 #[.slice (some ⟨g, 0, none⟩) n cap] w (HoPost l w) := by
  have IR := isInRange_any (n : Int) 1 20
  have HE := Lib.hid (show plsB l = (inB (n : Int) 1 20 && l.all plB) by unfold plsB; rw [hn])
  cases hi : inB (n : Int) 1 20 <;> rw [hi] at IR
  · have hp : plsB l = false := by rw [HE.out, hi]; rfl
    unfold HoPost
    rw [hp]
    clear h1 hn HE hp
    go_enter Try.func42, Try.ntmps42
    go_wp2_with (go_at_call 87; refine (IR _).mono ?_; rintro e w' ⟨rfl, rfl⟩)
    go_returns
    exact ⟨_, rfl, fun _ => rfl, fun h => (by cases h), Below.refl _ _⟩
  have n20 : n ≤ 20 := by
    unfold inB at hi
    simp only [decide_eq_true_eq] at hi
    omega
  have n1 : 1 ≤ n := by
    unfold inB at hi
    simp only [decide_eq_true_eq] at hi
    omega
  have AP := arePlacesP g n cap l hn (by omega) w hg h1
  cases ha : l.all plB <;> rw [ha] at AP
  · have hp : plsB l = false := by rw [HE.out, hi, ha]; rfl
    have HAP := Lib.hid AP
    unfold HoPost
    rw [hp]
    clear h1 AP hn HE hp hi ha
    go_enter Try.func42, Try.ntmps42
    go_wp2_with (go_at_call 87; refine (IR _).mono ?_; rintro e w' ⟨rfl, rfl⟩)
    refine HAP.out.mono ?_
    rintro e w1 ⟨rfl, h1⟩
    go_wp2_with fail
    go_returns
    exact ⟨_, rfl, fun _ => rfl, fun h => (by cases h), h1⟩
  · have hp : plsB l = true := by rw [HE.out, hi, ha]; rfl
    obtain ⟨_, hbd⟩ := plsB_n hn hp
    have hne : l ≠ [] := fun e => by rw [e] at hn; simp at hn; omega
    obtain ⟨hA, _, hLne, hLl⟩ := plL_spec hbd hne
    obtain ⟨i0, hi, iz0, iz1, iz2⟩ := info_parts ptInfo
    have hpn : (l.map toPl).length = n := by simpa using hn
    have HPC := Lib.hid (show Go.Lib.compactUpTo (srtP (l.map toPl)).toArray n = plcs (l.map toPl) by unfold plcs; rw [hpn])
    have HAP := Lib.hid AP
    have H1 := Lib.hid h1
    have CL := Lib.hid (fun (W : World) (hW : Below w.heap.size w W) => cloneP g n cap l hn hb W (h1.below hg hW))
    have HTM := Lib.hid (toPl_map hbd)
    have HN := Lib.hid hpn
    have HLB := Lib.hid (plL_bd hbd hne)
    have HA := Lib.hid hA
    have hL1 : 0 < (plL l).length := List.length_pos_iff.2 hLne
    have HQ := Lib.hid (show (plcs (l.map toPl)).map (·.1) = plL l from rfl)
    have HQl := Lib.hid (show (plcs (l.map toPl)).length = (plL l).length by unfold plL; rw [List.length_map])
    unfold HoPost
    rw [hp]
    clear h1 AP HE hp ha hbd hne hA hLne hpn
    go_enter Try.func42, Try.ntmps42
    go_wp2_with (go_at_call 87; refine (IR _).mono ?_; rintro e w' ⟨rfl, rfl⟩)
    refine HAP.out.mono ?_
    rintro e w1 ⟨rfl, h1⟩
    have HB1 := Lib.hid h1
    clear h1
    go_wp2_with fail
    refine (CL.out w1 HB1.out).mono ?_
    rintro e w2 ⟨v, rfl, hO, h2⟩
    obtain ⟨g1, c1, rfl, hg1, hg1'⟩ := hO.form (by omega)
    have hc1 := own_cap8 hO
    have HB2 := Lib.hid (ba HB1.out h2)
    have hz1 := HB1.out.size
    have hH2 : HoldsP w2 g1 (l.map toPl) := HoldsP.of (by rw [HTM.out]; exact RowP.of_own hO hn) (fun j _ => hO.frozenAt j)
    have ST := Lib.hid (sortP_any (l.map toPl) n HN.out (by omega) g1 c1 w2 hH2 hg1')
    clear hO h2 hH2
    go_wp2_with fail
    refine ST.out.mono ?_
    rintro e w3 ⟨rfl, hS, hOn⟩
    have hz3 := hOn.size
    have HB3 := Lib.hid (HB2.out.trans (hOn.below (m := w.heap.size) (by omega) hg1'))
    have CP := compactP (srtP (l.map toPl)).toArray n (by rw [List.size_toArray, (srtP_perm _).length_eq]; exact HN.out) (by omega) g1 c1 hc1 w3 hS (by omega)
    rw [HPC.out, HQl.out] at CP
    have CP := Lib.hid CP
    clear hS hOn
    go_wp2_with fail
    refine CP.out.mono ?_
    rintro e w4 ⟨rfl, hC, h4⟩
    have hz4 := h4.size
    have HB4 := Lib.hid (HB3.out.trans (h4.mono (by omega)))
    have HC4 := Lib.hid hC
    clear hC h4
    by_cases hm1 : (plL l).length = 1
    · have hh : hlL l = plL l := by unfold hlL Pn.hul; rw [if_pos hm1]
      have dm : (((plL l).length : Int) == 1) = true := beq_iff_eq.2 (by omega)
      have HH := Lib.hid hh
      clear hh
      go_wp2_with fail
      go_returns
      refine ⟨.slice (some ⟨g1, 0, none⟩) 1 c1, rfl, fun h => (by cases h), fun _ => ?_, HB4.out⟩
      rw [HH.out]
      exact ⟨g1, c1, by rw [hm1], by omega, by omega, by omega, HC4.out.rowP, fun j hj => HC4.out.frozen j (by rw [HQl.out]; exact hj)⟩
    · have dm : (((plL l).length : Int) == 1) = false := beq_eq_false_iff_ne.2 (by omega)
      have B1 := Lib.hid (borderP g1 (plL l).length c1 (plL l) rfl (by omega) HLB.out w4 (by omega) HC4.out.rowP)
      go_wp2_with fail
      refine B1.out.mono ?_
      rintro e w5 ⟨v5, rfl, hO5, h5⟩
      have hz5 := h5.size
      have hg14 : g1 < w4.heap.size := by omega
      have HO5 := Lib.hid hO5
      have HB5 := Lib.hid (ba HB4.out h5)
      have HC5 := Lib.hid (HC4.out.below hg14 h5)
      have RV := Lib.hid (revP (plcs (l.map toPl)) (plL l).length HQl.out (by omega) g1 c1 w5 HC5.out (by omega))
      clear hO5 h5
      go_wp2_with fail
      refine RV.out.mono ?_
      rintro e w6 ⟨rfl, hR, hOn6⟩
      have hz6 := hOn6.size
      have HB6 := Lib.hid (HB5.out.trans (hOn6.below (m := w.heap.size) (by omega) (by omega)))
      have HO6 := Lib.hid (HO5.out.kept hOn6.grown (.inr (fun e => by have := (HO5.out.lt _ e).1; omega)))
      have hR6 : RowP w6 g1 (plL l).reverse := by
        have := hR.rowP
        rw [List.map_reverse] at this
        exact this
      have B2 := Lib.hid (borderP g1 (plL l).length c1 (plL l).reverse (by simp) (by omega) (fun x hx => HLB.out x (by simpa using hx)) w6 (by omega) hR6)
      clear hR hOn6 hR6
      go_wp2_with fail
      refine B2.out.mono ?_
      rintro e w7 ⟨v7, rfl, hO7, h7⟩
      have hO57 := own_below7 HO6.out h7
      have HB7 := Lib.hid (ba HB6.out h7)
      have hz7 := h7.size
      have HHL := Lib.hid (show hlL l = (Pn.bord (plL l)).dropLast ++ (Pn.bord (plL l).reverse).dropLast by unfold hlL Pn.hul; rw [if_neg hm1])
      have s2 := bord_two HA.out (by omega)
      have m2 := bord_two (Pn.asc_rev HA.out) (by simp; omega)
      have s3 := Pn.bord_length (plL l)
      have m3 := Pn.bord_length (plL l).reverse
      rw [List.length_reverse] at m3
      generalize Pn.bord (plL l) = S at *
      generalize Pn.bord (plL l).reverse = T at *
      obtain ⟨g5, c5, rfl, hg5, hg5'⟩ := hO57.form (by omega)
      obtain ⟨g7, c7, rfl, hg7, hg7'⟩ := hO7.form (by omega)
      have W5 := wlP g5 S.length c5 (by omega) (own_cap8 hO57) (by omega)
      have W7 := wlP g7 T.length c7 (by omega) (own_cap8 hO7) (by omega)
      have HR5 := Lib.hid ((RowP.of_own hO57 rfl).drop)
      have HR7 := Lib.hid ((RowP.of_own hO7 rfl).drop)
      have HLS := Lib.hid (show (hlL l).length = (S.length - 1) + (T.length - 1) by rw [HHL.out, List.length_append, List.length_dropLast, List.length_dropLast])
      clear hO57 hO7 h7
      go_wp2_with (first | (go_at_call 94; (with_reducible refine Calls.mono (W5 _) ?_); rintro e w' ⟨rfl, rfl⟩) | (go_at_call 94; (with_reducible refine Calls.mono (W7 _) ?_); rintro e w' ⟨rfl, rfl⟩) | (at_builtin; refine wpList_append_grows _ rfl _ _ 47 rfl 26 i0 (.agg #[.int .i64 0, .int .i64 0, .int .i64 0, .int .i64 0]) 4 32 Try.underlying47 hi iz0 iz1 iz2 rfl (by decide) (some ⟨g5, 0, none⟩) (S.length - 1) (S.length - 1) (pnCs S.dropLast) rfl (by intro h; cases h) (by rw [pnCs_length, List.length_dropLast]) (by intro b hb; injection hb with hb; subst hb; exact HR5.out.cells) ⟨g7, 0, none⟩ (T.length - 1) (T.length - 1) (pnCs T.dropLast) rfl (by rw [pnCs_length, List.length_dropLast]) HR7.out.cells (pnCs_one _) (by omega) (by unfold maxLen; omega) (by omega) ?_))
      intro v' w8 hO8 hg8
      have hO8' := hO8
      rw [← pnCs_append, ← HHL.out, ← HLS.out] at hO8'
      obtain ⟨g8, c8, rfl, hg8a, hg8b⟩ := hO8'.form (by rw [HLS.out]; omega)
      have hc8 := own_cap8 hO8'
      have R8 := Lib.hid (RowP.of_own hO8' rfl)
      have F8 := Lib.hid (fun j (_ : j < (hlL l).length * 4) => hO8'.frozenAt j)
      have HB8 := Lib.hid (HB7.out.grown hg8 (by omega) (fun k hk => by cases hk))
      clear hO8 hO8' hg8
      go_wp2_with fail
      go_returns
      exact ⟨_, rfl, fun h => (by cases h), fun _ => ⟨g8, c8, rfl, by omega, by omega, hc8, R8.out, F8.out⟩, HB8.out⟩

end Go.Proofs.Ytppbbcckijcckaa

/- Contracts: FourHull, in the model and in the program. -/
namespace Go.Proofs.Ytppbbcckijcckaa
open Go.ChangeShapes Go.WideShapes Go.ChangeAt Go.RowKit Go.Sort

set_option linter.unusedVariables false
set_option linter.unusedSimpArgs false

theorem ring_close (l : List Pn) (h : 0 < l.length) : ring l = chds (l ++ [l[0]!]) := by
  apply List.ext_getElem?
  intro i
  by_cases hi : i < l.length
  · have e1 : (l ++ [l[0]!])[i]? = some l[i]! := by
      rw [List.getElem?_append_left hi, getElem!_pos l i hi, List.getElem?_eq_getElem hi]
    have e2 : (l ++ [l[0]!])[i + 1]? = some l[(i + 1) % l.length]! := by
      by_cases h2 : i + 1 < l.length
      · rw [List.getElem?_append_left h2, Nat.mod_eq_of_lt h2, getElem!_pos l (i + 1) h2, List.getElem?_eq_getElem h2]
      · have e : i + 1 = l.length := by omega
        rw [List.getElem?_append_right (by omega), e, Nat.mod_self, Nat.sub_self]; rfl
    rw [chds_get _ i _ _ e1 e2]
    simp only [ring, List.getElem?_map, List.getElem?_range hi, Option.map_some]
  · rw [List.getElem?_eq_none (by simp [ring]; omega), List.getElem?_eq_none (by simp [chds_length]; omega)]

/-- Four times the area of the hull. -/
def fhS (l : List Pn) : Su := cond (plsB l) (sumC (chds (hlL l ++ [(hlL l)[0]!]))) 0

theorem fhS_no {l : List Pn} (h : plsB l = false) : fhS l = 0 := by simp [fhS, h]

theorem fhS_yes {l : List Pn} (h : plsB l = true) : fhS l = sumC (chds (hlL l ++ [(hlL l)[0]!])) := by simp [fhS, h]

theorem fh_facts {l : List Pn} {n : Nat} (hn : l.length = n) (hp : plsB l = true) : 0 < (hlL l).length ∧ (hlL l).length ≤ 40 ∧ (∀ x ∈ hlL l, Bd 100000 x) ∧ (∀ x ∈ hlL l ++ [(hlL l)[0]!], Bd 100000 x) ∧ Bs 100000000000000 (sumC (chds (hlL l ++ [(hlL l)[0]!]))) := by
  obtain ⟨⟨n1, n20⟩, hbd⟩ := plsB_n hn hp
  have hne : l ≠ [] := fun e => by rw [e] at hn; simp at hn; omega
  have hpos := (hlL_is hbd hne).pos
  have hl := hlL_length hbd hne
  have hb : ∀ x ∈ hlL l, Bd 100000 x := fun x hx => hbd x (hlL_mem hbd hne hx)
  have hb2 : ∀ x ∈ hlL l ++ [(hlL l)[0]!], Bd 100000 x := fun x hx => by
    rcases List.mem_append.1 hx with h | h
    · exact hb x h
    · rw [List.mem_singleton] at h
      rw [h, getElem!_pos (hlL l) 0 hpos]
      exact hb _ (List.getElem_mem _)
  refine ⟨hpos, by omega, hb, hb2, ?_⟩
  have := sumC_bd (chds (hlL l ++ [(hlL l)[0]!])) (chds_bd hb2) _ (Nat.le_refl _)
  rw [List.take_length] at this
  refine this.mono ?_
  rw [chds_length, List.length_append]
  simp
  omega

set_option maxRecDepth 100000 in
set_option maxHeartbeats 1600000 in
theorem spFourHull (g n cap : Nat) (l : List Pn) (hn : l.length = n) (hb : n ≤ 1048576) (w : World) (hg : g < w.heap.size) (h1 : RowP w g l) :
    Calls Try.prog 49 #[.slice (some ⟨g, 0, none⟩) n cap] w fun e w' => e = .returned (.tuple #[sv (fhS l), .bool (plsB l)]) ∧ Below w.heap.size w w' := by
  have AP := fun (W : World) (hW : Below w.heap.size w W) => arPointsP g n cap l hn hb W (Nat.lt_of_lt_of_le hg hW.size) (h1.below hg hW)
  cases hp : plsB l <;> rw [hp] at AP
  · rw [fhS_no hp]
    have HAP := Lib.hid AP
    clear h1 AP hn
    go_enter Try.func49, Try.ntmps49
    go_wp2_with fail
    (go_at_call 85; (with_reducible refine Calls.mono (HAP.out _ ?_) ?_); (focus (go_grown; done)); rintro e wA ⟨rfl, h1⟩; (try with_reducible replace h1 := undrew h1); have hB : Below w.heap.size w wA := ba (by go_grown) h1; obtain ⟨hcwA, hfwA⟩ := bcell h1; have hqwA := h1.size; (try simp at hqwA); (try have hz0wA : w.heap.size < wA.heap.size := (by omega)); (try have he0wA : w.heap.size ≤ wA.heap.size := (by omega)))
    go_wp2_with fail
    refine bodyPost_ret (by simp [results, Try.results49, go_sem, *]; try rfl) rfl ?_
    exact ⟨rfl, by go_grown⟩
  · obtain ⟨⟨n1, n20⟩, hbd⟩ := plsB_n hn hp
    have hne : l ≠ [] := fun e => by rw [e] at hn; simp at hn; omega
    obtain ⟨hpos, h40, hHb, _, hBs⟩ := fh_facts hn hp
    have AH := Lib.hid (fun (W : World) (hW : g < W.heap.size) (hr : RowP W g l) => arHullP g n cap l (hlL l) hn (by omega) (by omega) hbd (hlL_is hbd hne) hHb (by omega) W hW hr)
    rw [fhS_yes hp, ← ring_close _ hpos]
    rw [← ring_close _ hpos] at hBs
    have SB := surdB_of (hBs.mono (by omega))
    have PS := spSurd_any (sumC (ring (hlL l))).x (sumC (ring (hlL l))).r
    rw [SB] at PS
    have PG := Lib.hid (fun (W : World) (g' c' : Nat) (hg' : g' < W.heap.size) (hr : RowP W g' (hlL l)) => arPolygonP g' (hlL l).length c' (hlL l) rfl (by omega) hHb W hg' hr)
    have HAP := Lib.hid AP
    have H1 := Lib.hid h1
    generalize sumC (ring (hlL l)) = S at *
    clear h1 AP hn hp SB hBs hbd hne hHb
    go_enter Try.func49, Try.ntmps49
    go_wp2_with fail
    (go_at_call 85; (with_reducible refine Calls.mono (HAP.out _ ?_) ?_); (focus (go_grown; done)); rintro e wA ⟨rfl, h1⟩; (try with_reducible replace h1 := undrew h1); have hB : Below w.heap.size w wA := ba (by go_grown) h1; obtain ⟨hcwA, hfwA⟩ := bcell h1; have hqwA := h1.size; (try simp at hqwA); (try have hz0wA : w.heap.size < wA.heap.size := (by omega)); (try have he0wA : w.heap.size ≤ wA.heap.size := (by omega)))
    have q0 : wA.cell? ⟨w.heap.size, 0, none⟩ = some (.int .i64 0) := by go_simp
    have q1 : wA.cell? ⟨w.heap.size, 1, none⟩ = some (.int .i64 0) := by go_simp
    have qf : ∀ i, wA.frozen? ⟨w.heap.size, i, none⟩ = false := fun i => by go_simp
    have HB1 := Lib.hid hB
    clear hcwA hfwA hB
    go_wp2_with fail
    refine (AH.out wA (by omega) (H1.out.below hg HB1.out)).mono ?_
    rintro e w2 ⟨v, rfl, hO, h2⟩
    obtain ⟨g2, c2, rfl, hg2, hg2'⟩ := hO.form hpos
    have R2 := Lib.hid (RowP.of_own hO rfl)
    have hz2 := h2.size
    obtain ⟨hc2, hf2⟩ := bcell h2
    have hB : Below w.heap.size w w2 := ba HB1.out h2
    have y2 : w.heap.size < w2.heap.size := by omega
    clear hO h2
    go_wp2_with fail
    refine (PG.out w2 g2 c2 hg2' R2.out).mono ?_
    rintro e w3 ⟨rfl, h3⟩
    obtain ⟨hc3, hf3⟩ := bcell h3
    have hz3 := h3.size
    have hB3 : Below w.heap.size w w3 := ba hB h3
    have y3 : w.heap.size < w3.heap.size := by omega
    clear h3 hB
    go_wp2_with fail
    (go_at_call 100; (with_reducible refine (PS _).mono ?_); rintro e w4 ⟨rfl, h1⟩; (try with_reducible replace h1 := undrew h1); have hB : Below w.heap.size w w4 := ba (by go_grown) h1; obtain ⟨hcw4, hfw4⟩ := bcell h1; have hqw4 := h1.size; (try simp at hqw4); (try have hz0w4 : w.heap.size < w4.heap.size := (by omega)); (try have he0w4 : w.heap.size ≤ w4.heap.size := (by omega)); (try have hz1w4 : w3.heap.size < w4.heap.size := (by omega)); (try have he1w4 : w3.heap.size ≤ w4.heap.size := (by omega)))
    have p0 : w4.cell? ⟨w.heap.size, 0, none⟩ = some (.int .i64 0) := by go_simp
    have p1 : w4.cell? ⟨w.heap.size, 1, none⟩ = some (.int .i64 0) := by go_simp
    have pf : ∀ i, w4.frozen? ⟨w.heap.size, i, none⟩ = false := fun i => by go_simp
    have o0 : w4.cell? ⟨w3.heap.size, 0, none⟩ = some (.int .i64 S.x) := by go_simp
    have o1 : w4.cell? ⟨w3.heap.size, 1, none⟩ = some (.int .i64 S.r) := by go_simp
    have HB4 := Lib.hid hB
    clear hcw4 hfw4 hB
    go_wp2_with fail
    refine bodyPost_ret (by simp [results, Try.results49, go_sem, *]; try rfl) rfl ?_
    have hB := HB4.out
    exact ⟨rfl, by go_grown⟩

set_option maxRecDepth 100000 in
set_option maxHeartbeats 1600000 in
theorem imFourHull (g n cap : Nat) (l : List Pn) (hn : l.length = n) (hb : n ≤ 1048576) (w : World) (hg : g < w.heap.size) (h1 : RowP w g l) :
    Calls Try.prog 50 #[.slice (some ⟨g, 0, none⟩) n cap] w fun e w' => e = .returned (.tuple #[sv (fhS l), .bool (plsB l)]) ∧ Below w.heap.size w w' := by
  have HO := fun (W : World) (hW : Below w.heap.size w W) => imHullOf g n cap l hn hb W (Nat.lt_of_lt_of_le hg hW.size) (h1.below hg hW)
  unfold HoPost at HO
  cases hp : plsB l <;> rw [hp] at HO
  · rw [fhS_no hp]
    have HHO := Lib.hid HO
    clear h1 HO hn hp
    go_enter Try.func50, Try.ntmps50
    go_wp2_with fail
    refine (HHO.out _ (by go_grown)).mono ?_
    rintro e wA ⟨v, rfl, _, _, h1⟩
    have hB : Below w.heap.size w wA := ba (by go_grown) h1
    obtain ⟨hcA, hfA⟩ := bcell h1
    have q0 : wA.cell? ⟨w.heap.size, 0, none⟩ = some (.int .i64 0) := by go_simp
    have q1 : wA.cell? ⟨w.heap.size, 1, none⟩ = some (.int .i64 0) := by go_simp
    have qf : ∀ i, wA.frozen? ⟨w.heap.size, i, none⟩ = false := fun i => by go_simp
    have HB1 := Lib.hid hB
    clear hcA hfA hB h1
    go_wp2_with fail
    refine bodyPost_ret (by simp [results, Try.results50, go_sem, *]; try rfl) rfl ?_
    have hB := HB1.out
    exact ⟨rfl, by go_grown⟩
  · obtain ⟨hpos, h40, hHb, hHb2, hBs⟩ := fh_facts hn hp
    rw [fhS_yes hp]
    have SB := surdB_of (hBs.mono (by omega))
    have ON := imOnlySurd_any (sumC (chds (hlL l ++ [(hlL l)[0]!]))).x (sumC (chds (hlL l ++ [(hlL l)[0]!]))).r
    rw [SB] at ON
    have HL2 := Lib.hid (show (hlL l ++ [(hlL l)[0]!]).length = (hlL l).length + 1 by simp)
    have HLC := Lib.hid (show (chds (hlL l ++ [(hlL l)[0]!])).length = (hlL l).length by rw [chds_length]; simp)
    have HCB := Lib.hid (chds_bd hHb2)
    have H0 := Lib.hid (show (hlL l)[0]? = some (hlL l)[0]! by rw [getElem!_pos (hlL l) 0 hpos, List.getElem?_eq_getElem hpos])
    have HHO := Lib.hid HO
    generalize (hlL l)[0]! = z at *
    generalize hlL l = H at *
    clear h1 HO hn hp SB hBs hHb hHb2
    obtain ⟨S, hS⟩ : ∃ S, sumC (chds (H ++ [z])) = S := ⟨_, rfl⟩
    rw [hS] at ON ⊢
    have HSE := Lib.hid hS
    clear hS
    obtain ⟨m, hm⟩ : ∃ m, H.length = m := ⟨_, rfl⟩
    have HM := Lib.hid hm
    rw [hm] at HL2 HLC HHO
    rw [hm] at hpos h40
    clear hm
    have n1 : (0 : Int) < (m : Int) := by omega
    go_enter Try.func50, Try.ntmps50
    go_wp2_with fail
    refine (HHO.out _ (by go_grown)).mono ?_
    rintro e wA ⟨v, rfl, _, hv, h1⟩
    obtain ⟨g1, c1, rfl, hg1, hg1', hcap, hR, _⟩ := hv (by first | rfl | trivial)
    have hB : Below w.heap.size w wA := ba (by go_grown) h1
    obtain ⟨hcA, hfA⟩ := bcell h1
    have hzA := h1.size
    simp at hzA hg1
    have q0 : wA.cell? ⟨w.heap.size, 0, none⟩ = some (.int .i64 0) := by go_simp
    have q1 : wA.cell? ⟨w.heap.size, 1, none⟩ = some (.int .i64 0) := by go_simp
    have qf : ∀ i, wA.frozen? ⟨w.heap.size, i, none⟩ = false := fun i => by go_simp
    have HB1 := Lib.hid hB
    obtain ⟨c0, c1', c2, c3⟩ := hR 0 z H0.out
    simp only [Nat.zero_mul, Nat.zero_add] at c0 c1' c2 c3
    have WB := Lib.hid (withBehindP g1 m c1 H z HM.out hpos (by omega) hcap wA hg1' hR)
    have yA : w.heap.size < wA.heap.size := by omega
    clear hcA hfA hB h1 hR
    go_wp2_with fail
    refine WB.out.mono ?_
    rintro e w2 ⟨g2, c2', rfl, hO2, h2⟩
    have R2 := Lib.hid (RowP.of_own hO2 HL2.out)
    have hg2 := own_lt7 hO2
    have hz2 := h2.size
    have HB2 := Lib.hid (ba HB1.out h2)
    have p0 : w2.cell? ⟨w.heap.size, 0, none⟩ = some (.int .i64 0) := by rw [h2.cell (p := ⟨w.heap.size, 0, none⟩) yA]; exact q0
    have p1 : w2.cell? ⟨w.heap.size, 1, none⟩ = some (.int .i64 0) := by rw [h2.cell (p := ⟨w.heap.size, 1, none⟩) yA]; exact q1
    have pf : ∀ i, w2.frozen? ⟨w.heap.size, i, none⟩ = false := fun i => by rw [h2.frozen (p := ⟨w.heap.size, i, none⟩) yA]; exact qf i
    have CA := Lib.hid (chordsAlongP g2 (m + 1) c2' (H ++ [z]) HL2.out (by omega) w2 hg2 R2.out)
    clear hO2 h2 c0 c1' c2 c3 q0 q1 qf
    go_wp2_with fail
    refine CA.out.mono ?_
    rintro e w3 ⟨v3, rfl, hO3, h3⟩
    rw [Nat.add_sub_cancel] at hO3
    obtain ⟨g3, c3', rfl, hg3, hg3'⟩ := hO3.form hpos
    have R3 := Lib.hid (RowC.own hO3 HLC.out)
    have hz3 := h3.size
    have HB3 := Lib.hid (ba HB2.out h3)
    have y2 : w.heap.size < w2.heap.size := by omega
    have r0 : w3.cell? ⟨w.heap.size, 0, none⟩ = some (.int .i64 0) := by rw [h3.cell (p := ⟨w.heap.size, 0, none⟩) y2]; exact p0
    have r1 : w3.cell? ⟨w.heap.size, 1, none⟩ = some (.int .i64 0) := by rw [h3.cell (p := ⟨w.heap.size, 1, none⟩) y2]; exact p1
    have rf : ∀ i, w3.frozen? ⟨w.heap.size, i, none⟩ = false := fun i => by rw [h3.frozen (p := ⟨w.heap.size, i, none⟩) y2]; exact pf i
    have FA0 := fourAreaP g3 m c3' (chds (H ++ [z])) HLC.out (by omega) HCB.out w3 hg3' R3.out
    rw [HSE.out] at FA0
    have FA := Lib.hid FA0
    clear FA0
    clear hO3 h3 p0 p1 pf
    go_wp2_with fail
    refine FA.out.mono ?_
    rintro e w4 ⟨rfl, h4⟩
    have hz4 := h4.size
    have HB4 := Lib.hid (ba HB3.out h4)
    have y3 : w.heap.size < w3.heap.size := by omega
    have s0 : w4.cell? ⟨w.heap.size, 0, none⟩ = some (.int .i64 0) := by rw [h4.cell (p := ⟨w.heap.size, 0, none⟩) y3]; exact r0
    have s1 : w4.cell? ⟨w.heap.size, 1, none⟩ = some (.int .i64 0) := by rw [h4.cell (p := ⟨w.heap.size, 1, none⟩) y3]; exact r1
    have sf : ∀ i, w4.frozen? ⟨w.heap.size, i, none⟩ = false := fun i => by rw [h4.frozen (p := ⟨w.heap.size, i, none⟩) y3]; exact rf i
    have y4 : w.heap.size < w4.heap.size := by omega
    clear h4 r0 r1 rf
    go_wp2_with fail
    refine (ON _).mono ?_
    rintro e w5 ⟨rfl, h5⟩
    have HB5 := Lib.hid (ba HB4.out h5)
    have t0 : w5.cell? ⟨w.heap.size, 0, none⟩ = some (.int .i64 0) := by rw [h5.cell (p := ⟨w.heap.size, 0, none⟩) y4]; exact s0
    have t1 : w5.cell? ⟨w.heap.size, 1, none⟩ = some (.int .i64 0) := by rw [h5.cell (p := ⟨w.heap.size, 1, none⟩) y4]; exact s1
    have tf : ∀ i, w5.frozen? ⟨w.heap.size, i, none⟩ = false := fun i => by rw [h5.frozen (p := ⟨w.heap.size, i, none⟩) y4]; exact sf i
    clear h5 s0 s1 sf
    go_wp2_with fail
    refine bodyPost_ret (by simp [results, Try.results50, go_sem, *]; try rfl) rfl ?_
    have hB := HB5.out
    exact ⟨rfl, by go_grown⟩

end Go.Proofs.Ytppbbcckijcckaa
