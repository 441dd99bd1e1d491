/- A row of arrays held: loads, stores, the sort's worlds. -/
import Derived.Test.YtoenkgenoloihaaDoorVaM
import Derived.Shelf.SlSortCmp.NoneTotal
import Derived.Lib.SlicesCompact
namespace Go.Proofs.YtoenkgenoloihaaDoor
open Go.ChangeShapes Go.WideShapes Go.ChangeAt Go.RowKit Go.Lib

set_option linter.unusedVariables false

def HoldsLp (W : World) (g : Nat) (d : Array Lp) : Prop := Sort.HoldsK encLp 40 W g 0 d

theorem HoldsLp.load {W : World} {g i K : Nat} {d : Array Lp} (h : HoldsLp W g d) (hK : K = 40) (hi : i < d.size) : Sem.run Tryd.prog (loadCellsFrom ⟨g, i * K, none⟩ 0 K #[]) W = .ok (arr d[i]!) W := by
  subst hK
  have := run_loadCellsFrom_list Tryd.prog W ⟨g, 0 + i * 40, none⟩ (encLp d[i]!) 40 (encLp_len _) (HoldsK.cells h encLp_len hi)
  rwa [Nat.zero_add] at this

theorem lp_bnd {i n : Nat} (h : i < n) : i * 40 + 40 ≤ n * 40 := by
  have := Nat.mul_le_mul_right 40 (show i + 1 ≤ n from h); rwa [Nat.add_mul, Nat.one_mul] at this

theorem HoldsLp.store {W : World} {g i K : Nat} {d : Array Lp} (h : HoldsLp W g d) (hK : K = 40) (hi : i < d.size) (y : Lp) : Sem.run Tryd.prog (storeCells ⟨g, i * K, none⟩ (arr y).toList) W = .ok () (W.setCells g (i * K) (encLp y)) := by
  subst hK
  have := stores_of_holds Tryd.prog h (i * 40) (encLp y) (by rw [Sort.size_flatK, encLp_len]; exact lp_bnd hi) (enc_one y)
  rw [Nat.zero_add] at this
  simpa [arr] using this

theorem setMany_one (d : Array Lp) (i : Nat) (hi : i < d.size) (y : Lp) : Sort.setMany (Sort.flatK encLp 40 d) (i * 40) (encLp y) = Sort.flatK encLp 40 (d.setIfInBounds i y) := by
  refine Sort.ext_get! (by simp) fun t ht => ?_
  have ht' : t < d.size * 40 := by simpa using ht
  rw [Sort.get_setMany _ _ _ t (by simpa using ht'), Sort.get_flatK _ _ _ t ht', Sort.get_flatK _ _ _ t (by simpa using ht'), encLp_len]
  have m : ∀ q, t / 40 = q → t - q * 40 = t % 40 := fun q h => by subst h; rw [Nat.mod_eq_sub_div_mul]
  by_cases a : t / 40 = i
  · rw [if_pos ((Sort.blk_iff 40 i t (by decide)).2 a), m i a, a, Sort.getElem!_set_same d i y hi]
  · rw [if_neg (fun h => a ((Sort.blk_iff 40 i t (by decide)).1 h)), Sort.getElem!_set_other d i (t / 40) y a]

theorem HoldsLp.set {W : World} {g i K : Nat} {d : Array Lp} (h : HoldsLp W g d) (hK : K = 40) (hi : i < d.size) (y : Lp) : HoldsLp (W.setCells g (i * K) (encLp y)) g (d.setIfInBounds i y) := by
  subst hK
  have := holds_setCells_c h (i * 40) (encLp y) (by rw [Sort.size_flatK, encLp_len]; exact lp_bnd hi)
  rw [Nat.zero_add, setMany_one d i hi y] at this
  exact this

theorem HoldsLp.drewN {W : World} {g : Nat} {d : Array Lp} (h : HoldsLp W g d) (q : Nat) : HoldsLp (W.drewN q) g d := h

theorem below_setCells : ∀ (vs : List Value) (o : Nat) {m g : Nat} {a w : World}, Below m a w → m ≤ g → Below m a (w.setCells g o vs)
  | [], _, _, _, _, _, h, _ => h
  | v :: r, o, _, g, _, _, h, hg => below_setCells r (o + 1) (h.setCell (p := ⟨g, o, none⟩) hg v) hg

theorem below_sort {w : World} {m g n : Nat} {d : Array Lp} (os : Array Obj) (hg : m ≤ g) (hl : g < w.heap.size) : Below m w (sortWorldK encLp 40 w g 0 n d os) := by
  unfold sortWorldK
  refine ⟨rfl, rfl, rfl, ?_, fun k hk => ?_⟩
  · rw [Sort.size_grow, Sort.size_putRowK]; exact Nat.le_add_right _ _
  · rw [Sort.heap_grow_old _ os (by rw [Sort.size_putRowK]; show k < w.heap.size; omega)]
    show (w.heap.modify g _)[k]? = _
    rw [Array.getElem?_modify, if_neg (by omega)]

theorem HoldsLp.own {W : World} {B n g cap : Nat} {d : Array Lp} (h : W.ownsRow B 45 40 (.slice (some ⟨g, 0, none⟩) n cap) n (lpCells d.toList)) (hn : d.size = n) : HoldsLp W g d := fun j hj => by
  rw [Sort.size_flatK] at hj
  have hq : j / 40 < d.size := Nat.div_lt_of_lt_mul (by omega)
  have hr : j % 40 < 40 := Nat.mod_lt _ (by decide)
  refine ⟨?_, h.frozenAt _⟩
  rw [Nat.zero_add, h.cellAt j (by omega), Sort.get_flatK _ _ _ _ hj]
  have hx : d.toList[j / 40]? = some d[j / 40]! := by rw [getElem!_pos d _ hq, List.getElem?_eq_getElem (by simpa using hq)]; simp
  have hv : (encLp d[j / 40]!)[j % 40]? = some (encLp d[j / 40]!)[j % 40]! := by
    rw [getElem!_pos (encLp d[j / 40]!) _ (by rw [encLp_len]; exact hr), List.getElem?_eq_getElem]
  have := lpCells_at d.toList _ _ hx _ _ hv
  rw [show j / 40 * 40 + j % 40 = j by omega] at this
  exact this

theorem HoldsLp.row {W : World} {g : Nat} {d : Array Lp} (h : HoldsLp W g d) : RowLp W g d.toList := fun j x hx i v hv => by
  have hj : j < d.size := by have := (List.getElem?_eq_some_iff.1 hx).1; simpa using this
  have e : d[j]! = x := by
    rw [getElem!_pos d j hj]
    have := (List.getElem?_eq_some_iff.1 hx).2
    simpa using this
  have := HoldsK.cells h encLp_len hj i v (by rw [e]; exact hv)
  rw [Addr.add_lit, Nat.zero_add] at this
  exact this

/-- The program's order of arrays. -/
def cfL (x y : Lp) : Int := Lib.compareBytes x.1 y.1

theorem ltL (x y : Lp) : ltOf cfL x y = decide (x.1 < y.1) := cmp_neg x y

theorem swoL : Sort.SWO (ltOf cfL) where
  irrefl x := by rw [ltL]; exact decide_eq_false (lt_irr _)
  trans x y z h1 h2 := by
    rw [ltL] at h1 h2 ⊢
    exact decide_eq_true (lt_trn (of_decide_eq_true h1) (of_decide_eq_true h2))
  ntrans x y z h1 h2 := by
    rw [ltL] at h1 h2 ⊢
    have a := of_decide_eq_false h1
    have b := of_decide_eq_false h2
    refine decide_eq_false fun h => ?_
    rcases lt_tri x.1 y.1 with g | g | g
    · exact a g
    · rw [g] at h; exact b h
    · exact b (lt_trn g h)

theorem totL (x y : Lp) (h1 : ltOf cfL x y = false) (h2 : ltOf cfL y x = false) : x = y := by
  rw [ltL] at h1 h2
  rcases lt_tri x.1 y.1 with g | g | g
  · exact absurd g (of_decide_eq_false h1)
  · exact Subtype.ext g
  · exact absurd g (of_decide_eq_false h2)

def srtL (d : Array Lp) : Array Lp := (d.toList.mergeSort fun x y => !(ltOf cfL) y x).toArray

theorem srtL_size (d : Array Lp) : (srtL d).size = d.size := by simp [srtL, List.length_mergeSort]

theorem srtL_mem (d : Array Lp) (x : Lp) : (∃ j, j < d.size ∧ (srtL d)[j]! = x) ↔ x ∈ d.toList := by
  have h : ∀ x, x ∈ (srtL d).toList ↔ x ∈ d.toList := fun x => (List.mergeSort_perm _ _).mem_iff
  rw [← h x, List.mem_iff_getElem]
  constructor
  · rintro ⟨j, hj, rfl⟩
    rw [← srtL_size] at hj
    exact ⟨j, by simpa using hj, by rw [getElem!_pos _ j hj]; simp⟩
  · rintro ⟨j, hj, rfl⟩
    have hj' : j < (srtL d).size := by simpa using hj
    exact ⟨j, by rw [← srtL_size]; exact hj', by rw [getElem!_pos _ j hj']; simp⟩

theorem srtL_sorted (d : Array Lp) (i j : Nat) (hij : i < j) (hj : j < (srtL d).size) : ¬ (srtL d)[j]!.1 < (srtL d)[i]!.1 := by
  have hp : (srtL d).toList.Pairwise fun x y => (!(ltOf cfL) y x) = true := by
    have hS := swoL
    refine List.pairwise_mergeSort (fun a b c h1 h2 => ?_) (fun a b => ?_) _
    · simp only [Bool.not_eq_true'] at h1 h2 ⊢
      exact hS.ntrans _ _ _ h2 h1
    · cases h1 : ltOf cfL b a with
      | false => simp
      | true =>
        have : ltOf cfL a b = false := by
          cases h2 : ltOf cfL a b with
          | false => rfl
          | true => have := hS.trans _ _ _ h1 h2; rw [hS.irrefl] at this; cases this
        simp [this]
  have := List.pairwise_iff_getElem.1 hp i j (by simp; omega) (by simpa using hj) hij
  rw [getElem!_pos _ j hj, getElem!_pos _ i (by omega)]
  simp only [Bool.not_eq_true', ltL] at this
  simpa using of_decide_eq_false this

set_option maxRecDepth 100000 in
theorem sortFunc_any (d : Array Lp) (n : Nat) (hn : d.size = n) (hb5 : n ≤ 5000) (g cap : Nat) (w : World) (hH : HoldsLp w g d) (hg : g < w.heap.size) :
    Calls Tryd.prog 79 #[.slice (some ⟨g, 0, none⟩) n cap, .func (.func 50) #[] #[]] w fun e w' => e = .returned (.tuple #[]) ∧ HoldsLp w' g (srtL d) ∧ Below g w w' := by
  subst hn
  have h := AnyQ.slices_SortFunc_total Tryd.sortLoop 40 Tryd.isAgg45 Tryd.sizeOf45 encLp encLp_len enc_one cfL swoL 50 #[] g 0 cap d w
    (enters_of Tryd.func50 (by kernel_rfl) rfl) (fun m os dk _ x y => compare_gr x y _) hH hg (by omega) totL
  refine h.mono fun e w' ⟨h1, q, os, h2⟩ => ⟨h1, ?_, ?_⟩
  · rw [h2]
    exact holdsK_sortWorldK encLp 40 w g 0 q d (srtL d) os hg hH (srtL_size d)
  · rw [h2]
    exact below_sort os (Nat.le_refl _) hg

end Go.Proofs.YtoenkgenoloihaaDoor
