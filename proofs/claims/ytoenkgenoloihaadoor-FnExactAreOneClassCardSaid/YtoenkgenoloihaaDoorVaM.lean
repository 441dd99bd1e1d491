/- The variants of a ring: how many, and which is the first. Nothing of the program. -/
import Derived.Test.YtoenkgenoloihaaDoorRs
import Derived.Lib.SlicesCompact
import Derived.Sort.Statements
namespace Go.Proofs.YtoenkgenoloihaaDoor
open Go.Lib

theorem bgr {w w' : World} (h : Go.RowKit.Below w.heap.size w w') : w.grownBy w' none := ⟨h.os, h.tape, h.output, h.size, fun k hk _ => h.block k hk⟩

instance : DecidableEq Lp := fun x y => decidable_of_iff (x.1 = y.1) ⟨fun h => Subtype.ext h, fun h => by rw [h]⟩

/-- As many pieces as come again: each spun one once. -/
def onceL (x : List UInt8) : List (List UInt8) := (rot1 x).take (perN x)

theorem spn_add {x : List UInt8} {i j : Nat} (h : i + j ≤ x.length) : spn (spn x i) j = spn x (i + j) := by
  rw [spn_spn x i j (by omega) (by omega), ← spn_mod x (i + j) h]

theorem spn_inj {x : List UInt8} {i j : Nat} (hi : i ≤ j) (hj : j ≤ x.length) (h : spn x i = spn x j) : spn x (j - i) = x := by
  -- turned back by what is left from i on
  have h1 : spn (spn x i) (x.length - i) = x := by rw [spn_add (by omega), show i + (x.length - i) = x.length by omega, spn_full]
  have h2 : spn (spn x j) (x.length - i) = spn x (j - i) := by
    rw [spn_spn x j _ hj (by omega), show j + (x.length - i) = x.length + (j - i) by omega, Nat.add_mod_left, ← spn_mod x (j - i) (by omega)]
  rw [← h2, ← h, h1]

theorem per_spec {x : List UInt8} (h0 : 0 < x.length) : spn x (perN x) = x ∧ ∀ j, 0 < j → j < perN x → spn x j ≠ x := by
  have hp := per_le h0
  have hl : (rot1 x).findIdx (· == x) < (rot1 x).length := by rw [rot1_len]; unfold perN at hp; omega
  have h1 := List.findIdx_getElem (p := (· == x)) (xs := rot1 x) (w := hl)
  refine ⟨?_, fun j hj hjp e => ?_⟩
  · simp only [rot1, List.getElem_map, List.getElem_range, beq_iff_eq] at h1
    exact h1
  · unfold perN at hjp
    have hlt : j - 1 < (rot1 x).findIdx (· == x) := by omega
    have := List.not_of_lt_findIdx hlt
    simp only [rot1, List.getElem_map, List.getElem_range, beq_eq_false_iff_ne, ne_eq] at this
    rw [show j - 1 + 1 = j by omega] at this
    exact this e

theorem once_len {x : List UInt8} (h0 : 0 < x.length) : (onceL x).length = perN x := by
  rw [onceL, List.length_take, rot1_len]
  exact Nat.min_eq_left (per_le h0)

theorem rot1_at {x : List UInt8} {i : Nat} {a : List UInt8} : (rot1 x)[i]? = some a ↔ i < x.length ∧ a = spn x (i + 1) := by
  by_cases hi : i < x.length
  · simp [rot1, hi, eq_comm]
  · simp [rot1, hi]

theorem once_at {x : List UInt8} {i : Nat} {a : List UInt8} (h : (onceL x)[i]? = some a) : i < perN x ∧ i < x.length ∧ a = spn x (i + 1) := by
  unfold onceL at h
  rw [List.getElem?_take] at h
  split at h <;> rename_i hi
  · exact ⟨hi, rot1_at.1 h⟩
  · cases h

theorem once_nodup {x : List UInt8} (h0 : 0 < x.length) : (onceL x).Nodup := by
  refine List.pairwise_iff_getElem.2 fun i j hi hj hij e => ?_
  obtain ⟨a1, a2, a3⟩ := once_at (List.getElem?_eq_getElem hi)
  obtain ⟨b1, b2, b3⟩ := once_at (List.getElem?_eq_getElem hj)
  rw [a3, b3] at e
  have := spn_inj (by omega) (by omega) e
  exact (per_spec h0).2 _ (by omega) (by omega) this

theorem spn_once {x : List UInt8} (h0 : 0 < x.length) : ∀ k, k ≤ x.length → ∃ j, 0 < j ∧ j ≤ perN x ∧ spn x k = spn x j := by
  intro k
  induction k using Nat.strongRecOn with
  | ind k ih =>
    intro hk
    have hp0 : 0 < perN x := by unfold perN; omega
    by_cases hz : k = 0
    · subst hz
      exact ⟨perN x, hp0, Nat.le_refl _, by rw [spn_zero, (per_spec h0).1]⟩
    by_cases hkp : k ≤ perN x
    · exact ⟨k, by omega, hkp, rfl⟩
    · obtain ⟨j, h1, h2, h3⟩ := ih (k - perN x) (by omega) (by omega)
      refine ⟨j, h1, h2, ?_⟩
      rw [← h3]
      have := spn_add (x := x) (i := perN x) (j := k - perN x) (by omega)
      rw [(per_spec h0).1, show perN x + (k - perN x) = k by omega] at this
      exact this.symm

theorem once_mem {x a : List UInt8} (h0 : 0 < x.length) : a ∈ onceL x ↔ orb x a := by
  constructor
  · intro h
    obtain ⟨i, hi⟩ := List.mem_iff_getElem?.1 h
    obtain ⟨_, h2, rfl⟩ := once_at hi
    exact ⟨i + 1, by omega, rfl⟩
  · rintro ⟨k, hk, rfl⟩
    obtain ⟨j, h1, h2, h3⟩ := spn_once h0 k hk
    have hj := per_le h0
    rw [h3, List.mem_iff_getElem?]
    refine ⟨j - 1, ?_⟩
    rw [onceL, List.getElem?_take, if_pos (by omega)]
    exact rot1_at.2 ⟨by omega, by rw [show j - 1 + 1 = j by omega]⟩

/-- One word more: told, and counted if its least one is new. -/
def vstep (s : List (List UInt8) × Nat) (x : List UInt8) : List (List UInt8) × Nat := if leastL x ∈ s.1 then s else (s.1 ++ [leastL x], s.2 + perN x)

def vfold (X : List (List UInt8)) : List (List UInt8) × Nat := X.foldl vstep ([], 0)

theorem vfold_snoc (X : List (List UInt8)) (x : List UInt8) : vfold (X ++ [x]) = vstep (vfold X) x := by simp [vfold]

def varN (l : List UInt8) : Nat := (vfold (four l)).2

structure Told (X : List (List UInt8)) (s : List (List UInt8) × Nat) (V : List (List UInt8)) : Prop where
  nodup : V.Nodup
  mem : ∀ a, a ∈ V ↔ ∃ x ∈ X, orb x a
  len : V.length = s.2
  firsts : ∀ f, f ∈ s.1 ↔ ∃ x ∈ X, leastL x = f

theorem told_step {X : List (List UInt8)} {s : List (List UInt8) × Nat} {V : List (List UInt8)} (h : Told X s V) {x : List UInt8} (h0 : 0 < x.length) (hX : ∀ y ∈ X, 0 < y.length) : ∃ V', Told (X ++ [x]) (vstep s x) V' := by
  unfold vstep
  by_cases hx : leastL x ∈ s.1
  · rw [if_pos hx]
    obtain ⟨y, hy, he⟩ := (h.firsts _).1 hx
    have hyx : orb y x := (leastL_iff (hX y hy) h0).1 he
    refine ⟨V, h.nodup, fun a => ?_, h.len, fun f => ?_⟩
    · rw [h.mem]
      constructor
      · rintro ⟨z, hz, ha⟩; exact ⟨z, by simp [hz], ha⟩
      · rintro ⟨z, hz, ha⟩
        rcases List.mem_append.1 hz with hz | hz
        · exact ⟨z, hz, ha⟩
        · have : z = x := by simpa using hz
          subst this
          exact ⟨y, hy, orb_trans hyx ha⟩
    · rw [h.firsts]
      constructor
      · rintro ⟨z, hz, ha⟩; exact ⟨z, by simp [hz], ha⟩
      · rintro ⟨z, hz, ha⟩
        rcases List.mem_append.1 hz with hz | hz
        · exact ⟨z, hz, ha⟩
        · have : z = x := by simpa using hz
          subst this
          exact ⟨y, hy, by rw [← ha, he]⟩
  · rw [if_neg hx]
    refine ⟨V ++ onceL x, ?_, fun a => ?_, ?_, fun f => ?_⟩
    · rw [List.nodup_append]
      refine ⟨h.nodup, once_nodup h0, fun a ha b hb e => ?_⟩
      subst e
      obtain ⟨y, hy, hya⟩ := (h.mem _).1 ha
      have hxa := (once_mem h0).1 hb
      exact hx ((h.firsts _).2 ⟨y, hy, leastL_eq (hX y hy) (orb_trans hya (orb_symm hxa))⟩)
    · rw [List.mem_append, h.mem, once_mem h0]
      constructor
      · rintro (⟨z, hz, ha⟩ | ha)
        · exact ⟨z, by simp [hz], ha⟩
        · exact ⟨x, by simp, ha⟩
      · rintro ⟨z, hz, ha⟩
        rcases List.mem_append.1 hz with hz | hz
        · exact .inl ⟨z, hz, ha⟩
        · have : z = x := by simpa using hz
          subst this
          exact .inr ha
    · rw [List.length_append, h.len, once_len h0]
    · show f ∈ s.1 ++ [leastL x] ↔ _
      rw [List.mem_append, h.firsts]
      constructor
      · rintro (⟨z, hz, ha⟩ | ha)
        · exact ⟨z, by simp [hz], ha⟩
        · exact ⟨x, by simp, (by simpa using ha : f = leastL x).symm⟩
      · rintro ⟨z, hz, ha⟩
        rcases List.mem_append.1 hz with hz | hz
        · exact .inl ⟨z, hz, ha⟩
        · have : z = x := by simpa using hz
          subst this
          exact .inr (by simp [ha])

theorem told_all : ∀ (Y X : List (List UInt8)) (s : List (List UInt8) × Nat) (V : List (List UInt8)), Told X s V → (∀ y ∈ X ++ Y, 0 < y.length) → ∃ V', Told (X ++ Y) (Y.foldl vstep s) V'
  | [], X, s, V, h, _ => ⟨V, by simpa using h⟩
  | y :: Y, X, s, V, h, hl => by
    obtain ⟨V', h'⟩ := told_step h (hl y (by simp)) (fun z hz => hl z (by simp [hz]))
    have := told_all Y (X ++ [y]) (vstep s y) V' h' (fun z hz => hl z (by simpa using hz))
    simpa using this

theorem told_fold (X : List (List UInt8)) (hl : ∀ y ∈ X, 0 < y.length) : ∃ V, Told X (vfold X) V := by
  have := told_all X [] ([], 0) [] ⟨List.nodup_nil, fun a => by simp, rfl, fun f => by simp⟩ (by simpa using hl)
  simpa [vfold] using this

/-- The variants of a ring, as arrays, in order. -/
structure IsVar (l : List UInt8) (V : List Lp) : Prop where
  sorted : V.Pairwise fun x y => x.1 < y.1
  mem : ∀ y, y ∈ V ↔ ∃ x ∈ four l, ∃ a, orb x a ∧ y = mkLp a

theorem IsVar.len {l : List UInt8} {V : List Lp} (h : IsVar l V) (h0 : 0 < l.length) (h40 : l.length ≤ 40) : V.length = varN l := by
  obtain ⟨W, hW⟩ := told_fold (four l) (fun y hy => by rw [four_len hy]; exact h0)
  have hlm : W.length = (W.map mkLp).length := by simp
  rw [varN, ← hW.len, hlm]
  refine List.Perm.length_eq ((List.perm_ext_iff_of_nodup ?_ ?_).2 fun y => ?_)
  · exact h.sorted.imp (fun {a b} hab e => by subst e; exact lt_irr _ hab)
  · refine List.Pairwise.map mkLp (fun a b h => h) (List.Pairwise.imp_of_mem (fun {a b} ha hb hne e => hne ?_) hW.nodup)
    obtain ⟨x, hx, hxa⟩ := (hW.mem a).1 ha
    obtain ⟨y, hy, hyb⟩ := (hW.mem b).1 hb
    exact mk_inj (by rw [orb_len hxa, four_len hx]; exact h40) (by rw [orb_len hxa, orb_len hyb, four_len hx, four_len hy]) e
  · rw [h.mem, List.mem_map]
    constructor
    · rintro ⟨x, hx, a, ha, rfl⟩; exact ⟨a, (hW.mem a).2 ⟨x, hx, ha⟩, rfl⟩
    · rintro ⟨a, ha, rfl⟩
      obtain ⟨x, hx, hxa⟩ := (hW.mem a).1 ha
      exact ⟨x, hx, a, hxa, rfl⟩

theorem class_spec {l : List UInt8} (h0 : 0 < l.length) : (∃ x ∈ four l, orb x (classL l)) ∧ ∀ x ∈ four l, ∀ a, orb x a → ¬ a < classL l := by
  have hp : ∀ x ∈ four l, 0 < x.length := fun x hx => by rw [four_len hx]; exact h0
  constructor
  · have hm := mn_mem ((four l).map leastL) l
    rcases List.mem_cons.1 hm with e | e
    · exact ⟨l, by simp [four], by rw [classL, e]; exact orb_refl l⟩
    · obtain ⟨x, hx, e⟩ := List.mem_map.1 e
      exact ⟨x, hx, by rw [classL, ← e]; exact leastL_orb (hp x hx)⟩
  · intro x hx a ha hlt
    have h1 := leastL_le (hp x hx) ha
    have h2 := mn_le ((four l).map leastL) l (leastL x) (List.mem_cons_of_mem _ (List.mem_map_of_mem hx))
    rcases lt_tri (leastL x) a with g | g | g
    · exact h2 (lt_trn g hlt)
    · subst g; exact h2 hlt
    · exact h1 g

theorem class_len {l : List UInt8} (h0 : 0 < l.length) : (classL l).length = l.length := by
  obtain ⟨x, hx, h⟩ := (class_spec h0).1
  rw [orb_len h, four_len hx]

theorem IsVar.first {l : List UInt8} {V : List Lp} (h : IsVar l V) (h0 : 0 < l.length) (h40 : l.length ≤ 40) : V[0]? = some (mkLp (classL l)) := by
  obtain ⟨⟨x, hx, hc⟩, hle⟩ := class_spec h0
  have hmem := (h.mem _).2 ⟨x, hx, _, hc, rfl⟩
  cases V with
  | nil => simp at hmem
  | cons v V =>
    rw [List.getElem?_cons_zero]
    rcases List.mem_cons.1 hmem with e | e
    · rw [e]
    · exfalso
      have hlt := List.rel_of_pairwise_cons h.sorted e
      obtain ⟨y, hy, a, ha, rfl⟩ := (h.mem v).1 (by simp)
      have hla : a.length = l.length := by rw [orb_len ha, four_len hy]
      have hlc := class_len h0
      exact hle y hy a ha ((mk_lt (by omega) (by omega)).1 hlt)

/-- A sorted row, compacted: each of its elements once, in order. -/
theorem compact_mem {α : Type} [Inhabited α] [DecidableEq α] (d : Array α) (x : α) : ∀ m, x ∈ compactUpTo d m ↔ ∃ j, j < m ∧ d[j]! = x
  | 0 => by simp [compactUpTo]
  | m + 1 => by
    have ih := compact_mem d x m
    rw [compactUpTo_succ, List.mem_append, ih]
    constructor
    · rintro (⟨j, hj, e⟩ | h)
      · exact ⟨j, by omega, e⟩
      · split at h
        · exact ⟨m, by omega, (by simpa using h : x = d[m]!).symm⟩
        · simp at h
    · rintro ⟨j, hj, e⟩
      by_cases hjm : j = m
      · subst hjm
        by_cases hk : keeps d j = true
        · right; rw [if_pos hk]; simp [e]
        · left
          simp only [keeps, decide_eq_true_eq, not_or, ne_eq, Decidable.not_not] at hk
          exact ⟨j - 1, by omega, by rw [← hk.2, e]⟩
      · exact .inl ⟨j, by omega, e⟩

theorem compact_sorted (d : Array Lp) (hd : ∀ i j, i < j → j < d.size → ¬ d[j]!.1 < d[i]!.1) : ∀ m, m ≤ d.size → (compactUpTo d m).Pairwise fun x y => x.1 < y.1
  | 0, _ => by simp [compactUpTo]
  | m + 1, hm => by
    rw [compactUpTo_succ]
    by_cases hk : keeps d m = true
    · rw [if_pos hk, List.pairwise_append]
      refine ⟨compact_sorted d hd m (by omega), by simp, fun x hx y hy => ?_⟩
      have hy : y = d[m]! := by simpa using hy
      subst hy
      obtain ⟨j, hj, rfl⟩ := (compact_mem d x m).1 hx
      simp only [keeps, decide_eq_true_eq] at hk
      have hne : d[m]! ≠ d[m - 1]! := by rcases hk with h | h; omega; exact h
      have h1 := hd (m - 1) m (by omega) (by omega)
      have h2 : d[m - 1]!.1 < d[m]!.1 := by
        rcases lt_tri d[m - 1]!.1 d[m]!.1 with g | g | g
        · exact g
        · exact absurd (Subtype.ext g).symm hne
        · exact absurd g h1
      by_cases hjm : j = m - 1
      · rw [hjm]; exact h2
      · have h3 := hd j (m - 1) (by omega) (by omega)
        rcases lt_tri d[j]!.1 d[m - 1]!.1 with g | g | g
        · exact lt_trn g h2
        · rw [g]; exact h2
        · exact absurd g h3
    · rw [if_neg hk, List.append_nil]
      exact compact_sorted d hd m (by omega)

end Go.Proofs.YtoenkgenoloihaaDoor
