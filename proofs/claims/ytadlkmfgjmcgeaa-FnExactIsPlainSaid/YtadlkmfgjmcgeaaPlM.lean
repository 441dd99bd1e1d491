/- A closed track has one meeting just if its joints behind the first one are apart. -/
import Derived.Test.YtadlkmfgjmcgeaaMeM
namespace Go.Proofs.Ytadlkmfgjmcgeaa

theorem prs_mem {l : List Sp} {i j : Nat} : (i, j) ∈ prs l ↔ j < l.length ∧ i < j ∧ mtA l i j = true := by
  simp only [prs, rowM, List.mem_flatMap, List.mem_range, List.mem_map, List.mem_filter, Prod.mk.injEq]
  constructor
  · rintro ⟨b, hb, a, ⟨ha, hm⟩, rfl, rfl⟩; exact ⟨hb, ha, hm⟩
  · rintro ⟨hb, ha, hm⟩; exact ⟨j, hb, i, ⟨ha, hm⟩, rfl, rfl⟩
theorem mtA_drop (l : List Sp) (i j : Nat) : mtA (l.drop 1) i j = mtA l (i + 1) (j + 1) := by
  simp [mtA]
theorem ptE_eq {p q : Sp} : ptE p q = true ↔ p.x0 = q.x0 ∧ p.x1 = q.x1 ∧ p.x2 = q.x2 ∧ p.x3 = q.x3 := by
  simp [ptE]
theorem mtA_some {l : List Sp} {i j : Nat} : mtA l i j = true ↔ ∃ p q, l[i]? = some p ∧ l[j]? = some q ∧ ptE p q = true := by
  unfold mtA
  constructor
  · intro h
    split at h
    · rename_i p q hp hq; exact ⟨p, q, hp, hq, h⟩
    · cases h
  · rintro ⟨p, q, hp, hq, h⟩
    rw [hp, hq]; exact h
theorem mtA_two {l : List Sp} {a i j : Nat} (h1 : mtA l a i = true) (h2 : mtA l a j = true) : mtA l i j = true := by
  obtain ⟨p, q, hp, hq, e1⟩ := mtA_some.1 h1
  obtain ⟨p', r, hp', hr, e2⟩ := mtA_some.1 h2
  rw [hp] at hp'
  cases hp'
  rw [ptE_eq] at e1 e2
  exact mtA_some.2 ⟨q, r, hq, hr, ptE_eq.2 (by omega)⟩

theorem plain_eq {l : List Sp} {n : Nat} (hl : l.length = n + 1) (h1 : 1 ≤ n) (hz : mtA l 0 n = true) : (decide (((prs l).take 2).length = 1)) = (prs (l.drop 1)).isEmpty := by
  have hd : (l.drop 1).length = n := by rw [List.length_drop, hl]; rfl
  cases he : prs (l.drop 1) with
  | nil =>
    have hno : ∀ i j, 1 ≤ i → i < j → j < n + 1 → mtA l i j = false := by
      intro i j hi hij hj
      cases hm : mtA l i j
      · rfl
      · have : (i - 1, j - 1) ∈ prs (l.drop 1) := prs_mem.2 ⟨by omega, by omega, by rw [mtA_drop, show i - 1 + 1 = i by omega, show j - 1 + 1 = j by omega]; exact hm⟩
        rw [he] at this
        cases this
    have hno0 : ∀ j, j < n → 0 < j → mtA l 0 j = false := by
      intro j hj h0
      cases hm : mtA l 0 j
      · rfl
      · rw [← hno j n (by omega) (by omega) (by omega)]
        exact (mtA_two hm hz).symm
    have hrow : ∀ b, b < n → rowM l b b = [] := by
      intro b hb
      simp only [rowM, List.map_eq_nil_iff, List.filter_eq_nil_iff, List.mem_range, Bool.not_eq_true]
      intro a ha
      by_cases h0 : a = 0
      · subst h0; exact hno0 b hb ha
      · exact hno a b (by omega) ha (by omega)
    have hlast : rowM l n n = [(0, n)] := by
      obtain ⟨m, rfl⟩ : ∃ m, n = m + 1 := ⟨n - 1, by omega⟩
      have hf : ((List.range m).map Nat.succ).filter (fun a => mtA l a (m + 1)) = [] := by
        simp only [List.filter_eq_nil_iff, List.mem_map, List.mem_range, Bool.not_eq_true]
        rintro _ ⟨a, ha, rfl⟩
        exact hno _ _ (by omega) (by omega) (by omega)
      simp only [rowM]
      rw [List.range_succ_eq_map, List.filter_cons, if_pos hz, hf]
      rfl
    have hall : prs l = [(0, n)] := by
      simp only [prs, hl, List.range_succ, List.flatMap_append, List.flatMap_cons, List.flatMap_nil, List.append_nil, hlast]
      have : (List.range n).flatMap (fun b => rowM l b b) = [] := by
        simp only [List.flatMap_eq_nil_iff, List.mem_range]
        exact hrow
      rw [this]
      rfl
    rw [hall]
    rfl
  | cons x r =>
    obtain ⟨i, j⟩ := x
    have hm : (i, j) ∈ prs (l.drop 1) := by rw [he]; exact List.mem_cons_self
    obtain ⟨g1, g2, g3⟩ := prs_mem.1 hm
    rw [mtA_drop] at g3
    have m1 : (i + 1, j + 1) ∈ prs l := prs_mem.2 ⟨by omega, by omega, g3⟩
    have m2 : (0, n) ∈ prs l := prs_mem.2 ⟨by omega, by omega, hz⟩
    have : ((prs l).take 2).length ≠ 1 := by
      intro h
      rw [List.length_take] at h
      have hle : (prs l).length = 1 := by omega
      obtain ⟨y, hy⟩ := List.length_eq_one_iff.1 hle
      rw [hy] at m1 m2
      simp only [List.mem_singleton] at m1 m2
      rw [← m2] at m1
      simp at m1
    rw [decide_eq_false this]
    rfl

end Go.Proofs.Ytadlkmfgjmcgeaa
