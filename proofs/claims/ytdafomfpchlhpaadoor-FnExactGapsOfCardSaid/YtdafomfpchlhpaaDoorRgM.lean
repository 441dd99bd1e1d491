/- Rings spun: from each beginning, their least ones, their periods. Nothing of the program. -/
import Derived.Sort.Walk0
import Derived.Lib.Bytealg
namespace Go.Proofs.YtdafomfpchlhpaaDoor

set_option linter.unusedSimpArgs false

def spn (l : List UInt8) (k : Nat) : List UInt8 := l.drop k ++ l.take k

theorem spn_len (l : List UInt8) (k : Nat) : (spn l k).length = l.length := by simp [spn]; omega

theorem spn_zero (l : List UInt8) : spn l 0 = l := by simp [spn]

theorem spn_full (l : List UInt8) : spn l l.length = l := by simp [spn]

theorem spn_at (l : List UInt8) (k j : Nat) (hk : k ≤ l.length) (hj : j < l.length) : (spn l k)[j]? = l[(k + j) % l.length]? := by
  unfold spn
  rw [List.getElem?_append, List.length_drop]
  by_cases h : j < l.length - k
  · rw [if_pos h, List.getElem?_drop, Nat.mod_eq_of_lt (by omega)]
  · rw [if_neg h, List.getElem?_take, if_pos (by omega)]
    congr 1
    rw [Nat.mod_eq_sub_mod (by omega), Nat.mod_eq_of_lt (by omega)]
    omega

theorem spn_mod (l : List UInt8) (k : Nat) (hk : k ≤ l.length) : spn l k = spn l (k % l.length) := by
  by_cases h : k = l.length
  · rw [h, Nat.mod_self, spn_full, spn_zero]
  · rw [Nat.mod_eq_of_lt (by omega)]

theorem spn_spn (l : List UInt8) (k j : Nat) (hk : k ≤ l.length) (hj : j ≤ l.length) : spn (spn l k) j = spn l ((k + j) % l.length) := by
  by_cases h0 : l.length = 0
  · have : l = [] := List.eq_nil_of_length_eq_zero h0
    subst this; simp [spn]
  apply List.ext_getElem?
  intro t
  by_cases ht : t < l.length
  · rw [spn_at (spn l k) j t (by rw [spn_len]; exact hj) (by rw [spn_len]; exact ht), spn_len, spn_at l k _ hk (Nat.mod_lt _ (by omega)),
      spn_at l _ t (Nat.le_of_lt (Nat.mod_lt _ (by omega))) ht]
    congr 1
    rw [Nat.add_mod_mod, Nat.mod_add_mod, Nat.add_assoc]
  · rw [List.getElem?_eq_none (by rw [spn_len, spn_len]; omega), List.getElem?_eq_none (by rw [spn_len]; omega)]

/-- One from another beginning. -/
def orb (a b : List UInt8) : Prop := ∃ k, k ≤ a.length ∧ b = spn a k

theorem orb_refl (a : List UInt8) : orb a a := ⟨0, Nat.zero_le _, (spn_zero a).symm⟩

theorem orb_len {a b : List UInt8} (h : orb a b) : b.length = a.length := by obtain ⟨k, _, rfl⟩ := h; exact spn_len a k

theorem orb_trans {a b c : List UInt8} (h : orb a b) (g : orb b c) : orb a c := by
  obtain ⟨k, hk, rfl⟩ := h
  obtain ⟨j, hj, rfl⟩ := g
  rw [spn_len] at hj
  refine ⟨(k + j) % a.length, ?_, spn_spn a k j hk hj⟩
  by_cases h0 : a.length = 0
  · rw [h0] at hk hj ⊢
    have : k = 0 := by omega
    have : j = 0 := by omega
    subst k j; simp
  · exact Nat.le_of_lt (Nat.mod_lt _ (by omega))

theorem orb_symm {a b : List UInt8} (h : orb a b) : orb b a := by
  obtain ⟨k, hk, rfl⟩ := h
  refine ⟨a.length - k, by rw [spn_len]; omega, ?_⟩
  rw [spn_spn a k _ hk (by omega), show k + (a.length - k) = a.length by omega, Nat.mod_self, spn_zero]

/-- The order of texts. -/
theorem lt_irr (a : List UInt8) : ¬ a < a := List.lt_irrefl a

theorem lt_tri (a b : List UInt8) : a < b ∨ a = b ∨ b < a := by
  by_cases h1 : a < b
  · exact .inl h1
  by_cases h2 : b < a
  · exact .inr (.inr h2)
  · exact .inr (.inl (List.le_antisymm (List.not_lt.1 h2) (List.not_lt.1 h1)))

theorem lt_asy {a b : List UInt8} (h : a < b) : ¬ b < a := List.lt_asymm h

theorem lt_trn {a b c : List UInt8} (h : a < b) (g : b < c) : a < c := List.lt_trans h g

/-- The least of some: the first one that none is less than. -/
def mn (x : List UInt8) (ys : List (List UInt8)) : List UInt8 := ys.foldl (fun m y => if y < m then y else m) x

theorem mn_cons (x y : List UInt8) (ys : List (List UInt8)) : mn x (y :: ys) = mn (if y < x then y else x) ys := rfl

theorem mn_mem : ∀ (ys : List (List UInt8)) (x : List UInt8), mn x ys ∈ x :: ys
  | [], x => by simp [mn]
  | y :: ys, x => by
    rw [mn_cons]
    have := mn_mem ys (if y < x then y else x)
    split at this <;> rename_i h
    · rw [if_pos h]
      exact List.mem_cons_of_mem _ this
    · rw [if_neg h]
      rcases List.mem_cons.1 this with h | h
      · rw [h]; exact List.mem_cons_self
      · exact List.mem_cons_of_mem _ (List.mem_cons_of_mem _ h)

theorem mn_le : ∀ (ys : List (List UInt8)) (x : List UInt8), ∀ y ∈ x :: ys, ¬ y < mn x ys
  | [], x, y, hy => by
    have : y = x := by simpa using hy
    subst this
    exact lt_irr y
  | z :: ys, x, y, hy => by
    rw [mn_cons]
    have ih := mn_le ys (if z < x then z else x)
    have h0 := ih _ List.mem_cons_self
    rcases List.mem_cons.1 hy with rfl | hy
    · intro h
      split at h0 <;> rename_i hz
      · rw [if_pos hz] at h
        exact h0 (lt_trn hz h)
      · rw [if_neg hz] at h
        exact h0 h
    rcases List.mem_cons.1 hy with rfl | hy
    · intro h
      split at h0 <;> rename_i hz
      · rw [if_pos hz] at h
        exact h0 h
      · rw [if_neg hz] at h
        rcases lt_tri y x with g | g | g
        · exact hz g
        · subst g; exact h0 h
        · exact h0 (lt_trn g h)
    · exact ih y (List.mem_cons_of_mem _ hy)

/-- What is least is one alone. -/
theorem least_one {S T : List (List UInt8)} (h : ∀ x, x ∈ S ↔ x ∈ T) {m n : List UInt8} (hm : m ∈ S) (hn : n ∈ T) (h1 : ∀ x ∈ S, ¬ x < m) (h2 : ∀ x ∈ T, ¬ x < n) : m = n := by
  rcases lt_tri m n with g | g | g
  · exact absurd g (h2 m ((h m).1 hm))
  · exact g
  · exact absurd g (h1 n ((h n).2 hn))

def rotA (l : List UInt8) : List (List UInt8) := (List.range l.length).map (spn l)

theorem rot_mem {l a : List UInt8} (h0 : 0 < l.length) : a ∈ rotA l ↔ orb l a := by
  simp only [rotA, List.mem_map, List.mem_range, orb]
  constructor
  · rintro ⟨k, hk, rfl⟩; exact ⟨k, by omega, rfl⟩
  · rintro ⟨k, hk, rfl⟩
    exact ⟨k % l.length, Nat.mod_lt _ h0, (spn_mod l k hk).symm⟩

def leastL (l : List UInt8) : List UInt8 := mn l (rotA l)

theorem rot_cons {l a : List UInt8} (h0 : 0 < l.length) : a ∈ l :: rotA l ↔ orb l a := by
  rw [List.mem_cons, rot_mem h0]
  constructor
  · rintro (rfl | h)
    · exact orb_refl a
    · exact h
  · exact .inr

theorem leastL_orb {l : List UInt8} (h0 : 0 < l.length) : orb l (leastL l) := (rot_cons h0).1 (mn_mem (rotA l) l)

theorem leastL_le {l a : List UInt8} (h0 : 0 < l.length) (h : orb l a) : ¬ a < leastL l := mn_le (rotA l) l a ((rot_cons h0).2 h)

theorem leastL_len {l : List UInt8} (h0 : 0 < l.length) : (leastL l).length = l.length := orb_len (leastL_orb h0)

theorem leastL_eq {a b : List UInt8} (h0 : 0 < a.length) (h : orb a b) : leastL a = leastL b := by
  have hb : 0 < b.length := by rw [orb_len h]; exact h0
  refine least_one (S := a :: rotA a) (T := b :: rotA b) (fun x => ?_) (mn_mem _ _) (mn_mem _ _) (mn_le _ _) (mn_le _ _)
  rw [rot_cons h0, rot_cons hb]
  exact ⟨fun g => orb_trans (orb_symm h) g, fun g => orb_trans h g⟩

theorem leastL_iff {a b : List UInt8} (h0 : 0 < a.length) (hb : 0 < b.length) : leastL a = leastL b ↔ orb a b := by
  refine ⟨fun h => ?_, leastL_eq h0⟩
  have h1 := leastL_orb h0
  rw [h] at h1
  exact orb_trans h1 (orb_symm (leastL_orb hb))

/-- The program's order of the spun ones: by 1, 2, .., up to all pieces. -/
def rot1 (l : List UInt8) : List (List UInt8) := (List.range l.length).map fun i => spn l (i + 1)

theorem rot1_mem {l a : List UInt8} (h0 : 0 < l.length) : a ∈ rot1 l ↔ orb l a := by
  simp only [rot1, List.mem_map, List.mem_range, orb]
  constructor
  · rintro ⟨k, hk, rfl⟩; exact ⟨k + 1, by omega, rfl⟩
  · rintro ⟨k, hk, rfl⟩
    by_cases h : k = 0
    · subst h
      exact ⟨l.length - 1, by omega, by rw [show l.length - 1 + 1 = l.length by omega, spn_full, spn_zero]⟩
    · exact ⟨k - 1, by omega, by rw [show k - 1 + 1 = k by omega]⟩

theorem rot1_len (l : List UInt8) : (rot1 l).length = l.length := by simp [rot1]

/-- The order of bytes as the library tells it. -/
theorem cmpB_lt : ∀ (a b : List UInt8), Lib.compareBytes a b < 0 ↔ a < b
  | [], [] => by simp [Lib.compareBytes]
  | [], _ :: _ => by simp [Lib.compareBytes]
  | _ :: _, [] => by simp [Lib.compareBytes]
  | x :: a, y :: b => by
    have ih := cmpB_lt a b
    rw [Lib.compareBytes, List.cons_lt_cons_iff]
    by_cases h1 : x < y
    · simp [h1]
    · by_cases h2 : y < x
      · have : ¬ x = y := fun e => by subst e; exact h1 h2
        simp [h1, h2, this]
      · have : x = y := UInt8.le_antisymm (UInt8.not_lt.1 h2) (UInt8.not_lt.1 h1)
        simp [h1, h2, this, ih]

end Go.Proofs.YtdafomfpchlhpaaDoor
