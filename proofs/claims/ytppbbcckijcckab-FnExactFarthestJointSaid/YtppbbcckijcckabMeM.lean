/- Meetings: pairs of joints at one point, in their order. -/
import Derived.Test.YtppbbcckijcckabStM
namespace Go.Proofs.Ytppbbcckijcckab

def ptE (p q : Sp) : Bool := p.x0 == q.x0 && (p.x1 == q.x1 && (p.x2 == q.x2 && p.x3 == q.x3))

theorem ptE_comm (p q : Sp) : ptE p q = ptE q p := by
  simp only [ptE]
  rw [Bool.eq_iff_iff]
  simp only [Bool.and_eq_true, beq_iff_eq]
  omega

def mtA (l : List Sp) (i j : Nat) : Bool :=
  match l[i]?, l[j]? with
  | some p, some q => ptE p q
  | _, _ => false

theorem mtA_at {l : List Sp} {i j : Nat} {p q : Sp} (hp : l[i]? = some p) (hq : l[j]? = some q) : mtA l i j = ptE p q := by simp [mtA, hp, hq]

def rowM (l : List Sp) (j i : Nat) : List (Nat × Nat) := ((List.range i).filter (fun a => mtA l a j)).map (fun a => (a, j))

def accM (l : List Sp) (j i : Nat) : List (Nat × Nat) := (List.range j).flatMap (fun b => rowM l b b) ++ rowM l j i

/-- All pairs, in the order of the second one, then of the first one. -/
def prs (l : List Sp) : List (Nat × Nat) := (List.range l.length).flatMap (fun b => rowM l b b)

theorem rowM_zero (l : List Sp) (j : Nat) : rowM l j 0 = [] := rfl

theorem accM_zero (l : List Sp) : accM l 0 0 = [] := rfl

theorem accM_yes {l : List Sp} {j i : Nat} (h : mtA l i j = true) : accM l j (i + 1) = accM l j i ++ [(i, j)] := by
  simp [accM, rowM, List.range_succ, List.filter_append, h]

theorem accM_no {l : List Sp} {j i : Nat} (h : mtA l i j = false) : accM l j (i + 1) = accM l j i := by
  simp [accM, rowM, List.range_succ, List.filter_append, h]

theorem accM_next (l : List Sp) (j : Nat) : accM l j j = accM l (j + 1) 0 := by
  simp [accM, rowM_zero, List.range_succ, List.flatMap_append]

theorem accM_end (l : List Sp) : accM l l.length 0 = prs l := by simp [accM, rowM_zero, prs]

theorem accM_grow (l : List Sp) (j i : Nat) : ∀ d, ∃ r, accM l j (i + d) = accM l j i ++ r
  | 0 => ⟨[], by simp⟩
  | d + 1 => by
    obtain ⟨r, hr⟩ := accM_grow l j i d
    cases h : mtA l (i + d) j
    · exact ⟨r, by rw [← Nat.add_assoc, accM_no h, hr]⟩
    · exact ⟨r ++ [(i + d, j)], by rw [← Nat.add_assoc, accM_yes h, hr, List.append_assoc]⟩

theorem accM_rows (l : List Sp) (j : Nat) : ∀ d, ∃ r, accM l (j + d) 0 = accM l j 0 ++ r
  | 0 => ⟨[], by simp⟩
  | d + 1 => by
    obtain ⟨r, hr⟩ := accM_rows l j d
    obtain ⟨r', hr'⟩ := accM_grow l (j + d) 0 (j + d)
    rw [Nat.zero_add] at hr'
    exact ⟨r ++ r', by rw [← Nat.add_assoc, ← accM_next, hr', hr, List.append_assoc]⟩

theorem accM_pre {l : List Sp} {j i : Nat} (hj : j < l.length) (hi : i ≤ j) : ∃ r, prs l = accM l j i ++ r := by
  obtain ⟨r, hr⟩ := accM_grow l j i (j - i)
  obtain ⟨r', hr'⟩ := accM_rows l (j + 1) (l.length - (j + 1))
  rw [show i + (j - i) = j by omega, accM_next] at hr
  rw [show j + 1 + (l.length - (j + 1)) = l.length by omega, accM_end] at hr'
  exact ⟨r ++ r', by rw [hr', hr, List.append_assoc]⟩

theorem rowM_length (l : List Sp) (j i : Nat) : (rowM l j i).length ≤ i := by
  have := List.length_filter_le (fun a => mtA l a j) (List.range i)
  simpa [rowM] using this

theorem flat_length {α : Type} (f : Nat → List α) (m : Nat) : ∀ n, (∀ b, b < n → (f b).length ≤ m) → ((List.range n).flatMap f).length ≤ n * m
  | 0, _ => by simp
  | n + 1, h => by
    have ih := flat_length f m n (fun b hb => h b (by omega))
    have h1 := h n (by omega)
    rw [List.range_succ, List.flatMap_append, List.length_append, Nat.succ_mul]
    simp only [List.flatMap_cons, List.flatMap_nil, List.append_nil]
    omega

theorem prs_length (l : List Sp) : (prs l).length ≤ l.length * l.length :=
  flat_length _ _ _ (fun b hb => Nat.le_trans (rowM_length l b b) (by omega))

def prCells (l : List (Nat × Nat)) : List Value := (l.map fun p => [Value.int .i64 (p.1 : Nat), Value.int .i64 (p.2 : Nat)]).flatten

theorem prCells_append (l m : List (Nat × Nat)) : prCells (l ++ m) = prCells l ++ prCells m := by simp [prCells]

theorem prCells_length (l : List (Nat × Nat)) : (prCells l).length = l.length * 2 := by
  induction l with
  | nil => rfl
  | cons a l ih => simp only [prCells, List.map_cons, List.flatten_cons, List.length_append, List.length_cons, List.length_nil] at ih ⊢; omega

theorem take_pre {α : Type} {l a r : List α} (h : l = a ++ r) (n : Nat) (hn : a.length = n) : l.take n = a := by
  subst h hn
  simp

theorem take_allM {α : Type} {l : List α} {n : Nat} (h : l.length ≤ n) : l.take n = l := List.take_of_length_le h

end Go.Proofs.Ytppbbcckijcckab
