/- Texts split at a byte. -/
import Derived.Test.YtoaccnpkobbaaaaDoorTkM
import Derived.Lib.Join
namespace Go.Proofs.YtoaccnpkobbaaaaDoor

def lsp (b : UInt8) : List UInt8 → List (List UInt8)
  | [] => [[]]
  | c :: t => if c = b then [] :: lsp b t else match lsp b t with
    | x :: r => (c :: x) :: r
    | [] => [[c]]

theorem lsp_ne (b : UInt8) (l : List UInt8) : lsp b l ≠ [] := by
  cases l with
  | nil => simp [lsp]
  | cons c t =>
    unfold lsp
    split
    · simp
    · split <;> simp

theorem lsp_hit (b : UInt8) : ∀ (u t : List UInt8), b ∉ u → lsp b (u ++ b :: t) = u :: lsp b t
  | [], t, _ => by simp [lsp]
  | c :: u, t, h => by
    have hc : ¬ c = b := fun e => h (by rw [e]; exact List.mem_cons_self)
    have ih := lsp_hit b u t (fun hm => h (List.mem_cons_of_mem _ hm))
    simp only [List.cons_append, lsp, if_neg hc, ih]

theorem lsp_miss (b : UInt8) : ∀ (u : List UInt8), b ∉ u → lsp b u = [u]
  | [], _ => rfl
  | c :: u, h => by
    have hc : ¬ c = b := fun e => h (by rw [e]; exact List.mem_cons_self)
    have ih := lsp_miss b u (fun hm => h (List.mem_cons_of_mem _ hm))
    simp only [lsp, if_neg hc, ih]

theorem lsp_len (b : UInt8) : ∀ l : List UInt8, (lsp b l).length ≤ l.length + 1
  | [] => by simp [lsp]
  | c :: t => by
    have ih := lsp_len b t
    unfold lsp
    split
    · simp; omega
    · split
      · rename_i x r hx
        rw [hx] at ih
        simp at ih ⊢
        omega
      · simp

theorem join_two (x y : List UInt8) (r : List (List UInt8)) (b : UInt8) : Lib.join (x :: y :: r) [b] = x ++ b :: Lib.join (y :: r) [b] := by
  rw [Lib.join_cons, Lib.join_cons]
  simp [Lib.joinTail]

/-- The pieces, joined again, are the text. -/
theorem lsp_join (b : UInt8) : ∀ l : List UInt8, Lib.join (lsp b l) [b] = l
  | [] => by simp [lsp, Lib.join_one]
  | c :: t => by
    have ih := lsp_join b t
    unfold lsp
    split
    · rename_i hc
      rcases h : lsp b t with _ | ⟨x, r⟩
      · exact absurd h (lsp_ne b t)
      · rw [join_two, ← h, ih, hc]; rfl
    · split
      · rename_i x r hx
        rw [hx] at ih
        rw [Lib.join_cons] at ih ⊢
        rw [List.cons_append, ih]
      · rename_i h
        exact absurd h (lsp_ne b t)

theorem lsp_mem (b : UInt8) : ∀ l : List UInt8, ∀ x ∈ lsp b l, b ∉ x ∧ x.length ≤ l.length
  | [], x, h => by
    simp [lsp] at h
    simp [h]
  | c :: t, x, h => by
    have ih := lsp_mem b t
    unfold lsp at h
    split at h
    · rcases List.mem_cons.1 h with rfl | h
      · simp
      · have := ih x h
        exact ⟨this.1, by simp; omega⟩
    · rename_i hc
      split at h
      · rename_i y r hy
        rcases List.mem_cons.1 h with rfl | h
        · have := ih y (by rw [hy]; exact List.mem_cons_self)
          refine ⟨fun hm => ?_, by simp; omega⟩
          rcases List.mem_cons.1 hm with e | hm
          · exact hc e.symm
          · exact this.1 hm
        · have := ih x (by rw [hy]; exact List.mem_cons_of_mem _ h)
          exact ⟨this.1, by simp; omega⟩
      · rename_i hy
        exact absurd hy (lsp_ne b t)

/-- What is joined of pieces without the byte is split into them. -/
theorem lsp_of_join (b : UInt8) : ∀ (x : List UInt8) (r : List (List UInt8)), (∀ y ∈ x :: r, b ∉ y) → lsp b (Lib.join (x :: r) [b]) = x :: r
  | x, [], h => by rw [Lib.join_one]; exact lsp_miss b x (h x List.mem_cons_self)
  | x, y :: r, h => by
    rw [join_two, lsp_hit b x _ (h x List.mem_cons_self), lsp_of_join b y r (fun z hz => h z (List.mem_cons_of_mem _ hz))]

def strC (xs : List (List UInt8)) : List Value := xs.map fun l => Value.string (ofL l)

theorem strC_length (xs : List (List UInt8)) : (strC xs).length = xs.length := by simp [strC]

theorem strC_append (xs ys : List (List UInt8)) : strC (xs ++ ys) = strC xs ++ strC ys := by simp [strC]

/-- One piece more. -/
theorem lsp_step {b : UInt8} {l : List UInt8} {f i : Nat} (hfi : f ≤ i) (hi : l[i]? = some b) (hn : b ∉ (l.drop f).take (i - f)) : lsp b (l.drop f) = (l.drop f).take (i - f) :: lsp b (l.drop (i + 1)) := by
  obtain ⟨h1, h2⟩ := List.getElem?_eq_some_iff.1 hi
  have e : l.drop f = (l.drop f).take (i - f) ++ b :: l.drop (i + 1) := by
    have e2 := (List.take_append_drop (i - f) (l.drop f)).symm
    rw [List.drop_drop, show f + (i - f) = i by omega, List.drop_eq_getElem_cons h1, h2] at e2
    exact e2
  conv => lhs; rw [e]
  exact lsp_hit b _ _ hn

theorem notin_step {b d : UInt8} {l : List UInt8} {f i : Nat} (hfi : f ≤ i) (hi : l[i]? = some d) (hd : d ≠ b) (hn : b ∉ (l.drop f).take (i - f)) : b ∉ (l.drop f).take (i + 1 - f) := by
  obtain ⟨h1, h2⟩ := List.getElem?_eq_some_iff.1 hi
  rw [show i + 1 - f = (i - f) + 1 by omega, List.take_add_one]
  intro hm
  rcases List.mem_append.1 hm with hm | hm
  · exact hn hm
  · rw [List.getElem?_drop, show f + (i - f) = i by omega, hi] at hm
    simp at hm
    exact hd hm.symm

end Go.Proofs.YtoaccnpkobbaaaaDoor
