/- What the library's functions on texts give at lines: Trim, ReplaceAll, Contains, Index, Join, in plain words. -/
import Derived.Test.YtdafomfpchlhpaaDoorLnM
import Derived.Lib.SlTrimSet
import Derived.Lib.Replace
import Derived.Lib.Join
namespace Go.Proofs.YtdafomfpchlhpaaDoor.Ln

set_option linter.unusedVariables false

theorem dropWhile_nil {p : UInt8 → Bool} : ∀ l : List UInt8, (l.dropWhile p = [] ↔ l.all p = true)
  | [] => by simp
  | c :: l => by
    rw [List.dropWhile_cons, List.all_cons]
    cases h : p c
    · simp
    · simpa using dropWhile_nil l

theorem lnb_in (c : UInt8) : [84, 46].contains c = lnb c := by simp only [lnb, List.contains, List.elem]; cases h : c == 84 <;> cases h2 : c == 46 <;> rfl

theorem trim_nil (l : List UInt8) : Lib.trimS l [84, 46] = [] ↔ l.all lnb = true := by
  have hf : (fun c => [84, 46].contains c) = lnb := funext lnb_in
  simp only [Lib.trimS, Lib.trimLeftS, Lib.trimRightS, hf]
  rw [dropWhile_nil, List.all_reverse]
  constructor
  · intro h
    refine Classical.byContradiction fun hn => ?_
    have hne : l.reverse.dropWhile lnb ≠ [] := by rw [Ne, dropWhile_nil, List.all_reverse]; exact hn
    have hh := List.head_dropWhile_not lnb hne
    have hm := List.head_mem hne
    rw [List.all_eq_true] at h
    rw [h _ hm] at hh
    cases hh
  · intro h
    rw [(dropWhile_nil _).2 (by rw [List.all_reverse]; exact h)]
    rfl

theorem idx_nil (c : UInt8) : Lib.indexByte [] c = -1 := rfl

theorem idx_none (c : UInt8) : ∀ l : List UInt8, (Lib.indexByte l c = -1 ↔ cnt c l = 0)
  | [] => by simp [Lib.indexByte, cnt]
  | b :: l => by
    have ih := idx_none c l
    have ge := Lib.indexByte_ge l c
    unfold Lib.indexByte
    rw [cnt, List.count_cons, ← cnt]
    cases h : b == c
    · simp only [Bool.false_eq_true, if_false, Nat.add_zero]
      rw [← ih]
      by_cases e : Lib.indexByte l c = -1
      · simp [e]
      · simp [e]; omega
    · simp

/-- Contains. -/
theorem has_iff (c : UInt8) (l : List UInt8) : decide (0 ≤ Lib.indexByte l c) = decide (cnt c l ≠ 0) := by
  have ge := Lib.indexByte_ge l c
  have := idx_none c l
  rw [decide_eq_decide]
  constructor
  · intro h e; rw [← this] at e; omega
  · intro h
    have : Lib.indexByte l c ≠ -1 := fun e => h (this.1 e)
    omega

/-- Index: the first place. -/
theorem idx_at (c : UInt8) : ∀ (l : List UInt8) (i : Nat), l[i]? = some c → (∀ j, j < i → l[j]? ≠ some c) → Lib.indexByte l c = i
  | [], i, h, _ => by simp at h
  | b :: l, 0, h, _ => by simp at h; subst h; simp [Lib.indexByte]
  | b :: l, i + 1, h, hn => by
    have hb : (b == c) = false := by
      have := hn 0 (by omega)
      simpa using this
    have ih := idx_at c l i (by simpa using h) fun j hj => by simpa using hn (j + 1) (by omega)
    unfold Lib.indexByte
    rw [hb, ih]
    simp only [Bool.false_eq_true, if_false]
    rw [if_neg (by simp)]
    omega

/-- ReplaceAll of one byte by another. -/
def swp (a b : UInt8) (l : List UInt8) : List UInt8 := l.map fun c => if c == a then b else c

theorem index_one (a : UInt8) : ∀ l : List UInt8, Lib.index l [a] = Lib.indexByte l a
  | [] => rfl
  | c :: l => by
    unfold Lib.index Lib.indexByte
    rw [index_one a l]
    have : ([a] : List UInt8).isPrefixOf (c :: l) = (c == a) := by simp [List.isPrefixOf, Bool.beq_comm]
    rw [this]

theorem repK (a b : UInt8) : ∀ (k : Nat) (l : List UInt8), l.length < k + 1 → Lib.replaceK [a] [b] (Lib.countFrom [a] k l) l = swp a b l
  | 0, l, h => by
    have : l = [] := List.eq_nil_of_length_eq_zero (by omega)
    subst this
    rfl
  | k + 1, l, h => by
    rw [Lib.countFrom]
    by_cases e : Lib.index l [a] = -1
    · rw [if_pos (by simpa using e)]
      rw [index_one, idx_none, cnt, List.count_eq_zero] at e
      rw [Lib.replaceK, swp]
      have : ∀ c ∈ l, (if c == a then b else c) = c := fun c hc => by
        have : ¬ c = a := fun q => e (q ▸ hc)
        simp [this]
      rw [List.map_congr_left this, List.map_id'']
      intro c; rfl
    · have ge := Lib.index_ge l [a]
      obtain ⟨i, hi⟩ : ∃ i : Nat, Lib.index l [a] = i := ⟨(Lib.index l [a]).toNat, by omega⟩
      rw [if_neg (by simpa using e), Nat.add_comm 1, Lib.replaceK_hit _ _ _ _ i hi, hi]
      have hspec : l[i]? = some a ∧ ∀ j, j < i → l[j]? ≠ some a := by
        have hb : Lib.indexByte l a = i := by rw [← index_one]; exact hi
        clear h e hi ge
        induction l generalizing i with
        | nil => rw [idx_nil] at hb; omega
        | cons c l ih =>
          unfold Lib.indexByte at hb
          cases hc : c == a
          · rw [hc] at hb
            simp only [Bool.false_eq_true, if_false] at hb
            split at hb
            · omega
            · rename_i q
              have q1 := Lib.indexByte_ge l a
              have q2 : Lib.indexByte l a ≠ -1 := by simpa using q
              obtain ⟨j, rfl⟩ : ∃ j, i = j + 1 := ⟨i - 1, by omega⟩
              obtain ⟨h1, h2⟩ := ih j (by omega)
              refine ⟨by simpa using h1, fun m hm => ?_⟩
              cases m with
              | zero => simpa using hc
              | succ m => simpa using h2 m (by omega)
          · rw [hc] at hb
            simp at hb
            obtain rfl : i = 0 := by omega
            exact ⟨by simpa using hc, fun j hj => by omega⟩
      have hil : i < l.length := (List.getElem?_eq_some_iff.1 hspec.1).1
      rw [Int.toNat_natCast]
      simp only [List.length_cons, List.length_nil, Nat.zero_add]
      rw [repK a b k _ (by rw [List.length_drop]; omega)]
      have hl : l = l.take i ++ a :: l.drop (i + 1) := by
        have h3 : l[i] = a := by
          have := hspec.1
          rw [List.getElem?_eq_getElem hil] at this
          exact Option.some.inj this
        conv => lhs; rw [← List.take_append_drop i l, List.drop_eq_getElem_cons hil, h3]
      conv => rhs; rw [hl]
      simp only [swp, List.map_append, List.map_cons, beq_self_eq_true, if_true, List.append_assoc, List.cons_append, List.nil_append]
      congr 1
      refine (List.map_congr_left fun c hc => ?_).symm.trans (List.map_id _) |>.symm
      obtain ⟨j, hj⟩ := List.getElem?_of_mem hc
      rw [List.getElem?_take] at hj
      split at hj
      · rename_i hji
        have := hspec.2 j hji
        have : ¬ c = a := fun q => this (by rw [hj, q])
        simp [this]
      · cases hj

theorem rep_all (a b : UInt8) (l : List UInt8) (h : a ≠ b) : Lib.replaceAll l [a] [b] = swp a b l := by
  have hb : ([a] == [b]) = false := by simpa using h
  have hn : Lib.replaceNum l [a] (-1) = Lib.countFrom [a] (l.length + 1) l := by simp [Lib.replaceNum, Lib.count]
  rw [Lib.replaceAll, Lib.replace, if_neg (by simp [hb]), hn]
  exact repK a b (l.length + 1) l (by omega)

theorem swp_wo (l : List UInt8) : swp 114 84 (swp 103 84 l) = wo l := by
  simp only [swp, wo, List.map_map]
  refine List.map_congr_left fun c _ => ?_
  simp only [Function.comp, woc]
  cases h1 : c == 103
  · simp
  · simp

theorem swp_len (a b : UInt8) (l : List UInt8) : (swp a b l).length = l.length := by simp [swp]

/-- Join with nothing between. -/
theorem join_nil (xs : List (List UInt8)) : Lib.join xs [] = xs.flatten := by
  rw [Lib.join]
  induction xs with
  | nil => rfl
  | cons x xs ih =>
    cases xs with
    | nil => simp [List.intercalate]
    | cons y ys =>
      simp only [List.intercalate] at ih ⊢
      rw [List.intersperse_cons_cons, List.flatten_cons, List.flatten_cons, ih]
      simp

end Go.Proofs.YtdafomfpchlhpaaDoor.Ln
