/- A track laid several times. -/
import Derived.Test.YtogimjbjdgccnaaJoM
import Derived.Laws.CopyOwn
import Derived.Laws.MakeOwn
namespace Go.Proofs.Ytogimjbjdgccnaa

def rpL (s : ByteArray) (t : Nat) : List UInt8 := (List.replicate t s.data.toList).flatten

theorem rpL_zero (s : ByteArray) : rpL s 0 = [] := rfl

theorem rpL_succ (s : ByteArray) (t : Nat) : rpL s (t + 1) = s.data.toList ++ rpL s t := by simp [rpL, List.replicate_succ]

theorem rpL_snoc (s : ByteArray) (t : Nat) : rpL s (t + 1) = rpL s t ++ s.data.toList := by
  induction t with
  | zero => simp [rpL]
  | succ t ih => rw [rpL_succ, ih, ← List.append_assoc, ← rpL_succ]; rw [← ih]

theorem rpL_length (s : ByteArray) (t : Nat) : (rpL s t).length = t * s.size := by
  induction t with
  | zero => simp [rpL]
  | succ t ih => rw [rpL_succ, List.length_append, ih, size_list, Nat.succ_mul]; omega

theorem joL_rep {s : ByteArray} (hs : tkB s = true) : ∀ (t : Nat) (acc : List UInt8), acc.length ≤ 40 → joL (List.replicate t s) acc = if acc.length + t * s.size ≤ 40 then some (acc ++ rpL s t) else none
  | 0, acc, h => by simp [joL, rpL, h]
  | t + 1, acc, h => by
    have hz := Nat.succ_mul t s.size
    rw [List.replicate_succ]
    simp only [joL, hs, Bool.true_and]
    by_cases h1 : acc.length + s.size ≤ 40
    · have ih := joL_rep hs t (acc ++ s.data.toList) (by rw [List.length_append, size_list]; exact h1)
      rw [if_pos (by simpa using h1), ih, List.length_append, size_list, List.append_assoc, ← rpL_succ]
      by_cases h2 : acc.length + s.size + t * s.size ≤ 40
      · rw [if_pos h2, if_pos (by rw [hz]; omega)]
      · rw [if_neg h2, if_neg (by rw [hz]; omega)]
    · rw [if_neg (by simpa using h1), if_neg (by rw [hz]; omega)]

def rpB (s : ByteArray) (k : Int) : Bool := tkB s && decide (0 ≤ k ∧ (s.size = 0 ∨ k * (s.size : Int) ≤ 40))

def rpS (s : ByteArray) (k : Int) : ByteArray := cond (rpB s k) (if s.size = 0 then ⟨#[]⟩ else ofL (rpL s k.toNat)) ⟨#[]⟩

/-- Times enough: more than 41 times are as 41. -/
theorem jo_rep {s : ByteArray} (hs : tkB s = true) (k : Int) (t : Nat) (h0 : 0 ≤ k) (ht : (t : Int) = min k 41) : joB (List.replicate t s) = rpB s k ∧ joS (List.replicate t s) = rpS s k := by
  have h := joL_rep hs t [] (by simp)
  simp only [List.length_nil, Nat.zero_add, List.nil_append] at h
  by_cases hz : s.size = 0
  · rw [if_pos (by rw [hz]; omega)] at h
    obtain ⟨r1, r2⟩ := jo_some h
    have hl : rpL s t = [] := List.eq_nil_of_length_eq_zero (by rw [rpL_length, hz]; omega)
    have hb : rpB s k = true := by simp [rpB, hs, hz, h0]
    exact ⟨r1.trans hb.symm, by rw [r2, hl]; simp [rpS, hb, hz]⟩
  · by_cases h1 : k * (s.size : Int) ≤ 40
    · have hk : k ≤ 40 := by
        rcases Int.lt_or_le 40 k with h2 | h2
        · have : k * 1 ≤ k * (s.size : Int) := Int.mul_le_mul_of_nonneg_left (by omega) h0
          omega
        · exact h2
      have hkt : k = (t : Int) := by omega
      subst hkt
      have h3 : t * s.size ≤ 40 := by
        have : ((t * s.size : Nat) : Int) = (t : Int) * (s.size : Int) := by simp
        omega
      rw [if_pos h3] at h
      obtain ⟨r1, r2⟩ := jo_some h
      have hb : rpB s t = true := by simp [rpB, hs, h1]
      exact ⟨r1.trans hb.symm, by rw [r2]; simp [rpS, hb, hz, ofL]⟩
    · have h3 : ¬ t * s.size ≤ 40 := fun h4 => by
        rcases Int.lt_or_le k 41 with h2 | h2
        · have hkt : k = (t : Int) := by omega
          subst hkt
          have : ((t * s.size : Nat) : Int) = (t : Int) * (s.size : Int) := by simp
          omega
        · have ht41 : t = 41 := by omega
          subst ht41
          have : 41 * 1 ≤ 41 * s.size := Nat.mul_le_mul_left _ (by omega)
          omega
      rw [if_neg h3] at h
      obtain ⟨r1, r2⟩ := jo_none h
      have hb : rpB s k = false := by simp [rpB, h1, hz]
      exact ⟨r1.trans hb.symm, by rw [r2]; simp [rpS, hb]⟩

/-- A row of t texts, the first n of them s. -/
def rowR (s : ByteArray) (t n : Nat) : List Value := List.replicate n (.string s) ++ List.replicate (t - n) (.string ⟨#[]⟩)

theorem rowR_length (s : ByteArray) (t n : Nat) (h : n ≤ t) : (rowR s t n).length = t := by simp [rowR]; omega

theorem rowR_splice (s : ByteArray) (t n m : Nat) (h : n + m ≤ t) : splice (rowR s t n) n (List.replicate m (.string s)) = rowR s t (n + m) := by
  simp only [splice, rowR, List.length_replicate]
  rw [List.take_left' (by simp), List.drop_append, List.drop_of_length_le (by simp), List.nil_append, List.length_replicate, List.drop_replicate, ← List.append_assoc, List.replicate_append_replicate, show t - n - (n + m - n) = t - (n + m) by omega]

theorem rowR_made (s : ByteArray) (t : Nat) : madeCells (Value.string ⟨#[]⟩).cells t = (rowR s t 0).toArray := by
  apply Array.ext
  · simp [size_madeCells, rowR]
  · intro i h1 h2
    have : (Value.string ⟨#[]⟩).cells = #[.string ⟨#[]⟩] := rfl
    simp [madeCells, rowR, this, Nat.mod_one]

theorem rowR_at (s : ByteArray) (t n j : Nat) (hj : j < n) : (rowR s t n)[j]? = some (.string s) := by
  rw [rowR, List.getElem?_append_left (by simpa using hj)]
  simp [hj]

end Go.Proofs.Ytogimjbjdgccnaa
