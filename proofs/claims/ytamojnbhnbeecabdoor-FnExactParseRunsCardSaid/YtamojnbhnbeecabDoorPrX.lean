/- Contract: ParseRuns of the model. -/
import Derived.Test.YtamojnbhnbeecabDoorPrW
import Derived.Test.YtamojnbhnbeecabDoorRuB
import Derived.Test.YtamojnbhnbeecabDoorPc
namespace Go.Proofs.YtamojnbhnbeecabDoor
open Go.ChangeShapes Go.WideShapes Go.ChangeAt Go.RowKit

set_option linter.unusedVariables false

theorem dval_snoc (l : List UInt8) (d : UInt8) : dval (l ++ [d]) = 10 * dval l + (d.toNat - 48) := by simp [dval]
theorem isD_bd {d : UInt8} (h : isD d = true) : 48 ≤ d.toNat ∧ d.toNat ≤ 57 := by simpa [isD] using h
theorem dval_lt : ∀ (m : Nat) (l : List UInt8), l.length = m → (∀ c ∈ l, isD c = true) → dval l < 10 ^ m
  | 0, l, h, _ => by rw [List.eq_nil_of_length_eq_zero h]; decide
  | m + 1, l, h, hd => by
    have hne : l ≠ [] := fun e => by rw [e] at h; cases h
    have e := List.dropLast_concat_getLast hne
    have ih := dval_lt m l.dropLast (by simp [h]) (fun c hc => hd c (List.dropLast_subset _ hc))
    have hb := isD_bd (hd _ (List.getLast_mem hne))
    rw [← e, dval_snoc, Nat.pow_succ]
    omega
theorem tw_at (p : UInt8 → Bool) (t : List UInt8) : t[(t.takeWhile p).length]? = (t.dropWhile p).head? := by
  have e := List.takeWhile_append_dropWhile (p := p) (l := t)
  generalize hA : t.takeWhile p = A at e
  generalize hB : t.dropWhile p = B at e
  rw [← e, List.getElem?_append_right (Nat.le_refl _), Nat.sub_self, List.head?_eq_getElem?]
/-- Where the digits end: no digit follows, or there are three. -/
theorem ds_end {t : List UInt8} {e : UInt8} (h : t[((t.takeWhile isD).take 3).length]? = some e) (he : isD e = true) : ((t.takeWhile isD).take 3).length = 3 := by
  rw [List.length_take] at h ⊢
  rcases Nat.lt_or_ge (t.takeWhile isD).length 3 with h3 | h3
  · rw [Nat.min_eq_right (by omega), tw_at] at h
    have := List.head?_dropWhile_not (p := isD) (l := t)
    rw [h] at this
    simp [he] at this
  · omega
theorem ds_at {t : List UInt8} {j : Nat} (h : j < ((t.takeWhile isD).take 3).length) : ∃ d, t[j]? = some d ∧ isD d = true ∧ ((t.takeWhile isD).take 3).take (j + 1) = ((t.takeWhile isD).take 3).take j ++ [d] := by
  have h1 : j < (t.takeWhile isD).length := by rw [List.length_take] at h; omega
  refine ⟨(t.takeWhile isD)[j], ?_, ?_, ?_⟩
  · have h2 := (List.takeWhile_prefix isD (l := t)).getElem h1
    rw [List.getElem?_eq_getElem (Nat.lt_of_lt_of_le h1 (List.takeWhile_prefix isD (l := t)).length_le), h2]
  · exact List.all_eq_true.1 List.all_takeWhile _ (List.getElem_mem h1)
  · rw [List.take_succ_eq_append_getElem h]
    simp
theorem ret_pm {s x : ByteArray} {b : Bool} {l : Option (List UInt8)} (h : prM s = l) (hb : l.isSome = b) (hx : ofL (l.getD []) = x) : Ending.returned (.tuple #[.string x, .bool b]) = Ending.returned (.tuple #[.string (prS s), .bool (prB s)]) := ret_pr ((pr_eq s).trans h) hb hx
theorem dlen_pos {l : List UInt8} (h : l.length ≠ 0) : dlen l = dval l := by rw [dlen, if_neg (fun e => h (by rw [e]; rfl))]
theorem dlen_zero {l : List UInt8} (h : l.length = 0) : dlen l = 1 := by rw [List.eq_nil_of_length_eq_zero h]; rfl

end Go.Proofs.YtamojnbhnbeecabDoor
