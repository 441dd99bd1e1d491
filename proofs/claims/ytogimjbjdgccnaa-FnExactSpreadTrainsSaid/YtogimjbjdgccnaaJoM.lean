/- Tracks laid one behind the other. -/
import Derived.Test.YtogimjbjdgccnaaTkM
namespace Go.Proofs.Ytogimjbjdgccnaa

/-- What lies behind acc, tracks laid behind it one after the other; none if one is no track or there are too many pieces. -/
def joL : List ByteArray → List UInt8 → Option (List UInt8)
  | [], acc => some acc
  | x :: xs, acc => if tkB x && decide (acc.length + x.size ≤ 40) then joL xs (acc ++ x.data.toList) else none

def joB (xs : List ByteArray) : Bool := (joL xs []).isSome

def joS (xs : List ByteArray) : ByteArray := ofL ((joL xs []).getD [])

theorem joL_yes {xs : List ByteArray} {k : Nat} {x : ByteArray} {acc : List UInt8} (hx : xs[k]? = some x) (ht : tkB x = true) (hl : acc.length + x.size ≤ 40) : joL (xs.drop k) acc = joL (xs.drop (k + 1)) (acc ++ x.data.toList) := by
  obtain ⟨hk, rfl⟩ := List.getElem?_eq_some_iff.1 hx
  rw [List.drop_eq_getElem_cons hk]
  simp [joL, ht, hl]

theorem joL_no {xs : List ByteArray} {k : Nat} {x : ByteArray} {acc : List UInt8} (hx : xs[k]? = some x) (ht : tkB x = false ∨ ¬ acc.length + x.size ≤ 40) : joL (xs.drop k) acc = none := by
  obtain ⟨hk, rfl⟩ := List.getElem?_eq_some_iff.1 hx
  rw [List.drop_eq_getElem_cons hk]
  rcases ht with ht | ht <;> simp [joL, ht]

theorem joL_end {xs : List ByteArray} {k : Nat} {acc : List UInt8} (hk : ¬ k < xs.length) : joL (xs.drop k) acc = some acc := by
  rw [List.drop_of_length_le (by omega)]
  rfl

theorem jo_none {xs : List ByteArray} (h : joL xs [] = none) : joB xs = false ∧ joS xs = ⟨#[]⟩ := by simp [joB, joS, h, ofL]

theorem jo_some {xs : List ByteArray} {acc : List UInt8} (h : joL xs [] = some acc) : joB xs = true ∧ joS xs = ⟨acc.toArray⟩ := by simp [joB, joS, h, ofL]

end Go.Proofs.Ytogimjbjdgccnaa
