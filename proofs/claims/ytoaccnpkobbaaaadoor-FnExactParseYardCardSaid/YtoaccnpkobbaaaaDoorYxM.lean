/- The text of a yard. -/
import Derived.Test.YtoaccnpkobbaaaaDoorNuM
import Derived.Test.YtoaccnpkobbaaaaDoorYdM
namespace Go.Proofs.YtoaccnpkobbaaaaDoor
open Yd

/-- The letters of kinds, the text of numbers, the text of a yard. -/
def letB (k : Int) : UInt8 := if k = 0 then 108 else if k = 1 then 115 else 116

def kL (ks : List Int) : List UInt8 := ks.map letB

def nuL (rs : List Int) : List UInt8 := Lib.join (rs.map Lib.itoa) [44]

def yxL (ks rs : List Int) : List UInt8 := kL ks ++ [58] ++ nuL rs

def yxS (ks rs : List Int) : ByteArray := cond (ydB ks rs) (ofL (yxL ks rs)) ⟨#[]⟩

theorem kL_take {ks : List Int} {i : Nat} {k : Int} (h : ks[i]? = some k) : kL (ks.take (i + 1)) = kL (ks.take i) ++ [letB k] := by
  rw [List.take_add_one, h]; simp [kL]

/-- .. as the model lays it: the first i numbers. -/
def yxP (ks rs : List Int) (i : Nat) : List UInt8 := if i = 0 then kL ks else kL ks ++ [58] ++ nuL (rs.take i)

theorem nuL_snoc (l : List Int) (x : Int) (h : l ≠ []) : nuL (l ++ [x]) = nuL l ++ [44] ++ Lib.itoa x := by
  match l, h with
  | y :: l, _ =>
    rw [nuL, nuL, List.cons_append, List.map_cons, List.map_cons, Lib.join_cons, Lib.join_cons]
    simp [Lib.joinTail]

theorem nuL_one (x : Int) : nuL [x] = Lib.itoa x := by rw [nuL, List.map_cons, List.map_nil, Lib.join_one]

theorem yxP_succ {ks rs : List Int} {i : Nat} {x : Int} (h : rs[i]? = some x) : yxP ks rs (i + 1) = yxP ks rs i ++ [if i = 0 then 58 else 44] ++ Lib.itoa x := by
  rw [yxP, if_neg (by omega), List.take_add_one, h, yxP]
  by_cases h0 : i = 0
  · subst h0
    simp [nuL_one]
  · rw [if_neg h0, if_neg h0, Option.toList_some, nuL_snoc _ _ (by
      obtain ⟨hlt, _⟩ := List.getElem?_eq_some_iff.1 h
      intro e
      have := congrArg List.length e
      rw [List.length_take, List.length_nil] at this
      omega)]
    simp

theorem kL_len (ks : List Int) : (kL ks).length = ks.length := by simp [kL]

theorem itoa_len {x : Int} (h0 : 0 ≤ x) (h1 : x < 100) : (Lib.itoa x).length ≤ 2 := by
  obtain ⟨u, rfl⟩ : ∃ u : Nat, x = (u : Int) := ⟨x.toNat, by omega⟩
  rw [Lib.itoa_nonneg]
  exact dd_len (by omega)

theorem nuL_len : ∀ (l : List Int), (∀ x ∈ l, 0 ≤ x ∧ x < 100) → (nuL l).length ≤ 3 * l.length
  | [], _ => by simp [nuL, Lib.join_nil]
  | [x], h => by
    rw [nuL_one]
    have := itoa_len (h x (by simp)).1 (h x (by simp)).2
    simp; omega
  | x :: y :: l, h => by
    have ih := nuL_len (y :: l) (fun z hz => h z (by simp [hz]))
    have h1 := itoa_len (h x (by simp)).1 (h x (by simp)).2
    rw [nuL, List.map_cons, Lib.join_cons]
    rw [nuL, List.map_cons, Lib.join_cons] at ih
    simp [Lib.joinTail] at ih ⊢
    omega

theorem yxP_len {ks rs : List Int} (hg : YdOk ks rs) (i : Nat) : (yxP ks rs i).length ≤ 100 := by
  have h1 := hg.n6
  have h2 := hg.nr
  have h3 : (nuL (rs.take i)).length ≤ 3 * (rs.take i).length := nuL_len _ fun x hx => by
    obtain ⟨j, hj⟩ := List.getElem?_of_mem (List.mem_of_mem_take hx)
    have := hg.rl _ _ hj
    omega
  rw [List.length_take] at h3
  rw [yxP]
  split
  · rw [kL_len]; omega
  · rw [List.length_append, List.length_append, kL_len]
    simp; omega

theorem yxP_all {ks rs : List Int} (hg : YdOk ks rs) : yxP ks rs rs.length = yxL ks rs := by
  have h1 := hg.n1
  have h2 := hg.nr
  rw [yxP, if_neg (by omega), List.take_length, yxL]

end Go.Proofs.YtoaccnpkobbaaaaDoor
