/- Numbers and points as texts. -/
import Derived.Test.YtoaccnpkobbaaaaDoorRuM
import Derived.Test.YtoaccnpkobbaaaaDoorPt
import Derived.Lib.ItoaMem
import Derived.Lib.Join
namespace Go.Proofs.YtoaccnpkobbaaaaDoor

theorem dd_big {n : Nat} (h : ¬ n < 10) : Lib.decDigits n = Lib.decDigits (n / 10) ++ [UInt8.ofNat (48 + n % 10)] := by rw [Lib.decDigits, dif_neg h]

theorem nd_le : ∀ (k n : Nat), n < 10 ^ (k + 1) → Lib.nDigits n ≤ k + 1
  | 0, n, h => by rw [Lib.nDigits_small (by simpa using h)]; omega
  | k + 1, n, h => by
    by_cases h1 : n < 10
    · rw [Lib.nDigits_small h1]; omega
    · rw [Lib.nDigits_big h1]
      have := nd_le k (n / 10) (by rw [Nat.pow_succ] at h; omega)
      omega

theorem dd_len7 {n : Nat} (h : n < 10000000) : (Lib.decDigits n).length ≤ 7 := by
  rw [Lib.decDigits_length]
  exact nd_le 6 n (by simpa using h)

/-- The text of a number, of a point. -/
def nuT (n : Int) : ByteArray := ofL (Lib.itoa n)

theorem nu_pos {n : Nat} : nuT (n : Int) = ofL (Lib.decDigits n) := by unfold nuT; rw [Lib.itoa_nonneg]

theorem nu_neg {n : Nat} (h : 1 ≤ n) : nuT (-(n : Int)) = ofL [45] ++ ofL (Lib.decDigits n) := by
  unfold nuT
  rw [Lib.itoa_neg n h, ofL_append]
  rfl

theorem nu_len {n : Int} (h0 : -999999 ≤ n) (h1 : n ≤ 999999) : (nuT n).size ≤ 8 := by
  unfold nuT
  rw [ofL_size]
  by_cases hn : n < 0
  · obtain ⟨u, rfl⟩ : ∃ u : Nat, n = -(u : Int) := ⟨n.natAbs, by omega⟩
    rw [Lib.itoa_neg u (by omega), List.length_cons]
    have := dd_len7 (n := u) (by omega)
    omega
  · obtain ⟨u, rfl⟩ : ∃ u : Nat, n = (u : Int) := ⟨n.toNat, by omega⟩
    rw [Lib.itoa_nonneg]
    have := dd_len7 (n := u) (by omega)
    omega

def ptJ (a b c d : Int) : ByteArray := ofL (Lib.join [Lib.itoa a, Lib.itoa b, Lib.itoa c, Lib.itoa d] [44])

def ptT (a b c d : Int) : ByteArray := cond (goodB a b c d) (ptJ a b c d) ⟨#[]⟩

theorem ptJ_eq (a b c d : Int) : nuT a ++ ⟨#[44]⟩ ++ nuT b ++ ⟨#[44]⟩ ++ nuT c ++ ⟨#[44]⟩ ++ nuT d = ptJ a b c d := by
  unfold ptJ nuT
  rw [Lib.join_cons]
  rw [show (⟨#[44]⟩ : ByteArray) = ofL [44] from rfl]
  simp only [ofL_append, Lib.joinTail, List.map_cons, List.map_nil, List.flatten_cons, List.flatten_nil, List.append_nil, List.append_assoc]

theorem ptJ_len {a b c d : Int} (h : goodB a b c d = true) : (ptJ a b c d).size ≤ 40 := by
  simp only [goodB, decide_eq_true_eq] at h
  rw [← ptJ_eq]
  simp only [ByteArray.size_append]
  have h1 := nu_len (n := a) (by omega) (by omega)
  have h2 := nu_len (n := b) (by omega) (by omega)
  have h3 := nu_len (n := c) (by omega) (by omega)
  have h4 := nu_len (n := d) (by omega) (by omega)
  have h5 : (⟨#[44]⟩ : ByteArray).size = 1 := rfl
  omega

end Go.Proofs.YtoaccnpkobbaaaaDoor
