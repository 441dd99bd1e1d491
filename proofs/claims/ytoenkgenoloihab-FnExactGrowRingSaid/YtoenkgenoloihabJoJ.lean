/- Contracts: JoinTracks and CutTrack of the model and of the program. -/
import Derived.Test.YtoenkgenoloihabJo
import Derived.Test.YtoenkgenoloihabIn

import Derived.Laws.Concat
namespace Go.Proofs.Ytoenkgenoloihab
open Go.ChangeShapes Go.WideShapes Go.ChangeAt Go.RowKit

theorem append_ofL (a b : ByteArray) : a ++ b = ofL (a.data.toList ++ b.data.toList) := by
  rw [← ofL_append, ofL_self, ofL_self]

theorem jo2_yes {a b : ByteArray} (ha : tkB a = true) (hb : tkB b = true) (h : a.size + b.size ≤ 40) : joB [a, b] = true ∧ joS [a, b] = a ++ b := by
  have h1 : a.size ≤ 40 := by omega
  have : joL [a, b] [] = some (a.data.toList ++ b.data.toList) := by simp [joL, ha, hb, h, h1]
  refine ⟨(jo_some this).1, ?_⟩
  rw [(jo_some this).2, append_ofL]
  rfl

theorem jo2_no {a b : ByteArray} (h : tkB a = false ∨ tkB b = false ∨ ¬ a.size + b.size ≤ 40) : joB [a, b] = false ∧ joS [a, b] = ⟨#[]⟩ := by
  refine jo_none ?_
  rcases h with h | h | h
  · simp [joL, h]
  · simp [joL, h]
  · simp only [joL, List.nil_append, size_list, List.length_nil, Nat.zero_add]
    split
    · split
      · rename_i h1 h2
        simp only [Bool.and_eq_true, decide_eq_true_eq] at h2
        exact absurd h2.2 h
      · rfl
    · rfl

theorem tkB_ext {s : ByteArray} (h : tkB s = true) (i j : Nat) : tkB (s.extract i j) = true := by
  have hl := tkB_list h
  have hz := tkB_size h
  simp only [tkB, Bool.and_eq_true, decide_eq_true_eq, List.all_eq_true]
  refine ⟨by rw [ByteArray.size_extract]; omega, fun c hc => hl c ?_⟩
  rw [Lib.extract_data] at hc
  exact List.mem_of_mem_drop (List.mem_of_mem_take hc)

theorem jo1 {s : ByteArray} (h : tkB s = true) : joB [s] = true ∧ joS [s] = s := by
  have hz := tkB_size h
  have : joL [s] [] = some s.data.toList := by simp [joL, h, hz]
  exact ⟨(jo_some this).1, (jo_some this).2.trans (ofL_self s)⟩

def cutB (s : ByteArray) (i j : Int) : Bool := tkB s && (inB j 0 s.size && inB i 0 j)

def cutS (s : ByteArray) (i j : Int) : ByteArray := cond (cutB s i j) (s.extract i.toNat j.toNat) ⟨#[]⟩

theorem ret_cut {s x : ByteArray} {i j : Int} {b : Bool} (hb : cutB s i j = b) (hs : cutS s i j = x) : Ending.returned (.tuple #[.string x, .bool b]) = Ending.returned (.tuple #[.string (cutS s i j), .bool (cutB s i j)]) := by rw [hb, hs]

end Go.Proofs.Ytoenkgenoloihab
