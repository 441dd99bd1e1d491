/- The runs of a track, as a text. -/
import Derived.Test.YtoaccnpkobbaaaaDoorJoM
import Derived.Lib.ItoaNum
import Derived.Lib.SlTrimSet
namespace Go.Proofs.YtoaccnpkobbaaaaDoor

def digs (n : Nat) : List UInt8 := if n ≤ 1 then [] else Lib.decDigits n

def runs : List UInt8 → List UInt8
  | [] => []
  | c :: t => c :: (digs (1 + (t.takeWhile (· == c)).length) ++ runs (t.dropWhile (· == c)))
termination_by l => l.length
decreasing_by
  have h := congrArg List.length (List.takeWhile_append_dropWhile (p := (· == c)) (l := t))
  rw [List.length_append] at h
  simp only [List.length_cons]
  omega

theorem runs_nil : runs [] = [] := by rw [runs]

theorem runs_cons (c : UInt8) (t : List UInt8) : runs (c :: t) = c :: (digs (1 + (t.takeWhile (· == c)).length) ++ runs (t.dropWhile (· == c))) := by rw [runs]

theorem tw_rep (c : UInt8) (r : List UInt8) (h : r.head? ≠ some c) : ∀ m, (List.replicate m c ++ r).takeWhile (· == c) = List.replicate m c ∧ (List.replicate m c ++ r).dropWhile (· == c) = r
  | 0 => by
    cases r with
    | nil => simp
    | cons d r =>
      have hd : (d == c) = false := by simpa using h
      simp [hd]
  | m + 1 => by
    have ih := tw_rep c r h m
    simp [List.replicate_succ, ih.1, ih.2]

theorem drop_rep (l : List UInt8) (c : UInt8) (i : Nat) : ∀ n, (∀ j, j < n → l[i + j]? = some c) → l.drop i = List.replicate n c ++ l.drop (i + n)
  | 0, _ => by simp
  | n + 1, h => by
    rw [drop_rep l c i n (fun j hj => h j (by omega))]
    have hn := h n (by omega)
    obtain ⟨hlt, he⟩ := List.getElem?_eq_some_iff.1 hn
    rw [List.drop_eq_getElem_cons hlt, he, List.replicate_succ', List.append_assoc]
    rfl

/-- A run of n pieces c at i, and no further. -/
theorem run_end {l : List UInt8} {i n : Nat} {c : UInt8} (hn : 1 ≤ n) (h : ∀ j, j < n → l[i + j]? = some c) (he : l[i + n]? ≠ some c) : runs (l.drop i) = c :: (digs n ++ runs (l.drop (i + n))) := by
  have h1 := drop_rep l c i n h
  obtain ⟨m, rfl⟩ : ∃ m, n = m + 1 := ⟨n - 1, by omega⟩
  have h2 := tw_rep c (l.drop (i + (m + 1))) (by rw [List.head?_drop]; exact he) m
  rw [h1, List.replicate_succ, List.cons_append, runs_cons, h2.1, h2.2, List.length_replicate, Nat.add_comm 1 m]

theorem digs_one : digs 1 = [] := rfl

theorem digs_many {n : Nat} (h : ¬ n ≤ 1) : digs n = Lib.decDigits n := by simp [digs, h]

theorem dd_small {d : Nat} (h : d < 10) : Lib.decDigits d = [UInt8.ofNat (48 + d)] := by rw [Lib.decDigits]; simp [h]

theorem dd_two {n : Nat} (h : ¬ n < 10) (h2 : n < 100) : Lib.decDigits n = [UInt8.ofNat (48 + n / 10), UInt8.ofNat (48 + n % 10)] := by
  rw [Lib.decDigits]
  simp [h, dd_small (show n / 10 < 10 by omega)]

theorem dd_len {n : Nat} (h2 : n < 100) : (Lib.decDigits n).length ≤ 2 := by
  by_cases h : n < 10
  · rw [dd_small h]; simp
  · rw [dd_two h h2]; simp

theorem digs_len {n : Nat} (h2 : n < 100) : (digs n).length ≤ 2 := by
  unfold digs; split
  · simp
  · exact dd_len h2

def ruS (s : ByteArray) : ByteArray := if s.size = 0 then ⟨#[45]⟩ else ofL (runs s.data.toList)

def rtS (s : ByteArray) : ByteArray := cond (tkB s) (ruS s) ⟨#[]⟩

end Go.Proofs.YtoaccnpkobbaaaaDoor
