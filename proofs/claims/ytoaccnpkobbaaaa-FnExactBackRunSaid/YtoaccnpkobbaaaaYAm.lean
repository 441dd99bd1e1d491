/- Rows of runs: what their cells are, and how they are kept. -/
import Derived.Test.YtoaccnpkobbaaaaYNm
import Derived.Test.YtoaccnpkobbaaaaYSo
import Derived.Laws.OwnMore
import Derived.Deep.Onto
import Derived.Laws.AppendOwn
import Derived.Maps.AppendAt
namespace Go.Proofs.Ytoaccnpkobbaaaa
open Go.ChangeShapes Go.WideShapes Go.ChangeAt Go.RowKit
open Yd

set_option linter.unusedVariables false

theorem bo_get : ∀ (n s i : Nat), i < n → (bo n s)[i]? = some ((s / 2 ^ (n - 1 - i) % 2 : Nat) : Int)
  | 0, s, i, h => by omega
  | n + 1, s, 0, _ => by rw [bo]; simp
  | n + 1, s, i + 1, h => by
    rw [bo, List.getElem?_cons_succ, bo_get n s i (by omega)]
    congr 5
    omega

theorem bo_take_succ {n s i : Nat} (h : i < n) : (bo n s).take (i + 1) = (bo n s).take i ++ [((s / 2 ^ (n - 1 - i) % 2 : Nat) : Int)] := by
  rw [List.take_add_one, bo_get n s i h]; rfl

/-- The first k runs of n switches. -/
def alN (n k : Nat) : List (Nat × List Int) := (List.range k).map (dc n)

theorem alN_len (n k : Nat) : (alN n k).length = k := by simp [alN]

theorem alN_succ (n k : Nat) : alN n (k + 1) = alN n k ++ [dc n k] := by simp [alN, List.range_succ]

theorem dc_at {n a s : Nat} (h : s < 2 ^ n) : dc n (a * 2 ^ n + s) = (a, bo n s) := by
  have h0 := Nat.two_pow_pos n
  rw [dc, Nat.mul_comm a, Nat.mul_add_div h0, Nat.div_eq_of_lt h, Nat.mul_add_mod, Nat.mod_eq_of_lt h, Nat.add_zero]

theorem alN_get {n k j : Nat} (h : j < k) : (alN n k)[j]? = some (dc n j) := by simp [alN, h]

/-- The cells of a row of runs: the row's own block is q, the runs' rows lie elsewhere, from B on. -/
def RunsC (w : World) (B : Nat) (q : Option Nat) (L : List (Nat × List Int)) (xs : List Value) : Prop :=
  xs.length = 2 * L.length ∧ ∀ j x, L[j]? = some x → ∃ g cap : Nat, xs[2 * j]? = some (.int .i64 (x.1 : Nat)) ∧ xs[2 * j + 1]? = some (.slice (some ⟨g, 0, none⟩) x.2.length cap) ∧ some g ≠ q ∧ B ≤ g ∧ RL w g x.2.length x.2

theorem RunsC.nil (w : World) (B : Nat) (q : Option Nat) : RunsC w B q [] [] := ⟨rfl, fun j x h => by simp at h⟩

theorem RunsC.keep {w w' : World} {B : Nat} {q : Option Nat} {L : List (Nat × List Int)} {xs : List Value} (h : RunsC w B q L xs) (hb : Below w.heap.size w w') : RunsC w' B q L xs :=
  ⟨h.1, fun j x hx => let ⟨g, cap, h1, h2, h3, h4, h5⟩ := h.2 j x hx; ⟨g, cap, h1, h2, h3, h4, h5.keep hb⟩⟩

theorem RunsC.grown {w w' : World} {B g' : Nat} {q : Option Nat} {L : List (Nat × List Int)} {xs : List Value} (h : RunsC w B q L xs) (hg : w.grownBy w' q) (hq : q = some g' ∨ w.heap.size ≤ g') : RunsC w' B (some g') L xs :=
  ⟨h.1, fun j x hx => let ⟨g, cap, h1, h2, h3, h4, h5⟩ := h.2 j x hx; ⟨g, cap, h1, h2, by
    rcases hq with rfl | hq
    · exact h3
    · have := h5.lt; intro e; injection e with e; omega, h4, h5.of_block hg.size (hg.block g h5.lt h3)⟩⟩

theorem RunsC.snoc {w : World} {B : Nat} {q : Option Nat} {L : List (Nat × List Int)} {xs : List Value} (h : RunsC w B q L xs) (x : Nat × List Int) (g l cap : Nat) (hl : x.2.length = l) (h3 : some g ≠ q) (h4 : B ≤ g) (h5 : RL w g l x.2) :
    RunsC w B q (L ++ [x]) (xs ++ [.int .i64 (x.1 : Nat), .slice (some ⟨g, 0, none⟩) l cap]) := by
  subst hl
  refine ⟨by simp [h.1]; omega, fun j y hy => ?_⟩
  rw [List.getElem?_append] at hy
  split at hy
  · rename_i hj
    obtain ⟨g', cap', e1, e2, e3⟩ := h.2 j y hy
    refine ⟨g', cap', ?_, ?_, e3⟩
    · rw [List.getElem?_append_left (by rw [h.1]; omega)]; exact e1
    · rw [List.getElem?_append_left (by rw [h.1]; omega)]; exact e2
  · rename_i hj
    have : j = L.length := by
      have := (List.getElem?_eq_some_iff.1 hy).1
      simp at this; omega
    subst this
    simp at hy
    subst hy
    refine ⟨g, cap, ?_, ?_, h3, h4, h5⟩
    · rw [List.getElem?_append_right (by rw [h.1]; omega), h.1]; simp
    · rw [List.getElem?_append_right (by rw [h.1]; omega), h.1, show 2 * L.length + 1 - 2 * L.length = 1 by omega]; rfl

theorem RL.of_own {w : World} {B n g cap : Nat} {xs : List Int} (h : w.ownsRow B 3 1 (.slice (some ⟨g, 0, none⟩) n cap) n (xs.map (Value.int .i64))) (hn : xs.length = n) : RL w g n xs :=
  ⟨(h.lt g rfl).2, fun j hj => ⟨by
    rw [h.cellAt j (by omega), List.getElem?_map]
    obtain ⟨x, hx⟩ : ∃ x, xs[j]? = some x := ⟨_, List.getElem?_eq_getElem (by omega)⟩
    rw [hx]; simp [hx], h.frozenAt j⟩⟩

theorem runInfo : (Try.prog.info? 36).map (fun i => (i.zero, i.size, i.bytes)) = some (some (.agg #[.int .i64 0, .slice none 0 0]), 2, 32) := by kernel_rfl

theorem own_other {w : World} {B n : Nat} {e : TypeId} {size : Nat} {v : Value} {xs : List Value} (h : w.ownsRow B e size v n xs) (a : Addr) (u : Value) (ha : a.block < B) : (w.setCell a u).ownsRow B e size v n xs :=
  h.kept (row := some a.block) ⟨rfl, rfl, rfl, by simp, fun k _ hk => heap_setCell_other w a k u (fun e => hk (by rw [e]))⟩ (Or.inr fun q => by have := (h.lt _ q).1; omega)

/-- All runs of n switches in a row. -/
def AlPost (n : Nat) (w : World) (e : Ending) (w' : World) : Prop :=
  ∃ g cap xs, e = .returned (.slice (some ⟨g, 0, none⟩) (3 * n * 2 ^ n : Nat) cap) ∧ w'.ownsRow w.heap.size 36 2 (.slice (some ⟨g, 0, none⟩) (3 * n * 2 ^ n) cap) (3 * n * 2 ^ n) xs ∧ RunsC w' w.heap.size (some g) (alN n (3 * n * 2 ^ n)) xs ∧ Below w.heap.size w w'

end Go.Proofs.Ytoaccnpkobbaaaa
