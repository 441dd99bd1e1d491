/- An argument that is a list of numbers, a yard or a run, opened. -/
import Derived.Test.YtoaccnpkobbaaaaKit
import Derived.Test.YtoaccnpkobbaaaaYLa
import Derived.ChangeSlices
namespace Go.Proofs.Ytoaccnpkobbaaaa
open Go.ChangeShapes Go.WideShapes Go.ChangeAt Go.RowKit Go.Joins

theorem cell_block {w : World} {a : Addr} {v : Value} (h : w.cell? a = some v) : a.block < w.heap.size := by
  refine Classical.byContradiction fun hn => ?_
  rw [World.cell?, Array.getElem?_eq_none (by omega)] at h
  cases h

set_option maxRecDepth 100000 in
theorem read_ints {H : Type} {enc : TypeId × Value → H} {W : World} {base : Nat} {spare : Nat → Bool} {held : Bool} {fuel : Nat} {v : Value} {x : DataW H × List MemPlace}
    (h : DataW.trod enc Try.prog W base spare held fuel 22 [v] = some x) : ∃ (a : Option Addr) (n c : Nat) (xs : List Int), v = .slice a n c ∧ xs.length = n ∧ n ≤ maxLen ∧ RdA W.heap.size W a xs := by
  rcases open_ints Try.underlying22 Try.underlying3 (by kernel_rfl) h with ⟨hcs, _⟩ | ⟨a, len, cap, zs, hcs, _, hl, hm, hz, _, hc, _⟩
  · simp at hcs
    exact ⟨none, 0, 0, [], hcs, rfl, Nat.zero_le _, fun j x hx => by simp at hx⟩
  · simp at hcs
    have hzl : len ≤ zs.length := by rw [hz]; split <;> omega
    refine ⟨some a, len, cap, zs.take len, hcs, by rw [List.length_take]; omega, by omega, fun j x hx => ?_⟩
    rw [List.getElem?_take] at hx
    split at hx
    · rename_i hj
      have := hc j (by omega)
      rw [List.getD, hx] at this
      have hb := cell_block this
      refine ⟨a, rfl, ?_, this⟩
      by_cases e : j = 0 <;> simpa [Addr.add, e] using hb
    · cases hx

set_option maxRecDepth 100000 in
theorem open_ints1 {H : Type} {enc : TypeId × Value → H} {W : World} {base : Nat} {spare : Nat → Bool} {held : Bool} {r : Reach} {b0 : Nat} {v : Value} {d : DataW H} {p : List MemPlace}
    (hv : Value.okWide Try.prog W r b0 22 v) (h : DataW.Trod enc Try.prog W base spare held 22 v d p) : ∃ (a : Option Addr) (n c : Nat) (xs : List Int), v = .slice a n c ∧ xs.length = n ∧ n ≤ maxLen ∧ RdA W.heap.size W a xs := by
  obtain ⟨a0, len, cap, rfl⟩ := okWide_slice Try.underlying22 hv
  obtain ⟨fuel, hf⟩ := h
  exact read_ints (by simpa [Value.cells] using hf)

set_option maxRecDepth 100000 in
theorem open_yard {H : Type} {enc : TypeId × Value → H} {W : World} {base : Nat} {spare : Nat → Bool} {held : Bool} {r : Reach} {b0 : Nat} {v : Value} {d : DataW H} {p : List MemPlace}
    (hv : Value.okWide Try.prog W r b0 24 v) (h : DataW.Trod enc Try.prog W base spare held 24 v d p) : ∃ (a a' : Option Addr) (n c n' c' : Nat) (ks rs : List Int), v = .agg #[.slice a n c, .slice a' n' c'] ∧
      ks.length = n ∧ rs.length = n' ∧ n ≤ maxLen ∧ n' ≤ maxLen ∧ RdA W.heap.size W a ks ∧ RdA W.heap.size W a' rs := by
  obtain ⟨c0, c1, y0, y1, m, rfl, _, _, hy0, hy1⟩ := open_agg2 Try.underlying24 (by kernel_rfl) (by kernel_rfl) hv h
  obtain ⟨a, n, c, ks, rfl, h1, h2, h3⟩ := read_ints hy0
  obtain ⟨a', n', c', rs, rfl, h1', h2', h3'⟩ := read_ints hy1
  exact ⟨a, a', n, c, n', c', ks, rs, rfl, h1, h1', h2, h2', h3, h3'⟩

set_option maxRecDepth 100000 in
theorem open_run {H : Type} {enc : TypeId × Value → H} {W : World} {base : Nat} {spare : Nat → Bool} {held : Bool} {r : Reach} {b0 : Nat} {v : Value} {d : DataW H} {p : List MemPlace}
    (hv : Value.okWide Try.prog W r b0 32 v) (h : DataW.Trod enc Try.prog W base spare held 32 v d p) : ∃ (x : Int) (a : Option Addr) (n c : Nat) (ss : List Int), v = .agg #[.int .i64 x, .slice a n c] ∧
      ss.length = n ∧ n ≤ maxLen ∧ RdA W.heap.size W a ss ∧ (Lit.int .i64 x).wf = true := by
  obtain ⟨c0, c1, y0, y1, m, rfl, _, _, hy0, hy1⟩ := open_agg2 Try.underlying32 (by kernel_rfl) (by kernel_rfl) hv h
  obtain ⟨x, e0, _, hwf⟩ := DataW.trod_int Try.underlying3 hy0
  simp at e0
  subst e0
  obtain ⟨a, n, c, ss, rfl, h1, h2, h3⟩ := read_ints hy1
  exact ⟨x, a, n, c, ss, rfl, h1, h2, h3, hwf⟩

end Go.Proofs.Ytoaccnpkobbaaaa
