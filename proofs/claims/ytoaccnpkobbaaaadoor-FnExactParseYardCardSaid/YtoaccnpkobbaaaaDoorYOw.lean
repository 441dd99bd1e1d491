/- Contracts: a list of numbers copied, in the model and in the program. -/
import Derived.Test.YtoaccnpkobbaaaaDoorYLa
import Derived.Maps.AppendAt
import Derived.Laws.AppendOwn
namespace Go.Proofs.YtoaccnpkobbaaaaDoor
open Go.ChangeShapes Go.WideShapes Go.ChangeAt Go.RowKit

set_option linter.unusedVariables false

theorem info_of {P : Program} {t : TypeId} {z : Value} {s b : Nat} (h : (P.info? t).map (fun i => (i.zero, i.size, i.bytes)) = some (some z, s, b)) : ∃ i, P.info? t = some i ∧ i.zero = some z ∧ i.size = s ∧ i.bytes = b := by
  obtain ⟨i, h1, h2⟩ := Option.map_eq_some_iff.1 h
  simp only [Prod.mk.injEq] at h2
  exact ⟨i, h1, h2.1, h2.2.1, h2.2.2⟩

theorem own_RL {w : World} {base n : Nat} {v : Value} {xs : List Int} (h : w.ownsRow base 3 1 v n (xs.map (Value.int .i64))) (hn : xs.length = n) (hv : v ≠ .slice none 0 0) :
    ∃ g c, v = .slice (some ⟨g, 0, none⟩) n c ∧ base ≤ g ∧ RL w g n xs := by
  rcases h.2 with ⟨h1, _⟩ | ⟨g, cap, cur, rfl, hb, hg, hnc, _, hcs, ht⟩
  · exact absurd h1 hv
  refine ⟨g, cap, rfl, hb, (Array.getElem?_eq_some_iff.1 hg).1, fun j hj => ⟨?_, by simp [World.frozen?, hg]⟩⟩
  have hx : xs[j]? = some (xs.getD j 0) := by rw [List.getElem?_eq_getElem (by omega)]; simp [List.getD, List.getElem?_eq_getElem (show j < xs.length by omega)]
  have h2 : (cur.toList.take (n * 1))[j]? = some (.int .i64 (xs.getD j 0)) := by rw [ht, List.getElem?_map, hx]; rfl
  rw [List.getElem?_take, if_pos (by omega)] at h2
  have h3 : cur[j]? = some (.int .i64 (xs.getD j 0)) := by simpa using h2
  simp [World.cell?, hg, h3]

theorem own_start (w : World) : (w.alloc (.cells #[] 3)).ownsRow w.heap.size 3 1 (.slice (some ⟨w.heap.size, 0, none⟩) 0 0) 0 [] :=
  ⟨rfl, Or.inr ⟨w.heap.size, 0, #[], rfl, Nat.le_refl _, heap_alloc_new _ _, Nat.le_refl _, Nat.zero_le _, rfl, rfl⟩⟩

theorem news_RL {w : World} {p n : Nat} {xs : List Int} (hn : xs.length = n) (h : RL w p n xs) : ∀ j u, (xs.map (Value.int .i64))[j]? = some u → w.cell? ((⟨p, 0, none⟩ : Addr).add j) = some u := by
  intro j u hj
  rw [List.getElem?_map] at hj
  obtain ⟨x, hx, rfl⟩ := Option.map_eq_some_iff.1 hj
  have := h.get (by rw [← hn]; exact (List.getElem?_eq_some_iff.1 hx).1) hx
  have ha : ((⟨p, 0, none⟩ : Addr).add j) = ⟨p, j, none⟩ := by by_cases e : j = 0 <;> simp [Addr.add, e]
  rw [ha]; exact this

theorem one_int (xs : List Int) : ∀ u ∈ xs.map (Value.int .i64), u.oneCell' = true := by
  intro u hu
  obtain ⟨x, _, rfl⟩ := List.mem_map.1 hu
  rfl

def OwnPost (n : Nat) (xs : List Int) (w : World) (e : Ending) (w' : World) : Prop :=
  ∃ g c, e = .returned (.slice (some ⟨g, 0, none⟩) n c) ∧ w.heap.size ≤ g ∧ RL w' g n xs ∧ Below w.heap.size w w'

end Go.Proofs.YtoaccnpkobbaaaaDoor
