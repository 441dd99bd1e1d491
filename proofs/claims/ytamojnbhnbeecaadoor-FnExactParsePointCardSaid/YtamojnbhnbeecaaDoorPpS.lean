/- Contracts: the library's Atoi and SplitN, as ParsePoint calls them. -/
import Derived.Test.YtamojnbhnbeecaaDoorPpA
import Derived.Test.YtamojnbhnbeecaaDoorNuB
import Derived.Shelf.Strconv.ErrVarAll
import Derived.Lib.SmallJoins
namespace Go.Proofs.YtamojnbhnbeecaaDoor
open Go.ChangeShapes Go.WideShapes Go.ChangeAt Go.RowKit

set_option linter.unusedVariables false

theorem atoi_ok (D : ByteArray) (hd : D.size ≤ 1048576) (v : Int) (h : Lib.atoiAll D.data.toList = .ok v) (w : World) :
    Calls Tryd.prog 20 #[.string D] w fun e w' => e = .returned (.tuple #[.int .i64 v, .nilIface]) ∧ Below w.heap.size w w' :=
  (Tryd.strconv_Atoi_ok D (by omega) v h w).mono fun e w' ⟨he, hw⟩ => ⟨he, by
    rcases hw with rfl | ⟨t, rfl⟩
    · exact Below.refl _ _
    · exact Lib.bytesWorld_below _ _ _⟩

/-- strconv.Atoi where it fails: an error that is not nil. -/
theorem atoi_no {w0 : World} {tp1 tp2 : TypeId} {p1 p2 : Value} (hv1 : w0.var? Tryd.prog "strconv.ErrSyntax" = some #[.iface tp1 p1]) (hv2 : w0.var? Tryd.prog "strconv.ErrRange" = some #[.iface tp2 p2])
    (D : ByteArray) (hd : D.size ≤ 1048576) (h : ∀ v, Lib.atoiAll D.data.toList ≠ .ok v) (w : World) (hb : Below w0.heap.size w0 w) :
    Calls Tryd.prog 20 #[.string D] w fun e w' => (∃ (n : Int) (t : TypeId) (N : Nat), e = .returned (.tuple #[.int .i64 n, .iface t (.pointer (some ⟨N, 0, none⟩))])) ∧ Below w.heap.size w w' := by
  cases hA : Lib.atoiAll D.data.toList
  · rename_i v
    exact absurd hA (h v)
  · exact (Any.strconv_Atoi_syntax_var Tryd.laysC172 D (by omega) hA tp1 p1 w (Go.Joins.var_stays (g := 0) (by kernel_rfl) hv1 hb (Nat.le_refl _))).mono fun e w' ⟨N, he, _, _, hB⟩ => ⟨⟨_, _, N, he⟩, hB⟩
  · exact (Tryd.strconv_Atoi_range_var D (by omega) hA tp2 p2 w (Go.Joins.var_stays (g := 1) (by kernel_rfl) hv2 hb (Nat.le_refl _))).mono fun e w' ⟨N, he, _, _, hB⟩ => ⟨⟨_, _, N, he⟩, hB⟩

theorem splitN_any (s : ByteArray) (hs : s.size ≤ 1048576) (m : Int) (w : World) (hm : w.cell? ⟨3, 0, none⟩ = some (.int .i64 m)) :
    Calls Tryd.prog 19 #[.string s, .string ⟨#[44]⟩, .int .i64 5] w fun e w' => ∃ g cap, e = .returned (.slice (some ⟨g, 0, none⟩) (pcs s).length cap) ∧ w.heap.size ≤ g ∧ g < w'.heap.size ∧ (∀ (j : Nat) x, (pcs s)[j]? = some x → w'.cell? ⟨g, j, none⟩ = some (.string (ofL x))) ∧ Below w.heap.size w w' := by
  refine (Tryd.strings_SplitN s ⟨#[44]⟩ 5 m w (by omega) hm (by decide) (by decide) (by decide)).mono ?_
  rintro e w' ⟨rfl, rfl⟩
  have hd : (Lib.splitB ⟨#[44]⟩ 0 (min 5 (s.size + 1) - 1) s).map (·.data.toList) = pcs s := Lib.splitB_data _ _ _ _
  refine ⟨w.heap.size, min 5 (s.size + 1), by rw [← hd, List.length_map], Nat.le_refl _, by simp, ?_, (Below.refl _ _).alloc (Nat.le_refl _) _⟩
  intro j x hx
  rw [← hd, List.getElem?_map, Option.map_eq_some_iff] at hx
  obtain ⟨D, hD, hDx⟩ := hx
  have hc := Lib.cell_of_heap (heap_alloc_new w (.cells (Lib.cellsOf (Lib.splitB ⟨#[44]⟩ 0 (min 5 (s.size + 1) - 1) s) (min 5 (s.size + 1))) 9)) j
  rw [hc, ← hDx, ofL_self]
  obtain ⟨hj, _⟩ := List.getElem?_eq_some_iff.1 hD
  unfold Lib.cellsOf
  rw [List.getElem?_toArray, List.getElem?_append_left (by simpa using hj), List.getElem?_map, hD]
  rfl

end Go.Proofs.YtamojnbhnbeecaaDoor
