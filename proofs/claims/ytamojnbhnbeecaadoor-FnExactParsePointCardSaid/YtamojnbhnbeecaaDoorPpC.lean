/- Contract: ParsePoint of the program, its ways together. -/
import Derived.Test.YtamojnbhnbeecaaDoorPpB
namespace Go.Proofs.YtamojnbhnbeecaaDoor
open Go.ChangeShapes Go.WideShapes Go.ChangeAt Go.RowKit

theorem imParsePoint {s : ByteArray} {w : World} {tp1 tp2 : TypeId} {p1 p2 : Value} {m : Int} (hs : s.size ≤ 1048576) (hm : w.cell? ⟨3, 0, none⟩ = some (.int .i64 m))
    (hv1 : w.var? Tryd.prog "strconv.ErrSyntax" = some #[.iface tp1 p1]) (hv2 : w.var? Tryd.prog "strconv.ErrRange" = some #[.iface tp2 p2]) (ht : Lib.TabIs Tryd.prog w "internal/strconv.uint64pow10" .u64 Lib.pow10Tab) :
    Calls Tryd.prog 9 #[.string s] w fun e w' => e = .returned (.tuple #[.agg #[.int .i64 (q0 (ppP s)), .int .i64 (q1 (ppP s)), .int .i64 (q2 (ppP s)), .int .i64 (q3 (ppP s))], .bool (ppP s).isSome]) ∧ Below w.heap.size w w' := by
  have hlt : 3 < w.heap.size := World.block_lt_of_cell? _ _ hm
  have hM : ∀ W, Below w.heap.size w W → W.cell? ⟨3, 0, none⟩ = some (.int .i64 m) := fun W hW => by rw [hW.cell (p := ⟨3, 0, none⟩) hlt]; exact hm
  by_cases h4 : (pcs s).length = 4
  · obtain ⟨x0, x1, x2, x3, hx⟩ : ∃ x0 x1 x2 x3, pcs s = [x0, x1, x2, x3] := by
      match hp : pcs s, h4 with
      | [x0, x1, x2, x3], _ => exact ⟨x0, x1, x2, x3, rfl⟩
    by_cases o0 : ∃ v, Lib.atoiAll x0 = .ok v
    · obtain ⟨v0, o0⟩ := o0
      by_cases o1 : ∃ v, Lib.atoiAll x1 = .ok v
      · obtain ⟨v1, o1⟩ := o1
        by_cases o2 : ∃ v, Lib.atoiAll x2 = .ok v
        · obtain ⟨v2, o2⟩ := o2
          by_cases o3 : ∃ v, Lib.atoiAll x3 = .ok v
          · obtain ⟨v3, o3⟩ := o3
            cases hg : goodB v0 v1 v2 v3
            · exact imPP_4 hs hM x0 x1 x2 x3 hx v0 v1 v2 v3 o0 o1 o2 o3 ht hg
            · by_cases hj : ptJ v0 v1 v2 v3 = s
              · exact imPP_6 hs hM x0 x1 x2 x3 hx v0 v1 v2 v3 o0 o1 o2 o3 ht hg hj
              · exact imPP_5 hs hM x0 x1 x2 x3 hx v0 v1 v2 v3 o0 o1 o2 o3 ht hg hj
          · exact imPP_3 hs hM x0 x1 x2 x3 hx v0 v1 v2 o0 o1 o2 hv1 hv2 (fun v h => o3 ⟨v, h⟩)
        · exact imPP_2 hs hM x0 x1 x2 x3 hx v0 v1 o0 o1 hv1 hv2 (fun v h => o2 ⟨v, h⟩)
      · exact imPP_1 hs hM x0 x1 x2 x3 hx v0 o0 hv1 hv2 (fun v h => o1 ⟨v, h⟩)
    · exact imPP_0 hs hM x0 x1 x2 x3 hx hv1 hv2 (fun v h => o0 ⟨v, h⟩)
  · exact imPP_len hs hM h4

end Go.Proofs.YtamojnbhnbeecaaDoor
