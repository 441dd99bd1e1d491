/- For every input the law FnExactGrowRing returns true, and its arguments read afterwards as they read before. Conditions: none. -/
import Derived.Test.YtoenkgenoloihabKit
import Derived.Test.YtoenkgenoloihabGr
import Derived.Lib.Hide
import Derived.ChangeMaps5
namespace Go.Proofs.Ytoenkgenoloihab.lGrowRing
open Go.ChangeShapes Go.WideShapes Go.ChangeAt Go.RowKit Go.Joins Go.ChangeMaps

set_option maxRecDepth 100000 in
set_option maxHeartbeats 800000 in
theorem walk0 (s : ByteArray) (h : Int) (hs : s.size ≤ 1048576) (R0 : ByteArray) (R1 : Bool) (w : World)
    (c1 : ∀ w, Calls Try.prog 11 #[.string s, .int .i64 h] w fun e w' => e = .returned (.tuple #[.string R0, .bool R1]) ∧ Below w.heap.size w w')
    (c2 : ∀ w, Calls Try.prog 12 #[.string s, .int .i64 h] w fun e w' => e = .returned (.tuple #[.string R0, .bool R1]) ∧ Below w.heap.size w w') :
    Calls Try.prog 4 #[.string s, .int .i64 h] w fun e w' => e = .returned (.bool true) ∧ Below w.heap.size w w' := by
  have C1 := Lib.hid c1
  have C2 := Lib.hid c2
  clear c1 c2
  go_enter Try.func4, Try.ntmps4
  go_wp2_with fail
  (go_at_call 11; (with_reducible refine (C1.out _).mono ?_); rintro e wB ⟨rfl, h1⟩; (try with_reducible replace h1 := undrew h1); have hB : Below w.heap.size w wB := ba (by go_grown) h1; obtain ⟨hcwB, hfwB⟩ := bcell h1; have hqwB := h1.size; (try simp at hqwB); )
  go_wp2_with fail
  (go_at_call 12; (with_reducible refine (C2.out _).mono ?_); rintro e wD ⟨rfl, h1⟩; (try with_reducible replace h1 := undrew h1); have hB : Below w.heap.size w wD := ba (by go_grown) h1; obtain ⟨hcwD, hfwD⟩ := bcell h1; have hqwD := h1.size; (try simp at hqwD); (try have hz0wD : wB.heap.size < wD.heap.size := (by omega)); (try have he0wD : wB.heap.size ≤ wD.heap.size := (by omega)))
  go_wp2_with fail
  all_goals go_returns
  all_goals exact ⟨rfl, by go_grown⟩

end Go.Proofs.Ytoenkgenoloihab.lGrowRing
