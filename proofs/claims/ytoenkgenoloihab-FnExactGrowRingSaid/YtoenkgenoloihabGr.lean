/- Contracts: rings that grow. -/
import Derived.Test.YtoenkgenoloihabRi
import Derived.Test.YtoenkgenoloihabHd
import Derived.Test.YtoenkgenoloihabRn
import Derived.Test.YtoenkgenoloihabJoJ
import Derived.Test.YtoenkgenoloihabShelf
import Derived.Deep.QuietTactic
import Derived.BigQuiet
import Derived.Deep.RegionHeld3
namespace Go.Proofs.Ytoenkgenoloihab
open Go.ChangeShapes Go.WideShapes Go.ChangeAt Go.RowKit

set_option linter.unusedVariables false

theorem turnG (h k : Int) (h0 : 0 ≤ h) (h7 : h ≤ 7) (k0 : 0 ≤ k) (k7 : k ≤ 7) (w : World) :
    Calls Try.prog 31 #[.int .i64 h, .int .i64 k] w fun e w' => e = .returned (.int .i64 ((h + k) % 8)) ∧ w = w' := by
  have hm : (h + k + 8) % 8 = (h + k) % 8 := by omega
  have HM := Lib.hid hm
  clear hm
  go_enter Try.func31, Try.ntmps31
  go_wp2
  go_ret
  exact ⟨by first | rfl | (rw [← HM.out]; rfl) | (simp; omega), rfl⟩

theorem joined_five (bk : Nat) (a b c d e : ByteArray) (w : World) (ha : a.size ≤ 1048576) (hb : b.size ≤ 1048576) (hc : c.size ≤ 1048576) (hd : d.size ≤ 1048576) (he : e.size ≤ 1048576) (hbk : bk < w.heap.size)
    (h0 : w.cell? ⟨bk, 0, none⟩ = some (.string a)) (h1 : w.cell? ⟨bk, 1, none⟩ = some (.string b)) (h2 : w.cell? ⟨bk, 2, none⟩ = some (.string c)) (h3 : w.cell? ⟨bk, 3, none⟩ = some (.string d)) (h4 : w.cell? ⟨bk, 4, none⟩ = some (.string e)) :
    Calls Try.prog 32 #[.slice (some ⟨bk, 0, none⟩) 5 5] w fun x w' => x = .returned (.tuple #[.string (joS [a, b, c, d, e]), .bool (joB [a, b, c, d, e])]) ∧ Below w.heap.size w w' :=
  joined_any bk 0 5 5 [a, b, c, d, e] w rfl (by omega) (by intro x hx; simp at hx; rcases hx with rfl | rfl | rfl | rfl | rfl <;> assumption) hbk (by
    intro j x hx
    match j, hx with
    | 0, hx => simp at hx; subst hx; exact h0
    | 1, hx => simp at hx; subst hx; exact h1
    | 2, hx => simp at hx; subst hx; exact h2
    | 3, hx => simp at hx; subst hx; exact h3
    | 4, hx => simp at hx; subst hx; exact h4)

end Go.Proofs.Ytoenkgenoloihab
