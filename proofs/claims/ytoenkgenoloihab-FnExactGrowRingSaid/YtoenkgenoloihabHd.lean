/- The headings of a track, as the law of lists of numbers asks for them. -/
import Derived.Test.YtoenkgenoloihabJt
import Derived.Test.YtoenkgenoloihabIs2
namespace Go.Proofs.Ytoenkgenoloihab
open Go.ChangeShapes Go.WideShapes Go.ChangeAt Go.RowKit

theorem own_capN {W : World} {B n g cap size : Nat} {e : TypeId} {xs : List Value} (h : W.ownsRow B e size (.slice (some ⟨g, 0, none⟩) n cap) n xs) : n ≤ cap ∧ cap ≤ maxLen := by
  rcases h.2 with ⟨h, _⟩ | ⟨g', cap', cur, h, _, _, h1, h2, _⟩
  · cases h
  · injection h with _ _ h3
    subst h3
    exact ⟨h1, h2⟩

def hdNums (s : ByteArray) : List Int := (lays sp0 s.data.toList).map (·.h)

theorem hdNums_cells (s : ByteArray) : hdCells (lays sp0 s.data.toList) = (hdNums s).map (Value.int .i64) := by simp [hdCells, hdNums]

theorem HeadingsOf_len (s : ByteArray) : (hdNums s).length = s.size + 1 := by simp [hdNums, lays_lenA]

theorem HeadingsOf_bd (s : ByteArray) (ht : tkB s = true) : s.size + 1 ≤ 1000000 := by have := tkB_size ht; omega

theorem hd_num {s : ByteArray} {w : World} {e : Ending} {w' : World} (h : HdPost s okT w e w') : NumPost (hdNums s) (s.size + 1) w e w' := by
  obtain ⟨g, cap, h1, h2, h3⟩ := h
  rw [hdNums_cells] at h2
  exact ⟨g, cap, h1, h2, h3⟩

theorem imHeadingsOf_num (s : ByteArray) (ht : tkB s = true) (w : World) : Calls Try.prog 29 #[.string s] w (NumPost (hdNums s) (s.size + 1) w) := (imHeadingsOf_yes s ht w).mono fun _ _ h => hd_num h

end Go.Proofs.Ytoenkgenoloihab
