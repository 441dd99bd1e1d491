/- Contracts: IsLine and TrainsOn. -/
import Derived.Test.YtogimjbjdgccnaaDoorLnG
namespace Go.Proofs.YtogimjbjdgccnaaDoor
open Go.ChangeShapes Go.WideShapes Go.ChangeAt Go.RowKit
open Ln

theorem spIsLine (s : ByteArray) (hs : s.size ≤ 1048576) (w : World) :
    Calls Tryd.prog 18 #[.string s] w fun e w' => e = .returned (.bool (lnB s.data.toList)) ∧ Below w.heap.size w w' := by
  go_enter Tryd.func18, Tryd.ntmps18
  go_wp2_with (go_at_call 52; refine (tnGood_any s hs _).mono ?_; rintro e w' ⟨rfl, rfl⟩)
  go_ret
  exact ⟨rfl, Below.refl _ _⟩

def tsR (s : ByteArray) : Int := cond (lnB s.data.toList) (cnt 84 s.data.toList : Nat) 0

theorem count_any (s : ByteArray) (c : UInt8) (w : World) :
    Calls Tryd.prog 56 #[.string s, .string ⟨#[c]⟩] w fun e w' => e = .returned (.int .i64 (cnt c s.data.toList : Nat)) ∧ w = w' :=
  (Tryd.strings_Count_one s c w).mono fun _ _ h => ⟨h.1, h.2.symm⟩

theorem spTrainsOn (s : ByteArray) (hs : s.size ≤ 1048576) (w : World) :
    Calls Tryd.prog 20 #[.string s] w fun e w' => e = .returned (.tuple #[.int .i64 (tsR s), .bool (lnB s.data.toList)]) ∧ Below w.heap.size w w' := by
  have TG := tnGood_any s hs
  cases hb : lnB s.data.toList
  · rw [hb] at TG
    go_enter Tryd.func20, Tryd.ntmps20
    go_wp2_with (go_at_call 52; refine (TG _).mono ?_; rintro e w' ⟨rfl, rfl⟩)
    go_ret2
    exact ⟨by rw [tsR, hb]; rfl, Below.refl _ _⟩
  · rw [hb] at TG
    have hl := (lnB_iff _).1 hb
    have hr : tsR s = (cnt 84 s.data.toList : Nat) := by rw [tsR, hb]; rfl
    have TT := tnTrains_any s hl
    have HR := Lib.hid hr
    clear hb hl hr
    go_enter Tryd.func20, Tryd.ntmps20
    go_wp2_with (first | (go_at_call 52; refine (TG _).mono ?_; rintro e w' ⟨rfl, rfl⟩) | (go_at_call 55; refine (TT _).mono ?_; rintro e w' ⟨rfl, rfl⟩))
    go_ret2
    exact ⟨by rw [HR.out]; rfl, Below.refl _ _⟩

theorem imTrainsOn (s : ByteArray) (hs : s.size ≤ 1048576) (w : World) :
    Calls Tryd.prog 21 #[.string s] w fun e w' => e = .returned (.tuple #[.int .i64 (tsR s), .bool (lnB s.data.toList)]) ∧ Below w.heap.size w w' := by
  have IL := imIsLine s hs
  cases hb : lnB s.data.toList
  · rw [hb] at IL
    go_enter Tryd.func21, Tryd.ntmps21
    go_wp2_with fail
    refine (IL _).mono ?_
    rintro e w1 ⟨rfl, h1⟩
    have H1 := Lib.hid h1
    clear h1
    go_wp2_with fail
    go_ret2
    exact ⟨by rw [tsR, hb]; rfl, H1.out⟩
  · rw [hb] at IL
    have hr : tsR s = (cnt 84 s.data.toList : Nat) := by rw [tsR, hb]; rfl
    have HR := Lib.hid hr
    clear hb hr
    go_enter Tryd.func21, Tryd.ntmps21
    go_wp2_with fail
    refine (IL _).mono ?_
    rintro e w1 ⟨rfl, h1⟩
    have H1 := Lib.hid h1
    clear h1
    go_wp2_with (go_at_call 56; refine (count_any s _ _).mono ?_; rintro e w' ⟨rfl, rfl⟩)
    go_ret2
    exact ⟨by rw [HR.out]; rfl, H1.out⟩

end Go.Proofs.YtogimjbjdgccnaaDoor
