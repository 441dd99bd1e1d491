/- Contracts: yards and runs that came in, counted and copied, in the laws. -/
import Derived.Test.YtoaccnpkobbaaaaDoorYLa
namespace Go.Proofs.YtoaccnpkobbaaaaDoor
open Go.ChangeShapes Go.WideShapes Go.ChangeAt Go.RowKit

set_option linter.unusedVariables false

theorem szYard_fit (a a' : Option Addr) (n c n' c' : Nat) (left : Int) (h0 : 0 ≤ left) (h1 : left ≤ 1048576) (hf : (n : Int) + n' ≤ left) (w : World) :
    Calls Tryd.prog 5 #[.agg #[.slice a n c, .slice a' n' c'], .int .i64 left] w fun e w' => e = .returned (.int .i64 (left - n - n')) ∧ Below w.heap.size w w' := by
  have i1 : (n : Int) ≤ left := by omega
  have i2 : (n' : Int) ≤ left - n := by omega
  have i3 : ¬ left - (n : Int) < 0 := by omega
  have i4 : ¬ left - (n : Int) - n' < 0 := by omega
  go_enter Tryd.func5, Tryd.ntmps5
  go_wp2_with fail
  refine (szIntS_any _ _ _ _ h0 h1 (by omega) _).mono ?_
  rintro e w' ⟨rfl, rfl⟩
  rw [if_pos i1]
  go_wp2_with fail
  refine (szIntS_any _ _ _ _ (by omega) (by omega) (by omega) _).mono ?_
  rintro e w' ⟨rfl, rfl⟩
  rw [if_pos i2]
  go_wp2_with fail
  go_ret
  exact ⟨rfl, by go_grown⟩

theorem szYard_no (a a' : Option Addr) (n c n' c' : Nat) (left : Int) (h0 : 0 ≤ left) (h1 : left ≤ 1048576) (hn : n ≤ 9223372036854775807) (hn' : n' ≤ 9223372036854775807) (hf : ¬ (n : Int) + n' ≤ left) (w : World) :
    Calls Tryd.prog 5 #[.agg #[.slice a n c, .slice a' n' c'], .int .i64 left] w fun e w' => e = .returned (.int .i64 (-1)) ∧ Below w.heap.size w w' := by
  by_cases i1 : (n : Int) ≤ left
  · have i2 : ¬ (n' : Int) ≤ left - n := by omega
    have i3 : ¬ left - (n : Int) < 0 := by omega
    go_enter Tryd.func5, Tryd.ntmps5
    go_wp2_with fail
    refine (szIntS_any _ _ _ _ h0 h1 (by omega) _).mono ?_
    rintro e w' ⟨rfl, rfl⟩
    rw [if_pos i1]
    go_wp2_with fail
    refine (szIntS_any _ _ _ _ (by omega) (by omega) (by omega) _).mono ?_
    rintro e w' ⟨rfl, rfl⟩
    rw [if_neg (by omega)]
    go_wp2_with fail
    go_ret
    exact ⟨rfl, by go_grown⟩
  · go_enter Tryd.func5, Tryd.ntmps5
    go_wp2_with fail
    refine (szIntS_any _ _ _ _ h0 h1 (by omega) _).mono ?_
    rintro e w' ⟨rfl, rfl⟩
    rw [if_neg (by omega)]
    go_wp2_with fail
    go_ret
    exact ⟨rfl, by go_grown⟩

set_option maxRecDepth 100000 in
set_option maxHeartbeats 1600000 in
theorem toYard_any (a a' : Option Addr) (n c n' c' : Nat) (ks rs : List Int) (hn : ks.length = n) (hn' : rs.length = n') (hb : n ≤ 2000000) (hb' : n' ≤ 2000000) (w : World) (N : Nat) (hN : N ≤ w.heap.size) (h : RdA N w a ks) (h' : RdA N w a' rs) :
    Calls Tryd.prog 7 #[.agg #[.slice a n c, .slice a' n' c']] w fun e w' => ∃ g h, e = .returned (.agg #[.slice (some ⟨g, 0, none⟩) n n, .slice (some ⟨h, 0, none⟩) n' n']) ∧ w.heap.size ≤ g ∧ g < h ∧ RL w' g n ks ∧ RL w' h n' rs ∧ Below w.heap.size w w' := by
  have HN := Lib.hid hn
  have HN' := Lib.hid hn'
  have H1 := Lib.hid h
  have H2 := Lib.hid h'
  clear hn hn' h h'
  go_enter Tryd.func7, Tryd.ntmps7
  go_wp2_with fail
  refine (toIntS_any a n c ks HN.out hb _ N (by go_size) (H1.out.below hN (by go_grown))).mono ?_
  rintro e w1 ⟨rfl, r1, h1⟩
  have hB : Below w.heap.size w w1 := ba (by go_grown) h1
  obtain ⟨hc1, hf1⟩ := bcell h1
  have HR1 := Lib.hid r1
  have hq := r1.lt
  simp at hq
  have z0 : w.heap.size < w1.heap.size := by omega
  have z1 : w.heap.size + 1 < w1.heap.size := by omega
  have z2 : w.heap.size + 1 + 1 < w1.heap.size := by omega
  clear h1 r1
  go_wp2_with fail
  refine (toIntS_any a' n' c' rs HN'.out hb' _ N (by simp; omega) (H2.out.below hN (hB.setCell (by simp; omega) _))).mono ?_
  rintro e w2 ⟨rfl, r2, h2⟩
  have hB2 : Below w.heap.size w w2 := (hB.setCell (by simp; omega) _).trans (h2.mono (by simp; omega))
  obtain ⟨hc2, hf2⟩ := bcell h2
  have HR2 := Lib.hid r2
  have HR3 := Lib.hid ((HR1.out.other (a := ⟨w.heap.size + 1 + 1, 0, none⟩) (by simp) _).keep h2)
  have hq2 := r2.lt
  simp at hq2
  have y0 : w.heap.size < w2.heap.size := by omega
  have y1 : w.heap.size + 1 < w2.heap.size := by omega
  have y2 : w.heap.size + 1 + 1 < w2.heap.size := by omega
  clear h2 r2 HR1
  go_wp2_with fail
  refine bodyPost_ret (by simp [results, Tryd.results7, go_sem, *]; try rfl) rfl ?_
  have R3 : RL w2 (w.heap.size + 1 + 1 + 1) n ks := by simpa using HR3.out
  have R2 : RL w2 w1.heap.size n' rs := by simpa using HR2.out
  refine ⟨w.heap.size + 1 + 1 + 1, w1.heap.size, rfl, by omega, by omega, ?_, ?_, ?_⟩
  · exact ((R3.other (by simp <;> omega) _).other (by simp <;> omega) _).other (by simp <;> omega) _
  · exact ((R2.other (by simp <;> omega) _).other (by simp <;> omega) _).other (by simp <;> omega) _
  · exact ((hB2.setCell (by simp <;> omega) _).setCell (by simp <;> omega) _).setCell (by simp <;> omega) _

end Go.Proofs.YtoaccnpkobbaaaaDoor
