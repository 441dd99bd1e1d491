/- Contract: the model's 'clEnd'. -/
import Derived.Test.YtadlkmfgjmcgeabLy
import Derived.Test.YtadlkmfgjmcgeabWdM
import Derived.Test.YtadlkmfgjmcgeabTkCt
import Derived.Test.YtadlkmfgjmcgeabCl
namespace Go.Proofs.Ytadlkmfgjmcgeab
open Go.ChangeShapes Go.WideShapes Go.ChangeAt Go.RowKit

set_option linter.unusedVariables false

def trW (l : List UInt8) : Int := (cnt 76 l : Int) - (cnt 82 l : Int)
theorem tkB_ofE {l : List UInt8} (h1 : l.all pcb = true) (h2 : l.length ≤ 40) : tkB (ofL l) = true := by
  simp only [tkB, ofL_size, Bool.and_eq_true, decide_eq_true_eq]
  exact ⟨h2, h1⟩
theorem own_ptE {W : World} {B n g cap i : Nat} {e : TypeId} {l : List Sp} {s : Sp} (h : W.ownsRow B e 4 (.slice (some ⟨g, 0, none⟩) n cap) n (ptCells l)) (hn : l.length = n) (hs : l[i]? = some s) :
    W.cell? ⟨g, i * 4, none⟩ = some (.int .i64 s.x0) ∧ W.cell? ⟨g, i * 4 + 1, none⟩ = some (.int .i64 s.x1) ∧ W.cell? ⟨g, i * 4 + 2, none⟩ = some (.int .i64 s.x2) ∧ W.cell? ⟨g, i * 4 + 3, none⟩ = some (.int .i64 s.x3) := by
  have hi : i < n := by rw [← hn]; exact (List.getElem?_eq_some_iff.1 hs).1
  have a := fun j (hj : j < 4) => (h.cellAt (i * 4 + j) (by omega)).trans ((by rw [Nat.mul_comm]) : _ = (ptCells l)[4 * i + j]?) |>.trans (ptCells_at l hs j hj)
  exact ⟨a 0 (by omega), a 1 (by omega), a 2 (by omega), a 3 (by omega)⟩

set_option maxRecDepth 100000 in
set_option maxHeartbeats 1600000 in
theorem clEnd_any (l : List UInt8) (hp : l.all pcb = true) (hl : l.length ≤ 14) (h : Int) (h0 : 0 ≤ h) (h7 : h ≤ 7) (w : World) :
    Calls Try.prog 24 #[.string (ofL l), .int .i64 h] w fun e w' =>
      e = .returned (.tuple #[.agg #[.int .i64 (fin ⟨0, 0, 0, 0, h⟩ l).x0, .int .i64 (fin ⟨0, 0, 0, 0, h⟩ l).x1, .int .i64 (fin ⟨0, 0, 0, 0, h⟩ l).x2, .int .i64 (fin ⟨0, 0, 0, 0, h⟩ l).x3], .int .i64 (trW l)]) ∧ Below w.heap.size w w' := by
  have ht := tkB_ofE hp (by omega : l.length ≤ 40)
  have P := Lib.hid (fun w => (tkLay_any (ofL l) ht ⟨0, 0, 0, 0, h⟩ (by simp [Sp.okB, h0, h7]) w : Calls Try.prog 32 #[.string (ofL l), .agg #[.int .i64 0, .int .i64 0, .int .i64 0, .int .i64 0], .int .i64 h] w (LayPost ⟨0, 0, 0, 0, h⟩ (ofL l) w)))
  have hz : (ofL l).size = l.length := ofL_size l
  have hls := lays_last ⟨0, 0, 0, 0, h⟩ l
  have hln := lays_length ⟨0, 0, 0, 0, h⟩ l
  have C1 := Lib.hid (tkCount_any (ofL l) 76 (by omega))
  have C2 := Lib.hid (tkCount_any (ofL l) 82 (by omega))
  have n1 := cnt_le 76 l
  have n2 := cnt_le 82 l
  have hd : (ofL l).data.toList = l := rfl
  rw [hd] at C1 C2
  have HTR := Lib.hid (show trW l = (cnt 76 l : Int) - (cnt 82 l : Int) from rfl)
  generalize cnt 76 l = a at *
  generalize cnt 82 l = b at *
  generalize fin ⟨0, 0, 0, 0, h⟩ l = p at hls ⊢
  obtain ⟨n, hn⟩ : ∃ n, l.length = n := ⟨_, rfl⟩
  rw [hn] at hls hln hz hl n1 n2
  have HLS := Lib.hid hls
  have HLN := Lib.hid hln
  clear hls hln hn
  have HW := Lib.hid (show IntKind.i64.wrap ((a : Int) - (b : Int)) = (a : Int) - (b : Int) by rw [IntKind.wrap_i64]; omega)
  go_enter Try.func24, Try.ntmps24
  go_wp2_with fail
  refine (P.out _).mono ?_
  rintro e w1 ⟨gj, cj, gh, ch, rfl, hJ, hH, hb1⟩
  rw [hz] at hJ ⊢
  have hgj := (hJ.lt gj rfl).1
  have hgj2 := (hJ.lt gj rfl).2
  simp at hgj
  obtain ⟨c0, c1, c2, c3⟩ := own_ptE hJ HLN.out HLS.out
  have HB := Lib.hid (ba (by go_grown) hb1 : Below w.heap.size w w1)
  have f0 : w1.frozen? ⟨w.heap.size, 0, none⟩ = false := by rw [hb1.frozen (p := ⟨w.heap.size, 0, none⟩) (by simp)]; go_simp
  have f1 : w1.frozen? ⟨w.heap.size, 1, none⟩ = false := by rw [hb1.frozen (p := ⟨w.heap.size, 1, none⟩) (by simp)]; go_simp
  have f2 : w1.frozen? ⟨w.heap.size, 2, none⟩ = false := by rw [hb1.frozen (p := ⟨w.heap.size, 2, none⟩) (by simp)]; go_simp
  have f3 : w1.frozen? ⟨w.heap.size, 3, none⟩ = false := by rw [hb1.frozen (p := ⟨w.heap.size, 3, none⟩) (by simp)]; go_simp
  have e0 : w1.cell? ⟨w.heap.size, 0, none⟩ = some (.int .i64 0) := by rw [hb1.cell (p := ⟨w.heap.size, 0, none⟩) (by simp)]; go_simp
  have e1 : w1.cell? ⟨w.heap.size, 1, none⟩ = some (.int .i64 0) := by rw [hb1.cell (p := ⟨w.heap.size, 1, none⟩) (by simp)]; go_simp
  have e2 : w1.cell? ⟨w.heap.size, 2, none⟩ = some (.int .i64 0) := by rw [hb1.cell (p := ⟨w.heap.size, 2, none⟩) (by simp)]; go_simp
  have e3 : w1.cell? ⟨w.heap.size, 3, none⟩ = some (.int .i64 0) := by rw [hb1.cell (p := ⟨w.heap.size, 3, none⟩) (by simp)]; go_simp
  have i1 : (0 : Int) ≤ (n : Int) := by omega
  have i2 : (n : Int) < ((n + 1 : Nat) : Int) := by omega
  have ne1 : ¬ gj = w.heap.size := by omega
  have ne2 : ¬ w.heap.size = gj := by omega
  have hz1 : w.heap.size < w1.heap.size := by have := hb1.size; simp at this; omega
  clear hJ hH hb1
  go_wp2_with fail
  go_region_with (first | (go_at_call 38; first | ((with_reducible refine (C1.out _).mono ?_); rintro e w' ⟨rfl, rfl⟩) | ((with_reducible refine (C2.out _).mono ?_); rintro e w' ⟨rfl, rfl⟩)))
  all_goals
    go_wp2_with fail
    refine bodyPost_ret (by simp [results, Try.results24, go_sem, *]; try rfl) rfl ?_
    have hB := HB.out
    exact ⟨by simp only [HTR.out, HW.out], by go_grown⟩

end Go.Proofs.Ytadlkmfgjmcgeab
