/- Contracts: the ends of tracks in the model, and ends compared. -/
import Derived.Test.YtppbbcckijcckaaLy
import Derived.Test.YtppbbcckijcckaaEn
namespace Go.Proofs.Ytppbbcckijcckaa
open Go.ChangeShapes Go.WideShapes Go.ChangeAt Go.RowKit

theorem own_pt {W : World} {B n g cap i : Nat} {e : TypeId} {l : List Sp} {s : Sp} (h : W.ownsRow B e 4 (.slice (some ⟨g, 0, none⟩) n cap) n (ptCells l)) (hn : l.length = n) (hs : l[i]? = some s) :
    W.cell? ⟨g, i * 4, none⟩ = some (.int .i64 s.x0) ∧ W.cell? ⟨g, i * 4 + 1, none⟩ = some (.int .i64 s.x1) ∧ W.cell? ⟨g, i * 4 + 2, none⟩ = some (.int .i64 s.x2) ∧ W.cell? ⟨g, i * 4 + 3, none⟩ = some (.int .i64 s.x3) := by
  have hi : i < n := by rw [← hn]; exact (List.getElem?_eq_some_iff.1 hs).1
  have a := fun j (hj : j < 4) => (h.cellAt (i * 4 + j) (by omega)).trans ((by rw [Nat.mul_comm]) : _ = (ptCells l)[4 * i + j]?) |>.trans (ptCells_at l hs j hj)
  exact ⟨a 0 (by omega), a 1 (by omega), a 2 (by omega), a 3 (by omega)⟩

theorem own_hd {W : World} {B n g cap i : Nat} {e : TypeId} {l : List Sp} {s : Sp} (h : W.ownsRow B e 1 (.slice (some ⟨g, 0, none⟩) n cap) n (hdCells l)) (hn : l.length = n) (hs : l[i]? = some s) :
    W.cell? ⟨g, i, none⟩ = some (.int .i64 s.h) := by
  have hi : i < n := by rw [← hn]; exact (List.getElem?_eq_some_iff.1 hs).1
  rw [h.cellAt i (by omega)]
  simp [hdCells, hs]

theorem lays_lenA (a : Sp) (s : ByteArray) : (lays a s.data.toList).length = s.size + 1 := by rw [lays_length, size_list]

theorem lays_atA (a : Sp) (s : ByteArray) : (lays a s.data.toList)[s.size]? = some (fin a s.data.toList) := by
  have h := lays_last a s.data.toList
  rwa [size_list] at h

set_option maxRecDepth 100000 in
set_option maxHeartbeats 800000 in
theorem tkEnd_yes (s : ByteArray) (ht : tkB s = true) (w : World) :
    Calls Try.prog 149 #[.string s] w fun e w' => e = .returned (.tuple #[.agg #[.int .i64 (enS s).x0, .int .i64 (enS s).x1, .int .i64 (enS s).x2, .int .i64 (enS s).x3], .int .i64 (enS s).h]) ∧ Below w.heap.size w w' := by
  have h40 := tkB_size ht
  have hL := lays_atA sp0 s
  have HN := Lib.hid (lays_lenA sp0 s)
  have HE := Lib.hid (enS_yes ht)
  generalize hf : fin sp0 s.data.toList = p at HE hL
  have HL := Lib.hid hL
  clear hf hL
  obtain ⟨x0, x1, x2, x3, h⟩ := p
  have hc := tkLay_any s ht sp0 (sp0_ok.mono (by decide))
  have HC := Lib.hid hc
  clear hc
  go_enter Try.func149, Try.ntmps149
  go_wp2_with fail
  refine (HC.out _).mono ?_
  rintro e w1 ⟨gj, cj, gh, ch, rfl, hJ, hH, hb1⟩
  obtain ⟨c0, c1, c2, c3⟩ := own_pt hJ HN.out HL.out
  have c4 := own_hd hH HN.out HL.out
  have HB := Lib.hid (ba (by go_grown) hb1 : Below w.heap.size w w1)
  obtain ⟨hc1, hf1⟩ := bcell hb1
  have hz := hb1.size
  simp at hz
  have hz0 : w.heap.size < w1.heap.size := by omega
  have g1 := (hJ.lt gj rfl).1
  have g2 := (hH.lt gh rfl).1
  simp at g1 g2
  have n1 : ¬ gj = w.heap.size := by omega
  have n2 : ¬ gh = w.heap.size := by omega
  have n3 : ¬ w.heap.size = gj := by omega
  have n4 : ¬ w.heap.size = gh := by omega
  clear hJ hH hb1
  go_wp2_with fail
  go_region
  all_goals
    go_wp2_with fail
    refine bodyPost_ret (by simp [results, Try.results149, go_sem, *]; try rfl) rfl ?_
    have hB := HB.out
    exact ⟨by rw [HE.out], by go_grown⟩

/-- '==' on two steps. -/
@[go_sem high] theorem eqSt (a0 a1 a2 a3 a4 b0 b1 b2 b3 b4 : Int) (w : World) : (binOp .eql 108 (.agg #[.int .i64 a0, .int .i64 a1, .int .i64 a2, .int .i64 a3, .int .i64 a4]) (.agg #[.int .i64 b0, .int .i64 b1, .int .i64 b2, .int .i64 b3, .int .i64 b4])).run Try.prog w = .ok (.bool ((a0 == b0 && (a1 == b1 && (a2 == b2 && a3 == b3))) && a4 == b4)) w := by
  have hS : Try.prog.underlying 108 = some (.struct (Try.prog.fieldsOf 108)) := by kernel_rfl
  have hp : Try.prog.stoodInHeld 108 = false := by kernel_rfl
  rw [run_eql_struct, show (10000 : Nat) = 9999 + 1 from rfl, run_equalIn_agg w 9999 108 _ _ hS hp]
  simp only [Program.fieldsOf, Try.underlying108]
  go_simp
  by_cases h0 : a0 = b0 <;> by_cases h1 : a1 = b1 <;> by_cases h2 : a2 = b2 <;> by_cases h3 : a3 = b3 <;> by_cases h4 : a4 = b4 <;> simp [h0, h1, h2, h3, h4]

end Go.Proofs.Ytppbbcckijcckaa
