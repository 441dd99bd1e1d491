/- Contracts: a step of a run, in the model. -/
import Derived.Test.YtoaccnpkobbaaaaYEs
namespace Go.Proofs.Ytoaccnpkobbaaaa
open Go.ChangeShapes Go.WideShapes Go.ChangeAt Go.RowKit
open Yd

set_option linter.unusedVariables false

/-- A run in a row of its own, and that it is one. -/
def RbPost (a l : Nat) (ss : List Int) (w : World) (e : Ending) (w' : World) : Prop :=
  ∃ g c, e = .returned (.tuple #[.agg #[.int .i64 (a:Nat), .slice (some ⟨g, 0, none⟩) l c], .bool true]) ∧ w.heap.size ≤ g ∧ RL w' g l ss ∧ Below w.heap.size w w'

/-- No run. -/
def RzPost (w : World) (e : Ending) (w' : World) : Prop :=
  e = .returned (.tuple #[.agg #[.int .i64 0, .slice none 0 0], .bool false]) ∧ Below w.heap.size w w'

set_option maxRecDepth 100000 in
set_option maxHeartbeats 1600000 in
theorem spStep_no (x : Int) (g c h d p q n m l : Nat) (ks rs ss : List Int) (hn : ks.length = n) (hm : rs.length = m) (hl : ss.length = l) (hb : n ≤ 2000000) (hb' : m ≤ 2000000) (hb2 : l ≤ 2000000) (hno : rnB ks rs x ss = false) (w : World) (h1 : RL w g n ks) (h2 : RL w h m rs) (h3 : RL w p l ss) :
    Calls Try.prog 26 #[.agg #[.slice (some ⟨g, 0, none⟩) n c, .slice (some ⟨h, 0, none⟩) m d], .agg #[.int .i64 x, .slice (some ⟨p, 0, none⟩) l q]] w (RzPost w) := by
  have R := Lib.hid (fun w' (hw : Below w.heap.size w w') => ydRun_any x g c h d p q n m l ks rs ss hn hm hl hb hb' hb2 w' (h1.keep hw) (h2.keep hw) (h3.keep hw))
  have HS := Lib.hid hno
  clear hn hm hl h1 h2 h3 hno
  go_enter Try.func26, Try.ntmps26
  go_wp2_with fail
  refine (R.out _ (by go_grown)).mono ?_
  rintro e w1 ⟨rfl, k1⟩
  rw [HS.out]
  have hB : Below w.heap.size w w1 := ba (by go_grown) k1
  have hs1 := k1.size
  simp at hs1
  have c0 := cl_below (b := w.heap.size + 1 + 1) (o := 0) (v := .int .i64 0) (by simp [go_sem]) (by simp <;> omega) k1
  have c1 := cl_below (b := w.heap.size + 1 + 1) (o := 1) (v := .slice none 0 0) (by simp [go_sem]) (by simp <;> omega) k1
  have f0 := k1.frozen (p := ⟨w.heap.size + 1 + 1, 0, none⟩) (by simp <;> omega)
  have f1 := k1.frozen (p := ⟨w.heap.size + 1 + 1, 1, none⟩) (by simp <;> omega)
  simp [go_sem] at f0 f1
  clear k1
  go_wp2_with fail
  refine bodyPost_ret (by simp [results, Try.results26, go_sem, *]; try rfl) rfl ?_
  exact ⟨rfl, (hB.setCell (by simp <;> omega) _).setCell (by simp <;> omega) _⟩

set_option maxRecDepth 100000 in
set_option maxHeartbeats 1600000 in
theorem spStep_yes (a : Nat) (g c h d p u n m l : Nat) (ks rs ss : List Int) (hn : ks.length = n) (hm : rs.length = m) (hl : ss.length = l) (hg : YdOk ks rs) (ho : RnOk ks a ss) (w : World) (h1 : RL w g n ks) (h2 : RL w h m rs) (h3 : RL w p l ss) :
    Calls Try.prog 26 #[.agg #[.slice (some ⟨g, 0, none⟩) n c, .slice (some ⟨h, 0, none⟩) m d], .agg #[.int .i64 (a:Nat), .slice (some ⟨p, 0, none⟩) l u]] w (RbPost (stA rs a ss) l (stS ks a ss) w) := by
  have n6 : n ≤ 6 := by rw [← hn]; exact hg.n6
  have hl6 : l ≤ 6 := by rw [← hl, ho.len]; exact hg.n6
  have hnr := hg.nr
  have R := Lib.hid (fun w' (hw : Below w.heap.size w w') => ydRun_any (a : Nat) g c h d p u n m l ks rs ss hn hm hl (by omega) (by omega) (by omega) w' (h1.keep hw) (h2.keep hw) (h3.keep hw))
  have HR := Lib.hid ((run_iff ks rs _ ss).2 ⟨hg, a, rfl, ho⟩)
  have ST := Lib.hid (fun w' (hw : Below w.heap.size w w') => ydStep_any a g c h d p u n m l ks rs ss hn hm hl hg ho w' (h1.keep hw) (h2.keep hw) (h3.keep hw))
  clear hn hm hl h1 h2 h3 hg ho hnr
  go_enter Try.func26, Try.ntmps26
  go_wp2_with fail
  refine (R.out _ (by go_grown)).mono ?_
  rintro e w1 ⟨rfl, k1⟩
  rw [HR.out]
  have hB : Below w.heap.size w w1 := ba (by go_grown) k1
  have hs1 := k1.size
  simp at hs1
  have y0 := cl_below (b := w.heap.size) (o := 0) (v := .slice (some ⟨g, 0, none⟩) n c) (by simp [go_sem]) (by simp <;> omega) k1
  have y1 := cl_below (b := w.heap.size) (o := 1) (v := .slice (some ⟨h, 0, none⟩) m d) (by simp [go_sem]) (by simp <;> omega) k1
  have y2 := cl_below (b := w.heap.size + 1) (o := 0) (v := .int .i64 (a : Nat)) (by simp [go_sem]) (by simp <;> omega) k1
  have y3 := cl_below (b := w.heap.size + 1) (o := 1) (v := .slice (some ⟨p, 0, none⟩) l u) (by simp [go_sem]) (by simp <;> omega) k1
  have c0 := cl_below (b := w.heap.size + 1 + 1) (o := 0) (v := .int .i64 0) (by simp [go_sem]) (by simp <;> omega) k1
  have c1 := cl_below (b := w.heap.size + 1 + 1) (o := 1) (v := .slice none 0 0) (by simp [go_sem]) (by simp <;> omega) k1
  have f0 := k1.frozen (p := ⟨w.heap.size + 1 + 1, 0, none⟩) (by simp <;> omega)
  have f1 := k1.frozen (p := ⟨w.heap.size + 1 + 1, 1, none⟩) (by simp <;> omega)
  simp [go_sem] at f0 f1
  have z2 : w.heap.size + 1 + 1 < w1.heap.size := by omega
  clear k1
  go_wp2_with fail
  refine (ST.out w1 hB).mono ?_
  rintro e w2 ⟨g1, cc, rfl, hg1, r1, k2⟩
  have hs2 := k2.size
  have hB2 := hB.trans (k2.mono hB.size)
  have d0 := cl_below c0 z2 k2
  have d1 := cl_below c1 z2 k2
  have e0 := (k2.frozen (p := ⟨w.heap.size + 1 + 1, 0, none⟩) z2).trans f0
  have e1 := (k2.frozen (p := ⟨w.heap.size + 1 + 1, 1, none⟩) z2).trans f1
  have R1 := Lib.hid r1
  have HB := Lib.hid hB2
  clear k2 c0 c1 f0 f1 y0 y1 y2 y3 hB hB2 r1
  go_wp2_with fail
  refine bodyPost_ret (by simp [results, Try.results26, go_sem, *]; try rfl) rfl ?_
  exact ⟨g1, cc, rfl, by omega, (R1.out.other (by simp <;> omega) _).other (by simp <;> omega) _, (HB.out.setCell (by simp <;> omega) _).setCell (by simp <;> omega) _⟩

end Go.Proofs.Ytoaccnpkobbaaaa
