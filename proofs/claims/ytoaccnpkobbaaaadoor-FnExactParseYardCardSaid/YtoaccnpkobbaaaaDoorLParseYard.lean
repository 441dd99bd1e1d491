/- For every input the law FnExactParseYard returns true, and its arguments read afterwards as they read before. Condition, tied by the card to the text of the program: the listed variables of the library of Go (the two errors of strconv among them) read as their text lays them. -/
import Derived.Test.YtoaccnpkobbaaaaDoorKit
import Derived.Test.YtoaccnpkobbaaaaDoorYRz
import Derived.Test.YtoaccnpkobbaaaaDoorYpB
import Derived.Test.YtoaccnpkobbaaaaDoorLaE
import Derived.Test.YtoaccnpkobbaaaaDoorShL
import Derived.Test.YtoaccnpkobbaaaaDoorCl
import Derived.Lib.Hide
import Derived.ChangeMaps5
import Derived.Test.YtoaccnpkobbaaaaDoorTie
import Derived.Test.YtoaccnpkobbaaaaDoorCards
import Derived.OpenShut
import Derived.LaidMore
import Derived.Lay
import Derived.SevenTiedAt
import Derived.Stop.Joined
namespace Go.Proofs.YtoaccnpkobbaaaaDoor.lParseYard
open Go.ChangeShapes Go.WideShapes Go.ChangeAt Go.RowKit Go.Joins Go.ChangeMaps Yd

set_option linter.unusedVariables false

set_option maxRecDepth 100000 in
set_option maxHeartbeats 6400000 in
theorem walk_no (s : ByteArray) (hs : s.size ≤ 1048576) (w : World)
    (c1 : ∀ (w' : World), Calls Tryd.prog 10 #[.string s] w' (YpPost none w'))
    (c2 : ∀ (w' : World), Below w.heap.size w w' → Calls Tryd.prog 11 #[.string s] w' (YpPost none w')) :
    Calls Tryd.prog 4 #[.string s] w fun e w' => e = .returned (.bool true) ∧ Below w.heap.size w w' := by
  have i0 : ¬ (s.size : Int) > 1048576 := by omega
  unfold YpPost at c1 c2
  have SPC := Lib.hid c1
  have IMC := Lib.hid c2
  clear c1 c2
  go_enter Tryd.func4, Tryd.ntmps4
  have B0 := Lib.hid (Below.refl w.heap.size w)
  go_wp2_with fail
  refine (SPC.out _).mono ?_
  rintro e w1 ⟨rfl, k1⟩
  have B1 := Lib.hid (B0.out.trans ((ba (by go_grown) k1 : Below w.heap.size w w1).mono B0.out.size))
  have hs1 := k1.size
  try simp at hs1
  clear k1
  go_wp2_with fail
  refine (IMC.out _ (B1.out.trans (Below.mono (by go_grown) B1.out.size))).mono ?_
  rintro e w2 ⟨rfl, k2⟩
  have B2 := Lib.hid (B1.out.trans ((ba (by go_grown) k2 : Below w1.heap.size w1 w2).mono B1.out.size))
  have hs2 := k2.size
  try simp at hs2
  have l2_0 : w1.heap.size < w2.heap.size := by omega
  have c2_0 := cl_below (b := w1.heap.size) (o := 0) (v := .slice none 0 0) (by first | (with_reducible assumption) | (simp [go_sem, *]; done)) (by first | (with_reducible assumption) | (simp; done) | (simp <;> omega)) k2
  have c2_1 := cl_below (b := w1.heap.size) (o := 1) (v := .slice none 0 0) (by first | (with_reducible assumption) | (simp [go_sem, *]; done)) (by first | (with_reducible assumption) | (simp; done) | (simp <;> omega)) k2
  clear k2
  go_wp2_with fail
  refine (eqYard_zero _).mono ?_
  rintro e w3 ⟨rfl, k3⟩
  have B3 := Lib.hid (B2.out.trans ((ba (by go_grown) k3 : Below w2.heap.size w2 w3).mono B2.out.size))
  have hs3 := k3.size
  try simp at hs3
  have l3_0 : w1.heap.size < w3.heap.size := by omega
  have l3_1 : w2.heap.size < w3.heap.size := by omega
  have c3_0 := cl_below (b := w1.heap.size) (o := 0) (v := .slice none 0 0) (by first | (with_reducible assumption) | (simp [go_sem, *]; done)) (by first | (with_reducible assumption) | (simp; done) | (simp <;> omega)) k3
  have c3_1 := cl_below (b := w1.heap.size) (o := 1) (v := .slice none 0 0) (by first | (with_reducible assumption) | (simp [go_sem, *]; done)) (by first | (with_reducible assumption) | (simp; done) | (simp <;> omega)) k3
  have c3_2 := cl_below (b := w2.heap.size) (o := 0) (v := .slice none 0 0) (by first | (with_reducible assumption) | (simp [go_sem, *]; done)) (by first | (with_reducible assumption) | (simp; done) | (simp <;> omega)) k3
  have c3_3 := cl_below (b := w2.heap.size) (o := 1) (v := .slice none 0 0) (by first | (with_reducible assumption) | (simp [go_sem, *]; done)) (by first | (with_reducible assumption) | (simp; done) | (simp <;> omega)) k3
  clear c2_0 c2_1 k3
  go_wp2_with fail
  refine (markYard_zero _).mono ?_
  rintro e w4 ⟨rfl, k4⟩
  have B4 := Lib.hid (B3.out.trans ((ba (by go_grown) k4 : Below w3.heap.size w3 w4).mono B3.out.size))
  have hs4 := k4.size
  try simp at hs4
  have l4_0 : w1.heap.size < w4.heap.size := by omega
  have l4_1 : w2.heap.size < w4.heap.size := by omega
  have c4_0 := cl_below (b := w1.heap.size) (o := 0) (v := .slice none 0 0) (by first | (with_reducible assumption) | (simp [go_sem, *]; done)) (by first | (with_reducible assumption) | (simp; done) | (simp <;> omega)) k4
  have c4_1 := cl_below (b := w1.heap.size) (o := 1) (v := .slice none 0 0) (by first | (with_reducible assumption) | (simp [go_sem, *]; done)) (by first | (with_reducible assumption) | (simp; done) | (simp <;> omega)) k4
  have c4_2 := cl_below (b := w2.heap.size) (o := 0) (v := .slice none 0 0) (by first | (with_reducible assumption) | (simp [go_sem, *]; done)) (by first | (with_reducible assumption) | (simp; done) | (simp <;> omega)) k4
  have c4_3 := cl_below (b := w2.heap.size) (o := 1) (v := .slice none 0 0) (by first | (with_reducible assumption) | (simp [go_sem, *]; done)) (by first | (with_reducible assumption) | (simp; done) | (simp <;> omega)) k4
  clear c3_0 c3_1 c3_2 c3_3 k4
  go_wp2_with fail
  refine (heldYard_zero _).mono ?_
  rintro e w5 ⟨rfl, k5⟩
  have B5 := Lib.hid (B4.out.trans ((ba (by go_grown) k5 : Below w4.heap.size w4 w5).mono B4.out.size))
  have hs5 := k5.size
  try simp at hs5
  have l5_0 : w1.heap.size < w5.heap.size := by omega
  have l5_1 : w2.heap.size < w5.heap.size := by omega
  have c5_0 := cl_below (b := w1.heap.size) (o := 0) (v := .slice none 0 0) (by first | (with_reducible assumption) | (simp [go_sem, *]; done)) (by first | (with_reducible assumption) | (simp; done) | (simp <;> omega)) k5
  have c5_1 := cl_below (b := w1.heap.size) (o := 1) (v := .slice none 0 0) (by first | (with_reducible assumption) | (simp [go_sem, *]; done)) (by first | (with_reducible assumption) | (simp; done) | (simp <;> omega)) k5
  have c5_2 := cl_below (b := w2.heap.size) (o := 0) (v := .slice none 0 0) (by first | (with_reducible assumption) | (simp [go_sem, *]; done)) (by first | (with_reducible assumption) | (simp; done) | (simp <;> omega)) k5
  have c5_3 := cl_below (b := w2.heap.size) (o := 1) (v := .slice none 0 0) (by first | (with_reducible assumption) | (simp [go_sem, *]; done)) (by first | (with_reducible assumption) | (simp; done) | (simp <;> omega)) k5
  clear c4_0 c4_1 c4_2 c4_3 k5
  go_wp2_with fail
  refine (IMC.out _ (B5.out.trans (Below.mono (by go_grown) B5.out.size))).mono ?_
  rintro e w6 ⟨rfl, k6⟩
  have B6 := Lib.hid (B5.out.trans ((ba (by go_grown) k6 : Below w5.heap.size w5 w6).mono B5.out.size))
  have hs6 := k6.size
  try simp at hs6
  have l6_0 : w1.heap.size < w6.heap.size := by omega
  have l6_1 : w2.heap.size < w6.heap.size := by omega
  have c6_0 := cl_below (b := w1.heap.size) (o := 0) (v := .slice none 0 0) (by first | (with_reducible assumption) | (simp [go_sem, *]; done)) (by first | (with_reducible assumption) | (simp; done) | (simp <;> omega)) k6
  have c6_1 := cl_below (b := w1.heap.size) (o := 1) (v := .slice none 0 0) (by first | (with_reducible assumption) | (simp [go_sem, *]; done)) (by first | (with_reducible assumption) | (simp; done) | (simp <;> omega)) k6
  have c6_2 := cl_below (b := w2.heap.size) (o := 0) (v := .slice none 0 0) (by first | (with_reducible assumption) | (simp [go_sem, *]; done)) (by first | (with_reducible assumption) | (simp; done) | (simp <;> omega)) k6
  have c6_3 := cl_below (b := w2.heap.size) (o := 1) (v := .slice none 0 0) (by first | (with_reducible assumption) | (simp [go_sem, *]; done)) (by first | (with_reducible assumption) | (simp; done) | (simp <;> omega)) k6
  clear c5_0 c5_1 c5_2 c5_3 k6
  go_wp2_with fail
  refine (eqYard_zero _).mono ?_
  rintro e w7 ⟨rfl, k7⟩
  have B7 := Lib.hid (B6.out.trans ((ba (by go_grown) k7 : Below w6.heap.size w6 w7).mono B6.out.size))
  have hs7 := k7.size
  try simp at hs7
  have l7_0 : w1.heap.size < w7.heap.size := by omega
  have l7_1 : w2.heap.size < w7.heap.size := by omega
  have l7_2 : w6.heap.size < w7.heap.size := by omega
  have c7_0 := cl_below (b := w1.heap.size) (o := 0) (v := .slice none 0 0) (by first | (with_reducible assumption) | (simp [go_sem, *]; done)) (by first | (with_reducible assumption) | (simp; done) | (simp <;> omega)) k7
  have c7_1 := cl_below (b := w1.heap.size) (o := 1) (v := .slice none 0 0) (by first | (with_reducible assumption) | (simp [go_sem, *]; done)) (by first | (with_reducible assumption) | (simp; done) | (simp <;> omega)) k7
  have c7_2 := cl_below (b := w2.heap.size) (o := 0) (v := .slice none 0 0) (by first | (with_reducible assumption) | (simp [go_sem, *]; done)) (by first | (with_reducible assumption) | (simp; done) | (simp <;> omega)) k7
  have c7_3 := cl_below (b := w2.heap.size) (o := 1) (v := .slice none 0 0) (by first | (with_reducible assumption) | (simp [go_sem, *]; done)) (by first | (with_reducible assumption) | (simp; done) | (simp <;> omega)) k7
  have c7_4 := cl_below (b := w6.heap.size) (o := 0) (v := .slice none 0 0) (by first | (with_reducible assumption) | (simp [go_sem, *]; done)) (by first | (with_reducible assumption) | (simp; done) | (simp <;> omega)) k7
  have c7_5 := cl_below (b := w6.heap.size) (o := 1) (v := .slice none 0 0) (by first | (with_reducible assumption) | (simp [go_sem, *]; done)) (by first | (with_reducible assumption) | (simp; done) | (simp <;> omega)) k7
  clear c6_0 c6_1 c6_2 c6_3 k7
  go_wp2_with fail
  refine (heldYard_zero _).mono ?_
  rintro e w8 ⟨rfl, k8⟩
  have B8 := Lib.hid (B7.out.trans ((ba (by go_grown) k8 : Below w7.heap.size w7 w8).mono B7.out.size))
  have hs8 := k8.size
  try simp at hs8
  have l8_0 : w1.heap.size < w8.heap.size := by omega
  have l8_1 : w2.heap.size < w8.heap.size := by omega
  have l8_2 : w6.heap.size < w8.heap.size := by omega
  have c8_0 := cl_below (b := w1.heap.size) (o := 0) (v := .slice none 0 0) (by first | (with_reducible assumption) | (simp [go_sem, *]; done)) (by first | (with_reducible assumption) | (simp; done) | (simp <;> omega)) k8
  have c8_1 := cl_below (b := w1.heap.size) (o := 1) (v := .slice none 0 0) (by first | (with_reducible assumption) | (simp [go_sem, *]; done)) (by first | (with_reducible assumption) | (simp; done) | (simp <;> omega)) k8
  have c8_2 := cl_below (b := w2.heap.size) (o := 0) (v := .slice none 0 0) (by first | (with_reducible assumption) | (simp [go_sem, *]; done)) (by first | (with_reducible assumption) | (simp; done) | (simp <;> omega)) k8
  have c8_3 := cl_below (b := w2.heap.size) (o := 1) (v := .slice none 0 0) (by first | (with_reducible assumption) | (simp [go_sem, *]; done)) (by first | (with_reducible assumption) | (simp; done) | (simp <;> omega)) k8
  have c8_4 := cl_below (b := w6.heap.size) (o := 0) (v := .slice none 0 0) (by first | (with_reducible assumption) | (simp [go_sem, *]; done)) (by first | (with_reducible assumption) | (simp; done) | (simp <;> omega)) k8
  have c8_5 := cl_below (b := w6.heap.size) (o := 1) (v := .slice none 0 0) (by first | (with_reducible assumption) | (simp [go_sem, *]; done)) (by first | (with_reducible assumption) | (simp; done) | (simp <;> omega)) k8
  clear c7_0 c7_1 c7_2 c7_3 c7_4 c7_5 k8
  go_wp2_with fail
  go_ret
  exact ⟨rfl, B8.out⟩

set_option maxRecDepth 100000 in
set_option maxHeartbeats 6400000 in
theorem walk_yes (s : ByteArray) (hs : s.size ≤ 1048576) (w : World) (kk rr : List Int) (n m : Nat) (hk : kk.length = n) (hr : rr.length = m) (hn6 : n ≤ 6) (hm18 : m ≤ 18)
    (c1 : ∀ (w' : World), Calls Tryd.prog 10 #[.string s] w' (YpPost (some (kk, rr)) w'))
    (c2 : ∀ (w' : World), Below w.heap.size w w' → Calls Tryd.prog 11 #[.string s] w' (YpPost (some (kk, rr)) w')) :
    Calls Tryd.prog 4 #[.string s] w fun e w' => e = .returned (.bool true) ∧ Below w.heap.size w w' := by
  have i0 : ¬ (s.size : Int) > 1048576 := by omega
  unfold YpPost at c1 c2
  simp only [hk, hr] at c1 c2
  have HK := Lib.hid hk
  have HRR := Lib.hid hr
  have SPC := Lib.hid c1
  have IMC := Lib.hid c2
  clear c1 c2 hk hr
  go_enter Tryd.func4, Tryd.ntmps4
  have B0 := Lib.hid (Below.refl w.heap.size w)
  go_wp2_with fail
  refine (SPC.out _).mono ?_
  rintro e w1 ⟨aw, pw, bw, qw, rfl, gaw, gbw, new, raw, rbw, k1⟩
  have B1 := Lib.hid (B0.out.trans ((ba (by go_grown) k1 : Below w.heap.size w w1).mono B0.out.size))
  have hs1 := k1.size
  try simp at hs1
  have law := raw.lt
  have lbw := rbw.lt
  have RAw := Lib.hid raw
  have RBw := Lib.hid rbw
  clear raw rbw
  try simp at gaw
  try simp at gbw
  clear k1
  go_wp2_with fail
  refine (IMC.out _ (B1.out.trans (Below.mono (by go_grown) B1.out.size))).mono ?_
  rintro e w2 ⟨ag, pg, bg, qg, rfl, gag, gbg, neg, rag, rbg, k2⟩
  have B2 := Lib.hid (B1.out.trans ((ba (by go_grown) k2 : Below w1.heap.size w1 w2).mono B1.out.size))
  have hs2 := k2.size
  try simp at hs2
  have l2_0 : w1.heap.size < w2.heap.size := by omega
  have c2_0 := cl_below (b := w1.heap.size) (o := 0) (v := .slice (some ⟨aw, 0, none⟩) n pw) (by first | (with_reducible assumption) | (simp [go_sem, *]; done)) (by first | (with_reducible assumption) | (simp; done) | (simp <;> omega)) k2
  have c2_1 := cl_below (b := w1.heap.size) (o := 1) (v := .slice (some ⟨bw, 0, none⟩) m qw) (by first | (with_reducible assumption) | (simp [go_sem, *]; done)) (by first | (with_reducible assumption) | (simp; done) | (simp <;> omega)) k2
  have RAw := Lib.hid (RAw.out.keep (ba (by go_grown) k2 : Below w1.heap.size w1 w2))
  have RBw := Lib.hid (RBw.out.keep (ba (by go_grown) k2 : Below w1.heap.size w1 w2))
  have lag := rag.lt
  have lbg := rbg.lt
  have RAg := Lib.hid rag
  have RBg := Lib.hid rbg
  clear rag rbg
  try simp at gag
  try simp at gbg
  clear k2
  go_wp2_with fail
  refine (eqYard_same ag pg bg qg aw pw bw qw n m kk rr HK.out HRR.out (by omega) (by omega) _ (RAg.out.keep (by go_grown)) (RBg.out.keep (by go_grown)) (RAw.out.keep (by go_grown)) (RBw.out.keep (by go_grown))).mono ?_
  rintro e w3 ⟨rfl, k3⟩
  have B3 := Lib.hid (B2.out.trans ((ba (by go_grown) k3 : Below w2.heap.size w2 w3).mono B2.out.size))
  have hs3 := k3.size
  try simp at hs3
  have l3_0 : w1.heap.size < w3.heap.size := by omega
  have l3_1 : w2.heap.size < w3.heap.size := by omega
  have c3_0 := cl_below (b := w1.heap.size) (o := 0) (v := .slice (some ⟨aw, 0, none⟩) n pw) (by first | (with_reducible assumption) | (simp [go_sem, *]; done)) (by first | (with_reducible assumption) | (simp; done) | (simp <;> omega)) k3
  have c3_1 := cl_below (b := w1.heap.size) (o := 1) (v := .slice (some ⟨bw, 0, none⟩) m qw) (by first | (with_reducible assumption) | (simp [go_sem, *]; done)) (by first | (with_reducible assumption) | (simp; done) | (simp <;> omega)) k3
  have c3_2 := cl_below (b := w2.heap.size) (o := 0) (v := .slice (some ⟨ag, 0, none⟩) n pg) (by first | (with_reducible assumption) | (simp [go_sem, *]; done)) (by first | (with_reducible assumption) | (simp; done) | (simp <;> omega)) k3
  have c3_3 := cl_below (b := w2.heap.size) (o := 1) (v := .slice (some ⟨bg, 0, none⟩) m qg) (by first | (with_reducible assumption) | (simp [go_sem, *]; done)) (by first | (with_reducible assumption) | (simp; done) | (simp <;> omega)) k3
  have RAw := Lib.hid (RAw.out.keep (ba (by go_grown) k3 : Below w2.heap.size w2 w3))
  have RBw := Lib.hid (RBw.out.keep (ba (by go_grown) k3 : Below w2.heap.size w2 w3))
  have RAg := Lib.hid (RAg.out.keep (ba (by go_grown) k3 : Below w2.heap.size w2 w3))
  have RBg := Lib.hid (RBg.out.keep (ba (by go_grown) k3 : Below w2.heap.size w2 w3))
  clear c2_0 c2_1 k3
  have i2 : ¬ (1 : Int) + n + m < 0 := by omega
  go_wp2_with fail
  refine (markYard_at ag pg bg qg n m 1 kk rr HK.out HRR.out (by omega) (by omega) (by decide) (by decide) neg _ RAg.out RBg.out).mono ?_
  rintro e w4 ⟨rfl, rma, rmb, k4⟩
  have B4 := Lib.hid (B3.out.trans (k4.below (N := w.heap.size) B3.out.size (by omega) (by omega)))
  have hs4 := k4.size
  have l4_0 : w1.heap.size < w4.heap.size := by omega
  have l4_1 : w2.heap.size < w4.heap.size := by omega
  have c4_0 := (k4.cell (a := ⟨w1.heap.size, 0, none⟩) (by show w1.heap.size < _; omega) (by show w1.heap.size ≠ _; omega) (by show w1.heap.size ≠ _; omega)).trans c3_0
  have c4_1 := (k4.cell (a := ⟨w1.heap.size, 1, none⟩) (by show w1.heap.size < _; omega) (by show w1.heap.size ≠ _; omega) (by show w1.heap.size ≠ _; omega)).trans c3_1
  have c4_2 := (k4.cell (a := ⟨w2.heap.size, 0, none⟩) (by show w2.heap.size < _; omega) (by show w2.heap.size ≠ _; omega) (by show w2.heap.size ≠ _; omega)).trans c3_2
  have c4_3 := (k4.cell (a := ⟨w2.heap.size, 1, none⟩) (by show w2.heap.size < _; omega) (by show w2.heap.size ≠ _; omega) (by show w2.heap.size ≠ _; omega)).trans c3_3
  have RAw := Lib.hid (RAw.out.apart k4 (by omega) (by omega))
  have RBw := Lib.hid (RBw.out.apart k4 (by omega) (by omega))
  have MA := Lib.hid rma
  have MB := Lib.hid rmb
  clear rma rmb RAg RBg
  clear c3_0 c3_1 c3_2 c3_3 k4
  go_wp2_with fail
  refine (heldYard_at ag pg bg qg n m 1 (by omega) (by omega) (by decide) (by decide) _ MA.out MB.out).mono ?_
  rintro e w5 ⟨rfl, k5⟩
  have B5 := Lib.hid (B4.out.trans ((ba (by go_grown) k5 : Below w4.heap.size w4 w5).mono B4.out.size))
  have hs5 := k5.size
  try simp at hs5
  have l5_0 : w1.heap.size < w5.heap.size := by omega
  have l5_1 : w2.heap.size < w5.heap.size := by omega
  have c5_0 := cl_below (b := w1.heap.size) (o := 0) (v := .slice (some ⟨aw, 0, none⟩) n pw) (by first | (with_reducible assumption) | (simp [go_sem, *]; done)) (by first | (with_reducible assumption) | (simp; done) | (simp <;> omega)) k5
  have c5_1 := cl_below (b := w1.heap.size) (o := 1) (v := .slice (some ⟨bw, 0, none⟩) m qw) (by first | (with_reducible assumption) | (simp [go_sem, *]; done)) (by first | (with_reducible assumption) | (simp; done) | (simp <;> omega)) k5
  have c5_2 := cl_below (b := w2.heap.size) (o := 0) (v := .slice (some ⟨ag, 0, none⟩) n pg) (by first | (with_reducible assumption) | (simp [go_sem, *]; done)) (by first | (with_reducible assumption) | (simp; done) | (simp <;> omega)) k5
  have c5_3 := cl_below (b := w2.heap.size) (o := 1) (v := .slice (some ⟨bg, 0, none⟩) m qg) (by first | (with_reducible assumption) | (simp [go_sem, *]; done)) (by first | (with_reducible assumption) | (simp; done) | (simp <;> omega)) k5
  have RAw := Lib.hid (RAw.out.keep (ba (by go_grown) k5 : Below w4.heap.size w4 w5))
  have RBw := Lib.hid (RBw.out.keep (ba (by go_grown) k5 : Below w4.heap.size w4 w5))
  have MA := Lib.hid (MA.out.keep (ba (by go_grown) k5 : Below w4.heap.size w4 w5))
  have MB := Lib.hid (MB.out.keep (ba (by go_grown) k5 : Below w4.heap.size w4 w5))
  clear c4_0 c4_1 c4_2 c4_3 k5
  go_wp2_with fail
  refine (IMC.out _ (B5.out.trans (Below.mono (by go_grown) B5.out.size))).mono ?_
  rintro e w6 ⟨ah, ph, bh, qh, rfl, gah, gbh, neh, rah, rbh, k6⟩
  have B6 := Lib.hid (B5.out.trans ((ba (by go_grown) k6 : Below w5.heap.size w5 w6).mono B5.out.size))
  have hs6 := k6.size
  try simp at hs6
  have l6_0 : w1.heap.size < w6.heap.size := by omega
  have l6_1 : w2.heap.size < w6.heap.size := by omega
  have c6_0 := cl_below (b := w1.heap.size) (o := 0) (v := .slice (some ⟨aw, 0, none⟩) n pw) (by first | (with_reducible assumption) | (simp [go_sem, *]; done)) (by first | (with_reducible assumption) | (simp; done) | (simp <;> omega)) k6
  have c6_1 := cl_below (b := w1.heap.size) (o := 1) (v := .slice (some ⟨bw, 0, none⟩) m qw) (by first | (with_reducible assumption) | (simp [go_sem, *]; done)) (by first | (with_reducible assumption) | (simp; done) | (simp <;> omega)) k6
  have c6_2 := cl_below (b := w2.heap.size) (o := 0) (v := .slice (some ⟨ag, 0, none⟩) n pg) (by first | (with_reducible assumption) | (simp [go_sem, *]; done)) (by first | (with_reducible assumption) | (simp; done) | (simp <;> omega)) k6
  have c6_3 := cl_below (b := w2.heap.size) (o := 1) (v := .slice (some ⟨bg, 0, none⟩) m qg) (by first | (with_reducible assumption) | (simp [go_sem, *]; done)) (by first | (with_reducible assumption) | (simp; done) | (simp <;> omega)) k6
  have RAw := Lib.hid (RAw.out.keep (ba (by go_grown) k6 : Below w5.heap.size w5 w6))
  have RBw := Lib.hid (RBw.out.keep (ba (by go_grown) k6 : Below w5.heap.size w5 w6))
  have MA := Lib.hid (MA.out.keep (ba (by go_grown) k6 : Below w5.heap.size w5 w6))
  have MB := Lib.hid (MB.out.keep (ba (by go_grown) k6 : Below w5.heap.size w5 w6))
  have lah := rah.lt
  have lbh := rbh.lt
  have RAh := Lib.hid rah
  have RBh := Lib.hid rbh
  clear rah rbh
  try simp at gah
  try simp at gbh
  clear c5_0 c5_1 c5_2 c5_3 k6
  go_wp2_with fail
  refine (eqYard_same ah ph bh qh aw pw bw qw n m kk rr HK.out HRR.out (by omega) (by omega) _ (RAh.out.keep (by go_grown)) (RBh.out.keep (by go_grown)) (RAw.out.keep (by go_grown)) (RBw.out.keep (by go_grown))).mono ?_
  rintro e w7 ⟨rfl, k7⟩
  have B7 := Lib.hid (B6.out.trans ((ba (by go_grown) k7 : Below w6.heap.size w6 w7).mono B6.out.size))
  have hs7 := k7.size
  try simp at hs7
  have l7_0 : w1.heap.size < w7.heap.size := by omega
  have l7_1 : w2.heap.size < w7.heap.size := by omega
  have l7_2 : w6.heap.size < w7.heap.size := by omega
  have c7_0 := cl_below (b := w1.heap.size) (o := 0) (v := .slice (some ⟨aw, 0, none⟩) n pw) (by first | (with_reducible assumption) | (simp [go_sem, *]; done)) (by first | (with_reducible assumption) | (simp; done) | (simp <;> omega)) k7
  have c7_1 := cl_below (b := w1.heap.size) (o := 1) (v := .slice (some ⟨bw, 0, none⟩) m qw) (by first | (with_reducible assumption) | (simp [go_sem, *]; done)) (by first | (with_reducible assumption) | (simp; done) | (simp <;> omega)) k7
  have c7_2 := cl_below (b := w2.heap.size) (o := 0) (v := .slice (some ⟨ag, 0, none⟩) n pg) (by first | (with_reducible assumption) | (simp [go_sem, *]; done)) (by first | (with_reducible assumption) | (simp; done) | (simp <;> omega)) k7
  have c7_3 := cl_below (b := w2.heap.size) (o := 1) (v := .slice (some ⟨bg, 0, none⟩) m qg) (by first | (with_reducible assumption) | (simp [go_sem, *]; done)) (by first | (with_reducible assumption) | (simp; done) | (simp <;> omega)) k7
  have c7_4 := cl_below (b := w6.heap.size) (o := 0) (v := .slice (some ⟨ah, 0, none⟩) n ph) (by first | (with_reducible assumption) | (simp [go_sem, *]; done)) (by first | (with_reducible assumption) | (simp; done) | (simp <;> omega)) k7
  have c7_5 := cl_below (b := w6.heap.size) (o := 1) (v := .slice (some ⟨bh, 0, none⟩) m qh) (by first | (with_reducible assumption) | (simp [go_sem, *]; done)) (by first | (with_reducible assumption) | (simp; done) | (simp <;> omega)) k7
  have RAw := Lib.hid (RAw.out.keep (ba (by go_grown) k7 : Below w6.heap.size w6 w7))
  have RBw := Lib.hid (RBw.out.keep (ba (by go_grown) k7 : Below w6.heap.size w6 w7))
  have MA := Lib.hid (MA.out.keep (ba (by go_grown) k7 : Below w6.heap.size w6 w7))
  have MB := Lib.hid (MB.out.keep (ba (by go_grown) k7 : Below w6.heap.size w6 w7))
  have RAh := Lib.hid (RAh.out.keep (ba (by go_grown) k7 : Below w6.heap.size w6 w7))
  have RBh := Lib.hid (RBh.out.keep (ba (by go_grown) k7 : Below w6.heap.size w6 w7))
  clear c6_0 c6_1 c6_2 c6_3 k7
  go_wp2_with fail
  refine (heldYard_at ag pg bg qg n m 1 (by omega) (by omega) (by decide) (by decide) _ MA.out MB.out).mono ?_
  rintro e w8 ⟨rfl, k8⟩
  have B8 := Lib.hid (B7.out.trans ((ba (by go_grown) k8 : Below w7.heap.size w7 w8).mono B7.out.size))
  have hs8 := k8.size
  try simp at hs8
  have l8_0 : w1.heap.size < w8.heap.size := by omega
  have l8_1 : w2.heap.size < w8.heap.size := by omega
  have l8_2 : w6.heap.size < w8.heap.size := by omega
  have c8_0 := cl_below (b := w1.heap.size) (o := 0) (v := .slice (some ⟨aw, 0, none⟩) n pw) (by first | (with_reducible assumption) | (simp [go_sem, *]; done)) (by first | (with_reducible assumption) | (simp; done) | (simp <;> omega)) k8
  have c8_1 := cl_below (b := w1.heap.size) (o := 1) (v := .slice (some ⟨bw, 0, none⟩) m qw) (by first | (with_reducible assumption) | (simp [go_sem, *]; done)) (by first | (with_reducible assumption) | (simp; done) | (simp <;> omega)) k8
  have c8_2 := cl_below (b := w2.heap.size) (o := 0) (v := .slice (some ⟨ag, 0, none⟩) n pg) (by first | (with_reducible assumption) | (simp [go_sem, *]; done)) (by first | (with_reducible assumption) | (simp; done) | (simp <;> omega)) k8
  have c8_3 := cl_below (b := w2.heap.size) (o := 1) (v := .slice (some ⟨bg, 0, none⟩) m qg) (by first | (with_reducible assumption) | (simp [go_sem, *]; done)) (by first | (with_reducible assumption) | (simp; done) | (simp <;> omega)) k8
  have c8_4 := cl_below (b := w6.heap.size) (o := 0) (v := .slice (some ⟨ah, 0, none⟩) n ph) (by first | (with_reducible assumption) | (simp [go_sem, *]; done)) (by first | (with_reducible assumption) | (simp; done) | (simp <;> omega)) k8
  have c8_5 := cl_below (b := w6.heap.size) (o := 1) (v := .slice (some ⟨bh, 0, none⟩) m qh) (by first | (with_reducible assumption) | (simp [go_sem, *]; done)) (by first | (with_reducible assumption) | (simp; done) | (simp <;> omega)) k8
  have RAw := Lib.hid (RAw.out.keep (ba (by go_grown) k8 : Below w7.heap.size w7 w8))
  have RBw := Lib.hid (RBw.out.keep (ba (by go_grown) k8 : Below w7.heap.size w7 w8))
  have MA := Lib.hid (MA.out.keep (ba (by go_grown) k8 : Below w7.heap.size w7 w8))
  have MB := Lib.hid (MB.out.keep (ba (by go_grown) k8 : Below w7.heap.size w7 w8))
  have RAh := Lib.hid (RAh.out.keep (ba (by go_grown) k8 : Below w7.heap.size w7 w8))
  have RBh := Lib.hid (RBh.out.keep (ba (by go_grown) k8 : Below w7.heap.size w7 w8))
  clear c7_0 c7_1 c7_2 c7_3 c7_4 c7_5 k8
  go_wp2_with fail
  go_ret
  exact ⟨rfl, B8.out⟩

set_option maxRecDepth 100000 in
theorem walk (s : ByteArray) (hs : s.size ≤ maxLen) (w : World) (hL : laidMetH Tryd.prog Rows.fnExactParseYardRow.laid w) (hSh : w.ShapedOpen Tryd.prog) :
    Calls Tryd.prog 4 #[.string s] w fun e w' => e = .returned (.bool true) ∧ Below w.heap.size w w' := by
  rw [MakeChecks.laidMetH_plain _ _ _ (by kernel_rfl)] at hL
  obtain ⟨t1, p1, t2, p2, hv1, hv2⟩ := errs (r := Rows.fnExactParseYardRow.laid.drop 6) hL
  obtain ⟨m, hm⟩ := maxLen_shaped hSh
  have hlt : 0 < w.heap.size := World.block_lt_of_cell? _ _ hm
  by_cases bs : s.size ≤ 1048576
  · have SP := spParseYard s bs
    have IM := fun W (hW : Below w.heap.size w W) => imParseYard s bs W (m := m) (fun V hV => ((hW.trans (hV.mono hW.size)).cell (p := ⟨0, 0, none⟩) hlt).trans hm) (Go.Joins.var_stays (g := 1) (by kernel_rfl) hv1 hW (Nat.le_refl _)) (Go.Joins.var_stays (g := 2) (by kernel_rfl) hv2 hW (Nat.le_refl _))
    cases hq : ypM s with
    | none =>
      rw [hq] at SP
      rw [yp_eq, hq] at IM
      exact walk_no s bs w SP IM
    | some q =>
      obtain ⟨kk, rr⟩ := q
      have hg := (good_iff _ _).1 (ypM_some hq).1
      rw [hq] at SP
      rw [yp_eq, hq] at IM
      exact walk_yes s bs w kk rr kk.length rr.length rfl rfl hg.n6 (by have := hg.nr; have := hg.n6; simp only at *; omega) SP IM
  · have hgt : 1048576 < s.size := by omega
    unfold maxLen at hs
    clear hL hv1 hv2 hm hlt hSh
    go_enter Tryd.func4, Tryd.ntmps4
    go_wp2_with fail
    all_goals go_returns
    all_goals exact ⟨rfl, by go_grown⟩

theorem laid_met (os : Os) (args : Array Value) : laidMetH Tryd.prog Rows.fnExactParseYardRow.laid ((World.laidAll Tryd.prog os Rows.fnExactParseYardRow.laid).forCall (fun _ _ => 0) ⟨#[], args, []⟩).memory := by
  rw [MakeChecks.laidMetH_plain _ _ _ (by kernel_rfl)]
  exact laidMet_laidAll _ (by kernel_rfl) (by kernel_rfl)

set_option maxRecDepth 100000 in
theorem lifted (os : Os) (started : os.Started) (H : Type) (enc : TypeId × Value → H) :
    ReturnsInHanded {} Tryd.checked os 4 .any (fun w args => (Rows.fnExactParseYardSpec.pre enc Tryd.prog Tryd.f4 Rows.fnExactParseYardRow.domain false w args ∧ laidMetH Tryd.prog Rows.fnExactParseYardRow.laid w) ∧ sizedMet enc Tryd.prog Tryd.f4 (OpenSpec.ofChange Rows.fnExactParseYardSpec) false w args)
      (Rows.fnExactParseYardSpec.post enc Tryd.prog Tryd.f4 false true false false) := by
  refine laid_shaped (C := Tryd.checked) (X := fun w _ => laidMetH Tryd.prog Rows.fnExactParseYardRow.laid w) (fun _ _ _ hh h => h.of_heap hh) Tryd.own started (by kernel_rfl) Tryd.func4
    (ChangeSpec.witness_shaped (enc := enc) (C := Tryd.checked) (os := os) (X := fun w _ => laidMetH Tryd.prog Rows.fnExactParseYardRow.laid w) false (World.laidAll Tryd.prog os Rows.fnExactParseYardRow.laid) #[.string ByteArray.empty] 8 (World.laidAll_os _ _ _)
      (World.shaped_of_ZipB (by kernel_rfl) (by kernel_rfl)) (by kernel_rfl) (by kernel_rfl) (by kernel_rfl) (laid_met os _)) ?_
  intro W base args ds gs before hval0 hW _ _ hL hSh _
  have hval : ∀ (j : Nat) t v, Tryd.f4.params[j]? = some t → args[j]? = some v → Value.okWide Tryd.prog W .any base t v := hval0
  have hW0 := hW
  obtain ⟨p, q, hA0, hV, rfl, _, _⟩ := hW
  have hA : DataW.TrodAll enc Tryd.prog W 0 (fun _ => true) true Tryd.f4.params.toList args.toList ds p := hA0
  rw [Tryd.params4] at hA hval
  obtain ⟨v0, d0, rfl, rfl, h0⟩ := trodAll_one hA
  obtain ⟨s, rfl, _, _, hs⟩ := open_string Tryd.underlying9 (hval 0 9 v0 rfl rfl) h0
  refine (walk s hs W hL hSh).mono fun e W' ⟨he, hw⟩ => ?_
  subst he
  exact ⟨_, rfl, law_post Tryd.laidOut (by kernel_rfl) rfl Tryd.underlying4 rfl rfl hW0 hw⟩

theorem holds : Rows.FnExactParseYardSaid :=
  OpenClaim.holds_of_wide 4 Tryd.f4 rfl rfl rfl rfl rfl rfl rfl ⟨rfl, rfl, rfl, rfl, rfl⟩ rfl rfl rfl rfl rfl (by kernel_rfl) Tryd.func4 (by kernel_rfl)
    (of_decide_eq_true (by kernel_rfl)) (by unfold Func.isWrapper; first | (rw [if_pos (by decide +kernel)]; kernel_rfl) | (rw [if_neg (by decide +kernel)]; exact ⟨rfl, rfl⟩))
    (fun os started H enc _ => lifted os started H enc)

theorem card_holds : Rows.FnExactParseYardCardSaid :=
  Claim7.holds_tied_plain_at .later [] [.data, .data, .data, .data, .sentinel, .sentinel, .pinned] true (true, "c5764f841c4a9241cdfc4ab8e56613f10e7e9b02a2817ff8a84486c71877aff2") true holds (fun _ h => by cases h) (by kernel_rfl) (fun _ h => by cases h) fnExactParseYard_row_tie rfl ⟨rfl, rfl⟩ (by kernel_rfl) rfl
    (fun f fn hf hfn => by
      obtain rfl : f = 4 := Option.some.inj ((show Tryd.prog.funcNamed "loop.example/g01217/laws.FnExactParseYard" = some 4 by kernel_rfl).symm.trans hf) |>.symm
      obtain rfl : fn = Tryd.f4 := (Option.some.inj (Tryd.func4.symm.trans hfn)).symm
      exact ⟨by kernel_rfl, fun j t ht => by
        rw [Tryd.params4] at ht
        have hm : t ∈ [9] := by simpa using Array.mem_of_getElem? ht
        have hall : ([9].all fun u => !Tryd.prog.wantsStandIn u) = true := by kernel_rfl
        exact (show Tryd.prog.wantsStandIn t = false by simpa using List.all_eq_true.1 hall t hm)⟩)
    (by kernel_rfl)

end Go.Proofs.YtoaccnpkobbaaaaDoor.lParseYard
