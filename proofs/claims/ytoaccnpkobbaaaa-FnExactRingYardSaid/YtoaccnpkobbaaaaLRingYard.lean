/- For every input the law FnExactRingYard returns true, and its arguments read afterwards as they read before. Conditions: none. -/
import Derived.Test.YtoaccnpkobbaaaaKitY
import Derived.Test.YtoaccnpkobbaaaaYRz
import Derived.Test.YtoaccnpkobbaaaaYRs
import Derived.Test.YtoaccnpkobbaaaaCl
import Derived.Lib.Hide
namespace Go.Proofs.Ytoaccnpkobbaaaa.lRingYard
open Go.ChangeShapes Go.WideShapes Go.ChangeAt Go.RowKit Go.Joins Yd

set_option linter.unusedVariables false

set_option maxRecDepth 100000 in
set_option maxHeartbeats 6400000 in
theorem walk_no (w : World) (ka : Option Addr) (kn kc : Nat) (kk : List Int) (y1 : kk.length = kn) (y3 : kn ≤ maxLen) (y5 : RdA w.heap.size w ka kk)
    (fit : (kn : Int) ≤ 1048576)
    (c1 : ∀ (g : Nat) (w' : World), RL w' g kn kk → Calls Try.prog 53 #[.slice (some ⟨g, 0, none⟩) kn kn] w' (R0Post w'))
    (c2 : ∀ (g : Nat) (w' : World), RL w' g kn kk → Calls Try.prog 55 #[.slice (some ⟨g, 0, none⟩) kn kn] w' (R0Post w')) :
    Calls Try.prog 14 #[.slice ka kn kc] w fun e w' => e = .returned (.bool true) ∧ Below w.heap.size w w' := by
  have i0 : ¬ (kn : Int) > 1048576 := by omega
  have Y1 := Lib.hid y1
  have Y5 := Lib.hid y5
  have SPC := Lib.hid c1
  have IMC := Lib.hid c2
  clear y1 y3 y5 c1 c2
  go_enter Try.func14, Try.ntmps14
  have B0 := Lib.hid (Below.refl w.heap.size w)
  go_wp2_with fail
  refine (toIntS_ex ka kn kc kk Y1.out (by omega) _ w.heap.size (Nat.le_trans B0.out.size (by simp)) (Y5.out.below (Nat.le_refl _) (B0.out.trans (Below.mono (by go_grown : Below w.heap.size w _) B0.out.size)))).mono ?_
  rintro e w1 ⟨g1, rfl, gl1, r1, k1⟩
  have B1 := Lib.hid (B0.out.trans ((ba (by go_grown) k1 : Below w.heap.size w w1).mono B0.out.size))
  have hs1 := k1.size
  try simp at hs1
  have ll1 := r1.lt
  have X1 := Lib.hid r1
  clear r1
  try simp at gl1
  clear k1
  go_wp2_with fail
  refine (SPC.out g1 _ (X1.out.keep (by go_grown))).mono ?_
  rintro e w2 ⟨rfl, k2⟩
  have B2 := Lib.hid (B1.out.trans ((ba (by go_grown) k2 : Below w1.heap.size w1 w2).mono B1.out.size))
  have hs2 := k2.size
  try simp at hs2
  have X1 := Lib.hid (X1.out.keep (ba (by go_grown) k2 : Below w1.heap.size w1 w2))
  clear k2
  go_wp2_with fail
  refine (toIntS_ex ka kn kc kk Y1.out (by omega) _ w.heap.size (Nat.le_trans B2.out.size (by simp)) (Y5.out.below (Nat.le_refl _) (B2.out.trans (Below.mono (by go_grown : Below w2.heap.size w2 _) B2.out.size)))).mono ?_
  rintro e w3 ⟨gx, rfl, glx, rx, k3⟩
  have B3 := Lib.hid (B2.out.trans ((ba (by go_grown) k3 : Below w2.heap.size w2 w3).mono B2.out.size))
  have hs3 := k3.size
  try simp at hs3
  have l3_0 : w2.heap.size < w3.heap.size := by omega
  have c3_0 := cl_below (b := w2.heap.size) (o := 0) (v := .slice none 0 0) (by first | (with_reducible assumption) | (simp [go_sem, *]; done)) (by first | (with_reducible assumption) | (simp; done) | (simp <;> omega)) k3
  have c3_1 := cl_below (b := w2.heap.size) (o := 1) (v := .slice none 0 0) (by first | (with_reducible assumption) | (simp [go_sem, *]; done)) (by first | (with_reducible assumption) | (simp; done) | (simp <;> omega)) k3
  have X1 := Lib.hid (X1.out.keep (ba (by go_grown) k3 : Below w2.heap.size w2 w3))
  have llx := rx.lt
  have Xx := Lib.hid rx
  clear rx
  try simp at glx
  clear k3
  go_wp2_with fail
  refine (IMC.out gx _ (Xx.out.keep (by go_grown))).mono ?_
  rintro e w4 ⟨rfl, k4⟩
  have B4 := Lib.hid (B3.out.trans ((ba (by go_grown) k4 : Below w3.heap.size w3 w4).mono B3.out.size))
  have hs4 := k4.size
  try simp at hs4
  have l4_0 : w2.heap.size < w4.heap.size := by omega
  have c4_0 := cl_below (b := w2.heap.size) (o := 0) (v := .slice none 0 0) (by first | (with_reducible assumption) | (simp [go_sem, *]; done)) (by first | (with_reducible assumption) | (simp; done) | (simp <;> omega)) k4
  have c4_1 := cl_below (b := w2.heap.size) (o := 1) (v := .slice none 0 0) (by first | (with_reducible assumption) | (simp [go_sem, *]; done)) (by first | (with_reducible assumption) | (simp; done) | (simp <;> omega)) k4
  have X1 := Lib.hid (X1.out.keep (ba (by go_grown) k4 : Below w3.heap.size w3 w4))
  have Xx := Lib.hid (Xx.out.keep (ba (by go_grown) k4 : Below w3.heap.size w3 w4))
  clear c3_0 c3_1 k4
  go_wp2_with fail
  refine (eqYard_zero _).mono ?_
  rintro e w5 ⟨rfl, k5⟩
  have B5 := Lib.hid (B4.out.trans ((ba (by go_grown) k5 : Below w4.heap.size w4 w5).mono B4.out.size))
  have hs5 := k5.size
  try simp at hs5
  have l5_0 : w2.heap.size < w5.heap.size := by omega
  have l5_1 : w4.heap.size < w5.heap.size := by omega
  have c5_0 := cl_below (b := w2.heap.size) (o := 0) (v := .slice none 0 0) (by first | (with_reducible assumption) | (simp [go_sem, *]; done)) (by first | (with_reducible assumption) | (simp; done) | (simp <;> omega)) k5
  have c5_1 := cl_below (b := w2.heap.size) (o := 1) (v := .slice none 0 0) (by first | (with_reducible assumption) | (simp [go_sem, *]; done)) (by first | (with_reducible assumption) | (simp; done) | (simp <;> omega)) k5
  have c5_2 := cl_below (b := w4.heap.size) (o := 0) (v := .slice none 0 0) (by first | (with_reducible assumption) | (simp [go_sem, *]; done)) (by first | (with_reducible assumption) | (simp; done) | (simp <;> omega)) k5
  have c5_3 := cl_below (b := w4.heap.size) (o := 1) (v := .slice none 0 0) (by first | (with_reducible assumption) | (simp [go_sem, *]; done)) (by first | (with_reducible assumption) | (simp; done) | (simp <;> omega)) k5
  have X1 := Lib.hid (X1.out.keep (ba (by go_grown) k5 : Below w4.heap.size w4 w5))
  have Xx := Lib.hid (Xx.out.keep (ba (by go_grown) k5 : Below w4.heap.size w4 w5))
  clear c4_0 c4_1 k5
  go_wp2_with fail
  refine (toIntS_ex ka kn kc kk Y1.out (by omega) _ w.heap.size (Nat.le_trans B5.out.size (by simp)) (Y5.out.below (Nat.le_refl _) (B5.out.trans (Below.mono (by go_grown : Below w5.heap.size w5 _) B5.out.size)))).mono ?_
  rintro e w6 ⟨gy, rfl, gly, ry, k6⟩
  have B6 := Lib.hid (B5.out.trans ((ba (by go_grown) k6 : Below w5.heap.size w5 w6).mono B5.out.size))
  have hs6 := k6.size
  try simp at hs6
  have l6_0 : w2.heap.size < w6.heap.size := by omega
  have l6_1 : w4.heap.size < w6.heap.size := by omega
  have c6_0 := cl_below (b := w2.heap.size) (o := 0) (v := .slice none 0 0) (by first | (with_reducible assumption) | (simp [go_sem, *]; done)) (by first | (with_reducible assumption) | (simp; done) | (simp <;> omega)) k6
  have c6_1 := cl_below (b := w2.heap.size) (o := 1) (v := .slice none 0 0) (by first | (with_reducible assumption) | (simp [go_sem, *]; done)) (by first | (with_reducible assumption) | (simp; done) | (simp <;> omega)) k6
  have c6_2 := cl_below (b := w4.heap.size) (o := 0) (v := .slice none 0 0) (by first | (with_reducible assumption) | (simp [go_sem, *]; done)) (by first | (with_reducible assumption) | (simp; done) | (simp <;> omega)) k6
  have c6_3 := cl_below (b := w4.heap.size) (o := 1) (v := .slice none 0 0) (by first | (with_reducible assumption) | (simp [go_sem, *]; done)) (by first | (with_reducible assumption) | (simp; done) | (simp <;> omega)) k6
  have X1 := Lib.hid (X1.out.keep (ba (by go_grown) k6 : Below w5.heap.size w5 w6))
  have Xx := Lib.hid (Xx.out.keep (ba (by go_grown) k6 : Below w5.heap.size w5 w6))
  have lly := ry.lt
  have Xy := Lib.hid ry
  clear ry
  try simp at gly
  clear c5_0 c5_1 c5_2 c5_3 k6
  go_wp2_with fail
  refine (eqIntS_all gx kn gy kn kn kk Y1.out (by omega) _ Xx.out Xy.out).mono ?_
  rintro e w7 ⟨rfl, k7⟩
  have B7 := Lib.hid (B6.out.trans ((ba (by go_grown) k7 : Below w6.heap.size w6 w7).mono B6.out.size))
  have hs7 := k7.size
  try simp at hs7
  have l7_0 : w2.heap.size < w7.heap.size := by omega
  have l7_1 : w4.heap.size < w7.heap.size := by omega
  have c7_0 := cl_below (b := w2.heap.size) (o := 0) (v := .slice none 0 0) (by first | (with_reducible assumption) | (simp [go_sem, *]; done)) (by first | (with_reducible assumption) | (simp; done) | (simp <;> omega)) k7
  have c7_1 := cl_below (b := w2.heap.size) (o := 1) (v := .slice none 0 0) (by first | (with_reducible assumption) | (simp [go_sem, *]; done)) (by first | (with_reducible assumption) | (simp; done) | (simp <;> omega)) k7
  have c7_2 := cl_below (b := w4.heap.size) (o := 0) (v := .slice none 0 0) (by first | (with_reducible assumption) | (simp [go_sem, *]; done)) (by first | (with_reducible assumption) | (simp; done) | (simp <;> omega)) k7
  have c7_3 := cl_below (b := w4.heap.size) (o := 1) (v := .slice none 0 0) (by first | (with_reducible assumption) | (simp [go_sem, *]; done)) (by first | (with_reducible assumption) | (simp; done) | (simp <;> omega)) k7
  have X1 := Lib.hid (X1.out.keep (ba (by go_grown) k7 : Below w6.heap.size w6 w7))
  have Xx := Lib.hid (Xx.out.keep (ba (by go_grown) k7 : Below w6.heap.size w6 w7))
  have Xy := Lib.hid (Xy.out.keep (ba (by go_grown) k7 : Below w6.heap.size w6 w7))
  clear c6_0 c6_1 c6_2 c6_3 k7
  have i1 : ¬ (1 : Int) + kn < 0 := by omega
  go_wp2_with fail
  refine (markIntS_at gx kn kn 1 kk Y1.out (by omega) (by decide) (by decide) _ Xx.out).mono ?_
  rintro e w8 ⟨rfl, rm, k8⟩
  have k8 := Apart2.of k8 gx
  have B8 := Lib.hid (B7.out.trans (k8.below (N := w.heap.size) B7.out.size (by omega) (by omega)))
  have hs8 := k8.size
  have l8_0 : w2.heap.size < w8.heap.size := by omega
  have l8_1 : w4.heap.size < w8.heap.size := by omega
  have c8_0 := (k8.cell (a := ⟨w2.heap.size, 0, none⟩) (by show w2.heap.size < _; omega) (by show w2.heap.size ≠ _; omega) (by show w2.heap.size ≠ _; omega)).trans c7_0
  have c8_1 := (k8.cell (a := ⟨w2.heap.size, 1, none⟩) (by show w2.heap.size < _; omega) (by show w2.heap.size ≠ _; omega) (by show w2.heap.size ≠ _; omega)).trans c7_1
  have c8_2 := (k8.cell (a := ⟨w4.heap.size, 0, none⟩) (by show w4.heap.size < _; omega) (by show w4.heap.size ≠ _; omega) (by show w4.heap.size ≠ _; omega)).trans c7_2
  have c8_3 := (k8.cell (a := ⟨w4.heap.size, 1, none⟩) (by show w4.heap.size < _; omega) (by show w4.heap.size ≠ _; omega) (by show w4.heap.size ≠ _; omega)).trans c7_3
  clear rm Xx
  clear c7_0 c7_1 c7_2 c7_3 k8
  go_wp2_with fail
  refine (eqYard_zero _).mono ?_
  rintro e w9 ⟨rfl, k9⟩
  have B9 := Lib.hid (B8.out.trans ((ba (by go_grown) k9 : Below w8.heap.size w8 w9).mono B8.out.size))
  have hs9 := k9.size
  try simp at hs9
  have l9_0 : w2.heap.size < w9.heap.size := by omega
  have l9_1 : w4.heap.size < w9.heap.size := by omega
  have c9_0 := cl_below (b := w2.heap.size) (o := 0) (v := .slice none 0 0) (by first | (with_reducible assumption) | (simp [go_sem, *]; done)) (by first | (with_reducible assumption) | (simp; done) | (simp <;> omega)) k9
  have c9_1 := cl_below (b := w2.heap.size) (o := 1) (v := .slice none 0 0) (by first | (with_reducible assumption) | (simp [go_sem, *]; done)) (by first | (with_reducible assumption) | (simp; done) | (simp <;> omega)) k9
  have c9_2 := cl_below (b := w4.heap.size) (o := 0) (v := .slice none 0 0) (by first | (with_reducible assumption) | (simp [go_sem, *]; done)) (by first | (with_reducible assumption) | (simp; done) | (simp <;> omega)) k9
  have c9_3 := cl_below (b := w4.heap.size) (o := 1) (v := .slice none 0 0) (by first | (with_reducible assumption) | (simp [go_sem, *]; done)) (by first | (with_reducible assumption) | (simp; done) | (simp <;> omega)) k9
  clear c8_0 c8_1 c8_2 c8_3 k9
  go_wp2_with fail
  refine (markYard_zero _).mono ?_
  rintro e w10 ⟨rfl, k10⟩
  have B10 := Lib.hid (B9.out.trans ((ba (by go_grown) k10 : Below w9.heap.size w9 w10).mono B9.out.size))
  have hs10 := k10.size
  try simp at hs10
  have l10_0 : w2.heap.size < w10.heap.size := by omega
  have l10_1 : w4.heap.size < w10.heap.size := by omega
  have c10_0 := cl_below (b := w2.heap.size) (o := 0) (v := .slice none 0 0) (by first | (with_reducible assumption) | (simp [go_sem, *]; done)) (by first | (with_reducible assumption) | (simp; done) | (simp <;> omega)) k10
  have c10_1 := cl_below (b := w2.heap.size) (o := 1) (v := .slice none 0 0) (by first | (with_reducible assumption) | (simp [go_sem, *]; done)) (by first | (with_reducible assumption) | (simp; done) | (simp <;> omega)) k10
  have c10_2 := cl_below (b := w4.heap.size) (o := 0) (v := .slice none 0 0) (by first | (with_reducible assumption) | (simp [go_sem, *]; done)) (by first | (with_reducible assumption) | (simp; done) | (simp <;> omega)) k10
  have c10_3 := cl_below (b := w4.heap.size) (o := 1) (v := .slice none 0 0) (by first | (with_reducible assumption) | (simp [go_sem, *]; done)) (by first | (with_reducible assumption) | (simp; done) | (simp <;> omega)) k10
  clear c9_0 c9_1 c9_2 c9_3 k10
  go_wp2_with fail
  refine (heldYard_zero _).mono ?_
  rintro e w11 ⟨rfl, k11⟩
  have B11 := Lib.hid (B10.out.trans ((ba (by go_grown) k11 : Below w10.heap.size w10 w11).mono B10.out.size))
  have hs11 := k11.size
  try simp at hs11
  have l11_0 : w2.heap.size < w11.heap.size := by omega
  have l11_1 : w4.heap.size < w11.heap.size := by omega
  have c11_0 := cl_below (b := w2.heap.size) (o := 0) (v := .slice none 0 0) (by first | (with_reducible assumption) | (simp [go_sem, *]; done)) (by first | (with_reducible assumption) | (simp; done) | (simp <;> omega)) k11
  have c11_1 := cl_below (b := w2.heap.size) (o := 1) (v := .slice none 0 0) (by first | (with_reducible assumption) | (simp [go_sem, *]; done)) (by first | (with_reducible assumption) | (simp; done) | (simp <;> omega)) k11
  have c11_2 := cl_below (b := w4.heap.size) (o := 0) (v := .slice none 0 0) (by first | (with_reducible assumption) | (simp [go_sem, *]; done)) (by first | (with_reducible assumption) | (simp; done) | (simp <;> omega)) k11
  have c11_3 := cl_below (b := w4.heap.size) (o := 1) (v := .slice none 0 0) (by first | (with_reducible assumption) | (simp [go_sem, *]; done)) (by first | (with_reducible assumption) | (simp; done) | (simp <;> omega)) k11
  clear c10_0 c10_1 c10_2 c10_3 k11
  go_wp2_with fail
  refine (toIntS_ex ka kn kc kk Y1.out (by omega) _ w.heap.size (Nat.le_trans B11.out.size (by simp)) (Y5.out.below (Nat.le_refl _) (B11.out.trans (Below.mono (by go_grown : Below w11.heap.size w11 _) B11.out.size)))).mono ?_
  rintro e w12 ⟨gz, rfl, glz, rz, k12⟩
  have B12 := Lib.hid (B11.out.trans ((ba (by go_grown) k12 : Below w11.heap.size w11 w12).mono B11.out.size))
  have hs12 := k12.size
  try simp at hs12
  have l12_0 : w2.heap.size < w12.heap.size := by omega
  have l12_1 : w4.heap.size < w12.heap.size := by omega
  have c12_0 := cl_below (b := w2.heap.size) (o := 0) (v := .slice none 0 0) (by first | (with_reducible assumption) | (simp [go_sem, *]; done)) (by first | (with_reducible assumption) | (simp; done) | (simp <;> omega)) k12
  have c12_1 := cl_below (b := w2.heap.size) (o := 1) (v := .slice none 0 0) (by first | (with_reducible assumption) | (simp [go_sem, *]; done)) (by first | (with_reducible assumption) | (simp; done) | (simp <;> omega)) k12
  have c12_2 := cl_below (b := w4.heap.size) (o := 0) (v := .slice none 0 0) (by first | (with_reducible assumption) | (simp [go_sem, *]; done)) (by first | (with_reducible assumption) | (simp; done) | (simp <;> omega)) k12
  have c12_3 := cl_below (b := w4.heap.size) (o := 1) (v := .slice none 0 0) (by first | (with_reducible assumption) | (simp [go_sem, *]; done)) (by first | (with_reducible assumption) | (simp; done) | (simp <;> omega)) k12
  have llz := rz.lt
  have Xz := Lib.hid rz
  clear rz
  try simp at glz
  clear c11_0 c11_1 c11_2 c11_3 k12
  go_wp2_with fail
  refine (IMC.out gz _ (Xz.out.keep (by go_grown))).mono ?_
  rintro e w13 ⟨rfl, k13⟩
  have B13 := Lib.hid (B12.out.trans ((ba (by go_grown) k13 : Below w12.heap.size w12 w13).mono B12.out.size))
  have hs13 := k13.size
  try simp at hs13
  have l13_0 : w2.heap.size < w13.heap.size := by omega
  have l13_1 : w4.heap.size < w13.heap.size := by omega
  have c13_0 := cl_below (b := w2.heap.size) (o := 0) (v := .slice none 0 0) (by first | (with_reducible assumption) | (simp [go_sem, *]; done)) (by first | (with_reducible assumption) | (simp; done) | (simp <;> omega)) k13
  have c13_1 := cl_below (b := w2.heap.size) (o := 1) (v := .slice none 0 0) (by first | (with_reducible assumption) | (simp [go_sem, *]; done)) (by first | (with_reducible assumption) | (simp; done) | (simp <;> omega)) k13
  have c13_2 := cl_below (b := w4.heap.size) (o := 0) (v := .slice none 0 0) (by first | (with_reducible assumption) | (simp [go_sem, *]; done)) (by first | (with_reducible assumption) | (simp; done) | (simp <;> omega)) k13
  have c13_3 := cl_below (b := w4.heap.size) (o := 1) (v := .slice none 0 0) (by first | (with_reducible assumption) | (simp [go_sem, *]; done)) (by first | (with_reducible assumption) | (simp; done) | (simp <;> omega)) k13
  have Xz := Lib.hid (Xz.out.keep (ba (by go_grown) k13 : Below w12.heap.size w12 w13))
  clear c12_0 c12_1 c12_2 c12_3 k13
  go_wp2_with fail
  refine (eqYard_zero _).mono ?_
  rintro e w14 ⟨rfl, k14⟩
  have B14 := Lib.hid (B13.out.trans ((ba (by go_grown) k14 : Below w13.heap.size w13 w14).mono B13.out.size))
  have hs14 := k14.size
  try simp at hs14
  have l14_0 : w2.heap.size < w14.heap.size := by omega
  have l14_1 : w4.heap.size < w14.heap.size := by omega
  have l14_2 : w13.heap.size < w14.heap.size := by omega
  have c14_0 := cl_below (b := w2.heap.size) (o := 0) (v := .slice none 0 0) (by first | (with_reducible assumption) | (simp [go_sem, *]; done)) (by first | (with_reducible assumption) | (simp; done) | (simp <;> omega)) k14
  have c14_1 := cl_below (b := w2.heap.size) (o := 1) (v := .slice none 0 0) (by first | (with_reducible assumption) | (simp [go_sem, *]; done)) (by first | (with_reducible assumption) | (simp; done) | (simp <;> omega)) k14
  have c14_2 := cl_below (b := w4.heap.size) (o := 0) (v := .slice none 0 0) (by first | (with_reducible assumption) | (simp [go_sem, *]; done)) (by first | (with_reducible assumption) | (simp; done) | (simp <;> omega)) k14
  have c14_3 := cl_below (b := w4.heap.size) (o := 1) (v := .slice none 0 0) (by first | (with_reducible assumption) | (simp [go_sem, *]; done)) (by first | (with_reducible assumption) | (simp; done) | (simp <;> omega)) k14
  have c14_4 := cl_below (b := w13.heap.size) (o := 0) (v := .slice none 0 0) (by first | (with_reducible assumption) | (simp [go_sem, *]; done)) (by first | (with_reducible assumption) | (simp; done) | (simp <;> omega)) k14
  have c14_5 := cl_below (b := w13.heap.size) (o := 1) (v := .slice none 0 0) (by first | (with_reducible assumption) | (simp [go_sem, *]; done)) (by first | (with_reducible assumption) | (simp; done) | (simp <;> omega)) k14
  have Xz := Lib.hid (Xz.out.keep (ba (by go_grown) k14 : Below w13.heap.size w13 w14))
  clear c13_0 c13_1 c13_2 c13_3 k14
  go_wp2_with fail
  refine (heldYard_zero _).mono ?_
  rintro e w15 ⟨rfl, k15⟩
  have B15 := Lib.hid (B14.out.trans ((ba (by go_grown) k15 : Below w14.heap.size w14 w15).mono B14.out.size))
  have hs15 := k15.size
  try simp at hs15
  have l15_0 : w2.heap.size < w15.heap.size := by omega
  have l15_1 : w4.heap.size < w15.heap.size := by omega
  have l15_2 : w13.heap.size < w15.heap.size := by omega
  have c15_0 := cl_below (b := w2.heap.size) (o := 0) (v := .slice none 0 0) (by first | (with_reducible assumption) | (simp [go_sem, *]; done)) (by first | (with_reducible assumption) | (simp; done) | (simp <;> omega)) k15
  have c15_1 := cl_below (b := w2.heap.size) (o := 1) (v := .slice none 0 0) (by first | (with_reducible assumption) | (simp [go_sem, *]; done)) (by first | (with_reducible assumption) | (simp; done) | (simp <;> omega)) k15
  have c15_2 := cl_below (b := w4.heap.size) (o := 0) (v := .slice none 0 0) (by first | (with_reducible assumption) | (simp [go_sem, *]; done)) (by first | (with_reducible assumption) | (simp; done) | (simp <;> omega)) k15
  have c15_3 := cl_below (b := w4.heap.size) (o := 1) (v := .slice none 0 0) (by first | (with_reducible assumption) | (simp [go_sem, *]; done)) (by first | (with_reducible assumption) | (simp; done) | (simp <;> omega)) k15
  have c15_4 := cl_below (b := w13.heap.size) (o := 0) (v := .slice none 0 0) (by first | (with_reducible assumption) | (simp [go_sem, *]; done)) (by first | (with_reducible assumption) | (simp; done) | (simp <;> omega)) k15
  have c15_5 := cl_below (b := w13.heap.size) (o := 1) (v := .slice none 0 0) (by first | (with_reducible assumption) | (simp [go_sem, *]; done)) (by first | (with_reducible assumption) | (simp; done) | (simp <;> omega)) k15
  have Xz := Lib.hid (Xz.out.keep (ba (by go_grown) k15 : Below w14.heap.size w14 w15))
  clear c14_0 c14_1 c14_2 c14_3 c14_4 c14_5 k15
  go_wp2_with fail
  go_ret
  exact ⟨rfl, B15.out⟩

set_option maxRecDepth 100000 in
set_option maxHeartbeats 6400000 in
theorem walk_yes (w : World) (ka : Option Addr) (kn kc : Nat) (kk : List Int) (y1 : kk.length = kn) (y3 : kn ≤ maxLen) (y5 : RdA w.heap.size w ka kk) (m : Nat) (hm : m = 3 * kn) (hk6 : kn ≤ 6)
    (fit : (kn : Int) ≤ 1048576)
    (c1 : ∀ (g : Nat) (w' : World), RL w' g kn kk → Calls Try.prog 53 #[.slice (some ⟨g, 0, none⟩) kn kn] w' (RyPost kn m kk w'))
    (c2 : ∀ (g : Nat) (w' : World), RL w' g kn kk → Calls Try.prog 55 #[.slice (some ⟨g, 0, none⟩) kn kn] w' (RyPost kn m kk w')) :
    Calls Try.prog 14 #[.slice ka kn kc] w fun e w' => e = .returned (.bool true) ∧ Below w.heap.size w w' := by
  have i0 : ¬ (kn : Int) > 1048576 := by omega
  have hm18 : m ≤ 18 := by omega
  have RYL := Lib.hid (show (ryk kn kn).length = m by rw [ryk_len]; exact hm.symm)
  have Y1 := Lib.hid y1
  have Y5 := Lib.hid y5
  have SPC := Lib.hid c1
  have IMC := Lib.hid c2
  clear y1 y3 y5 c1 c2 hm
  go_enter Try.func14, Try.ntmps14
  have B0 := Lib.hid (Below.refl w.heap.size w)
  go_wp2_with fail
  refine (toIntS_ex ka kn kc kk Y1.out (by omega) _ w.heap.size (Nat.le_trans B0.out.size (by simp)) (Y5.out.below (Nat.le_refl _) (B0.out.trans (Below.mono (by go_grown : Below w.heap.size w _) B0.out.size)))).mono ?_
  rintro e w1 ⟨g1, rfl, gl1, r1, k1⟩
  have B1 := Lib.hid (B0.out.trans ((ba (by go_grown) k1 : Below w.heap.size w w1).mono B0.out.size))
  have hs1 := k1.size
  try simp at hs1
  have ll1 := r1.lt
  have X1 := Lib.hid r1
  clear r1
  try simp at gl1
  clear k1
  go_wp2_with fail
  refine (SPC.out g1 _ (X1.out.keep (by go_grown))).mono ?_
  rintro e w2 ⟨aw, pw, bw, qw, rfl, gaw, gbw, new, raw, rbw, k2⟩
  have B2 := Lib.hid (B1.out.trans ((ba (by go_grown) k2 : Below w1.heap.size w1 w2).mono B1.out.size))
  have hs2 := k2.size
  try simp at hs2
  have X1 := Lib.hid (X1.out.keep (ba (by go_grown) k2 : Below w1.heap.size w1 w2))
  have law := raw.lt
  have lbw := rbw.lt
  have RAw := Lib.hid raw
  have RBw := Lib.hid rbw
  clear raw rbw
  try simp at gaw
  try simp at gbw
  clear k2
  go_wp2_with fail
  refine (toIntS_ex ka kn kc kk Y1.out (by omega) _ w.heap.size (Nat.le_trans B2.out.size (by simp)) (Y5.out.below (Nat.le_refl _) (B2.out.trans (Below.mono (by go_grown : Below w2.heap.size w2 _) B2.out.size)))).mono ?_
  rintro e w3 ⟨gx, rfl, glx, rx, k3⟩
  have B3 := Lib.hid (B2.out.trans ((ba (by go_grown) k3 : Below w2.heap.size w2 w3).mono B2.out.size))
  have hs3 := k3.size
  try simp at hs3
  have l3_0 : w2.heap.size < w3.heap.size := by omega
  have c3_0 := cl_below (b := w2.heap.size) (o := 0) (v := .slice (some ⟨aw, 0, none⟩) kn pw) (by first | (with_reducible assumption) | (simp [go_sem, *]; done)) (by first | (with_reducible assumption) | (simp; done) | (simp <;> omega)) k3
  have c3_1 := cl_below (b := w2.heap.size) (o := 1) (v := .slice (some ⟨bw, 0, none⟩) m qw) (by first | (with_reducible assumption) | (simp [go_sem, *]; done)) (by first | (with_reducible assumption) | (simp; done) | (simp <;> omega)) k3
  have X1 := Lib.hid (X1.out.keep (ba (by go_grown) k3 : Below w2.heap.size w2 w3))
  have RAw := Lib.hid (RAw.out.keep (ba (by go_grown) k3 : Below w2.heap.size w2 w3))
  have RBw := Lib.hid (RBw.out.keep (ba (by go_grown) k3 : Below w2.heap.size w2 w3))
  have llx := rx.lt
  have Xx := Lib.hid rx
  clear rx
  try simp at glx
  clear k3
  go_wp2_with fail
  refine (IMC.out gx _ (Xx.out.keep (by go_grown))).mono ?_
  rintro e w4 ⟨ag, pg, bg, qg, rfl, gag, gbg, neg, rag, rbg, k4⟩
  have B4 := Lib.hid (B3.out.trans ((ba (by go_grown) k4 : Below w3.heap.size w3 w4).mono B3.out.size))
  have hs4 := k4.size
  try simp at hs4
  have l4_0 : w2.heap.size < w4.heap.size := by omega
  have c4_0 := cl_below (b := w2.heap.size) (o := 0) (v := .slice (some ⟨aw, 0, none⟩) kn pw) (by first | (with_reducible assumption) | (simp [go_sem, *]; done)) (by first | (with_reducible assumption) | (simp; done) | (simp <;> omega)) k4
  have c4_1 := cl_below (b := w2.heap.size) (o := 1) (v := .slice (some ⟨bw, 0, none⟩) m qw) (by first | (with_reducible assumption) | (simp [go_sem, *]; done)) (by first | (with_reducible assumption) | (simp; done) | (simp <;> omega)) k4
  have X1 := Lib.hid (X1.out.keep (ba (by go_grown) k4 : Below w3.heap.size w3 w4))
  have RAw := Lib.hid (RAw.out.keep (ba (by go_grown) k4 : Below w3.heap.size w3 w4))
  have RBw := Lib.hid (RBw.out.keep (ba (by go_grown) k4 : Below w3.heap.size w3 w4))
  have Xx := Lib.hid (Xx.out.keep (ba (by go_grown) k4 : Below w3.heap.size w3 w4))
  have lag := rag.lt
  have lbg := rbg.lt
  have RAg := Lib.hid rag
  have RBg := Lib.hid rbg
  clear rag rbg
  try simp at gag
  try simp at gbg
  clear c3_0 c3_1 k4
  go_wp2_with fail
  refine (eqYard_same ag pg bg qg aw pw bw qw kn m kk (ryk kn kn) Y1.out RYL.out (by omega) (by omega) _ (RAg.out.keep (by go_grown)) (RBg.out.keep (by go_grown)) (RAw.out.keep (by go_grown)) (RBw.out.keep (by go_grown))).mono ?_
  rintro e w5 ⟨rfl, k5⟩
  have B5 := Lib.hid (B4.out.trans ((ba (by go_grown) k5 : Below w4.heap.size w4 w5).mono B4.out.size))
  have hs5 := k5.size
  try simp at hs5
  have l5_0 : w2.heap.size < w5.heap.size := by omega
  have l5_1 : w4.heap.size < w5.heap.size := by omega
  have c5_0 := cl_below (b := w2.heap.size) (o := 0) (v := .slice (some ⟨aw, 0, none⟩) kn pw) (by first | (with_reducible assumption) | (simp [go_sem, *]; done)) (by first | (with_reducible assumption) | (simp; done) | (simp <;> omega)) k5
  have c5_1 := cl_below (b := w2.heap.size) (o := 1) (v := .slice (some ⟨bw, 0, none⟩) m qw) (by first | (with_reducible assumption) | (simp [go_sem, *]; done)) (by first | (with_reducible assumption) | (simp; done) | (simp <;> omega)) k5
  have c5_2 := cl_below (b := w4.heap.size) (o := 0) (v := .slice (some ⟨ag, 0, none⟩) kn pg) (by first | (with_reducible assumption) | (simp [go_sem, *]; done)) (by first | (with_reducible assumption) | (simp; done) | (simp <;> omega)) k5
  have c5_3 := cl_below (b := w4.heap.size) (o := 1) (v := .slice (some ⟨bg, 0, none⟩) m qg) (by first | (with_reducible assumption) | (simp [go_sem, *]; done)) (by first | (with_reducible assumption) | (simp; done) | (simp <;> omega)) k5
  have X1 := Lib.hid (X1.out.keep (ba (by go_grown) k5 : Below w4.heap.size w4 w5))
  have RAw := Lib.hid (RAw.out.keep (ba (by go_grown) k5 : Below w4.heap.size w4 w5))
  have RBw := Lib.hid (RBw.out.keep (ba (by go_grown) k5 : Below w4.heap.size w4 w5))
  have Xx := Lib.hid (Xx.out.keep (ba (by go_grown) k5 : Below w4.heap.size w4 w5))
  have RAg := Lib.hid (RAg.out.keep (ba (by go_grown) k5 : Below w4.heap.size w4 w5))
  have RBg := Lib.hid (RBg.out.keep (ba (by go_grown) k5 : Below w4.heap.size w4 w5))
  clear c4_0 c4_1 k5
  go_wp2_with fail
  refine (toIntS_ex ka kn kc kk Y1.out (by omega) _ w.heap.size (Nat.le_trans B5.out.size (by simp)) (Y5.out.below (Nat.le_refl _) (B5.out.trans (Below.mono (by go_grown : Below w5.heap.size w5 _) B5.out.size)))).mono ?_
  rintro e w6 ⟨gy, rfl, gly, ry, k6⟩
  have B6 := Lib.hid (B5.out.trans ((ba (by go_grown) k6 : Below w5.heap.size w5 w6).mono B5.out.size))
  have hs6 := k6.size
  try simp at hs6
  have l6_0 : w2.heap.size < w6.heap.size := by omega
  have l6_1 : w4.heap.size < w6.heap.size := by omega
  have c6_0 := cl_below (b := w2.heap.size) (o := 0) (v := .slice (some ⟨aw, 0, none⟩) kn pw) (by first | (with_reducible assumption) | (simp [go_sem, *]; done)) (by first | (with_reducible assumption) | (simp; done) | (simp <;> omega)) k6
  have c6_1 := cl_below (b := w2.heap.size) (o := 1) (v := .slice (some ⟨bw, 0, none⟩) m qw) (by first | (with_reducible assumption) | (simp [go_sem, *]; done)) (by first | (with_reducible assumption) | (simp; done) | (simp <;> omega)) k6
  have c6_2 := cl_below (b := w4.heap.size) (o := 0) (v := .slice (some ⟨ag, 0, none⟩) kn pg) (by first | (with_reducible assumption) | (simp [go_sem, *]; done)) (by first | (with_reducible assumption) | (simp; done) | (simp <;> omega)) k6
  have c6_3 := cl_below (b := w4.heap.size) (o := 1) (v := .slice (some ⟨bg, 0, none⟩) m qg) (by first | (with_reducible assumption) | (simp [go_sem, *]; done)) (by first | (with_reducible assumption) | (simp; done) | (simp <;> omega)) k6
  have X1 := Lib.hid (X1.out.keep (ba (by go_grown) k6 : Below w5.heap.size w5 w6))
  have RAw := Lib.hid (RAw.out.keep (ba (by go_grown) k6 : Below w5.heap.size w5 w6))
  have RBw := Lib.hid (RBw.out.keep (ba (by go_grown) k6 : Below w5.heap.size w5 w6))
  have Xx := Lib.hid (Xx.out.keep (ba (by go_grown) k6 : Below w5.heap.size w5 w6))
  have RAg := Lib.hid (RAg.out.keep (ba (by go_grown) k6 : Below w5.heap.size w5 w6))
  have RBg := Lib.hid (RBg.out.keep (ba (by go_grown) k6 : Below w5.heap.size w5 w6))
  have lly := ry.lt
  have Xy := Lib.hid ry
  clear ry
  try simp at gly
  clear c5_0 c5_1 c5_2 c5_3 k6
  go_wp2_with fail
  refine (eqIntS_all gx kn gy kn kn kk Y1.out (by omega) _ Xx.out Xy.out).mono ?_
  rintro e w7 ⟨rfl, k7⟩
  have B7 := Lib.hid (B6.out.trans ((ba (by go_grown) k7 : Below w6.heap.size w6 w7).mono B6.out.size))
  have hs7 := k7.size
  try simp at hs7
  have l7_0 : w2.heap.size < w7.heap.size := by omega
  have l7_1 : w4.heap.size < w7.heap.size := by omega
  have c7_0 := cl_below (b := w2.heap.size) (o := 0) (v := .slice (some ⟨aw, 0, none⟩) kn pw) (by first | (with_reducible assumption) | (simp [go_sem, *]; done)) (by first | (with_reducible assumption) | (simp; done) | (simp <;> omega)) k7
  have c7_1 := cl_below (b := w2.heap.size) (o := 1) (v := .slice (some ⟨bw, 0, none⟩) m qw) (by first | (with_reducible assumption) | (simp [go_sem, *]; done)) (by first | (with_reducible assumption) | (simp; done) | (simp <;> omega)) k7
  have c7_2 := cl_below (b := w4.heap.size) (o := 0) (v := .slice (some ⟨ag, 0, none⟩) kn pg) (by first | (with_reducible assumption) | (simp [go_sem, *]; done)) (by first | (with_reducible assumption) | (simp; done) | (simp <;> omega)) k7
  have c7_3 := cl_below (b := w4.heap.size) (o := 1) (v := .slice (some ⟨bg, 0, none⟩) m qg) (by first | (with_reducible assumption) | (simp [go_sem, *]; done)) (by first | (with_reducible assumption) | (simp; done) | (simp <;> omega)) k7
  have X1 := Lib.hid (X1.out.keep (ba (by go_grown) k7 : Below w6.heap.size w6 w7))
  have RAw := Lib.hid (RAw.out.keep (ba (by go_grown) k7 : Below w6.heap.size w6 w7))
  have RBw := Lib.hid (RBw.out.keep (ba (by go_grown) k7 : Below w6.heap.size w6 w7))
  have Xx := Lib.hid (Xx.out.keep (ba (by go_grown) k7 : Below w6.heap.size w6 w7))
  have RAg := Lib.hid (RAg.out.keep (ba (by go_grown) k7 : Below w6.heap.size w6 w7))
  have RBg := Lib.hid (RBg.out.keep (ba (by go_grown) k7 : Below w6.heap.size w6 w7))
  have Xy := Lib.hid (Xy.out.keep (ba (by go_grown) k7 : Below w6.heap.size w6 w7))
  clear c6_0 c6_1 c6_2 c6_3 k7
  have i1 : ¬ (1 : Int) + kn < 0 := by omega
  go_wp2_with fail
  refine (markIntS_at gx kn kn 1 kk Y1.out (by omega) (by decide) (by decide) _ Xx.out).mono ?_
  rintro e w8 ⟨rfl, rm, k8⟩
  have k8 := Apart2.of k8 gx
  have B8 := Lib.hid (B7.out.trans (k8.below (N := w.heap.size) B7.out.size (by omega) (by omega)))
  have hs8 := k8.size
  have l8_0 : w2.heap.size < w8.heap.size := by omega
  have l8_1 : w4.heap.size < w8.heap.size := by omega
  have c8_0 := (k8.cell (a := ⟨w2.heap.size, 0, none⟩) (by show w2.heap.size < _; omega) (by show w2.heap.size ≠ _; omega) (by show w2.heap.size ≠ _; omega)).trans c7_0
  have c8_1 := (k8.cell (a := ⟨w2.heap.size, 1, none⟩) (by show w2.heap.size < _; omega) (by show w2.heap.size ≠ _; omega) (by show w2.heap.size ≠ _; omega)).trans c7_1
  have c8_2 := (k8.cell (a := ⟨w4.heap.size, 0, none⟩) (by show w4.heap.size < _; omega) (by show w4.heap.size ≠ _; omega) (by show w4.heap.size ≠ _; omega)).trans c7_2
  have c8_3 := (k8.cell (a := ⟨w4.heap.size, 1, none⟩) (by show w4.heap.size < _; omega) (by show w4.heap.size ≠ _; omega) (by show w4.heap.size ≠ _; omega)).trans c7_3
  have RAw := Lib.hid (RAw.out.apart k8 (by omega) (by omega))
  have RBw := Lib.hid (RBw.out.apart k8 (by omega) (by omega))
  have RAg := Lib.hid (RAg.out.apart k8 (by omega) (by omega))
  have RBg := Lib.hid (RBg.out.apart k8 (by omega) (by omega))
  clear rm Xx
  clear c7_0 c7_1 c7_2 c7_3 k8
  go_wp2_with fail
  refine (eqYard_same ag pg bg qg aw pw bw qw kn m kk (ryk kn kn) Y1.out RYL.out (by omega) (by omega) _ (RAg.out.keep (by go_grown)) (RBg.out.keep (by go_grown)) (RAw.out.keep (by go_grown)) (RBw.out.keep (by go_grown))).mono ?_
  rintro e w9 ⟨rfl, k9⟩
  have B9 := Lib.hid (B8.out.trans ((ba (by go_grown) k9 : Below w8.heap.size w8 w9).mono B8.out.size))
  have hs9 := k9.size
  try simp at hs9
  have l9_0 : w2.heap.size < w9.heap.size := by omega
  have l9_1 : w4.heap.size < w9.heap.size := by omega
  have c9_0 := cl_below (b := w2.heap.size) (o := 0) (v := .slice (some ⟨aw, 0, none⟩) kn pw) (by first | (with_reducible assumption) | (simp [go_sem, *]; done)) (by first | (with_reducible assumption) | (simp; done) | (simp <;> omega)) k9
  have c9_1 := cl_below (b := w2.heap.size) (o := 1) (v := .slice (some ⟨bw, 0, none⟩) m qw) (by first | (with_reducible assumption) | (simp [go_sem, *]; done)) (by first | (with_reducible assumption) | (simp; done) | (simp <;> omega)) k9
  have c9_2 := cl_below (b := w4.heap.size) (o := 0) (v := .slice (some ⟨ag, 0, none⟩) kn pg) (by first | (with_reducible assumption) | (simp [go_sem, *]; done)) (by first | (with_reducible assumption) | (simp; done) | (simp <;> omega)) k9
  have c9_3 := cl_below (b := w4.heap.size) (o := 1) (v := .slice (some ⟨bg, 0, none⟩) m qg) (by first | (with_reducible assumption) | (simp [go_sem, *]; done)) (by first | (with_reducible assumption) | (simp; done) | (simp <;> omega)) k9
  have RAw := Lib.hid (RAw.out.keep (ba (by go_grown) k9 : Below w8.heap.size w8 w9))
  have RBw := Lib.hid (RBw.out.keep (ba (by go_grown) k9 : Below w8.heap.size w8 w9))
  have RAg := Lib.hid (RAg.out.keep (ba (by go_grown) k9 : Below w8.heap.size w8 w9))
  have RBg := Lib.hid (RBg.out.keep (ba (by go_grown) k9 : Below w8.heap.size w8 w9))
  clear c8_0 c8_1 c8_2 c8_3 k9
  have i2 : ¬ (1 : Int) + kn + m < 0 := by omega
  go_wp2_with fail
  refine (markYard_at ag pg bg qg kn m 1 kk (ryk kn kn) Y1.out RYL.out (by omega) (by omega) (by decide) (by decide) neg _ RAg.out RBg.out).mono ?_
  rintro e w10 ⟨rfl, rma, rmb, k10⟩
  have B10 := Lib.hid (B9.out.trans (k10.below (N := w.heap.size) B9.out.size (by omega) (by omega)))
  have hs10 := k10.size
  have l10_0 : w2.heap.size < w10.heap.size := by omega
  have l10_1 : w4.heap.size < w10.heap.size := by omega
  have c10_0 := (k10.cell (a := ⟨w2.heap.size, 0, none⟩) (by show w2.heap.size < _; omega) (by show w2.heap.size ≠ _; omega) (by show w2.heap.size ≠ _; omega)).trans c9_0
  have c10_1 := (k10.cell (a := ⟨w2.heap.size, 1, none⟩) (by show w2.heap.size < _; omega) (by show w2.heap.size ≠ _; omega) (by show w2.heap.size ≠ _; omega)).trans c9_1
  have c10_2 := (k10.cell (a := ⟨w4.heap.size, 0, none⟩) (by show w4.heap.size < _; omega) (by show w4.heap.size ≠ _; omega) (by show w4.heap.size ≠ _; omega)).trans c9_2
  have c10_3 := (k10.cell (a := ⟨w4.heap.size, 1, none⟩) (by show w4.heap.size < _; omega) (by show w4.heap.size ≠ _; omega) (by show w4.heap.size ≠ _; omega)).trans c9_3
  have RAw := Lib.hid (RAw.out.apart k10 (by omega) (by omega))
  have RBw := Lib.hid (RBw.out.apart k10 (by omega) (by omega))
  have MA := Lib.hid rma
  have MB := Lib.hid rmb
  clear rma rmb RAg RBg
  clear c9_0 c9_1 c9_2 c9_3 k10
  go_wp2_with fail
  refine (heldYard_at ag pg bg qg kn m 1 (by omega) (by omega) (by decide) (by decide) _ MA.out MB.out).mono ?_
  rintro e w11 ⟨rfl, k11⟩
  have B11 := Lib.hid (B10.out.trans ((ba (by go_grown) k11 : Below w10.heap.size w10 w11).mono B10.out.size))
  have hs11 := k11.size
  try simp at hs11
  have l11_0 : w2.heap.size < w11.heap.size := by omega
  have l11_1 : w4.heap.size < w11.heap.size := by omega
  have c11_0 := cl_below (b := w2.heap.size) (o := 0) (v := .slice (some ⟨aw, 0, none⟩) kn pw) (by first | (with_reducible assumption) | (simp [go_sem, *]; done)) (by first | (with_reducible assumption) | (simp; done) | (simp <;> omega)) k11
  have c11_1 := cl_below (b := w2.heap.size) (o := 1) (v := .slice (some ⟨bw, 0, none⟩) m qw) (by first | (with_reducible assumption) | (simp [go_sem, *]; done)) (by first | (with_reducible assumption) | (simp; done) | (simp <;> omega)) k11
  have c11_2 := cl_below (b := w4.heap.size) (o := 0) (v := .slice (some ⟨ag, 0, none⟩) kn pg) (by first | (with_reducible assumption) | (simp [go_sem, *]; done)) (by first | (with_reducible assumption) | (simp; done) | (simp <;> omega)) k11
  have c11_3 := cl_below (b := w4.heap.size) (o := 1) (v := .slice (some ⟨bg, 0, none⟩) m qg) (by first | (with_reducible assumption) | (simp [go_sem, *]; done)) (by first | (with_reducible assumption) | (simp; done) | (simp <;> omega)) k11
  have RAw := Lib.hid (RAw.out.keep (ba (by go_grown) k11 : Below w10.heap.size w10 w11))
  have RBw := Lib.hid (RBw.out.keep (ba (by go_grown) k11 : Below w10.heap.size w10 w11))
  have MA := Lib.hid (MA.out.keep (ba (by go_grown) k11 : Below w10.heap.size w10 w11))
  have MB := Lib.hid (MB.out.keep (ba (by go_grown) k11 : Below w10.heap.size w10 w11))
  clear c10_0 c10_1 c10_2 c10_3 k11
  go_wp2_with fail
  refine (toIntS_ex ka kn kc kk Y1.out (by omega) _ w.heap.size (Nat.le_trans B11.out.size (by simp)) (Y5.out.below (Nat.le_refl _) (B11.out.trans (Below.mono (by go_grown : Below w11.heap.size w11 _) B11.out.size)))).mono ?_
  rintro e w12 ⟨gz, rfl, glz, rz, k12⟩
  have B12 := Lib.hid (B11.out.trans ((ba (by go_grown) k12 : Below w11.heap.size w11 w12).mono B11.out.size))
  have hs12 := k12.size
  try simp at hs12
  have l12_0 : w2.heap.size < w12.heap.size := by omega
  have l12_1 : w4.heap.size < w12.heap.size := by omega
  have c12_0 := cl_below (b := w2.heap.size) (o := 0) (v := .slice (some ⟨aw, 0, none⟩) kn pw) (by first | (with_reducible assumption) | (simp [go_sem, *]; done)) (by first | (with_reducible assumption) | (simp; done) | (simp <;> omega)) k12
  have c12_1 := cl_below (b := w2.heap.size) (o := 1) (v := .slice (some ⟨bw, 0, none⟩) m qw) (by first | (with_reducible assumption) | (simp [go_sem, *]; done)) (by first | (with_reducible assumption) | (simp; done) | (simp <;> omega)) k12
  have c12_2 := cl_below (b := w4.heap.size) (o := 0) (v := .slice (some ⟨ag, 0, none⟩) kn pg) (by first | (with_reducible assumption) | (simp [go_sem, *]; done)) (by first | (with_reducible assumption) | (simp; done) | (simp <;> omega)) k12
  have c12_3 := cl_below (b := w4.heap.size) (o := 1) (v := .slice (some ⟨bg, 0, none⟩) m qg) (by first | (with_reducible assumption) | (simp [go_sem, *]; done)) (by first | (with_reducible assumption) | (simp; done) | (simp <;> omega)) k12
  have RAw := Lib.hid (RAw.out.keep (ba (by go_grown) k12 : Below w11.heap.size w11 w12))
  have RBw := Lib.hid (RBw.out.keep (ba (by go_grown) k12 : Below w11.heap.size w11 w12))
  have MA := Lib.hid (MA.out.keep (ba (by go_grown) k12 : Below w11.heap.size w11 w12))
  have MB := Lib.hid (MB.out.keep (ba (by go_grown) k12 : Below w11.heap.size w11 w12))
  have llz := rz.lt
  have Xz := Lib.hid rz
  clear rz
  try simp at glz
  clear c11_0 c11_1 c11_2 c11_3 k12
  go_wp2_with fail
  refine (IMC.out gz _ (Xz.out.keep (by go_grown))).mono ?_
  rintro e w13 ⟨ah, ph, bh, qh, rfl, gah, gbh, neh, rah, rbh, k13⟩
  have B13 := Lib.hid (B12.out.trans ((ba (by go_grown) k13 : Below w12.heap.size w12 w13).mono B12.out.size))
  have hs13 := k13.size
  try simp at hs13
  have l13_0 : w2.heap.size < w13.heap.size := by omega
  have l13_1 : w4.heap.size < w13.heap.size := by omega
  have c13_0 := cl_below (b := w2.heap.size) (o := 0) (v := .slice (some ⟨aw, 0, none⟩) kn pw) (by first | (with_reducible assumption) | (simp [go_sem, *]; done)) (by first | (with_reducible assumption) | (simp; done) | (simp <;> omega)) k13
  have c13_1 := cl_below (b := w2.heap.size) (o := 1) (v := .slice (some ⟨bw, 0, none⟩) m qw) (by first | (with_reducible assumption) | (simp [go_sem, *]; done)) (by first | (with_reducible assumption) | (simp; done) | (simp <;> omega)) k13
  have c13_2 := cl_below (b := w4.heap.size) (o := 0) (v := .slice (some ⟨ag, 0, none⟩) kn pg) (by first | (with_reducible assumption) | (simp [go_sem, *]; done)) (by first | (with_reducible assumption) | (simp; done) | (simp <;> omega)) k13
  have c13_3 := cl_below (b := w4.heap.size) (o := 1) (v := .slice (some ⟨bg, 0, none⟩) m qg) (by first | (with_reducible assumption) | (simp [go_sem, *]; done)) (by first | (with_reducible assumption) | (simp; done) | (simp <;> omega)) k13
  have RAw := Lib.hid (RAw.out.keep (ba (by go_grown) k13 : Below w12.heap.size w12 w13))
  have RBw := Lib.hid (RBw.out.keep (ba (by go_grown) k13 : Below w12.heap.size w12 w13))
  have MA := Lib.hid (MA.out.keep (ba (by go_grown) k13 : Below w12.heap.size w12 w13))
  have MB := Lib.hid (MB.out.keep (ba (by go_grown) k13 : Below w12.heap.size w12 w13))
  have Xz := Lib.hid (Xz.out.keep (ba (by go_grown) k13 : Below w12.heap.size w12 w13))
  have lah := rah.lt
  have lbh := rbh.lt
  have RAh := Lib.hid rah
  have RBh := Lib.hid rbh
  clear rah rbh
  try simp at gah
  try simp at gbh
  clear c12_0 c12_1 c12_2 c12_3 k13
  go_wp2_with fail
  refine (eqYard_same ah ph bh qh aw pw bw qw kn m kk (ryk kn kn) Y1.out RYL.out (by omega) (by omega) _ (RAh.out.keep (by go_grown)) (RBh.out.keep (by go_grown)) (RAw.out.keep (by go_grown)) (RBw.out.keep (by go_grown))).mono ?_
  rintro e w14 ⟨rfl, k14⟩
  have B14 := Lib.hid (B13.out.trans ((ba (by go_grown) k14 : Below w13.heap.size w13 w14).mono B13.out.size))
  have hs14 := k14.size
  try simp at hs14
  have l14_0 : w2.heap.size < w14.heap.size := by omega
  have l14_1 : w4.heap.size < w14.heap.size := by omega
  have l14_2 : w13.heap.size < w14.heap.size := by omega
  have c14_0 := cl_below (b := w2.heap.size) (o := 0) (v := .slice (some ⟨aw, 0, none⟩) kn pw) (by first | (with_reducible assumption) | (simp [go_sem, *]; done)) (by first | (with_reducible assumption) | (simp; done) | (simp <;> omega)) k14
  have c14_1 := cl_below (b := w2.heap.size) (o := 1) (v := .slice (some ⟨bw, 0, none⟩) m qw) (by first | (with_reducible assumption) | (simp [go_sem, *]; done)) (by first | (with_reducible assumption) | (simp; done) | (simp <;> omega)) k14
  have c14_2 := cl_below (b := w4.heap.size) (o := 0) (v := .slice (some ⟨ag, 0, none⟩) kn pg) (by first | (with_reducible assumption) | (simp [go_sem, *]; done)) (by first | (with_reducible assumption) | (simp; done) | (simp <;> omega)) k14
  have c14_3 := cl_below (b := w4.heap.size) (o := 1) (v := .slice (some ⟨bg, 0, none⟩) m qg) (by first | (with_reducible assumption) | (simp [go_sem, *]; done)) (by first | (with_reducible assumption) | (simp; done) | (simp <;> omega)) k14
  have c14_4 := cl_below (b := w13.heap.size) (o := 0) (v := .slice (some ⟨ah, 0, none⟩) kn ph) (by first | (with_reducible assumption) | (simp [go_sem, *]; done)) (by first | (with_reducible assumption) | (simp; done) | (simp <;> omega)) k14
  have c14_5 := cl_below (b := w13.heap.size) (o := 1) (v := .slice (some ⟨bh, 0, none⟩) m qh) (by first | (with_reducible assumption) | (simp [go_sem, *]; done)) (by first | (with_reducible assumption) | (simp; done) | (simp <;> omega)) k14
  have RAw := Lib.hid (RAw.out.keep (ba (by go_grown) k14 : Below w13.heap.size w13 w14))
  have RBw := Lib.hid (RBw.out.keep (ba (by go_grown) k14 : Below w13.heap.size w13 w14))
  have MA := Lib.hid (MA.out.keep (ba (by go_grown) k14 : Below w13.heap.size w13 w14))
  have MB := Lib.hid (MB.out.keep (ba (by go_grown) k14 : Below w13.heap.size w13 w14))
  have Xz := Lib.hid (Xz.out.keep (ba (by go_grown) k14 : Below w13.heap.size w13 w14))
  have RAh := Lib.hid (RAh.out.keep (ba (by go_grown) k14 : Below w13.heap.size w13 w14))
  have RBh := Lib.hid (RBh.out.keep (ba (by go_grown) k14 : Below w13.heap.size w13 w14))
  clear c13_0 c13_1 c13_2 c13_3 k14
  go_wp2_with fail
  refine (heldYard_at ag pg bg qg kn m 1 (by omega) (by omega) (by decide) (by decide) _ MA.out MB.out).mono ?_
  rintro e w15 ⟨rfl, k15⟩
  have B15 := Lib.hid (B14.out.trans ((ba (by go_grown) k15 : Below w14.heap.size w14 w15).mono B14.out.size))
  have hs15 := k15.size
  try simp at hs15
  have l15_0 : w2.heap.size < w15.heap.size := by omega
  have l15_1 : w4.heap.size < w15.heap.size := by omega
  have l15_2 : w13.heap.size < w15.heap.size := by omega
  have c15_0 := cl_below (b := w2.heap.size) (o := 0) (v := .slice (some ⟨aw, 0, none⟩) kn pw) (by first | (with_reducible assumption) | (simp [go_sem, *]; done)) (by first | (with_reducible assumption) | (simp; done) | (simp <;> omega)) k15
  have c15_1 := cl_below (b := w2.heap.size) (o := 1) (v := .slice (some ⟨bw, 0, none⟩) m qw) (by first | (with_reducible assumption) | (simp [go_sem, *]; done)) (by first | (with_reducible assumption) | (simp; done) | (simp <;> omega)) k15
  have c15_2 := cl_below (b := w4.heap.size) (o := 0) (v := .slice (some ⟨ag, 0, none⟩) kn pg) (by first | (with_reducible assumption) | (simp [go_sem, *]; done)) (by first | (with_reducible assumption) | (simp; done) | (simp <;> omega)) k15
  have c15_3 := cl_below (b := w4.heap.size) (o := 1) (v := .slice (some ⟨bg, 0, none⟩) m qg) (by first | (with_reducible assumption) | (simp [go_sem, *]; done)) (by first | (with_reducible assumption) | (simp; done) | (simp <;> omega)) k15
  have c15_4 := cl_below (b := w13.heap.size) (o := 0) (v := .slice (some ⟨ah, 0, none⟩) kn ph) (by first | (with_reducible assumption) | (simp [go_sem, *]; done)) (by first | (with_reducible assumption) | (simp; done) | (simp <;> omega)) k15
  have c15_5 := cl_below (b := w13.heap.size) (o := 1) (v := .slice (some ⟨bh, 0, none⟩) m qh) (by first | (with_reducible assumption) | (simp [go_sem, *]; done)) (by first | (with_reducible assumption) | (simp; done) | (simp <;> omega)) k15
  have RAw := Lib.hid (RAw.out.keep (ba (by go_grown) k15 : Below w14.heap.size w14 w15))
  have RBw := Lib.hid (RBw.out.keep (ba (by go_grown) k15 : Below w14.heap.size w14 w15))
  have MA := Lib.hid (MA.out.keep (ba (by go_grown) k15 : Below w14.heap.size w14 w15))
  have MB := Lib.hid (MB.out.keep (ba (by go_grown) k15 : Below w14.heap.size w14 w15))
  have Xz := Lib.hid (Xz.out.keep (ba (by go_grown) k15 : Below w14.heap.size w14 w15))
  have RAh := Lib.hid (RAh.out.keep (ba (by go_grown) k15 : Below w14.heap.size w14 w15))
  have RBh := Lib.hid (RBh.out.keep (ba (by go_grown) k15 : Below w14.heap.size w14 w15))
  clear c14_0 c14_1 c14_2 c14_3 c14_4 c14_5 k15
  go_wp2_with fail
  go_ret
  exact ⟨rfl, B15.out⟩

set_option maxRecDepth 100000 in
theorem walk (w : World) (ka : Option Addr) (kn kc : Nat) (kk : List Int) (y1 : kk.length = kn) (y3 : kn ≤ maxLen) (y5 : RdA w.heap.size w ka kk) :
    Calls Try.prog 14 #[.slice ka kn kc] w fun e w' => e = .returned (.bool true) ∧ Below w.heap.size w w' := by
  by_cases fit : (kn : Int) ≤ 1048576
  case neg =>
    have i0 : (kn : Int) > 1048576 := by omega
    clear y1 y5
    unfold maxLen at y3
    go_enter Try.func14, Try.ntmps14
    go_wp2_with fail
    go_ret
    exact ⟨rfl, Below.refl _ _⟩
  by_cases hr : kn = 2 ∨ kn = 4 ∨ kn = 6
  · have hm : 3 * kn = 3 * kn := rfl
    cases hy : ydB kk (ryk kn kn)
    · exact walk_no w ka kn kc kk y1 y3 y5 fit
        (fun g w' H => (spRing_even g kn kn (3 * kn) kk y1 hr rfl w' H).mono fun e w2 h => by rw [hy] at h; simpa using h)
        (fun g w' H => (imRing_even g kn kn (3 * kn) kk y1 (Or.inr hr) rfl w' H).mono fun e w2 h => by rw [hy] at h; simpa using h)
    · exact walk_yes w ka kn kc kk y1 y3 y5 (3 * kn) rfl (by omega) fit
        (fun g w' H => (spRing_even g kn kn (3 * kn) kk y1 hr rfl w' H).mono fun e w2 h => by rw [hy] at h; simpa using h)
        (fun g w' H => (imRing_even g kn kn (3 * kn) kk y1 (Or.inr hr) rfl w' H).mono fun e w2 h => by rw [hy] at h; simpa using h)
  · refine walk_no w ka kn kc kk y1 y3 y5 fit (fun g w' H => spRing_big g kn kn kk (by omega) w') (fun g w' H => ?_)
    by_cases h0 : kn = 0
    · exact (imRing_even g kn kn (3 * kn) kk y1 (Or.inl h0) rfl w' H).mono fun e w2 h => by
        rw [show ydB kk (ryk kn kn) = false by rw [ydB, y1, h0]; rfl] at h; simpa using h
    · exact imRing_big g kn kn kk y1 (by omega) (by omega) w' H

set_option maxRecDepth 100000 in
theorem lifted (os : Os) (started : os.Started) (H : Type) (enc : TypeId × Value → H) :
    ReturnsInHanded {} Try.checked os 14 .any (Rows.fnExactRingYardSpec.pre6 enc Try.prog Try.f14 Rows.fnExactRingYardRow.domain false) (Rows.fnExactRingYardSpec.post enc Try.prog Try.f14 false true false false) := by
  refine returnsInHanded_of_change (C := Try.checked) Try.own started (by kernel_rfl) Try.func14
    (ChangeSpec.witness6 (enc := enc) (C := Try.checked) false ⟨#[], #[.slice none 0 0], []⟩ 8 (by kernel_rfl) (by kernel_rfl) (by kernel_rfl) (by kernel_rfl)) ?_
  intro W base args ds gs before hval0 hW _ _
  have hval : ∀ (j : Nat) t v, Try.f14.params[j]? = some t → args[j]? = some v → Value.okWide Try.prog W .any base t v := hval0
  have hW0 := hW
  obtain ⟨p, q, hA0, hV, rfl, _, _⟩ := hW
  have hA : DataW.TrodAll enc Try.prog W 0 (fun _ => true) true Try.f14.params.toList args.toList ds p := hA0
  rw [Try.params14] at hA hval
  obtain ⟨v0, d0, rfl, rfl, h0⟩ := trodAll_one hA
  obtain ⟨ka, kn, kc, kk, rfl, k1, k2, k3⟩ := open_ints1 (hval 0 22 v0 rfl rfl) h0
  refine (walk W ka kn kc kk k1 k2 k3).mono fun e W' ⟨he, hw⟩ => ?_
  subst he
  exact ⟨_, rfl, law_post Try.laidOut (by kernel_rfl) rfl Try.underlying4 rfl rfl hW0 hw⟩

theorem holds : Rows.FnExactRingYardSaid :=
  OpenClaim.holds_of_wide 14 Try.f14 rfl rfl rfl rfl rfl rfl rfl ⟨rfl, rfl, rfl, rfl, rfl⟩ rfl rfl rfl rfl rfl (by kernel_rfl) Try.func14 (by kernel_rfl)
    (of_decide_eq_true (by kernel_rfl)) (by unfold Func.isWrapper; first | (rw [if_pos (by decide +kernel)]; kernel_rfl) | (rw [if_neg (by decide +kernel)]; exact ⟨rfl, rfl⟩))
    (fun os started H enc _ => lifted os started H enc)

end Go.Proofs.Ytoaccnpkobbaaaa.lRingYard
