/- Contracts and facts, put together (part 4). Conditions: each says its own. -/
import Derived.Test.YthiimllafcfieaaQ3
import Derived.Laws.AppendOwn
import Derived.Laws.OwnMore
import Derived.Deep.AppendLies
import Derived.Test.YthiimllafcfieaaShelf
import Derived.Deep.QuietTactic
import Derived.BigQuiet
import Derived.LoopTactic
import Derived.Outline
import Derived.Maps.AppendAt
import Derived.Deep.RegionHeld3

/- Contract: the program's 'closings'. -/
namespace Go.Proofs.Ythiimllafcfieaa
open Go.ChangeShapes Go.WideShapes Go.ChangeAt Go.RowKit

set_option linter.unusedVariables false

set_option maxRecDepth 100000 in
set_option maxHeartbeats 1600000 in
theorem closings_any (a : Sp) (ha : a.okB 900000) (n : Nat) (hn : n ≤ 14) (w : World) :
    Calls Try.prog 51 #[.agg #[.int .i64 a.x0, .int .i64 a.x1, .int .i64 a.x2, .int .i64 a.x3, .int .i64 a.h], .int .i64 n] w (StrPost (clsL a n) w) := by
  obtain ⟨m, hm⟩ : ∃ m, n / 2 = m := ⟨_, rfl⟩
  obtain ⟨k, hk⟩ : ∃ k, n - m = k := ⟨_, rfl⟩
  have hE := Lib.hid (show accG (parts a m) (parts sp0 k) (3 ^ m) = clsL a n by rw [accG_end a ha.2.2.2.2.1 ha.2.2.2.2.2, show m + k = n by omega])
  have hq : (n : Int).tdiv 2 = (m : Int) := by rw [Int.tdiv_eq_ediv_of_nonneg (by omega)]; omega
  have hs : (n : Int) - (m : Int) = (k : Int) := by omega
  have P1 := Lib.hid (fun w => partsFrom_any a ha m (by omega) w)
  have P2 := Lib.hid (fun w => partsFrom_any sp0 (sp0_ok.mono (by decide)) k (by omega) w)
  have K7 : 3 ^ k ≤ 2187 := Nat.pow_le_pow_right (by decide) (show k ≤ 7 by omega)
  have M7 : 3 ^ m ≤ 2187 := Nat.pow_le_pow_right (by decide) (show m ≤ 7 by omega)
  have hok1 : ∀ p ∈ parts sp0 k, p.1.okB 1000 ∧ p.2.length ≤ 40 := fun p hp => ⟨(parts_ok sp0_ok hp).1.mono (by omega), by rw [(parts_ok sp0_ok hp).2]; omega⟩
  have hok2 : ∀ p ∈ parts a m, p.1.okB 950000 ∧ p.2.length ≤ 40 := fun p hp => ⟨(parts_ok ha hp).1.mono (by omega), by rw [(parts_ok ha hp).2]; omega⟩
  have HC := Lib.hid (fun g2 g1 cap2 cap1 W h1 h2 h3 h4 => closingsOf_any (parts a m) (parts sp0 k) hok1 hok2 (by rw [parts_len]; omega) (by rw [parts_len]; omega) g2 g1 cap2 cap1 W h1 h2 h3 h4)
  rw [parts_len, parts_len] at HC
  have L1 := Lib.hid (parts_len a m)
  have L2 := Lib.hid (parts_len sp0 k)
  obtain ⟨K, hK⟩ : ∃ K, 3 ^ k = K := ⟨_, rfl⟩
  obtain ⟨M, hM⟩ : ∃ M, 3 ^ m = M := ⟨_, rfl⟩
  obtain ⟨l2, hl2⟩ : ∃ l, parts a m = l := ⟨_, rfl⟩
  obtain ⟨l1, hl1⟩ : ∃ l, parts sp0 k = l := ⟨_, rfl⟩
  rw [hK, hM, hl1, hl2] at HC
  rw [hM, hl2] at L1
  rw [hK, hl1] at L2
  rw [hM, hl1, hl2] at hE
  have EK := Lib.hid hK
  have EM := Lib.hid hM
  have E2 := Lib.hid hl2
  have E1 := Lib.hid hl1
  clear hok1 hok2 ha hK hM hm hk hl1 hl2 K7 M7
  go_enter Try.func51, Try.ntmps51
  go_wp2_with fail
  refine (P1.out _).mono ?_
  rintro e w1 ⟨g2, cap2, rfl, hO2, hb1⟩
  rw [EM.out, E2.out] at hO2
  rw [EM.out]
  have hg2 := (hO2.lt g2 rfl).2
  have HA2 := Lib.hid (prt_of hO2 L1.out)
  have HB1 := Lib.hid (show Below w.heap.size w w1 from ba (by go_grown) hb1)
  clear hO2 hb1
  go_wp2_with fail
  refine (P2.out _).mono ?_
  rintro e w2 ⟨g1, cap1, rfl, hO1, hb2⟩
  rw [EK.out, E1.out] at hO1
  rw [EK.out]
  have hg1 := (hO1.lt g1 rfl).2
  have HA1 := Lib.hid (prt_of hO1 L2.out)
  have HA2' := Lib.hid (HA2.out.below hg2 hb2)
  have HB2 := Lib.hid (HB1.out.trans (hb2.mono HB1.out.size))
  have hg2' : g2 < w2.heap.size := Nat.lt_of_lt_of_le hg2 hb2.size
  clear hO1 hb2
  go_wp2_with fail
  refine (HC.out _ _ _ _ _ hg1 hg2' HA1.out HA2'.out).mono ?_
  rintro e w3 ⟨v, rfl, hO3, hb3⟩
  rw [hE.out] at hO3
  have HO3 := Lib.hid (own_lessP hO3 HB2.out.size)
  have HB3 := Lib.hid (HB2.out.trans (hb3.mono HB2.out.size))
  clear hO3 hb3
  go_wp2_with fail
  go_ret
  exact ⟨_, rfl, HO3.out, HB3.out⟩

end Go.Proofs.Ythiimllafcfieaa

/- Contracts: the difference of two points, in the model and in the program. -/
namespace Go.Proofs.Ythiimllafcfieaa
open Go.ChangeShapes Go.WideShapes Go.ChangeAt Go.RowKit

def lsd (a b : Int) : Int := wrap64 (a + wrap64 (-1 * b))

set_option maxRecDepth 100000 in
set_option maxHeartbeats 400000 in
theorem spLess_any (a0 a1 a2 a3 : Int) (b0 b1 b2 b3 : Int) (w : World) :
    Calls Try.prog 116 #[.agg #[.int .i64 a0, .int .i64 a1, .int .i64 a2, .int .i64 a3], .agg #[.int .i64 b0, .int .i64 b1, .int .i64 b2, .int .i64 b3]] w fun e w' => e = .returned (.agg #[.int .i64 (lsd a0 b0), .int .i64 (lsd a1 b1), .int .i64 (lsd a2 b2), .int .i64 (lsd a3 b3)]) ∧ Below w.heap.size w w' := by
  have hS0 := pp_start a0 a1 a2 a3 b0 b1 b2 b3 w 60 60
  go_enter Try.func116, Try.ntmps116
  go_wp2_with fail
  go_region_held3 (fun w' => w'.cell? ⟨w.heap.size, 0, none⟩ = some (.int .i64 a0) ∧ w'.cell? ⟨w.heap.size, 1, none⟩ = some (.int .i64 a1) ∧ w'.cell? ⟨w.heap.size, 2, none⟩ = some (.int .i64 a2) ∧ w'.cell? ⟨w.heap.size, 3, none⟩ = some (.int .i64 a3) ∧ w'.cell? ⟨w.heap.size + 1, 0, none⟩ = some (.int .i64 b0) ∧ w'.cell? ⟨w.heap.size + 1, 1, none⟩ = some (.int .i64 b1) ∧ w'.cell? ⟨w.heap.size + 1, 2, none⟩ = some (.int .i64 b2) ∧ w'.cell? ⟨w.heap.size + 1, 3, none⟩ = some (.int .i64 b3))
    (first | (with_reducible assumption) | (with_reducible exact pp_drew hS0) | (with_reducible exact pp_drew (pp_alloc hS0 _)) | (with_reducible exact pp_alloc (pp_drew hS0) _) | (with_reducible refine pp_drew ?_; with_reducible assumption) | (with_reducible refine pp_alloc ?_ _; with_reducible assumption) | (with_reducible refine pp_re (by with_reducible assumption) ?_ ?_ _; (focus first | (with_reducible assumption) | omega | (simp; done) | (simp; omega)); (focus first | (with_reducible assumption) | omega | (simp; done) | (simp; omega))) | (with_reducible refine pp_below ?_ ?_ ?_ h1; (focus first | (with_reducible assumption) | (with_reducible refine pp_undrew ?_; with_reducible assumption)); (focus first | (with_reducible assumption) | omega | (simp; done) | (simp; omega)); (focus first | (with_reducible assumption) | omega | (simp; done) | (simp; omega))) | ((repeat (with_reducible refine pp_set ?_ _ _ ?_ ?_; rotate_left 1; (focus first | (with_reducible assumption) | omega | (simp; done) | (simp; omega)); (focus first | (with_reducible assumption) | omega | (simp; done) | (simp; omega)))); with_reducible assumption))
    (first | (go_at_call 130; (with_reducible refine (spScale_any b0 b1 b2 b3 (-1) _).mono ?_); rintro e wA ⟨rfl, h1⟩; (try with_reducible replace h1 := undrew h1); have hB : Below w.heap.size w wA := ba (by go_grown) h1; obtain ⟨hcwA, hfwA⟩ := bcell h1; have hqwA := h1.size; (try simp at hqwA); (try have hz0wA : w.heap.size < wA.heap.size := (by omega)); (try have he0wA : w.heap.size ≤ wA.heap.size := (by omega)); (try have hz1wA : w.heap.size + 1 < wA.heap.size := (by omega)); (try have he1wA : w.heap.size + 1 ≤ wA.heap.size := (by omega)); (try have hz2wA : w.heap.size + 1 + 1 < wA.heap.size := (by omega)); (try have he2wA : w.heap.size + 1 + 1 ≤ wA.heap.size := (by omega))) | (go_at_call 93; (with_reducible refine (spAdd_any _ _ _ _ _ _ _ _ _).mono ?_); rintro e wB ⟨rfl, h1⟩; (try with_reducible replace h1 := undrew h1); have hB : Below w.heap.size w wB := ba (by go_grown) h1; obtain ⟨hcwB, hfwB⟩ := bcell h1; have hqwB := h1.size; (try simp at hqwB); (try have hz0wB : w.heap.size < wB.heap.size := (by omega)); (try have he0wB : w.heap.size ≤ wB.heap.size := (by omega)); (try have hz1wB : w.heap.size + 1 < wB.heap.size := (by omega)); (try have he1wB : w.heap.size + 1 ≤ wB.heap.size := (by omega)); (try have hz2wB : w.heap.size + 1 + 1 < wB.heap.size := (by omega)); (try have he2wB : w.heap.size + 1 + 1 ≤ wB.heap.size := (by omega))))
  go_wp2_with fail
  refine bodyPost_ret (by simp [results, Try.results116, go_sem, *]; try rfl) rfl ?_
  exact ⟨by simp [lsd], by go_grown⟩

def lessG (a0 a1 a2 a3 : Int) (b0 b1 b2 b3 : Int) : Bool := goodB a0 a1 a2 a3 && (goodB b0 b1 b2 b3 && goodB (lsd a0 b0) (lsd a1 b1) (lsd a2 b2) (lsd a3 b3))

end Go.Proofs.Ythiimllafcfieaa

/- Contracts: the steps of pieces, in the model. -/
namespace Go.Proofs.Ythiimllafcfieaa
open Go.ChangeShapes Go.WideShapes Go.ChangeAt Go.RowKit

set_option linter.unusedVariables false
set_option linter.unusedSimpArgs false

theorem lsd_eq (x y : Int) (px : -999999 ≤ x) (qx : x ≤ 999999) (py : -999999 ≤ y) (qy : y ≤ 999999) : lsd x y = x - y := by
  unfold lsd
  rw [w64s (-1 * y) (by omega) (by omega), w64s _ (by omega) (by omega)]
  omega

theorem lsB (x0 x1 x2 x3 y0 y1 y2 y3 : Int) (px0 : -999999 ≤ x0) (qx0 : x0 ≤ 999999) (px1 : -999999 ≤ x1) (qx1 : x1 ≤ 999999) (px2 : -999999 ≤ x2) (qx2 : x2 ≤ 999999) (px3 : -999999 ≤ x3) (qx3 : x3 ≤ 999999) (py0 : -999999 ≤ y0) (qy0 : y0 ≤ 999999) (py1 : -999999 ≤ y1) (qy1 : y1 ≤ 999999) (py2 : -999999 ≤ y2) (qy2 : y2 ≤ 999999) (py3 : -999999 ≤ y3) (qy3 : y3 ≤ 999999) (w : World) :
    Calls Try.prog 116 #[.agg #[.int .i64 x0, .int .i64 x1, .int .i64 x2, .int .i64 x3], .agg #[.int .i64 y0, .int .i64 y1, .int .i64 y2, .int .i64 y3]] w fun e w' => e = .returned (.agg #[.int .i64 (x0 - y0), .int .i64 (x1 - y1), .int .i64 (x2 - y2), .int .i64 (x3 - y3)]) ∧ Below w.heap.size w w' :=
  (spLess_any x0 x1 x2 x3 y0 y1 y2 y3 w).mono fun e w' ⟨h, hb⟩ => ⟨by rw [h, lsd_eq x0 y0 px0 qx0 py0 qy0, lsd_eq x1 y1 px1 qx1 py1 qy1, lsd_eq x2 y2 px2 qx2 py2 qy2, lsd_eq x3 y3 px3 qx3 py3 qy3], hb⟩

set_option maxRecDepth 100000 in
set_option maxHeartbeats 1600000 in
theorem ptStep_L (h : Int) (h0 : 0 ≤ h) (h7 : h ≤ 7) (w : World) :
    Calls Try.prog 92 #[.int .u8 76, .int .i64 h] w fun e w' => e = .returned (.tuple #[.agg #[.int .i64 ((tu0 ((h + 7) % 8) 1 0 0 0) - (tu0 ((h + 6) % 8) 1 0 0 0)), .int .i64 ((tu1 ((h + 7) % 8) 1 0 0 0) - (tu1 ((h + 6) % 8) 1 0 0 0)), .int .i64 ((tu2 ((h + 7) % 8) 1 0 0 0) - (tu2 ((h + 6) % 8) 1 0 0 0)), .int .i64 ((tu3 ((h + 7) % 8) 1 0 0 0) - (tu3 ((h + 6) % 8) 1 0 0 0))], .int .i64 ((h + 1) % 8)]) ∧ Below w.heap.size w w' := by
  obtain ⟨a0, a0'⟩ := tu_bd0 ((h + 7) % 8) (by omega) (by omega)
  obtain ⟨a1, a1'⟩ := tu_bd1 ((h + 7) % 8) (by omega) (by omega)
  obtain ⟨a2, a2'⟩ := tu_bd2 ((h + 7) % 8) (by omega) (by omega)
  obtain ⟨a3, a3'⟩ := tu_bd3 ((h + 7) % 8) (by omega) (by omega)
  obtain ⟨b0, b0'⟩ := tu_bd0 ((h + 6) % 8) (by omega) (by omega)
  obtain ⟨b1, b1'⟩ := tu_bd1 ((h + 6) % 8) (by omega) (by omega)
  obtain ⟨b2, b2'⟩ := tu_bd2 ((h + 6) % 8) (by omega) (by omega)
  obtain ⟨b3, b3'⟩ := tu_bd3 ((h + 6) % 8) (by omega) (by omega)
  go_enter Try.func92, Try.ntmps92
  go_wp2_with fail
  (go_at_call 117; (with_reducible refine (ptHeading_any (h + 7) (by omega) (by omega) _).mono ?_); rintro e wA ⟨rfl, h1⟩; (try with_reducible replace h1 := undrew h1); have hB : Below w.heap.size w wA := ba (by go_grown) h1; obtain ⟨hcwA, hfwA⟩ := bcell h1; have hqwA := h1.size; (try simp at hqwA); (try have hz0wA : w.heap.size < wA.heap.size := (by omega)); (try have he0wA : w.heap.size ≤ wA.heap.size := (by omega)))
  go_wp2_with fail
  (go_at_call 117; (with_reducible refine (ptHeading_any (h + 6) (by omega) (by omega) _).mono ?_); rintro e wB ⟨rfl, h1⟩; (try with_reducible replace h1 := undrew h1); have hB : Below w.heap.size w wB := ba (by go_grown) h1; obtain ⟨hcwB, hfwB⟩ := bcell h1; have hqwB := h1.size; (try simp at hqwB); (try have hz0wB : w.heap.size < wB.heap.size := (by omega)); (try have he0wB : w.heap.size ≤ wB.heap.size := (by omega)))
  go_wp2_with fail
  (go_at_call 116; (with_reducible refine (lsB (tu0 ((h + 7) % 8) 1 0 0 0) (tu1 ((h + 7) % 8) 1 0 0 0) (tu2 ((h + 7) % 8) 1 0 0 0) (tu3 ((h + 7) % 8) 1 0 0 0) (tu0 ((h + 6) % 8) 1 0 0 0) (tu1 ((h + 6) % 8) 1 0 0 0) (tu2 ((h + 6) % 8) 1 0 0 0) (tu3 ((h + 6) % 8) 1 0 0 0) a0 a0' a1 a1' a2 a2' a3 a3' b0 b0' b1 b1' b2 b2' b3 b3' _).mono ?_); rintro e wC ⟨rfl, h1⟩; (try with_reducible replace h1 := undrew h1); have hB : Below w.heap.size w wC := ba (by go_grown) h1; obtain ⟨hcwC, hfwC⟩ := bcell h1; have hqwC := h1.size; (try simp at hqwC); (try have hz0wC : w.heap.size < wC.heap.size := (by omega)); (try have he0wC : w.heap.size ≤ wC.heap.size := (by omega)))
  go_wp2_with fail
  refine bodyPost_ret (by simp [results, Try.results92, go_sem, *]; try rfl) rfl ?_
  exact ⟨rfl, by go_grown⟩

set_option maxRecDepth 100000 in
set_option maxHeartbeats 1600000 in
theorem ptStep_R (h : Int) (h0 : 0 ≤ h) (h7 : h ≤ 7) (w : World) :
    Calls Try.prog 92 #[.int .u8 82, .int .i64 h] w fun e w' => e = .returned (.tuple #[.agg #[.int .i64 ((tu0 ((h + 1) % 8) 1 0 0 0) - (tu0 ((h + 2) % 8) 1 0 0 0)), .int .i64 ((tu1 ((h + 1) % 8) 1 0 0 0) - (tu1 ((h + 2) % 8) 1 0 0 0)), .int .i64 ((tu2 ((h + 1) % 8) 1 0 0 0) - (tu2 ((h + 2) % 8) 1 0 0 0)), .int .i64 ((tu3 ((h + 1) % 8) 1 0 0 0) - (tu3 ((h + 2) % 8) 1 0 0 0))], .int .i64 ((h + 7) % 8)]) ∧ Below w.heap.size w w' := by
  obtain ⟨a0, a0'⟩ := tu_bd0 ((h + 1) % 8) (by omega) (by omega)
  obtain ⟨a1, a1'⟩ := tu_bd1 ((h + 1) % 8) (by omega) (by omega)
  obtain ⟨a2, a2'⟩ := tu_bd2 ((h + 1) % 8) (by omega) (by omega)
  obtain ⟨a3, a3'⟩ := tu_bd3 ((h + 1) % 8) (by omega) (by omega)
  obtain ⟨b0, b0'⟩ := tu_bd0 ((h + 2) % 8) (by omega) (by omega)
  obtain ⟨b1, b1'⟩ := tu_bd1 ((h + 2) % 8) (by omega) (by omega)
  obtain ⟨b2, b2'⟩ := tu_bd2 ((h + 2) % 8) (by omega) (by omega)
  obtain ⟨b3, b3'⟩ := tu_bd3 ((h + 2) % 8) (by omega) (by omega)
  go_enter Try.func92, Try.ntmps92
  go_wp2_with fail
  (go_at_call 117; (with_reducible refine (ptHeading_any (h + 1) (by omega) (by omega) _).mono ?_); rintro e wA ⟨rfl, h1⟩; (try with_reducible replace h1 := undrew h1); have hB : Below w.heap.size w wA := ba (by go_grown) h1; obtain ⟨hcwA, hfwA⟩ := bcell h1; have hqwA := h1.size; (try simp at hqwA); (try have hz0wA : w.heap.size < wA.heap.size := (by omega)); (try have he0wA : w.heap.size ≤ wA.heap.size := (by omega)))
  go_wp2_with fail
  (go_at_call 117; (with_reducible refine (ptHeading_any (h + 2) (by omega) (by omega) _).mono ?_); rintro e wB ⟨rfl, h1⟩; (try with_reducible replace h1 := undrew h1); have hB : Below w.heap.size w wB := ba (by go_grown) h1; obtain ⟨hcwB, hfwB⟩ := bcell h1; have hqwB := h1.size; (try simp at hqwB); (try have hz0wB : w.heap.size < wB.heap.size := (by omega)); (try have he0wB : w.heap.size ≤ wB.heap.size := (by omega)))
  go_wp2_with fail
  (go_at_call 116; (with_reducible refine (lsB (tu0 ((h + 1) % 8) 1 0 0 0) (tu1 ((h + 1) % 8) 1 0 0 0) (tu2 ((h + 1) % 8) 1 0 0 0) (tu3 ((h + 1) % 8) 1 0 0 0) (tu0 ((h + 2) % 8) 1 0 0 0) (tu1 ((h + 2) % 8) 1 0 0 0) (tu2 ((h + 2) % 8) 1 0 0 0) (tu3 ((h + 2) % 8) 1 0 0 0) a0 a0' a1 a1' a2 a2' a3 a3' b0 b0' b1 b1' b2 b2' b3 b3' _).mono ?_); rintro e wC ⟨rfl, h1⟩; (try with_reducible replace h1 := undrew h1); have hB : Below w.heap.size w wC := ba (by go_grown) h1; obtain ⟨hcwC, hfwC⟩ := bcell h1; have hqwC := h1.size; (try simp at hqwC); (try have hz0wC : w.heap.size < wC.heap.size := (by omega)); (try have he0wC : w.heap.size ≤ wC.heap.size := (by omega)))
  go_wp2_with fail
  refine bodyPost_ret (by simp [results, Try.results92, go_sem, *]; try rfl) rfl ?_
  exact ⟨rfl, by go_grown⟩

set_option maxRecDepth 100000 in
set_option maxHeartbeats 1600000 in
theorem ptStep_S (h : Int) (h0 : 0 ≤ h) (h7 : h ≤ 7) (w : World) :
    Calls Try.prog 92 #[.int .u8 83, .int .i64 h] w fun e w' => e = .returned (.tuple #[.agg #[.int .i64 ((tu0 h 1 0 0 0)), .int .i64 ((tu1 h 1 0 0 0)), .int .i64 ((tu2 h 1 0 0 0)), .int .i64 ((tu3 h 1 0 0 0))], .int .i64 h]) ∧ Below w.heap.size w w' := by
  have hm : h % 8 = h := by omega
  have HM := Lib.hid hm
  clear hm
  go_enter Try.func92, Try.ntmps92
  go_wp2_with fail
  (go_at_call 117; (with_reducible refine (ptHeading_any h (by omega) (by omega) _).mono ?_); rintro e wA ⟨rfl, h1⟩; (try with_reducible replace h1 := undrew h1); have hB : Below w.heap.size w wA := ba (by go_grown) h1; obtain ⟨hcwA, hfwA⟩ := bcell h1; have hqwA := h1.size; (try simp at hqwA); (try have hz0wA : w.heap.size < wA.heap.size := (by omega)); (try have he0wA : w.heap.size ≤ wA.heap.size := (by omega)))
  go_wp2_with fail
  refine bodyPost_ret (by simp [results, Try.results92, go_sem, *]; try rfl) rfl ?_
  exact ⟨by rw [HM.out], by go_grown⟩

end Go.Proofs.Ythiimllafcfieaa

/- Contract: the model's tkLay. -/
namespace Go.Proofs.Ythiimllafcfieaa
open Go.ChangeShapes Go.WideShapes Go.ChangeAt Go.RowKit

set_option linter.unusedVariables false
set_option linter.unusedSimpArgs false

theorem ptInfo : (Try.prog.info? 60).map (fun i => (i.zero, i.size, i.bytes)) = some (some (.agg #[.int .i64 0, .int .i64 0, .int .i64 0, .int .i64 0]), 4, 32) := by kernel_rfl

theorem nmInfo : (Try.prog.info? 3).map (fun i => (i.zero, i.size, i.bytes)) = some (some (.int .i64 0), 1, 8) := by kernel_rfl

theorem own_belowL {W w1 : World} {B : Nat} {e : TypeId} {size n : Nat} {v : Value} {xs : List Value} (h : W.ownsRow B e size v n xs) (hb : Below W.heap.size W w1) : w1.ownsRow B e size v n xs :=
  h.kept (row := none) ⟨hb.os, hb.tape, hb.output, hb.size, fun k hk _ => hb.block k hk⟩ (by cases v.ownBlock <;> simp)

theorem own_setL {W : World} {B : Nat} {e : TypeId} {size n : Nat} {v : Value} {xs : List Value} (h : W.ownsRow B e size v n xs) (p : Addr) (u : Value) (hp : p.block < B) : (W.setCell p u).ownsRow B e size v n xs :=
  h.kept (row := some p.block) ⟨rfl, rfl, rfl, by simp [World.setCell], fun k _ hk => Below.heap_setCell _ _ _ _ (fun e => hk (by simp [e]))⟩ (by
    by_cases hv : v.ownBlock = some p.block
    · have := (h.lt _ hv).1; omega
    · exact .inr hv)

theorem own_ne {W : World} {B : Nat} {e e' : TypeId} {size size' n n' : Nat} {v v' : Value} {xs xs' : List Value} (h : W.ownsRow B e size v n xs) (h' : W.ownsRow B e' size' v' n' xs') (hne : e ≠ e') : v.ownBlock = none ∨ v.ownBlock ≠ v'.ownBlock := by
  rcases h.2 with ⟨rfl, _⟩ | ⟨g, cap, cur, rfl, _, hg, _⟩
  · exact .inl rfl
  · refine .inr fun he => ?_
    rcases h'.2 with ⟨rfl, _⟩ | ⟨g', cap', cur', rfl, _, hg', _⟩
    · cases he
    · simp only [Value.ownBlock, Option.some.injEq] at he
      subst he
      rw [hg] at hg'
      simp only [Option.some.injEq, Obj.cells.injEq] at hg'
      exact hne hg'.2.1

theorem blk_set {W : World} {g : Nat} {t : TypeId} {a0 a1 a2 a3 : Value} (h : W.heap[g]? = some (.cells #[a0, a1, a2, a3] t (0, 0))) (b0 b1 b2 b3 : Value) :
    ((((W.setCell ⟨g, 0, none⟩ b0).setCell ⟨g, 1, none⟩ b1).setCell ⟨g, 2, none⟩ b2).setCell ⟨g, 3, none⟩ b3).heap[g]? = some (.cells #[b0, b1, b2, b3] t (0, 0)) := by
  simp [World.setCell, Array.getElem?_modify, h]

theorem blk_cells {W : World} {g : Nat} {t : TypeId} {a0 a1 a2 a3 : Value} (h : W.heap[g]? = some (.cells #[a0, a1, a2, a3] t (0, 0))) :
    W.cell? ⟨g, 0, none⟩ = some a0 ∧ W.cell? ⟨g, 1, none⟩ = some a1 ∧ W.cell? ⟨g, 2, none⟩ = some a2 ∧ W.cell? ⟨g, 3, none⟩ = some a3 := by
  simp [World.cell?, h]

theorem blk_free {W : World} {g : Nat} {t : TypeId} {a0 a1 a2 a3 : Value} (h : W.heap[g]? = some (.cells #[a0, a1, a2, a3] t (0, 0))) :
    W.frozen? ⟨g, 0, none⟩ = false ∧ W.frozen? ⟨g, 1, none⟩ = false ∧ W.frozen? ⟨g, 2, none⟩ = false ∧ W.frozen? ⟨g, 3, none⟩ = false := by
  simp [World.frozen?, h]

theorem blk_lt {W : World} {g : Nat} {o : Obj} (h : W.heap[g]? = some o) : g < W.heap.size := (Array.getElem?_eq_some_iff.1 h).1

theorem spAddP (x0 x1 x2 x3 y0 y1 y2 y3 : Int) (px0 : -9000000 ≤ x0) (qx0 : x0 ≤ 9000000) (px1 : -9000000 ≤ x1) (qx1 : x1 ≤ 9000000) (px2 : -9000000 ≤ x2) (qx2 : x2 ≤ 9000000) (px3 : -9000000 ≤ x3) (qx3 : x3 ≤ 9000000) (py0 : -9000000 ≤ y0) (qy0 : y0 ≤ 9000000) (py1 : -9000000 ≤ y1) (qy1 : y1 ≤ 9000000) (py2 : -9000000 ≤ y2) (qy2 : y2 ≤ 9000000) (py3 : -9000000 ≤ y3) (qy3 : y3 ≤ 9000000) (w : World) :
    Calls Try.prog 93 #[.agg #[.int .i64 x0, .int .i64 x1, .int .i64 x2, .int .i64 x3], .agg #[.int .i64 y0, .int .i64 y1, .int .i64 y2, .int .i64 y3]] w fun e w' => e = .returned (.agg #[.int .i64 (x0 + y0), .int .i64 (x1 + y1), .int .i64 (x2 + y2), .int .i64 (x3 + y3)]) ∧ Below w.heap.size w w' :=
  (spAdd_any x0 x1 x2 x3 y0 y1 y2 y3 w).mono fun e w' ⟨h, hb⟩ => ⟨by rw [h, w64s (x0 + y0) (by omega) (by omega), w64s (x1 + y1) (by omega) (by omega), w64s (x2 + y2) (by omega) (by omega), w64s (x3 + y3) (by omega) (by omega)], hb⟩

def hdCells (l : List Sp) : List Value := l.map fun s => .int .i64 s.h

theorem hdCells_append (l m : List Sp) : hdCells (l ++ m) = hdCells l ++ hdCells m := by simp [hdCells]

theorem hdCells_length (l : List Sp) : (hdCells l).length = l.length := by simp [hdCells]

theorem layT (a : Sp) (s : ByteArray) (k : Nat) (hk : k < s.size) (c : UInt8) (hc : s[k] = c) : lays a (s.data.toList.take (k + 1)) = lays a (s.data.toList.take k) ++ [(fin a (s.data.toList.take k)).next c] := by
  rw [take_snoc s k hk, lays_snoc, hc]

theorem finT (a : Sp) (s : ByteArray) (k : Nat) (hk : k < s.size) (c : UInt8) (hc : s[k] = c) : fin a (s.data.toList.take (k + 1)) = (fin a (s.data.toList.take k)).next c := by
  rw [take_snoc s k hk, fin_snoc, hc]

def LayPost (a : Sp) (s : ByteArray) (w : World) (e : Ending) (w' : World) : Prop :=
  ∃ gj cj gh ch, e = .returned (.tuple #[.slice (some ⟨gj, 0, none⟩) (s.size + 1) cj, .slice (some ⟨gh, 0, none⟩) (s.size + 1) ch]) ∧
    w'.ownsRow (w.heap.size + 1) 60 4 (.slice (some ⟨gj, 0, none⟩) (s.size + 1) cj) (s.size + 1) (ptCells (lays a s.data.toList)) ∧
    w'.ownsRow (w.heap.size + 1) 3 1 (.slice (some ⟨gh, 0, none⟩) (s.size + 1) ch) (s.size + 1) (hdCells (lays a s.data.toList)) ∧ Below w.heap.size w w'

def LayRel (a : Sp) (s : ByteArray) (w : World) (h vj vh i : Value) (wr : World) : Prop :=
  ∃ (k gj cj gh ch : Nat), k ≤ s.size ∧ i = .int .i64 k ∧ h = .int .i64 (fin a (s.data.toList.take k)).h ∧ vj = .slice (some ⟨gj, 0, none⟩) (k + 1) cj ∧ vh = .slice (some ⟨gh, 0, none⟩) (k + 1) ch ∧
    wr.ownsRow (w.heap.size + 1) 60 4 (.slice (some ⟨gj, 0, none⟩) (k + 1) cj) (k + 1) (ptCells (lays a (s.data.toList.take k))) ∧
    wr.ownsRow (w.heap.size + 1) 3 1 (.slice (some ⟨gh, 0, none⟩) (k + 1) ch) (k + 1) (hdCells (lays a (s.data.toList.take k))) ∧
    wr.heap[w.heap.size]? = some (.cells #[.int .i64 (fin a (s.data.toList.take k)).x0, .int .i64 (fin a (s.data.toList.take k)).x1, .int .i64 (fin a (s.data.toList.take k)).x2, .int .i64 (fin a (s.data.toList.take k)).x3] 60 (0, 0)) ∧ Below w.heap.size w wr

theorem ptStep_any (c : UInt8) (hp : pcb c = true) (h : Int) (h0 : 0 ≤ h) (h7 : h ≤ 7) (w : World) :
    Calls Try.prog 92 #[.int .u8 ((c.toNat : Nat) : Int), .int .i64 h] w fun e w' => e = .returned (.tuple #[.agg #[.int .i64 (dd0 c h), .int .i64 (dd1 c h), .int .i64 (dd2 c h), .int .i64 (dd3 c h)], .int .i64 (nh c h)]) ∧ Below w.heap.size w w' := by
  rcases pcb_cases hp with rfl | rfl | rfl
  · exact ptStep_S h h0 h7 w
  · exact ptStep_L h h0 h7 w
  · exact ptStep_R h h0 h7 w

theorem litCells {W : World} {B n : Nat} {e : TypeId} {size : Nat} {cs : Array Value} {xs : List Value} (hn : W.heap.size = n) (hb : B ≤ n) (hs : cs.size = size) (hx : cs.toList = xs) : (W.alloc (.cells cs e)).ownsRow B e size (.slice (some ⟨n, 0, none⟩) 1 1) 1 xs := by
  subst hn hx
  exact World.ownsRow_lit W cs 1 hb (by decide) (by omega)

theorem newc {W : World} {cs : Array Value} {e : TypeId} {n : Nat} (hn : W.heap.size = n) : ∀ (j : Nat) u, cs.toList[j]? = some u → (W.alloc (.cells cs e)).cell? ((⟨n, 0, none⟩ : Addr).add j) = some u := by
  subst hn
  intro j u hu
  have h := Lib.cell_of_heap (heap_alloc_new W (.cells cs e)) j
  have ha : ((⟨W.heap.size, 0, none⟩ : Addr).add j) = ⟨W.heap.size, j, none⟩ := by by_cases e : j = 0 <;> simp [Addr.add, e]
  rw [ha, h, ← hu]
  simp

set_option maxRecDepth 100000 in
set_option maxHeartbeats 3200000 in
theorem tkLay_any (s : ByteArray) (ht : tkB s = true) (a : Sp) (hn : a.okB 1000000) (w : World) :
    Calls Try.prog 89 #[.string s, .agg #[.int .i64 a.x0, .int .i64 a.x1, .int .i64 a.x2, .int .i64 a.x3], .int .i64 a.h] w (LayPost a s w) := by
  have h40 := tkB_size ht
  have hs : s.size ≤ 1048576 := by omega
  have HT := Lib.hid (fun k hk => tkB_at ht (k := k) hk)
  have HK := Lib.hid hn
  obtain ⟨i0, hi, iz0, iz1, iz2⟩ := info_parts ptInfo
  obtain ⟨j0, ji, jz0, jz1, jz2⟩ := info_parts nmInfo
  clear hn
  go_enter Try.func89, Try.ntmps89
  go_wp2_with fail
  go_loopw [2, 8, 9, 10] (fun h vj vh i wr => LayRel a s w h vj vh i wr) (fun _ _ _ i _ => s.size - (intOf i).toNat)
  case atStart =>
    refine ⟨0, w.heap.size + 1, 1, w.heap.size + 1 + 1, 1, Nat.zero_le _, rfl, rfl, rfl, rfl, ?_, ?_, ?_, by go_grown⟩
    · exact (litCells (by simp) (Nat.le_refl _) rfl rfl).alloc _
    · exact litCells (by simp) (Nat.le_succ _) rfl rfl
    · rw [Below.heap_alloc _ _ _ (by simp; omega), Below.heap_alloc _ _ _ (by simp)]
      exact heap_alloc_new w _
  case round =>
    obtain ⟨k, gj, cj, gh, ch, hk, rfl, rfl, rfl, rfl, hJ, hH, hblk, hb⟩ := hrel
    have hz : w.heap.size ≤ wr.heap.size := hb.size
    by_cases hlt : k < s.size
    · have hp := HT.out k hlt
      have hok := fin_ok HK.out (s.data.toList.take k)
      have hl : (s.data.toList.take k).length ≤ 40 := by rw [List.length_take, size_list]; omega
      have hN := layT a s k hlt _ rfl
      have hF := finT a s k hlt _ rfl
      generalize fin a (s.data.toList.take k) = p at hN hF hok hblk
      obtain ⟨x0, x1, x2, x3, h⟩ := p
      simp only [Sp.okB] at hok
      obtain ⟨⟨b0, b0'⟩, ⟨b1, b1'⟩, ⟨b2, b2'⟩, ⟨b3, b3'⟩, b4, b5⟩ := hok
      have hstep := ptStep_any s[k] hp h b4 b5 wr
      have e0 := dd_bd0 s[k] h
      have e1 := dd_bd1 s[k] h
      have e2 := dd_bd2 s[k] h
      have e3 := dd_bd3 s[k] h
      have hnx : (Sp.mk x0 x1 x2 x3 h).next s[k] = ⟨x0 + dd0 s[k] h, x1 + dd1 s[k] h, x2 + dd2 s[k] h, x3 + dd3 s[k] h, nh s[k] h⟩ := rfl
      rw [hnx] at hN hF
      clear hnx
      generalize dd0 s[k] h = d0 at hN hF hstep e0
      generalize dd1 s[k] h = d1 at hN hF hstep e1
      generalize dd2 s[k] h = d2 at hN hF hstep e2
      generalize dd3 s[k] h = d3 at hN hF hstep e3
      generalize nh s[k] h = t at hN hF hstep
      obtain ⟨e0, e0'⟩ := e0
      obtain ⟨e1, e1'⟩ := e1
      obtain ⟨e2, e2'⟩ := e2
      obtain ⟨e3, e3'⟩ := e3
      have HST := Lib.hid hstep
      have HN := Lib.hid hN
      have HF := Lib.hid hF
      have hzl := blk_lt hblk
      have HJ := Lib.hid hJ
      have HH := Lib.hid hH
      have HB := Lib.hid hb
      have HBK := Lib.hid hblk
      clear hJ hH hb hblk hN hF hstep hp
      go_wp2_with fail
      refine HST.out.mono ?_
      rintro e w1 ⟨rfl, hb1⟩
      have hz1 : wr.heap.size ≤ w1.heap.size := hb1.size
      have hzl1 : w.heap.size < w1.heap.size := by omega
      have HJ1 := Lib.hid (own_belowL HJ.out hb1)
      have HH1 := Lib.hid (own_belowL HH.out hb1)
      have hbk1 := (hb1.block _ hzl).trans HBK.out
      have HB1 := Lib.hid (HB.out.trans (hb1.mono hz))
      obtain ⟨c0, c1, c2, c3⟩ := blk_cells hbk1
      have HBK1 := Lib.hid hbk1
      clear hbk1 hb1
      go_wp2_with fail
      refine (spAddP x0 x1 x2 x3 d0 d1 d2 d3 (by omega) (by omega) (by omega) (by omega) (by omega) (by omega) (by omega) (by omega) (by omega) (by omega) (by omega) (by omega) (by omega) (by omega) (by omega) (by omega) _).mono ?_
      rintro e w2 ⟨rfl, hb2⟩
      have hz2' : w1.heap.size + 1 ≤ w2.heap.size := by have := hb2.size; simpa using this
      have hzl2 : w.heap.size < w2.heap.size := by omega
      have HJ2 := Lib.hid (own_belowL (HJ1.out.alloc _) hb2)
      have HH2 := Lib.hid (own_belowL (HH1.out.alloc _) hb2)
      have hbk2 := (hb2.block w.heap.size (by simp; omega)).trans ((Below.heap_alloc _ _ _ hzl1).trans HBK1.out)
      have HB2 := Lib.hid ((HB1.out.alloc (by omega) _).trans (hb2.mono (by simp; omega)))
      clear c0 c1 c2 c3 hb2
      obtain ⟨c0, c1, c2, c3⟩ := blk_cells hbk2
      obtain ⟨f0, f1, f2, f3⟩ := blk_free hbk2
      have HBK2 := Lib.hid (blk_set hbk2 (.int .i64 (x0 + d0)) (.int .i64 (x1 + d1)) (.int .i64 (x2 + d2)) (.int .i64 (x3 + d3)))
      clear hbk2
      have HJ3 := Lib.hid (own_setL (own_setL (own_setL (own_setL HJ2.out ⟨w.heap.size, 0, none⟩ (.int .i64 (x0 + d0)) (by simp)) ⟨w.heap.size, 1, none⟩ (.int .i64 (x1 + d1)) (by simp)) ⟨w.heap.size, 2, none⟩ (.int .i64 (x2 + d2)) (by simp)) ⟨w.heap.size, 3, none⟩ (.int .i64 (x3 + d3)) (by simp))
      have HH3 := Lib.hid (own_setL (own_setL (own_setL (own_setL HH2.out ⟨w.heap.size, 0, none⟩ (.int .i64 (x0 + d0)) (by simp)) ⟨w.heap.size, 1, none⟩ (.int .i64 (x1 + d1)) (by simp)) ⟨w.heap.size, 2, none⟩ (.int .i64 (x2 + d2)) (by simp)) ⟨w.heap.size, 3, none⟩ (.int .i64 (x3 + d3)) (by simp))
      have HB3 := Lib.hid ((((HB2.out.setCell (p := ⟨w.heap.size, 0, none⟩) (Nat.le_refl _) (.int .i64 (x0 + d0))).setCell (p := ⟨w.heap.size, 1, none⟩) (Nat.le_refl _) (.int .i64 (x1 + d1))).setCell (p := ⟨w.heap.size, 2, none⟩) (Nat.le_refl _) (.int .i64 (x2 + d2))).setCell (p := ⟨w.heap.size, 3, none⟩) (Nat.le_refl _) (.int .i64 (x3 + d3)))
      go_wp2_with (at_builtin; refine wpList_append_own _ rfl _ _ 87 rfl (w.heap.size + 1) 60 i0 (.agg #[.int .i64 0, .int .i64 0, .int .i64 0, .int .i64 0]) 4 32 Try.underlying87 hi iz0 iz1 iz2 rfl (by decide) _ _ _ rfl (HJ3.out.alloc _) ⟨w2.heap.size, 0, none⟩ 1 1 [.int .i64 (x0 + d0), .int .i64 (x1 + d1), .int .i64 (x2 + d2), .int .i64 (x3 + d3)] rfl rfl ?c1 ?c2 ?c3 ?c4 ?c5 ?_)
      case c1 => exact newc (by simp [World.setCell])
      case c2 => intro u hu; simp at hu; rcases hu with rfl | rfl | rfl | rfl <;> rfl
      case c3 => unfold maxLen; omega
      case c4 => omega
      case c5 => simp; omega
      intro v' w3 hJ3 hg3 _
      have HJA := Lib.hid (HJ3.out.alloc (.cells #[.int .i64 (x0 + d0), .int .i64 (x1 + d1), .int .i64 (x2 + d2), .int .i64 (x3 + d3)] 60))
      have HHA := Lib.hid (HH3.out.alloc (.cells #[.int .i64 (x0 + d0), .int .i64 (x1 + d1), .int .i64 (x2 + d2), .int .i64 (x3 + d3)] 60))
      have hne : some w.heap.size ≠ (Value.slice (some ⟨gj, 0, none⟩) (k + 1) cj).ownBlock := fun e => by
        have := (HJA.out.lt _ e.symm).1
        omega
      have hz3 : w2.heap.size + 1 ≤ w3.heap.size := by have := hg3.size; simpa [World.setCell] using this
      have HH4 := Lib.hid (HHA.out.kept hg3 (own_ne HHA.out HJA.out (by decide)))
      have hbk3 := (hg3.block w.heap.size (by simp [World.setCell]; omega) hne).trans ((Below.heap_alloc _ _ _ (by simp [World.setCell]; omega)).trans HBK2.out)
      have HBK3 := Lib.hid hbk3
      have HB4 := Lib.hid ((HB3.out.alloc (by simp [World.setCell]; omega) (.cells #[.int .i64 (x0 + d0), .int .i64 (x1 + d1), .int .i64 (x2 + d2), .int .i64 (x3 + d3)] 60)).grown hg3 (by simp [World.setCell]; omega) (fun k hk => by have := (HJA.out.lt k hk).1; omega))
      obtain ⟨gj', cj', rfl, _⟩ := hJ3.form (by omega)
      have HJ4 := Lib.hid hJ3
      clear hJ3 hg3 hne hbk3 c0 c1 c2 c3 f0 f1 f2 f3
      go_wp2_with (at_builtin; refine wpList_append_own _ rfl _ _ 88 rfl (w.heap.size + 1) 3 j0 (.int .i64 0) 1 8 Try.underlying88 ji jz0 jz1 jz2 rfl (by decide) _ _ _ rfl (HH4.out.alloc _) ⟨w3.heap.size, 0, none⟩ 1 1 [.int .i64 t] rfl rfl ?c1 ?c2 ?c3 ?c4 ?c5 ?_)
      case c1 => exact newc rfl
      case c2 => intro u hu; simp at hu; subst hu; rfl
      case c3 => unfold maxLen; omega
      case c4 => omega
      case c5 => simp; omega
      intro v'' w4 hH5 hg4 _
      have HJB := Lib.hid (HJ4.out.alloc (.cells #[.int .i64 t] 3))
      have HHB := Lib.hid (HH4.out.alloc (.cells #[.int .i64 t] 3))
      have hne : some w.heap.size ≠ (Value.slice (some ⟨gh, 0, none⟩) (k + 1) ch).ownBlock := fun e => by
        have := (HHB.out.lt _ e.symm).1
        omega
      have HJ6 := Lib.hid (HJB.out.kept hg4 (own_ne HJB.out HHB.out (by decide)))
      have HBK4 := Lib.hid ((hg4.block w.heap.size (by simp; omega) hne).trans ((Below.heap_alloc _ _ _ (by omega)).trans HBK3.out))
      have HB5 := Lib.hid ((HB4.out.alloc (by omega) (.cells #[.int .i64 t] 3)).grown hg4 (by simp; omega) (fun k hk => by have := (HHB.out.lt k hk).1; omega))
      obtain ⟨gh', ch', rfl, _⟩ := hH5.form (by omega)
      have HH6 := Lib.hid hH5
      clear hH5 hg4 hne
      go_wp2_with fail
      go_roundw
      case rel => exact ⟨k + 1, gj', cj', gh', ch', by omega, by go_num, by rw [HF.out], rfl, rfl, by rw [HN.out, ptCells_append]; exact HJ6.out, by rw [HN.out, hdCells_append]; exact HH6.out, by rw [HF.out]; exact HBK4.out, HB5.out⟩
      case measure => simp [intOf]; omega
    · obtain rfl : k = s.size := by omega
      have hE := take_all s hlt
      rw [hE] at hJ hH
      have HJ := Lib.hid hJ
      have HH := Lib.hid hH
      have HB := Lib.hid hb
      clear hJ hH hb hE hblk
      go_wp2_with fail
      go_ret2
      exact ⟨gj, cj, gh, ch, rfl, HJ.out, HH.out, HB.out⟩

end Go.Proofs.Ythiimllafcfieaa

/- Contracts: how often a piece is in a track, in the model and in Go's library. -/
namespace Go.Proofs.Ythiimllafcfieaa
open Go.ChangeShapes Go.WideShapes Go.ChangeAt Go.RowKit

theorem ext_toList (s : ByteArray) (k : Nat) (h : k < s.size) : (s.extract k (k + 1)).toList = [s[k]] := by
  rw [ext_one s k h, ByteArray.toList_eq]

set_option maxRecDepth 100000 in
theorem tkCount_any (s : ByteArray) (c : UInt8) (hs : s.size ≤ 40) (w : World) :
    Calls Try.prog 128 #[.string s, .string ⟨#[c]⟩] w fun e w' => e = .returned (.int .i64 (cnt c s.data.toList : Nat)) ∧ w = w' := by
  go_enter Try.func128, Try.ntmps128
  go_wp2_with fail
  go_loop [5, 6] (fun n i => ∃ k : Nat, k ≤ s.size ∧ i = .int .i64 k ∧ n = .int .i64 (cnt c (s.data.toList.take k) : Nat)) (fun _ i => s.size - (intOf i).toNat)
  case atStart => exact ⟨0, Nat.zero_le _, rfl, rfl⟩
  case round =>
    obtain ⟨k, hk, rfl, rfl⟩ := hrel
    have hle := cnt_le c (s.data.toList.take k)
    have hl : (s.data.toList.take k).length ≤ k := List.length_take_le _ _
    by_cases hlt : k < s.size
    · have hx : (s.extract k (k + 1)).toList = [s[k]] := ext_toList s k hlt
      go_wp2_with fail
      · have h : (s[k] == c) = true := by assumption
        go_round
        case rel => exact ⟨k + 1, by omega, by go_num, by rw [take_snoc s k hlt, cnt_snoc, if_pos h]; go_num⟩
        case measure => simp [intOf]; omega
      · have h : (s[k] == c) = false := by assumption
        go_round
        case rel => exact ⟨k + 1, by omega, by go_num, by rw [take_snoc s k hlt, cnt_snoc, if_neg (by simp [h])]; rfl⟩
        case measure => simp [intOf]; omega
    · go_wp2_with fail
      go_ret
      exact ⟨by rw [take_all s hlt]; rfl, rfl⟩

theorem count_any (s : ByteArray) (c : UInt8) (w : World) :
    Calls Try.prog 122 #[.string s, .string ⟨#[c]⟩] w fun e w' => e = .returned (.int .i64 (cnt c s.data.toList : Nat)) ∧ w = w' :=
  (Try.strings_Count_one s c w).mono fun _ _ h => ⟨h.1, h.2.symm⟩

def tuR (s : ByteArray) : Int := cond (tkB s) ((cnt 76 s.data.toList : Int) - (cnt 82 s.data.toList : Int)) 0

theorem one_size {s : ByteArray} (h : s.size = 1) : ∃ c, s = ⟨#[c]⟩ := by
  obtain ⟨⟨d⟩⟩ := s
  match d, h with
  | [c], _ => exact ⟨c, rfl⟩

/-- A text is a piece. -/
def pcS (p : ByteArray) : Bool := p.toList == [83] || (p.toList == [76] || p.toList == [82])

def cpR (s p : ByteArray) : Int := cond (tkB s && pcS p) (cnt (p.toList.headD 0) s.data.toList : Int) 0

theorem pcS_one (c : UInt8) : pcS ⟨#[c]⟩ = pcb c := by
  simp [pcS, pcb, ByteArray.toList_eq]

theorem pcS_size {p : ByteArray} (h : pcS p = true) : ∃ c, p = ⟨#[c]⟩ ∧ pcb c = true := by
  simp only [pcS, Bool.or_eq_true, beq_iff_eq, ByteArray.toList_eq] at h
  obtain ⟨⟨l⟩⟩ := p
  rcases h with h | h | h <;> (simp at h; subst h; exact ⟨_, rfl, by decide⟩)

theorem pcS_no {p : ByteArray} (h : pcS p = false) : (p.toList == [83]) = false ∧ (p.toList == [76]) = false ∧ (p.toList == [82]) = false := by
  simpa [pcS, Bool.or_eq_false_iff] using h

end Go.Proofs.Ythiimllafcfieaa

/- Contract: the model's 'clEnd'. -/
namespace Go.Proofs.Ythiimllafcfieaa
open Go.ChangeShapes Go.WideShapes Go.ChangeAt Go.RowKit

set_option linter.unusedVariables false

theorem tkB_ofE {l : List UInt8} (h1 : l.all pcb = true) (h2 : l.length ≤ 40) : tkB (ofL l) = true := by
  simp only [tkB, ofL_size, Bool.and_eq_true, decide_eq_true_eq]
  exact ⟨h2, h1⟩

theorem own_ptE {W : World} {B n g cap i : Nat} {e : TypeId} {l : List Sp} {s : Sp} (h : W.ownsRow B e 4 (.slice (some ⟨g, 0, none⟩) n cap) n (ptCells l)) (hn : l.length = n) (hs : l[i]? = some s) :
    W.cell? ⟨g, i * 4, none⟩ = some (.int .i64 s.x0) ∧ W.cell? ⟨g, i * 4 + 1, none⟩ = some (.int .i64 s.x1) ∧ W.cell? ⟨g, i * 4 + 2, none⟩ = some (.int .i64 s.x2) ∧ W.cell? ⟨g, i * 4 + 3, none⟩ = some (.int .i64 s.x3) := by
  have hi : i < n := by rw [← hn]; exact (List.getElem?_eq_some_iff.1 hs).1
  have a := fun j (hj : j < 4) => (h.cellAt (i * 4 + j) (by omega)).trans ((by rw [Nat.mul_comm]) : _ = (ptCells l)[4 * i + j]?) |>.trans (ptCells_at l hs j hj)
  exact ⟨a 0 (by omega), a 1 (by omega), a 2 (by omega), a 3 (by omega)⟩

set_option maxRecDepth 100000 in
set_option maxHeartbeats 1600000 in
theorem clEnd_any (l : List UInt8) (hp : l.all pcb = true) (hl : l.length ≤ 14) (h : Int) (h0 : 0 ≤ h) (h7 : h ≤ 7) (w : World) :
    Calls Try.prog 111 #[.string (ofL l), .int .i64 h] w fun e w' =>
      e = .returned (.tuple #[.agg #[.int .i64 (fin ⟨0, 0, 0, 0, h⟩ l).x0, .int .i64 (fin ⟨0, 0, 0, 0, h⟩ l).x1, .int .i64 (fin ⟨0, 0, 0, 0, h⟩ l).x2, .int .i64 (fin ⟨0, 0, 0, 0, h⟩ l).x3], .int .i64 (trW l)]) ∧ Below w.heap.size w w' := by
  have ht := tkB_ofE hp (by omega : l.length ≤ 40)
  have P := Lib.hid (fun w => (tkLay_any (ofL l) ht ⟨0, 0, 0, 0, h⟩ (by simp [Sp.okB, h0, h7]) w : Calls Try.prog 89 #[.string (ofL l), .agg #[.int .i64 0, .int .i64 0, .int .i64 0, .int .i64 0], .int .i64 h] w (LayPost ⟨0, 0, 0, 0, h⟩ (ofL l) w)))
  have hz : (ofL l).size = l.length := ofL_size l
  have hls := lays_last ⟨0, 0, 0, 0, h⟩ l
  have hln := lays_length ⟨0, 0, 0, 0, h⟩ l
  have C1 := Lib.hid (tkCount_any (ofL l) 76 (by omega))
  have C2 := Lib.hid (tkCount_any (ofL l) 82 (by omega))
  have n1 := cnt_le 76 l
  have n2 := cnt_le 82 l
  have hd : (ofL l).data.toList = l := rfl
  rw [hd] at C1 C2
  have HTR := Lib.hid (show trW l = (cnt 76 l : Int) - (cnt 82 l : Int) from rfl)
  generalize cnt 76 l = a at *
  generalize cnt 82 l = b at *
  generalize fin ⟨0, 0, 0, 0, h⟩ l = p at hls ⊢
  obtain ⟨n, hn⟩ : ∃ n, l.length = n := ⟨_, rfl⟩
  rw [hn] at hls hln hz hl n1 n2
  have HLS := Lib.hid hls
  have HLN := Lib.hid hln
  clear hls hln hn
  have HW := Lib.hid (show IntKind.i64.wrap ((a : Int) - (b : Int)) = (a : Int) - (b : Int) by rw [IntKind.wrap_i64]; omega)
  go_enter Try.func111, Try.ntmps111
  go_wp2_with fail
  refine (P.out _).mono ?_
  rintro e w1 ⟨gj, cj, gh, ch, rfl, hJ, hH, hb1⟩
  rw [hz] at hJ ⊢
  have hgj := (hJ.lt gj rfl).1
  have hgj2 := (hJ.lt gj rfl).2
  simp at hgj
  obtain ⟨c0, c1, c2, c3⟩ := own_ptE hJ HLN.out HLS.out
  have HB := Lib.hid (ba (by go_grown) hb1 : Below w.heap.size w w1)
  have f0 : w1.frozen? ⟨w.heap.size, 0, none⟩ = false := by rw [hb1.frozen (p := ⟨w.heap.size, 0, none⟩) (by simp)]; go_simp
  have f1 : w1.frozen? ⟨w.heap.size, 1, none⟩ = false := by rw [hb1.frozen (p := ⟨w.heap.size, 1, none⟩) (by simp)]; go_simp
  have f2 : w1.frozen? ⟨w.heap.size, 2, none⟩ = false := by rw [hb1.frozen (p := ⟨w.heap.size, 2, none⟩) (by simp)]; go_simp
  have f3 : w1.frozen? ⟨w.heap.size, 3, none⟩ = false := by rw [hb1.frozen (p := ⟨w.heap.size, 3, none⟩) (by simp)]; go_simp
  have e0 : w1.cell? ⟨w.heap.size, 0, none⟩ = some (.int .i64 0) := by rw [hb1.cell (p := ⟨w.heap.size, 0, none⟩) (by simp)]; go_simp
  have e1 : w1.cell? ⟨w.heap.size, 1, none⟩ = some (.int .i64 0) := by rw [hb1.cell (p := ⟨w.heap.size, 1, none⟩) (by simp)]; go_simp
  have e2 : w1.cell? ⟨w.heap.size, 2, none⟩ = some (.int .i64 0) := by rw [hb1.cell (p := ⟨w.heap.size, 2, none⟩) (by simp)]; go_simp
  have e3 : w1.cell? ⟨w.heap.size, 3, none⟩ = some (.int .i64 0) := by rw [hb1.cell (p := ⟨w.heap.size, 3, none⟩) (by simp)]; go_simp
  have i1 : (0 : Int) ≤ (n : Int) := by omega
  have i2 : (n : Int) < ((n + 1 : Nat) : Int) := by omega
  have ne1 : ¬ gj = w.heap.size := by omega
  have ne2 : ¬ w.heap.size = gj := by omega
  have hz1 : w.heap.size < w1.heap.size := by have := hb1.size; simp at this; omega
  clear hJ hH hb1
  go_wp2_with fail
  go_region_with (first | (go_at_call 128; first | ((with_reducible refine (C1.out _).mono ?_); rintro e w' ⟨rfl, rfl⟩) | ((with_reducible refine (C2.out _).mono ?_); rintro e w' ⟨rfl, rfl⟩)))
  all_goals
    go_wp2_with fail
    refine bodyPost_ret (by simp [results, Try.results111, go_sem, *]; try rfl) rfl ?_
    have hB := HB.out
    exact ⟨by simp only [HTR.out, HW.out], by go_grown⟩

end Go.Proofs.Ythiimllafcfieaa

/- Contracts: lists of numbers compared, marked and looked at again. -/
namespace Go.Proofs.Ythiimllafcfieaa
open Go.ChangeShapes Go.WideShapes Go.ChangeAt Go.RowKit

set_option linter.unusedVariables false

/-- Block g holds the numbers xs from its beginning on. -/
def RowI (w : World) (g : Nat) (xs : List Int) : Prop := ∀ (j : Nat) x, xs[j]? = some x → w.cell? ⟨g, j, none⟩ = some (.int .i64 x)

/-- .. the first n are the numbers from k on. -/
def RowK (w : World) (g n : Nat) (k : Int) : Prop := ∀ j : Nat, j < n → w.cell? ⟨g, j, none⟩ = some (.int .i64 (k + j))

def FreeR (w : World) (g n : Nat) : Prop := ∀ j : Nat, j < n → w.frozen? ⟨g, j, none⟩ = false

theorem RowI.below {w w' : World} {g m : Nat} {xs : List Int} (h : RowI w g xs) (hg : g < m) (hb : Below m w w') : RowI w' g xs := fun j x hx => by
  rw [hb.cell (p := ⟨g, j, none⟩) hg]; exact h j x hx

theorem RowK.below {w w' : World} {g n m : Nat} {k : Int} (h : RowK w g n k) (hg : g < m) (hb : Below m w w') : RowK w' g n k := fun j hj => by
  rw [hb.cell (p := ⟨g, j, none⟩) hg]; exact h j hj

theorem RowI.grown {w w' : World} {g : Nat} {row : Option Nat} {xs : List Int} (h : RowI w g xs) (hg : w.grownBy w' row) (hne : some g ≠ row) : RowI w' g xs := fun j x hx =>
  hg.cell (h j x hx) hne

theorem below_drawn {w : World} (n m : Nat) : Below m w (w.drewN n) := ⟨rfl, rfl, rfl, Nat.le_refl _, fun _ _ => rfl⟩

theorem set_grown {w wr : World} {g : Nat} (h : w.grownBy wr (some g)) (j : Nat) (v : Value) : w.grownBy (wr.setCell ⟨g, j, none⟩ v) (some g) :=
  ⟨h.os, h.tape, h.output, by simpa [World.setCell] using h.size, fun k hk hne => by rw [Below.heap_setCell _ _ _ _ (fun e => hne (by simp [e]))]; exact h.block k hk hne⟩

end Go.Proofs.Ythiimllafcfieaa

/- Contracts: lists of numbers sorted and searched, in the model. -/
namespace Go.Proofs.Ythiimllafcfieaa
open Go.ChangeShapes Go.WideShapes Go.ChangeAt Go.RowKit

set_option linter.unusedVariables false

theorem nmInfoS : (Try.prog.info? 3).map (fun i => (i.zero, i.size, i.bytes)) = some (some (.int .i64 0), 1, 8) := by kernel_rfl

/-- A slice of numbers that can be read. -/
def IntV (w : World) (v : Value) (xs : List Int) : Prop :=
  ∃ av cap, v = .slice av xs.length cap ∧ xs.length ≤ cap ∧ cap ≤ maxLen ∧ (xs = [] ∨ ∃ g o, av = some ⟨g, o, none⟩ ∧ g < w.heap.size ∧ ∀ j x, xs[j]? = some x → w.cell? ⟨g, o + j, none⟩ = some (.int .i64 x))

theorem IntV.below {w w' : World} {v : Value} {xs : List Int} (h : IntV w v xs) (hb : Below w.heap.size w w') : IntV w' v xs := by
  obtain ⟨av, cap, rfl, h1, h2, h⟩ := h
  refine ⟨av, cap, rfl, h1, h2, h.imp id ?_⟩
  rintro ⟨g, o, rfl, hg, hs⟩
  exact ⟨g, o, rfl, Nat.lt_of_lt_of_le hg hb.size, fun j x hx => by rw [hb.cell (p := ⟨g, o + j, none⟩) hg]; exact hs j x hx⟩

theorem IntV.grown {w w' : World} {v : Value} {xs : List Int} {row : Option Nat} (h : IntV w v xs) (hg : w.grownBy w' row) (hne : ∀ k, v.ownBlock = some k → some k ≠ row) : IntV w' v xs := by
  obtain ⟨av, cap, rfl, h1, h2, h⟩ := h
  refine ⟨av, cap, rfl, h1, h2, h.imp id ?_⟩
  rintro ⟨g, o, rfl, hlt, hs⟩
  exact ⟨g, o, rfl, Nat.lt_of_lt_of_le hlt hg.size, fun j x hx => hg.cell (hs j x hx) (hne g rfl)⟩

theorem iv_own {W : World} {B : Nat} {v : Value} {xs : List Int} (h : W.ownsRow B 3 1 v xs.length (xs.map (Value.int .i64))) : IntV W v xs := by
  have h0 := h
  rcases h.2 with ⟨rfl, h2⟩ | ⟨g, cap, cur, rfl, _, _, hc, hc2, _⟩
  · exact ⟨none, 0, by rw [h2], by omega, by unfold maxLen; omega, .inl (List.eq_nil_of_length_eq_zero h2)⟩
  · refine ⟨_, cap, rfl, hc, hc2, .inr ⟨g, 0, rfl, (h0.lt g rfl).2, fun j x hx => ?_⟩⟩
    have hj : j < xs.length := (List.getElem?_eq_some_iff.1 hx).1
    rw [Nat.zero_add, h0.cellAt j (by omega)]
    simp [hx]

theorem IntV.cons {w : World} {v : Value} {x : Int} {A : List Int} (h : IntV w v (x :: A)) : ∃ g o cap, v = .slice (some ⟨g, o, none⟩) (A.length + 1) cap ∧ A.length + 1 ≤ cap ∧ g < w.heap.size ∧ w.cell? ⟨g, o, none⟩ = some (.int .i64 x) ∧
    (cap = 1 → IntV w (.slice (some ⟨g, o, none⟩) 0 0) A) ∧ (cap ≠ 1 → IntV w (.slice (some ⟨g, o + 1, none⟩) A.length (cap - 1)) A) := by
  obtain ⟨av, cap, rfl, h1, h2, h⟩ := h
  obtain ⟨g, o, rfl, hg, hs⟩ := h.resolve_left (by simp)
  simp only [List.length_cons] at h1
  refine ⟨g, o, cap, rfl, h1, hg, hs 0 x rfl, fun hc => ?_, fun hc => ?_⟩
  · have hA : A = [] := List.eq_nil_of_length_eq_zero (by omega)
    subst hA
    exact ⟨_, 0, rfl, by simp, by unfold maxLen; omega, .inl rfl⟩
  · refine ⟨_, cap - 1, rfl, by omega, by omega, .inr ⟨g, o + 1, rfl, hg, fun j z hz => ?_⟩⟩
    have := hs (j + 1) z (by simpa using hz)
    rwa [show o + (j + 1) = o + 1 + j by omega] at this

def lenV : Value → Nat
  | .slice _ n _ => n
  | _ => 0

/-- What stands while two sorted lists are merged. -/
def MergeF (O A B xs : List Int) : Prop := (O ++ (A ++ B)).Perm xs ∧ A.Pairwise (· ≤ ·) ∧ B.Pairwise (· ≤ ·) ∧ O.Pairwise (· ≤ ·) ∧ ∀ o ∈ O, ∀ x ∈ A ++ B, o ≤ x

theorem MergeF.takeA {O A B xs : List Int} {x : Int} (h : MergeF O (x :: A) B xs) (hB : ∀ z ∈ B, x ≤ z) : MergeF (O ++ [x]) A B xs := by
  obtain ⟨h1, h2, h3, h4, h5⟩ := h
  refine ⟨by simpa using h1, (List.pairwise_cons.1 h2).2, h3, List.pairwise_append.2 ⟨h4, by simp, fun o ho z hz => ?_⟩, fun o ho z hz => ?_⟩
  · simp only [List.mem_singleton] at hz
    subst hz
    exact h5 o ho _ (by simp)
  · rcases List.mem_append.1 ho with ho | ho
    · exact h5 o ho z (by rcases List.mem_append.1 hz with h | h <;> simp [h])
    · simp only [List.mem_singleton] at ho
      subst ho
      rcases List.mem_append.1 hz with h | h
      · exact List.rel_of_pairwise_cons h2 h
      · exact hB z h

theorem MergeF.takeB {O A B xs : List Int} {y : Int} (h : MergeF O A (y :: B) xs) (hA : ∀ z ∈ A, y ≤ z) : MergeF (O ++ [y]) A B xs := by
  obtain ⟨h1, h2, h3, h4, h5⟩ := h
  refine ⟨List.Perm.trans ?_ h1, h2, (List.pairwise_cons.1 h3).2, List.pairwise_append.2 ⟨h4, by simp, fun o ho z hz => ?_⟩, fun o ho z hz => ?_⟩
  · rw [List.append_assoc]
    exact List.Perm.append_left O (show (y :: (A ++ B)).Perm (A ++ y :: B) from List.perm_middle.symm)
  · simp only [List.mem_singleton] at hz
    subst hz
    exact h5 o ho _ (by simp)
  · rcases List.mem_append.1 ho with ho | ho
    · exact h5 o ho z (by rcases List.mem_append.1 hz with h | h <;> simp [h])
    · simp only [List.mem_singleton] at ho
      subst ho
      rcases List.mem_append.1 hz with h | h
      · exact hA z h
      · exact List.rel_of_pairwise_cons h3 h

def SortPost (xs : List Int) (w : World) (e : Ending) (w' : World) : Prop :=
  ∃ v ys, e = .returned v ∧ IntV w' v ys ∧ ys.Perm xs ∧ ys.Pairwise (· ≤ ·) ∧ Below w.heap.size w w'

set_option maxRecDepth 100000 in
set_option maxHeartbeats 25600000 in
theorem clSort_step (xs : List Int) (hb : xs.length ≤ 5000) (h2 : 2 ≤ xs.length) (v : Value)
    (ih : ∀ (zs : List Int) (v : Value) (w : World), zs.length < xs.length → IntV w v zs → Calls Try.prog 113 #[v] w (SortPost zs w)) (w : World) (hv : IntV w v xs) :
    Calls Try.prog 113 #[v] w (SortPost xs w) := by
  obtain ⟨i0, hi, iz0, iz1, iz2⟩ := info_parts nmInfoS
  obtain ⟨av, cap, rfl, hc1, hc2, hr⟩ := hv
  obtain ⟨g, o, rfl, hg, hcell⟩ := hr.resolve_left (fun h => by rw [h] at h2; simp at h2)
  obtain ⟨n, hn⟩ : ∃ n, xs.length = n := ⟨_, rfl⟩
  obtain ⟨m, hm⟩ : ∃ m, n / 2 = m := ⟨_, rfl⟩
  have hb0 := hb
  rw [hn] at hc1 hb h2 hb0 ⊢
  have V1 : IntV w (.slice (some ⟨g, o, none⟩) m cap) (xs.take m) := by
    have hl : (xs.take m).length = m := by rw [List.length_take]; omega
    refine ⟨_, cap, by rw [hl], by omega, hc2, .inr ⟨g, o, rfl, hg, fun j x hx => hcell j x ?_⟩⟩
    have hj : j < (xs.take m).length := (List.getElem?_eq_some_iff.1 hx).1
    rwa [List.getElem?_take_of_lt (by omega)] at hx
  have V2 : IntV w (.slice (some ⟨g, o + m, none⟩) (n - m) (cap - m)) (xs.drop m) := by
    have hl : (xs.drop m).length = n - m := by rw [List.length_drop, hn]
    refine ⟨_, cap - m, by rw [hl], by omega, by omega, .inr ⟨g, o + m, rfl, hg, fun j x hx => ?_⟩⟩
    rw [List.getElem?_drop] at hx
    rw [Nat.add_assoc]
    exact hcell _ x hx
  have I1 := Lib.hid (fun (W : World) (hW : Below w.heap.size w W) => ih (xs.take m) _ W (by rw [List.length_take]; omega) (V1.below hW))
  have I2 := Lib.hid (fun (W : World) (hW : Below w.heap.size w W) => ih (xs.drop m) _ W (by rw [List.length_drop]; omega) (V2.below hW))
  have hq : (n : Int).tdiv 2 = (m : Int) := by rw [Int.tdiv_eq_ediv_of_nonneg (by omega)]; omega
  have i1 : (0 : Int) ≤ (m : Int) := by omega
  have i2 : (m : Int) ≤ (n : Int) := by omega
  have i3 : (m : Int) ≤ (cap : Int) := by omega
  have i4 : (n : Int) ≤ (cap : Int) := by omega
  have hcm : ¬ cap = m := by omega
  have hcz : ¬ cap - m = 0 := by omega
  have hcz' : 0 < cap - m := by omega
  have hnl : ¬ n < 2 := by omega
  have hc0 : ¬ cap = 0 := by omega
  have hm5 : m ≤ 2500 := by omega
  have hwm : IntKind.i64.wrap (m : Int) = (m : Int) := by rw [IntKind.wrap_i64]; omega
  have HXS := Lib.hid (show xs.take m ++ xs.drop m = xs from List.take_append_drop m xs)
  have HL1 : (xs.take m).length = m := by rw [List.length_take]; omega
  have HL2 : (xs.drop m).length = n - m := by rw [List.length_drop, hn]
  generalize hx1 : xs.take m = x1 at *
  generalize hx2 : xs.drop m = x2 at *
  clear hx1 hx2 hr V1 V2 hcell ih hm
  go_enter Try.func113, Try.ntmps113
  go_wp2_with fail
  go_region_held3 (fun _ => True) (trivial)
    ((first | ((with_reducible refine (I1.out _ (by go_grown)).mono ?_); rintro e wA ⟨va, A, rfl, hA, pA, sA, bA⟩; (try with_reducible replace bA := undrew bA); have hbA : Below w.heap.size w wA := bA) | ((with_reducible refine (I2.out _ (by go_grown)).mono ?_); rintro e wB ⟨vb, B, rfl, hB, pB, sB, bB⟩; (try with_reducible replace bB := undrew bB))))
  -- MERGE
  have IA := Lib.hid (hA.below bB)
  have IB := Lib.hid hB
  have HBB := Lib.hid (hbA.trans (bB.mono hbA.size))
  have HP := Lib.hid (show (([] : List Int) ++ (A ++ B)).Perm xs from by rw [List.nil_append, ← HXS.out]; exact pA.append pB)
  have hAl : A.length ≤ 5000 := by rw [pA.length_eq, HL1]; omega
  have hBl : B.length ≤ 5000 := by rw [pB.length_eq, HL2]; omega
  have HXL := Lib.hid hn
  have SA := Lib.hid sA
  have SB := Lib.hid sB
  clear hA hB pA pB sA sB bA hbA bB I1 I2 HXS HL1 HL2
  go_wp2_with fail
  go_loopw [3, 4, 5] (fun p q r wr => ∃ (va vb vo : Value) (O A B : List Int), va = p ∧ vb = q ∧ vo = r ∧ IntV wB va A ∧ IntV wB vb B ∧ wr.ownsRow wB.heap.size 3 1 vo O.length (O.map (Value.int .i64)) ∧ MergeF O A B xs ∧ Below wB.heap.size wB wr) (fun p q _ _ => lenV p + lenV q)
  case atStart => exact ⟨_, _, _, [], A, B, rfl, rfl, rfl, IA.out, IB.out, World.ownsRow_nil _ _ _ _, ⟨HP.out, SA.out, SB.out, List.Pairwise.nil, by simp⟩, Below.refl _ _⟩
  case round =>
    obtain ⟨va, vb, vo, O, A, B, rfl, rfl, rfl, hA, hB, hO, hF, hb⟩ := hrel
    have hz := hb.size
    have IA0 := Lib.hid hA
    have IB0 := Lib.hid hB
    have HO1 := Lib.hid hO
    have HB1 := Lib.hid hb
    have hlen : O.length + (A.length + B.length) ≤ 5000 := by have := hF.1.length_eq; rw [List.length_append, List.length_append] at this; rw [this, HXL.out]; exact hb0
    clear hO hb
    cases A with
    | nil =>
      cases B with
      | nil =>
        obtain ⟨a1, capA, rfl, _⟩ := hA
        obtain ⟨b1, capB, rfl, _⟩ := hB
        have HF := Lib.hid hF
        clear hF IA0 IB0
        go_wp2_with fail
        go_ret
        exact ⟨vo, O, rfl, iv_own HO1.out, by have := HF.out.1; simpa using this, HF.out.2.2.2.1, HBB.out.trans (HB1.out.mono HBB.out.size)⟩
      | cons y B =>
        obtain ⟨a1, capA, rfl, _⟩ := hA
        obtain ⟨gb, ob, capb, rfl, hcb, hgb, cb, tb1, tb2⟩ := hB.cons
        rw [← HB1.out.cell (p := ⟨gb, ob, none⟩) hgb] at cb
        have HFACT := Lib.hid (hF.takeB (fun z hz => by cases hz))
        clear hB hF
        go_wp2_with fail
        go_quiet (fail)
        by_cases hcap : capb = 1
        · subst hcap
          have HT := Lib.hid (tb1 rfl)
          have hW := ((show (wr.drewN nq).ownsRow wB.heap.size 3 1 vo O.length (O.map (Value.int .i64)) from HO1.out).alloc (.cells #[.int .i64 y] 3))
          have HO := Lib.hid hW
          have HLT := Lib.hid hW.lt
          have HBZ := Lib.hid ((HB1.out.trans (below_drawn nq _)).alloc hz (.cells #[.int .i64 y] 3))
          clear hW tb1 tb2
          go_wp2_with (at_builtin; refine wpList_append_own_at _ rfl _ _ 88 rfl wB.heap.size 3 i0 (.int .i64 0) 1 8 Try.underlying88 hi iz0 iz1 iz2 rfl (by decide) vo _ _ rfl HO.out ⟨wr.heap.size, 0, none⟩ 1 1 [.int .i64 y] rfl rfl (cell_one_new _ _ _) (by intro u hu; simp at hu; subst hu; rfl) (by unfold maxLen; omega) (by omega) (by simp; omega) ?_; intro v' w2 hown' hgrow hnil hloc)
          have HB8 := Lib.hid (HBZ.out.grown hgrow (by simp; omega) (fun k hk => (HLT.out k hk).1))
          have HO8 := Lib.hid hown'
          clear hgrow hown' hnil hloc
          go_roundw
          case rel => exact ⟨_, _, _, O ++ [y], [], B, rfl, rfl, rfl, IA0.out, HT.out, by rw [List.length_append, List.map_append]; exact HO8.out, HFACT.out, HB8.out⟩
          case measure => simp [lenV] <;> omega
        · have HT := Lib.hid (tb2 hcap)
          have hW := ((show (wr.drewN nq).ownsRow wB.heap.size 3 1 vo O.length (O.map (Value.int .i64)) from HO1.out).alloc (.cells #[.int .i64 y] 3))
          have HO := Lib.hid hW
          have HLT := Lib.hid hW.lt
          have HBZ := Lib.hid ((HB1.out.trans (below_drawn nq _)).alloc hz (.cells #[.int .i64 y] 3))
          clear hW tb1 tb2
          go_wp2_with (at_builtin; refine wpList_append_own_at _ rfl _ _ 88 rfl wB.heap.size 3 i0 (.int .i64 0) 1 8 Try.underlying88 hi iz0 iz1 iz2 rfl (by decide) vo _ _ rfl HO.out ⟨wr.heap.size, 0, none⟩ 1 1 [.int .i64 y] rfl rfl (cell_one_new _ _ _) (by intro u hu; simp at hu; subst hu; rfl) (by unfold maxLen; omega) (by omega) (by simp; omega) ?_; intro v' w2 hown' hgrow hnil hloc)
          have HB8 := Lib.hid (HBZ.out.grown hgrow (by simp; omega) (fun k hk => (HLT.out k hk).1))
          have HO8 := Lib.hid hown'
          clear hgrow hown' hnil hloc
          go_roundw
          case rel => exact ⟨_, _, _, O ++ [y], [], B, rfl, rfl, rfl, IA0.out, HT.out, by rw [List.length_append, List.map_append]; exact HO8.out, HFACT.out, HB8.out⟩
          case measure => simp [lenV] <;> omega
    | cons x A =>
      cases B with
      | nil =>
        obtain ⟨b1, capB, rfl, _⟩ := hB
        obtain ⟨ga, oa, capa, rfl, hca, hga, ca, ta1, ta2⟩ := hA.cons
        rw [← HB1.out.cell (p := ⟨ga, oa, none⟩) hga] at ca
        have HFACT := Lib.hid (hF.takeA (fun z hz => by cases hz))
        clear hA hF
        go_wp2_with fail
        go_quiet (fail)
        by_cases hcap : capa = 1
        · subst hcap
          have HT := Lib.hid (ta1 rfl)
          have hW := ((show (wr.drewN nq).ownsRow wB.heap.size 3 1 vo O.length (O.map (Value.int .i64)) from HO1.out).alloc (.cells #[.int .i64 x] 3))
          have HO := Lib.hid hW
          have HLT := Lib.hid hW.lt
          have HBZ := Lib.hid ((HB1.out.trans (below_drawn nq _)).alloc hz (.cells #[.int .i64 x] 3))
          clear hW ta1 ta2
          go_wp2_with (at_builtin; refine wpList_append_own_at _ rfl _ _ 88 rfl wB.heap.size 3 i0 (.int .i64 0) 1 8 Try.underlying88 hi iz0 iz1 iz2 rfl (by decide) vo _ _ rfl HO.out ⟨wr.heap.size, 0, none⟩ 1 1 [.int .i64 x] rfl rfl (cell_one_new _ _ _) (by intro u hu; simp at hu; subst hu; rfl) (by unfold maxLen; omega) (by omega) (by simp; omega) ?_; intro v' w2 hown' hgrow hnil hloc)
          have HB8 := Lib.hid (HBZ.out.grown hgrow (by simp; omega) (fun k hk => (HLT.out k hk).1))
          have HO8 := Lib.hid hown'
          clear hgrow hown' hnil hloc
          go_roundw
          case rel => exact ⟨_, _, _, O ++ [x], A, [], rfl, rfl, rfl, HT.out, IB0.out, by rw [List.length_append, List.map_append]; exact HO8.out, HFACT.out, HB8.out⟩
          case measure => simp [lenV] <;> omega
        · have HT := Lib.hid (ta2 hcap)
          have hW := ((show (wr.drewN nq).ownsRow wB.heap.size 3 1 vo O.length (O.map (Value.int .i64)) from HO1.out).alloc (.cells #[.int .i64 x] 3))
          have HO := Lib.hid hW
          have HLT := Lib.hid hW.lt
          have HBZ := Lib.hid ((HB1.out.trans (below_drawn nq _)).alloc hz (.cells #[.int .i64 x] 3))
          clear hW ta1 ta2
          go_wp2_with (at_builtin; refine wpList_append_own_at _ rfl _ _ 88 rfl wB.heap.size 3 i0 (.int .i64 0) 1 8 Try.underlying88 hi iz0 iz1 iz2 rfl (by decide) vo _ _ rfl HO.out ⟨wr.heap.size, 0, none⟩ 1 1 [.int .i64 x] rfl rfl (cell_one_new _ _ _) (by intro u hu; simp at hu; subst hu; rfl) (by unfold maxLen; omega) (by omega) (by simp; omega) ?_; intro v' w2 hown' hgrow hnil hloc)
          have HB8 := Lib.hid (HBZ.out.grown hgrow (by simp; omega) (fun k hk => (HLT.out k hk).1))
          have HO8 := Lib.hid hown'
          clear hgrow hown' hnil hloc
          go_roundw
          case rel => exact ⟨_, _, _, O ++ [x], A, [], rfl, rfl, rfl, HT.out, IB0.out, by rw [List.length_append, List.map_append]; exact HO8.out, HFACT.out, HB8.out⟩
          case measure => simp [lenV] <;> omega
      | cons y B =>
        obtain ⟨ga, oa, capa, rfl, hca, hga, ca, ta1, ta2⟩ := hA.cons
        obtain ⟨gb, ob, capb, rfl, hcb, hgb, cb, tb1, tb2⟩ := hB.cons
        rw [← HB1.out.cell (p := ⟨ga, oa, none⟩) hga] at ca
        rw [← HB1.out.cell (p := ⟨gb, ob, none⟩) hgb] at cb
        by_cases hxy : x ≤ y
        · have HFACT := Lib.hid (hF.takeA (fun z hz => by
            rcases List.mem_cons.1 hz with h | h
            · omega
            · have := List.rel_of_pairwise_cons hF.2.2.1 h; omega))
          clear hA hB hF
          go_wp2_with fail
          go_quiet (fail)
          by_cases hcap : capa = 1
          · subst hcap
            have HT := Lib.hid (ta1 rfl)
            have hW := ((show (wr.drewN nq).ownsRow wB.heap.size 3 1 vo O.length (O.map (Value.int .i64)) from HO1.out).alloc (.cells #[.int .i64 x] 3))
            have HO := Lib.hid hW
            have HLT := Lib.hid hW.lt
            have HBZ := Lib.hid ((HB1.out.trans (below_drawn nq _)).alloc hz (.cells #[.int .i64 x] 3))
            clear hW ta1 ta2 tb1 tb2
            go_wp2_with (at_builtin; refine wpList_append_own_at _ rfl _ _ 88 rfl wB.heap.size 3 i0 (.int .i64 0) 1 8 Try.underlying88 hi iz0 iz1 iz2 rfl (by decide) vo _ _ rfl HO.out ⟨wr.heap.size, 0, none⟩ 1 1 [.int .i64 x] rfl rfl (cell_one_new _ _ _) (by intro u hu; simp at hu; subst hu; rfl) (by unfold maxLen; omega) (by omega) (by simp; omega) ?_; intro v' w2 hown' hgrow hnil hloc)
            have HB8 := Lib.hid (HBZ.out.grown hgrow (by simp; omega) (fun k hk => (HLT.out k hk).1))
            have HO8 := Lib.hid hown'
            clear hgrow hown' hnil hloc
            go_roundw
            case rel => exact ⟨_, _, _, O ++ [x], A, y :: B, rfl, rfl, rfl, HT.out, IB0.out, by rw [List.length_append, List.map_append]; exact HO8.out, HFACT.out, HB8.out⟩
            case measure => simp [lenV] <;> omega
          · have HT := Lib.hid (ta2 hcap)
            have hW := ((show (wr.drewN nq).ownsRow wB.heap.size 3 1 vo O.length (O.map (Value.int .i64)) from HO1.out).alloc (.cells #[.int .i64 x] 3))
            have HO := Lib.hid hW
            have HLT := Lib.hid hW.lt
            have HBZ := Lib.hid ((HB1.out.trans (below_drawn nq _)).alloc hz (.cells #[.int .i64 x] 3))
            clear hW ta1 ta2 tb1 tb2
            go_wp2_with (at_builtin; refine wpList_append_own_at _ rfl _ _ 88 rfl wB.heap.size 3 i0 (.int .i64 0) 1 8 Try.underlying88 hi iz0 iz1 iz2 rfl (by decide) vo _ _ rfl HO.out ⟨wr.heap.size, 0, none⟩ 1 1 [.int .i64 x] rfl rfl (cell_one_new _ _ _) (by intro u hu; simp at hu; subst hu; rfl) (by unfold maxLen; omega) (by omega) (by simp; omega) ?_; intro v' w2 hown' hgrow hnil hloc)
            have HB8 := Lib.hid (HBZ.out.grown hgrow (by simp; omega) (fun k hk => (HLT.out k hk).1))
            have HO8 := Lib.hid hown'
            clear hgrow hown' hnil hloc
            go_roundw
            case rel => exact ⟨_, _, _, O ++ [x], A, y :: B, rfl, rfl, rfl, HT.out, IB0.out, by rw [List.length_append, List.map_append]; exact HO8.out, HFACT.out, HB8.out⟩
            case measure => simp [lenV] <;> omega
        · have HB0 := Lib.hid (show (((B.length : Nat) : Int) + 1 == 0) = false from beq_eq_false_iff_ne.2 (by omega))
          have HXY := Lib.hid (show decide (x ≤ y) = false from decide_eq_false hxy)
          have HFACT := Lib.hid (hF.takeB (fun z hz => by
            rcases List.mem_cons.1 hz with h | h
            · omega
            · have := List.rel_of_pairwise_cons hF.2.1 h; omega))
          clear hA hB hF
          go_wp2_with fail
          go_quiet (fail)
          simp only [HXY.out, HB0.out, Bool.or_false]
          by_cases hcap : capb = 1
          · subst hcap
            have HT := Lib.hid (tb1 rfl)
            have hW := ((show (wr.drewN nq).ownsRow wB.heap.size 3 1 vo O.length (O.map (Value.int .i64)) from HO1.out).alloc (.cells #[.int .i64 y] 3))
            have HO := Lib.hid hW
            have HLT := Lib.hid hW.lt
            have HBZ := Lib.hid ((HB1.out.trans (below_drawn nq _)).alloc hz (.cells #[.int .i64 y] 3))
            clear hW ta1 ta2 tb1 tb2
            go_wp2_with (at_builtin; refine wpList_append_own_at _ rfl _ _ 88 rfl wB.heap.size 3 i0 (.int .i64 0) 1 8 Try.underlying88 hi iz0 iz1 iz2 rfl (by decide) vo _ _ rfl HO.out ⟨wr.heap.size, 0, none⟩ 1 1 [.int .i64 y] rfl rfl (cell_one_new _ _ _) (by intro u hu; simp at hu; subst hu; rfl) (by unfold maxLen; omega) (by omega) (by simp; omega) ?_; intro v' w2 hown' hgrow hnil hloc)
            have HB8 := Lib.hid (HBZ.out.grown hgrow (by simp; omega) (fun k hk => (HLT.out k hk).1))
            have HO8 := Lib.hid hown'
            clear hgrow hown' hnil hloc
            go_roundw
            case rel => exact ⟨_, _, _, O ++ [y], x :: A, B, rfl, rfl, rfl, IA0.out, HT.out, by rw [List.length_append, List.map_append]; exact HO8.out, HFACT.out, HB8.out⟩
            case measure => simp [lenV] <;> omega
          · have HT := Lib.hid (tb2 hcap)
            have hW := ((show (wr.drewN nq).ownsRow wB.heap.size 3 1 vo O.length (O.map (Value.int .i64)) from HO1.out).alloc (.cells #[.int .i64 y] 3))
            have HO := Lib.hid hW
            have HLT := Lib.hid hW.lt
            have HBZ := Lib.hid ((HB1.out.trans (below_drawn nq _)).alloc hz (.cells #[.int .i64 y] 3))
            clear hW ta1 ta2 tb1 tb2
            go_wp2_with (at_builtin; refine wpList_append_own_at _ rfl _ _ 88 rfl wB.heap.size 3 i0 (.int .i64 0) 1 8 Try.underlying88 hi iz0 iz1 iz2 rfl (by decide) vo _ _ rfl HO.out ⟨wr.heap.size, 0, none⟩ 1 1 [.int .i64 y] rfl rfl (cell_one_new _ _ _) (by intro u hu; simp at hu; subst hu; rfl) (by unfold maxLen; omega) (by omega) (by simp; omega) ?_; intro v' w2 hown' hgrow hnil hloc)
            have HB8 := Lib.hid (HBZ.out.grown hgrow (by simp; omega) (fun k hk => (HLT.out k hk).1))
            have HO8 := Lib.hid hown'
            clear hgrow hown' hnil hloc
            go_roundw
            case rel => exact ⟨_, _, _, O ++ [y], x :: A, B, rfl, rfl, rfl, IA0.out, HT.out, by rw [List.length_append, List.map_append]; exact HO8.out, HFACT.out, HB8.out⟩
            case measure => simp [lenV] <;> omega
-- ENDMERGE

end Go.Proofs.Ythiimllafcfieaa
