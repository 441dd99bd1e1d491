/- Contract: behind how many steps a run counts to itself, in the program. -/
import Derived.Test.YtoaccnpkobbaaaaYIx
import Derived.Test.YtoaccnpkobbaaaaYNm
namespace Go.Proofs.Ytoaccnpkobbaaaa
open Go.ChangeShapes Go.WideShapes Go.ChangeAt Go.RowKit
open Yd

set_option linter.unusedVariables false

theorem own_cap {w : World} {B n g cap : Nat} {e : TypeId} {size : Nat} {xs : List Value} (h : w.ownsRow B e size (.slice (some ⟨g, 0, none⟩) n cap) n xs) : n ≤ cap ∧ cap ≤ maxLen := by
  rcases h.2 with ⟨h1, _⟩ | ⟨g', cap', cur, h1, _, _, h3, h4, _⟩
  · cases h1
  injection h1 with _ _ h1
  omega

/-- The cells of spot j in the list of a run's spots. -/
theorem so_cell {ks rs ss : List Int} {a N j i g cap : Nat} {v : Value} {w : World} {B : Nat} {e : TypeId} (hg : YdOk ks rs) (hr : RnOk ks a ss) (h : w.ownsRow B e 7 (.slice (some ⟨g, 0, none⟩) N cap) N (spsC (orL ks rs a ss N))) (hj : j < N) (hv : (spC (orb ks rs a ss j))[i]? = some v) :
    w.cell? ⟨g, j * 7 + i, none⟩ = some v := by
  have hi : i < 7 := by rw [← spC_len (orb_len6 hg hr j)]; exact (List.getElem?_eq_some_iff.1 hv).1
  have := own_cell h (spsC_get _ j i _ v (orL_len6 hg hr N) (orL_get hj) hi hv)
  rwa [Nat.mul_comm] at this

set_option maxRecDepth 100000 in
set_option maxHeartbeats 3200000 in
theorem imCountsTo (x : Int) (g c h d p u n m l : Nat) (ks rs ss : List Int) (hn : ks.length = n) (hm : rs.length = m) (hl : ss.length = l) (hb : n ≤ 2000000) (hb' : m ≤ 2000000) (hb2 : l ≤ 2000000) (w : World) (h1 : RL w g n ks) (h2 : RL w h m rs) (h3 : RL w p l ss) :
    Calls Try.prog 58 #[.agg #[.slice (some ⟨g, 0, none⟩) n c, .slice (some ⟨h, 0, none⟩) m d], .agg #[.int .i64 x, .slice (some ⟨p, 0, none⟩) l u]] w fun e w' => e = .returned (.tuple #[.int .i64 (ctV ks rs x ss), .bool (ctB ks rs x ss)]) ∧ Below w.heap.size w w' := by
  cases hr : rnB ks rs x ss
  · have P := Lib.hid (fun w' (hw : Below w.heap.size w w') => spotsOf_no x g c h d p u n m l 2000 2000 ks rs ss hn hm hl hb hb' hb2 w' (h1.keep hw) (h2.keep hw) (h3.keep hw) (Or.inl hr))
    have HR := Lib.hid hr
    clear hn hm hl h1 h2 h3 hr
    go_enter Try.func58, Try.ntmps58
    go_wp2_with fail
    refine (P.out _ (by go_grown)).mono ?_
    rintro e w1 ⟨rfl, k1⟩
    have hB : Below w.heap.size w w1 := ba (by go_grown) k1
    clear k1
    go_wp2_with fail
    go_ret2
    exact ⟨by rw [ctV, ctB, HR.out]; rfl, hB⟩
  obtain ⟨hg, a, rfl, ho⟩ := (run_iff ks rs x ss).1 hr
  have P := Lib.hid (fun w' (hw : Below w.heap.size w w') => spotsOf_yes a 2000 g c h d p u n m l 2000 ks rs ss hn hm hl hg ho (by decide) (by decide) w' (h1.keep hw) (h2.keep hw) (h3.keep hw))
  have n6 := hg.n6
  have hV : ctV ks rs (a : Nat) ss = (ctO ks rs a ss).elim 0 (fun i => (i : Int) + 1) := by rw [ctV, if_pos hr, Int.toNat_natCast]
  have hB : ctB ks rs (a : Nat) ss = (ctO ks rs a ss).isSome := by rw [ctB, hr, Int.toNat_natCast]; rfl
  rw [hV, hB]
  have OR := orb_run ho hg
  have IX := Lib.hid (fun g' cap (w1 w' : World) (hO : w1.ownsRow w.heap.size 80 7 (.slice (some ⟨g', 0, none⟩) 2001 cap) 2001 (spsC (orL ks rs a ss 2001))) (hw : Below w1.heap.size w1 w') => index_any g' 2000 (cap - 1) (fun i => orb ks rs a ss (i + 1)) (a, ss) (by decide) (spOk_run ho n6) (fun j _ => spOk_run (OR (j + 1)) n6) (fun j _ => by show (orb ks rs a ss (j + 1)).2.length = ss.length; rw [(OR (j + 1)).len, ho.len]) w' (Nat.lt_of_lt_of_le (hO.lt g' rfl).2 hw.size)
    (fun j i v hj hv => by
      rw [hw.cell (p := ⟨g', 7 + j * 7 + i, none⟩) (hO.lt g' rfl).2, show 7 + j * 7 + i = (j + 1) * 7 + i by omega]
      exact so_cell hg ho hO (by omega) hv))
  obtain ⟨x0, x1, x2, x3, x4, x5, hx, hv⟩ := spC_six (x := (a, ss)) (by show ss.length ≤ 6; rw [ho.len]; exact n6)
  simp only at hx hv
  have C0 := Lib.hid (fun g' cap (w1 : World) (hO : w1.ownsRow w.heap.size 80 7 (.slice (some ⟨g', 0, none⟩) 2001 cap) 2001 (spsC (orL ks rs a ss 2001))) (i : Nat) (v : Value) (hi : ([.int .i64 (a : Int), .int .i64 x0, .int .i64 x1, .int .i64 x2, .int .i64 x3, .int .i64 x4, .int .i64 x5] : List Value)[i]? = some v) => show w1.cell? ⟨g', i, none⟩ = some v by
    have := so_cell (j := 0) (i := i) hg ho hO (by decide) (by rw [show orb ks rs a ss 0 = (a, ss) from rfl, hx]; exact hi)
    simpa using this)
  simp only [hv] at IX
  have hle : ∀ i, ctO ks rs a ss = some i → i < 2000 := fun i hi => List.mem_range.1 (List.mem_of_find?_eq_some hi)
  have HCT := Lib.hid (show ((List.range 2000).find? fun i => decide (orb ks rs a ss (i + 1) = (a, ss))) = ctO ks rs a ss from rfl)
  simp only [HCT.out] at IX
  generalize ctO ks rs a ss = o at *
  clear hn hm hl h1 h2 h3 hr hV hB hg ho n6 OR hx hv
  go_enter Try.func58, Try.ntmps58
  go_wp2_with fail
  refine (P.out _ (by go_grown)).mono ?_
  rintro e w1 ⟨g', cap, rfl, hg', hO, k1⟩
  have hB : Below w.heap.size w w1 := ba (by go_grown) k1
  rw [orL_len] at hO ⊢
  have hO2 := own_lessS hO (by simp; omega : w.heap.size ≤ _)
  have hcap := own_cap hO
  have hc1 : 2001 ≤ cap := hcap.1
  have hcm := hcap.2
  have HO := Lib.hid hO2
  have c0 := C0.out g' cap w1 hO2 0 _ rfl
  have c1 := C0.out g' cap w1 hO2 1 _ rfl
  have c2 := C0.out g' cap w1 hO2 2 _ rfl
  have c3 := C0.out g' cap w1 hO2 3 _ rfl
  have c4 := C0.out g' cap w1 hO2 4 _ rfl
  have c5 := C0.out g' cap w1 hO2 5 _ rfl
  have c6 := C0.out g' cap w1 hO2 6 _ rfl
  clear k1 hO hO2 hcap hg'
  cases o with
  | none =>
    go_wp2_with fail
    go_region_with (go_at_call 78; (with_reducible refine Calls.mono (IX.out g' cap w1 _ HO.out ?_) ?_); (focus (go_grown; done)); rintro e wA ⟨rfl, h1⟩; (try with_reducible replace h1 := undrew h1))
    all_goals
      have hBA : Below w1.heap.size w1 wA := ba (by go_grown) h1
      have HBA := Lib.hid (hB.trans (hBA.mono hB.size))
      clear h1 hBA
      go_wp2_with fail
      go_ret2
      exact ⟨rfl, HBA.out⟩
  | some i =>
    have hi := hle i rfl
    have j1 : (0 : Int) ≤ (i : Int) := by omega
    have j2 : (i : Int) ≤ 2000 := by omega
    have j3 : ¬ (i : Int) < 0 := by omega
    go_wp2_with fail
    go_region_with (go_at_call 78; (with_reducible refine Calls.mono (IX.out g' cap w1 _ HO.out ?_) ?_); (focus (go_grown; done)); rintro e wA ⟨rfl, h1⟩; (try with_reducible replace h1 := undrew h1))
    all_goals
      have hBA : Below w1.heap.size w1 wA := ba (by go_grown) h1
      have HBA := Lib.hid (hB.trans (hBA.mono hB.size))
      clear h1 hBA
      go_wp2_with fail
      go_ret2
      exact ⟨rfl, HBA.out⟩

end Go.Proofs.Ytoaccnpkobbaaaa
