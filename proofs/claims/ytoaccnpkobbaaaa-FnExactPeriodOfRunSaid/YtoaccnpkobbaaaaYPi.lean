/- Contract: behind how many steps a run first comes again, in the program. -/
import Derived.Test.YtoaccnpkobbaaaaYPk
import Derived.Test.YtoaccnpkobbaaaaYCi
import Derived.Carry
import Derived.Maps.Own
namespace Go.Proofs.Ytoaccnpkobbaaaa
open Go Go.ChangeMaps Go.MapKept Go.ChangeShapes Go.WideShapes Go.ChangeAt Go.RowKit
open Go.WideMaps (KeyLaw)
open Go.Maps (Keyed)
open Yd

set_option linter.unusedVariables false

theorem imPer_no (x : Int) (g c h d p q n m l : Nat) (ks rs ss : List Int) (hn : ks.length = n) (hm : rs.length = m) (hl : ss.length = l) (hb : n ≤ 2000000) (hb' : m ≤ 2000000) (hb2 : l ≤ 2000000) (hno : rnB ks rs x ss = false) (w : World) (h1 : RL w g n ks) (h2 : RL w h m rs) (h3 : RL w p l ss) :
    Calls Try.prog 39 #[.agg #[.slice (some ⟨g, 0, none⟩) n c, .slice (some ⟨h, 0, none⟩) m d], .agg #[.int .i64 x, .slice (some ⟨p, 0, none⟩) l q]] w fun e w' => e = .returned (.tuple #[.int .i64 0, .int .i64 0, .bool false]) ∧ Below w.heap.size w w' := by
  have hmm := @run_makeMap Try.prog
  have R := Lib.hid (fun w' (hw : Below w.heap.size w w') => spotsOf_no x g c h d p q n m l 2000 2000 ks rs ss hn hm hl hb hb' hb2 w' (h1.keep hw) (h2.keep hw) (h3.keep hw) (Or.inl hno))
  clear hn hm hl h1 h2 h3 hno
  go_enter Try.func39, Try.ntmps39
  go_wp2_with fail
  refine (R.out _ (by go_grown)).mono ?_
  rintro e w1 ⟨rfl, k1⟩
  have hB : Below w.heap.size w w1 := ba (by go_grown) k1
  have hB2 := Lib.hid (hB.alloc hB.size (.map #[] 0))
  clear k1
  go_wp2_with fail
  refine wp_loop_rounds 1 ?_
  repeat (rw [rounds_succ]; go_wp2_with fail)
  go_ret3
  exact ⟨rfl, hB2.out⟩

set_option maxRecDepth 100000 in
set_option maxHeartbeats 3200000 in
theorem imPer_yes (a pp qq : Nat) (g c h d p u n m l : Nat) (ks rs ss : List Int) (hn : ks.length = n) (hm : rs.length = m) (hl : ss.length = l) (hg : YdOk ks rs) (ho : RnOk ks a ss) (hP : IsPer ks rs a ss pp qq) (w : World) (h1 : RL w g n ks) (h2 : RL w h m rs) (h3 : RL w p l ss) :
    Calls Try.prog 39 #[.agg #[.slice (some ⟨g, 0, none⟩) n c, .slice (some ⟨h, 0, none⟩) m d], .agg #[.int .i64 (a:Nat), .slice (some ⟨p, 0, none⟩) l u]] w fun e w' => e = .returned (.tuple #[.int .i64 (qq : Nat), .int .i64 ((pp : Int) - (qq : Int)), .bool true]) ∧ Below w.heap.size w w' := by
  have hmm := @run_makeMap Try.prog
  have n6 := hg.n6
  have hp6 := hP.le hg.n6
  have P := Lib.hid (fun w' (hw : Below w.heap.size w w') => spotsOf_yes a 2000 g c h d p u n m l 2000 ks rs ss hn hm hl hg ho (by decide) (by decide) w' (h1.keep hw) (h2.keep hw) (h3.keep hw))
  have OR := orb_run ho hg
  have CE := Lib.hid (fun g' cap (w1 : World) (hO : w1.ownsRow w.heap.size 80 7 (.slice (some ⟨g', 0, none⟩) 2001 cap) 2001 (spsC (orL ks rs a ss 2001))) k i v (hk : k < 2001) hv => so_cell (j := k) (i := i) (v := v) hg ho hO hk hv)
  have S6 := Lib.hid (fun k => spC_six (x := orb ks rs a ss k) (orb_len6 hg ho k))
  have SO := Lib.hid (fun k => show spOk (orb ks rs a ss k) from spOk_run (OR k) n6)
  have SL := Lib.hid (fun i j => show (orb ks rs a ss i).2.length = (orb ks rs a ss j).2.length by rw [(OR i).len, (OR j).len])
  have EQ := fun i j => show nuF ks rs a ss i = nuF ks rs a ss j → orb ks rs a ss i = orb ks rs a ss j from fun e => by
    obtain ⟨e1, e2⟩ := num_inj (OR i) (OR j) e
    exact Prod.ext e1 e2
  have NEW := Lib.hid (fun k (hk : k < pp) i (hi : i < k) => show ¬ orb ks rs a ss i = orb ks rs a ss k from fun e => hP.new hk i hi (by rw [nuF, nuF, e]))
  have OLD := Lib.hid (EQ qq pp hP.2.2.1)
  have hqp := hP.1
  clear hn hm hl h1 h2 h3 hg ho n6 OR EQ hP
  go_enter Try.func39, Try.ntmps39
  go_wp2_with fail
  refine (P.out _ (by go_grown)).mono ?_
  rintro e w1 ⟨g', cap, rfl, hg', hO, k1⟩
  have hB : Below w.heap.size w w1 := ba (by go_grown) k1
  rw [orL_len] at hO ⊢
  have hO2 := own_lessS hO (by simp; omega : w.heap.size ≤ _)
  have hcap := own_cap hO
  have hc1 : 2001 ≤ cap := hcap.1
  have hcm := hcap.2
  have hgl := (hO.lt g' rfl).2
  have hs1 := k1.size
  simp at hs1 hg'
  have C1 := Lib.hid (fun k i v (hk : k < 2001) (hv : (spC (orb ks rs a ss k))[i]? = some v) => cl_alloc (CE.out g' cap w1 hO2 k i v hk hv) (.map #[] 0))
  have BM := Lib.hid (hB.alloc hB.size (.map #[] 0))
  have M0 := Lib.hid (World.ownsMap_made w1 Try.prog 80 (plainElem (H := Unit) Try.prog 3))
  clear k1 hO hO2 hcap
  go_wp2_with fail
  go_loopw [23] (fun i wr => ∃ (k : Nat) (D : DataW Unit), k ≤ pp ∧ i = .int .i64 k ∧ wr.ownsMap Try.prog 80 (plainElem (H := Unit) Try.prog 3) w1.heap.size k D ∧ MpAt (orb ks rs a ss) D k ∧ (∀ k i v, k < 2001 → (spC (orb ks rs a ss k))[i]? = some v → wr.cell? ⟨g', k * 7 + i, none⟩ = some v) ∧ w1.heap.size < wr.heap.size ∧ Below w.heap.size w wr) (fun i _ => pp + 1 - (intOf i).toNat)
  case atStart => exact ⟨0, _, Nat.zero_le _, rfl, M0.out, MpAt.zero _, C1.out, by simp, BM.out⟩
  case round =>
    obtain ⟨k, D, hk, rfl, hM, hD, hC, hsz, hBr⟩ := hrel
    obtain ⟨z0, z1, z2, z3, z4, z5, hz, hzv⟩ := S6.out k
    have ce := fun i v hv => hC k i v (by omega) hv
    rw [hz] at ce
    have d0 : wr.cell? ⟨g', k * 7, none⟩ = some (.int .i64 ((orb ks rs a ss k).1 : Int)) := ce 0 _ rfl
    have d1 := ce 1 _ rfl
    have d2 := ce 2 _ rfl
    have d3 := ce 3 _ rfl
    have d4 := ce 4 _ rfl
    have d5 := ce 5 _ rfl
    have d6 := ce 6 _ rfl
    have j1 : (0 : Int) ≤ (k : Int) := by omega
    have j2 : (k : Int) < 2001 := by omega
    have hkey := klP_key (SO.out k)
    rw [hzv] at hkey
    have HCC := Lib.hid hC
    have HDD := Lib.hid hD
    have HBR := Lib.hid hBr
    have hMA := hM.alloc (.cells #[.int .i64 ((orb ks rs a ss k).1 : Int), .int .i64 z0, .int .i64 z1, .int .i64 z2, .int .i64 z3, .int .i64 z4, .int .i64 z5] 80)
    obtain ⟨v, ps, hlook, hv⟩ := hMA.look_ok (Keyed.of_law spLaw) Try.underlying82 (by kernel_rfl) (plainElem_int Try.underlying3 (q := .i64) (a := 0) (by decide)) hkey
    obtain ⟨c0, rfl, hc, _⟩ := plainElem_int_inv Try.underlying3 hv
    simp only [Prod.mk.injEq] at hc
    have hcc := hc.1
    clear hv hc ce hC hD hBr hz hzv
    by_cases hlt : k < pp
    · have hno := HDD.out.no k (NEW.out k hlt)
      rw [hno] at hlook
      obtain ⟨W3, hup, hM3, hg3⟩ := hMA.update (Keyed.of_law spLaw) Try.underlying82 (by unfold maxLen; omega) hkey (plainElem_int Try.underlying3 (q := .i64) (a := (k : Int)) (WalkArith.wf_i64 (by omega)))
      have HM3 := Lib.hid hM3
      have HD3 := Lib.hid (HDD.out.succ SO.out SL.out (NEW.out k hlt))
      have HC3 := Lib.hid (fun j i v (hj : j < 2001) (hv : (spC (orb ks rs a ss j))[i]? = some v) => hg3.cell (cl_alloc (HCC.out j i v hj hv) _) (fun e => by injection e with e; have e' : g' = w1.heap.size := e; omega))
      have HB3 := Lib.hid ((HBR.out.alloc HBR.out.size (.cells #[.int .i64 ((orb ks rs a ss k).1 : Int), .int .i64 z0, .int .i64 z1, .int .i64 z2, .int .i64 z3, .int .i64 z4, .int .i64 z5] 80)).grown hg3 (by have := HBR.out.size; simp; omega) (fun j hj => by injection hj with hj; omega))
      have hs3 := hg3.size
      simp at hs3
      clear hM hMA hM3 hg3 hkey hno hcc
      go_wp2_with fail
      go_roundw
      case rel => exact ⟨k + 1, _, by omega, by go_num, HM3.out, HD3.out, HC3.out, by omega, HB3.out⟩
      case measure => simp [intOf]; omega
    · obtain rfl : k = pp := by omega
      have hyes := HDD.out.has qq hqp
      have hat := HDD.out.at' qq hqp
      rw [OLD.out] at hyes hat
      rw [hyes] at hlook
      rw [hat] at hcc
      injection hcc with hcc
      injection hcc with _ hcc
      subst hcc
      have HBE := Lib.hid (HBR.out.alloc HBR.out.size (.cells #[.int .i64 ((orb ks rs a ss k).1 : Int), .int .i64 z0, .int .i64 z1, .int .i64 z2, .int .i64 z3, .int .i64 z4, .int .i64 z5] 80))
      have j3 : (0 : Int) ≤ (qq : Int) := by omega
      have j4 : (qq : Int) < (k : Int) := by omega
      have j5 : (k : Int) ≤ 1152 := by omega
      clear hM hMA hkey hyes hat
      go_wp2_with fail
      go_ret3
      exact ⟨rfl, HBE.out⟩

open Classical in
noncomputable def peA (ks rs : List Int) (x : Int) (ss : List Int) : Nat := if h : ∃ z : Nat × Nat, IsPer ks rs x.toNat ss z.1 z.2 then (Classical.choose h).2 else 0
open Classical in
noncomputable def peB (ks rs : List Int) (x : Int) (ss : List Int) : Nat := if h : ∃ z : Nat × Nat, IsPer ks rs x.toNat ss z.1 z.2 then (Classical.choose h).1 else 0
noncomputable def peU (ks rs : List Int) (x : Int) (ss : List Int) : Int := if rnB ks rs x ss = true then (peA ks rs x ss : Int) else 0
noncomputable def peV (ks rs : List Int) (x : Int) (ss : List Int) : Int := if rnB ks rs x ss = true then (peB ks rs x ss : Int) - (peA ks rs x ss : Int) else 0
theorem per_is {ks rs ss : List Int} {a : Nat} (hg : YdOk ks rs) (ho : RnOk ks a ss) : IsPer ks rs a ss (peB ks rs (a : Int) ss) (peA ks rs (a : Int) ss) := by
  have h : ∃ z : Nat × Nat, IsPer ks rs ((a : Int).toNat) ss z.1 z.2 := by
    obtain ⟨p, q, h⟩ := per_ex hg ho
    exact ⟨(p, q), h⟩
  rw [peA, peB, dif_pos h, dif_pos h]
  exact Classical.choose_spec h

theorem spPeriod (x : Int) (g c h d p u n m l : Nat) (ks rs ss : List Int) (hn : ks.length = n) (hm : rs.length = m) (hl : ss.length = l) (hb : n ≤ 2000000) (hb' : m ≤ 2000000) (hb2 : l ≤ 2000000) (w : World) (h1 : RL w g n ks) (h2 : RL w h m rs) (h3 : RL w p l ss) :
    Calls Try.prog 38 #[.agg #[.slice (some ⟨g, 0, none⟩) n c, .slice (some ⟨h, 0, none⟩) m d], .agg #[.int .i64 x, .slice (some ⟨p, 0, none⟩) l u]] w fun e w' => e = .returned (.tuple #[.int .i64 (peU ks rs x ss), .int .i64 (peV ks rs x ss), .bool (rnB ks rs x ss)]) ∧ Below w.heap.size w w' := by
  cases hr : rnB ks rs x ss
  · rw [peU, peV, hr]
    exact spPer_no x g c h d p u n m l ks rs ss hn hm hl hb hb' hb2 hr w h1 h2 h3
  · rw [peU, peV, hr]
    obtain ⟨hg, a, rfl, ho⟩ := (run_iff ks rs x ss).1 hr
    exact spPer_yes a _ _ g c h d p u n m l ks rs ss hn hm hl hg ho (per_is hg ho) w h1 h2 h3

theorem imPeriod (x : Int) (g c h d p u n m l : Nat) (ks rs ss : List Int) (hn : ks.length = n) (hm : rs.length = m) (hl : ss.length = l) (hb : n ≤ 2000000) (hb' : m ≤ 2000000) (hb2 : l ≤ 2000000) (w : World) (h1 : RL w g n ks) (h2 : RL w h m rs) (h3 : RL w p l ss) :
    Calls Try.prog 39 #[.agg #[.slice (some ⟨g, 0, none⟩) n c, .slice (some ⟨h, 0, none⟩) m d], .agg #[.int .i64 x, .slice (some ⟨p, 0, none⟩) l u]] w fun e w' => e = .returned (.tuple #[.int .i64 (peU ks rs x ss), .int .i64 (peV ks rs x ss), .bool (rnB ks rs x ss)]) ∧ Below w.heap.size w w' := by
  cases hr : rnB ks rs x ss
  · rw [peU, peV, hr]
    exact imPer_no x g c h d p u n m l ks rs ss hn hm hl hb hb' hb2 hr w h1 h2 h3
  · rw [peU, peV, hr]
    obtain ⟨hg, a, rfl, ho⟩ := (run_iff ks rs x ss).1 hr
    exact imPer_yes a _ _ g c h d p u n m l ks rs ss hn hm hl hg ho (per_is hg ho) w h1 h2 h3

end Go.Proofs.Ytoaccnpkobbaaaa
