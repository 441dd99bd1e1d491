/- Contract of the program: a tick of a circuit. -/
import Derived.Test.YtogimjbjdgccnaaDoorCrS
import Derived.WalkSpells
namespace Go.Proofs.YtogimjbjdgccnaaDoor
open Go.Conc Go.ChangeShapes Go.WideShapes Go.ChangeAt Go.RowKit
open Ln

set_option linter.unusedVariables false

theorem mixed : Tryd.prog.follows .mixedOrders = true := by kernel_rfl

theorem tr_same {l : List UInt8} {i : Nat} (c : UInt8) (h : i < l.length) : tr (l.set i c) i = (c == 84) := by simp [tr, h]

theorem tr_ne {l : List UInt8} {i j : Nat} (c : UInt8) (h : j ≠ i) : tr (l.set i c) j = tr l j := by
  rw [tr, tr, List.getD, List.getD, List.getElem?_set_ne (Ne.symm h)]

theorem tr_of {l : List UInt8} {i : Nat} {c : UInt8} (h : l[i]? = some c) : tr l i = (c == 84) := by rw [tr, List.getD, h]; rfl

structure TwoA (B E g n cap k cn : Nat) (s : Int) (cs : List Nat) (l l2 : List UInt8) : Prop where
  K : ∀ W : World, Cir B E g cs l W → Calls Tryd.prog 101 #[.agg #[.slice (some ⟨g, 0, none⟩) n cap, .int .i64 s], .int .i64 k, .int .i64 1] W fun e w' => e = .returned (.chan (some cn)) ∧ Below W.heap.size W w'
  L : ∀ W : World, Cir B E g cs l2 W → Calls Tryd.prog 101 #[.agg #[.slice (some ⟨g, 0, none⟩) n cap, .int .i64 s], .int .i64 k, .int .i64 1] W fun e w' => e = .returned (.chan (some cn)) ∧ Below W.heap.size W w'

theorem ext_one' (s : ByteArray) (k : Nat) (h : k < s.size) : (s.extract k (k + 1)).toList = [s[k]] := by
  rw [ext_one s k h, ByteArray.toList_eq]

set_option maxRecDepth 100000 in
set_option maxHeartbeats 1600000 in
theorem tick_any (B E g n cap gp : Nat) (s : Int) (cs : List Nat) (l : List UInt8) (hl : LnOk l) (hn : l.length = n) (hg1 : 1 ≤ gp) (w : World) (hB : B ≤ E) (hC : Cir B E g cs l w) :
    Calls Tryd.prog 92 #[.agg #[.slice (some ⟨g, 0, none⟩) n cap, .int .i64 s], .string (ofL (sg l gp))] w fun e w' => e = .returned (.tuple #[]) ∧ Cir B E g cs (tk l gp) w' ∧ Turn B E w w' := by
  have hle := hC.le
  have n24 : n ≤ 24 := by rw [← hn]; exact hl.n24
  obtain ⟨S, hS⟩ : ∃ S, ofL (sg l gp) = S := ⟨_, rfl⟩
  have hSz : S.size = n := by rw [← hS, ofL_size, sg_len, hn]
  have SX := Lib.hid (fun k (h : k < n) => show (S.extract k (k + 1)).toList = [sgc l gp k] from by
    rw [ext_one' S k (by omega)]
    congr 1
    have h1 := sg_get (l := l) (g := gp) (p := k) (by rw [hn]; exact h)
    subst hS
    have h2 : (sg l gp)[k]? = some ((ofL (sg l gp))[k]'(by omega)) := by rw [List.getElem?_eq_getElem (by rw [sg_len, hn]; exact h)]; rfl
    rw [h1] at h2
    exact (Option.some.inj h2).symm)
  rw [hS]
  have CI := Lib.hid (fun k (h : k < n) => show ∃ c, cs[k]? = some c from ⟨_, List.getElem?_eq_getElem (by rw [hC.len, hn]; exact h)⟩)
  have HC := Lib.hid hC
  have HN := Lib.hid hn
  subst hSz
  clear hC hS hn
  go_enter Tryd.func92, Tryd.ntmps92
  go_wp2_with fail
  go_loopw [9] (fun v wr => ∃ k : Nat, k ≤ S.size ∧ v = .int .i64 k ∧ Cir B E g cs (stL l gp k) wr ∧ Turn B E w wr ∧ wr.cell? ⟨w.heap.size, 0, none⟩ = some (.slice (some ⟨g, 0, none⟩) S.size cap) ∧ wr.cell? ⟨w.heap.size, 1, none⟩ = some (.int .i64 s) ∧ w.heap.size < wr.heap.size) (fun v _ => S.size - (intOf v).toNat)
  case atStart => exact ⟨0, Nat.zero_le _, rfl, by rw [stL_zero]; exact HC.out.alloc _, Turn.of_below (by go_grown) (by omega), by go_simp, by go_simp, by simp⟩
  case round =>
    obtain ⟨k, hk, rfl, hCr, hT, hc0, hc1, hsz⟩ := hrel
    have HCr := Lib.hid hCr
    have HT := Lib.hid hT
    have i0 : (0 : Int) ≤ (k : Int) := by omega
    clear hCr hT
    by_cases hlt : k < S.size
    · obtain ⟨c, hc⟩ := CI.out k hlt
      have hrow := HCr.out.row k c hc
      have hx := SX.out k hlt
      have HI := Lib.hid hc
      clear hc
      cases hm : mvs l gp k
      · have hq : (sgc l gp k == 103) = false := by rw [sgc_green]; exact hm
        have HK := Lib.hid (stL_keep hm)
        have HM := Lib.hid hm
        clear hm
        go_wp2_with fail
        go_roundw
        case rel => exact ⟨k + 1, by omega, by go_num, by rw [HK.out]; exact HCr.out, HT.out, hc0, hc1, hsz⟩
        case measure => simp [intOf]; omega
      · have hq : (sgc l gp k == 103) = true := by rw [sgc_green]; exact hm
        have HM := Lib.hid hm
        clear hm
        have k24 : k < l.length := by rw [HN.out]; exact hlt
        have hat := stL_at hg1 k24 HM.out
        have hnx := stL_next hl hg1 k24 HM.out
        have hmv := stL_move hg1 k24 HM.out
        have hne : k ≠ nxt l.length k := by
          intro e
          rw [← e, hat] at hnx
          simp at hnx
        have hnl := nxt_lt k24
        obtain ⟨cn, hcn⟩ := CI.out (nxt l.length k) (by rw [← HN.out]; exact hnl)
        have hmod : (k + 1) % S.size = nxt l.length k := by rw [← HN.out]; exact nxt_mod k24
        have A0 := fun (L : List UInt8) (hL : L.length = S.size) (W : World) (hW : Cir B E g cs L W) => ahead_any B E g S.size cap k 1 cn s cs L hL n24 hlt (by omega) (by rw [hmod]; exact hcn) W hW
        have hl1 : (stL l gp k).length = S.size := by rw [stL_len]; exact HN.out
        have A1 := Lib.hid (show TwoA B E g S.size cap k cn s cs (stL l gp k) ((stL l gp k).set k 46) from ⟨A0 _ hl1, A0 _ (by rw [List.length_set]; exact hl1)⟩)
        have TRK := Lib.hid (show tr (stL l gp k) k = true from (tr_of hat).trans rfl)
        have TRN := Lib.hid (show tr ((stL l gp k).set k 46) (nxt l.length k) = false by rw [tr_ne _ (Ne.symm hne), tr_of hnx]; rfl)
        have HIN := Lib.hid hcn
        have HMV := Lib.hid hmv
        obtain ⟨cb1, cb2, cb3⟩ := HCr.out.cB k c HI.out
        obtain ⟨cn1, cn2, cn3⟩ := HCr.out.cB _ cn HIN.out
        have CB := Lib.hid (And.intro cb1 cb2)
        have CBN := Lib.hid (And.intro cn1 cn2)
        have BNC := Lib.hid (show w.heap.size ≠ c by omega)
        have BNN := Lib.hid (show w.heap.size ≠ cn by omega)
        have CR := Lib.hid (fun (W : World) (hW : Cir B E g cs (stL l gp k) W) (s1 r1 : Nat) => show Cir B E g cs ((stL l gp k).set k 46) (W.setChan c 1 ((bufOf true).extract 1 (bufOf true).size) false s1 r1 false) from
          hW.turn1 HI.out (by simp) (fun j hj => tr_ne _ hj) ⟨s1, r1, by rw [heap_setChan _ _ _ _ _ _ _ _ (by have := hW.le; omega), tr_same _ (by rw [stL_len]; exact k24)]; rfl⟩ (fun j _ hj => setChan_far _ _ _ _ _ _ _ _ _ hj) (by rw [size_setChan]; exact Nat.le_refl _))
        have CS := Lib.hid (fun (W : World) (hW : Cir B E g cs ((stL l gp k).set k 46) W) (s1 r1 : Nat) => show Cir B E g cs (((stL l gp k).set k 46).set (nxt l.length k) 84) (W.setChan cn 1 ((bufOf false).push (.agg #[])) false s1 r1 false) from
          hW.turn1 HIN.out (by simp) (fun j hj => tr_ne _ hj) ⟨s1, r1, by rw [heap_setChan _ _ _ _ _ _ _ _ (by have := hW.le; omega), tr_same _ (by rw [List.length_set, stL_len]; exact hnl)]; rfl⟩ (fun j _ hj => setChan_far _ _ _ _ _ _ _ _ _ hj) (by rw [size_setChan]; exact Nat.le_refl _))
        clear A0 hat hnx hmv hmod hcn hl1 cb1 cb2 cb3 cn1 cn2 cn3 hne hnl
        go_upto_region 5 with fail
        refine wp_region_draw_to mixed ?_
        obtain ⟨W, hW⟩ : ∃ W, wr.drew = W := ⟨_, rfl⟩
        have hC : Cir B E g cs (stL l gp k) W := by rw [← hW]; exact HCr.out.keep (fun _ _ _ => rfl) (Nat.le_refl _)
        have hT : Turn B E w W := by rw [← hW]; exact ⟨HT.out.low.trans ⟨rfl, rfl, rfl, Nat.le_refl _, fun _ _ => rfl⟩, fun j h1 h2 => HT.out.hi j h1 h2⟩
        have d0 : W.cell? ⟨w.heap.size, 0, none⟩ = some (.slice (some ⟨g, 0, none⟩) S.size cap) := by rw [← hW]; exact hc0
        have d1 : W.cell? ⟨w.heap.size, 1, none⟩ = some (.int .i64 s) := by rw [← hW]; exact hc1
        have hz : w.heap.size < W.heap.size := by rw [← hW]; exact hsz
        rw [hW]
        clear hW HCr HT hc0 hc1 hsz hrow hx hq
        clear wr
        refine AnyTo.three (x := 0) (y := 1) (z := 3) (by kernel_rfl) ?_ ?_ ?_
        · refine StepTo.op rfl rfl (fun K hK => ?_)
          go_simp
          refine hK _ _ ?_
          clear hK K
          refine AnyTo.two (x := 1) (y := 3) (by kernel_rfl) ?_ ?_
          · refine StepTo.op rfl rfl (fun K hK => ?_)
            go_simp
            refine hK _ _ ?_
            clear hK K
            refine AnyTo.two (x := 2) (y := 3) (by kernel_rfl) ?_ ?_
            · refine StepTo.op rfl rfl (fun K hK => ?_)
              go_simp
              refine ((A1.out).K W hC).mono ?_
              rintro e W' ⟨rfl, h1⟩
              refine hK _ _ ?_
              clear hK K
              replace hT := hT.trans (Turn.of_below h1 (by have := hC.le; omega))
              replace d0 := (h1.cell (p := ⟨w.heap.size, 0, none⟩) hz).trans d0
              replace d1 := (h1.cell (p := ⟨w.heap.size, 1, none⟩) hz).trans d1
              replace hC := hC.below h1
              replace hz := Nat.lt_of_lt_of_le hz h1.size
              clear h1
              clear W
              rename World => W
              refine AnyTo.one (x := 3) (by kernel_rfl) ?_
              refine StepTo.op rfl rfl (fun K hK => ?_)
              go_simp
              refine hK _ _ ?_
              clear hK K
              refine AnyTo.one (x := 4) (by kernel_rfl) ?_
              obtain ⟨s1, r1, hh⟩ := hC.ch k c HI.out
              rw [TRK.out] at hh
              have HH := Lib.hid hh
              clear hh
              refine StepTo.comm (cases := #[rcase c (.agg #[])]) (blocking := true) (shape := .recv false) rfl rfl (by simp [go_sem, execOp, rcase, Act.eval]) (fun fr cs es h => step_lone_recv_buf false h HH.out (by simp [bufOf])) ?_
              replace d0 := (cell_setChan W c 1 ((bufOf true).extract 1 (bufOf true).size) false s1 (r1 + 1) false w.heap.size 0 BNC.out).trans d0
              replace d1 := (cell_setChan W c 1 ((bufOf true).extract 1 (bufOf true).size) false s1 (r1 + 1) false w.heap.size 1 BNC.out).trans d1
              replace hC := (CR.out) W hC s1 (r1 + 1)
              replace hT := hT.trans ((Oth.setChan W c 1 ((bufOf true).extract 1 (bufOf true).size) false s1 (r1 + 1) false).turn CB.out.1 CB.out.2)
              replace hz : w.heap.size < (W.setChan c 1 ((bufOf true).extract 1 (bufOf true).size) false s1 (r1 + 1) false).heap.size := by rw [size_setChan]; exact hz
              clear HH
              generalize W.setChan c 1 ((bufOf true).extract 1 (bufOf true).size) false s1 (r1 + 1) false = W1 at *
              simp only [got, bufOf, if_true]
              go_simp
              clear W
              rename World => W
              refine AnyTo.one (x := 5) (by kernel_rfl) ?_
              obtain ⟨s1, r1, hh⟩ := hC.ch _ cn HIN.out
              rw [TRN.out] at hh
              have HH := Lib.hid hh
              clear hh
              refine StepTo.comm (cases := #[scase cn (.agg #[]) (.tuple #[])]) (blocking := true) (shape := .send) rfl rfl (by simp [go_sem, execOp, scase, Act.eval]) (fun fr cs es h => step_lone_send_room h HH.out (by simp [bufOf])) ?_
              replace d0 := (cell_setChan W cn 1 ((bufOf false).push (.agg #[])) false (s1 + 1) r1 false w.heap.size 0 BNN.out).trans d0
              replace d1 := (cell_setChan W cn 1 ((bufOf false).push (.agg #[])) false (s1 + 1) r1 false w.heap.size 1 BNN.out).trans d1
              replace hC := (CS.out) W hC (s1 + 1) r1
              replace hT := hT.trans ((Oth.setChan W cn 1 ((bufOf false).push (.agg #[])) false (s1 + 1) r1 false).turn CBN.out.1 CBN.out.2)
              replace hz : w.heap.size < (W.setChan cn 1 ((bufOf false).push (.agg #[])) false (s1 + 1) r1 false).heap.size := by rw [size_setChan]; exact hz
              clear HH
              generalize W.setChan cn 1 ((bufOf false).push (.agg #[])) false (s1 + 1) r1 false = W1 at *
              go_simp
              clear W
              rename World => W
              refine AnyTo.done (by kernel_rfl) ?_
              go_wp2_with fail
              go_roundw
              case rel => exact ⟨k + 1, by omega, by go_num, by rw [HMV.out]; exact hC, hT, d0, d1, hz⟩
              case measure => simp [intOf]; omega
            · refine StepTo.op rfl rfl (fun K hK => ?_)
              go_simp
              refine hK _ _ ?_
              clear hK K
              refine AnyTo.two (x := 2) (y := 4) (by kernel_rfl) ?_ ?_
              · refine StepTo.op rfl rfl (fun K hK => ?_)
                go_simp
                refine ((A1.out).K W hC).mono ?_
                rintro e W' ⟨rfl, h1⟩
                refine hK _ _ ?_
                clear hK K
                replace hT := hT.trans (Turn.of_below h1 (by have := hC.le; omega))
                replace d0 := (h1.cell (p := ⟨w.heap.size, 0, none⟩) hz).trans d0
                replace d1 := (h1.cell (p := ⟨w.heap.size, 1, none⟩) hz).trans d1
                replace hC := hC.below h1
                replace hz := Nat.lt_of_lt_of_le hz h1.size
                clear h1
                clear W
                rename World => W
                refine AnyTo.one (x := 4) (by kernel_rfl) ?_
                obtain ⟨s1, r1, hh⟩ := hC.ch k c HI.out
                rw [TRK.out] at hh
                have HH := Lib.hid hh
                clear hh
                refine StepTo.comm (cases := #[rcase c (.agg #[])]) (blocking := true) (shape := .recv false) rfl rfl (by simp [go_sem, execOp, rcase, Act.eval]) (fun fr cs es h => step_lone_recv_buf false h HH.out (by simp [bufOf])) ?_
                replace d0 := (cell_setChan W c 1 ((bufOf true).extract 1 (bufOf true).size) false s1 (r1 + 1) false w.heap.size 0 BNC.out).trans d0
                replace d1 := (cell_setChan W c 1 ((bufOf true).extract 1 (bufOf true).size) false s1 (r1 + 1) false w.heap.size 1 BNC.out).trans d1
                replace hC := (CR.out) W hC s1 (r1 + 1)
                replace hT := hT.trans ((Oth.setChan W c 1 ((bufOf true).extract 1 (bufOf true).size) false s1 (r1 + 1) false).turn CB.out.1 CB.out.2)
                replace hz : w.heap.size < (W.setChan c 1 ((bufOf true).extract 1 (bufOf true).size) false s1 (r1 + 1) false).heap.size := by rw [size_setChan]; exact hz
                clear HH
                generalize W.setChan c 1 ((bufOf true).extract 1 (bufOf true).size) false s1 (r1 + 1) false = W1 at *
                simp only [got, bufOf, if_true]
                go_simp
                clear W
                rename World => W
                refine AnyTo.one (x := 5) (by kernel_rfl) ?_
                obtain ⟨s1, r1, hh⟩ := hC.ch _ cn HIN.out
                rw [TRN.out] at hh
                have HH := Lib.hid hh
                clear hh
                refine StepTo.comm (cases := #[scase cn (.agg #[]) (.tuple #[])]) (blocking := true) (shape := .send) rfl rfl (by simp [go_sem, execOp, scase, Act.eval]) (fun fr cs es h => step_lone_send_room h HH.out (by simp [bufOf])) ?_
                replace d0 := (cell_setChan W cn 1 ((bufOf false).push (.agg #[])) false (s1 + 1) r1 false w.heap.size 0 BNN.out).trans d0
                replace d1 := (cell_setChan W cn 1 ((bufOf false).push (.agg #[])) false (s1 + 1) r1 false w.heap.size 1 BNN.out).trans d1
                replace hC := (CS.out) W hC (s1 + 1) r1
                replace hT := hT.trans ((Oth.setChan W cn 1 ((bufOf false).push (.agg #[])) false (s1 + 1) r1 false).turn CBN.out.1 CBN.out.2)
                replace hz : w.heap.size < (W.setChan cn 1 ((bufOf false).push (.agg #[])) false (s1 + 1) r1 false).heap.size := by rw [size_setChan]; exact hz
                clear HH
                generalize W.setChan cn 1 ((bufOf false).push (.agg #[])) false (s1 + 1) r1 false = W1 at *
                go_simp
                clear W
                rename World => W
                refine AnyTo.done (by kernel_rfl) ?_
                go_wp2_with fail
                go_roundw
                case rel => exact ⟨k + 1, by omega, by go_num, by rw [HMV.out]; exact hC, hT, d0, d1, hz⟩
                case measure => simp [intOf]; omega
              · obtain ⟨s1, r1, hh⟩ := hC.ch k c HI.out
                rw [TRK.out] at hh
                have HH := Lib.hid hh
                clear hh
                refine StepTo.comm (cases := #[rcase c (.agg #[])]) (blocking := true) (shape := .recv false) rfl rfl (by simp [go_sem, execOp, rcase, Act.eval]) (fun fr cs es h => step_lone_recv_buf false h HH.out (by simp [bufOf])) ?_
                replace d0 := (cell_setChan W c 1 ((bufOf true).extract 1 (bufOf true).size) false s1 (r1 + 1) false w.heap.size 0 BNC.out).trans d0
                replace d1 := (cell_setChan W c 1 ((bufOf true).extract 1 (bufOf true).size) false s1 (r1 + 1) false w.heap.size 1 BNC.out).trans d1
                replace hC := (CR.out) W hC s1 (r1 + 1)
                replace hT := hT.trans ((Oth.setChan W c 1 ((bufOf true).extract 1 (bufOf true).size) false s1 (r1 + 1) false).turn CB.out.1 CB.out.2)
                replace hz : w.heap.size < (W.setChan c 1 ((bufOf true).extract 1 (bufOf true).size) false s1 (r1 + 1) false).heap.size := by rw [size_setChan]; exact hz
                clear HH
                generalize W.setChan c 1 ((bufOf true).extract 1 (bufOf true).size) false s1 (r1 + 1) false = W1 at *
                simp only [got, bufOf, if_true]
                go_simp
                clear W
                rename World => W
                refine AnyTo.one (x := 2) (by kernel_rfl) ?_
                refine StepTo.op rfl rfl (fun K hK => ?_)
                go_simp
                refine ((A1.out).L W hC).mono ?_
                rintro e W' ⟨rfl, h1⟩
                refine hK _ _ ?_
                clear hK K
                replace hT := hT.trans (Turn.of_below h1 (by have := hC.le; omega))
                replace d0 := (h1.cell (p := ⟨w.heap.size, 0, none⟩) hz).trans d0
                replace d1 := (h1.cell (p := ⟨w.heap.size, 1, none⟩) hz).trans d1
                replace hC := hC.below h1
                replace hz := Nat.lt_of_lt_of_le hz h1.size
                clear h1
                clear W
                rename World => W
                refine AnyTo.one (x := 5) (by kernel_rfl) ?_
                obtain ⟨s1, r1, hh⟩ := hC.ch _ cn HIN.out
                rw [TRN.out] at hh
                have HH := Lib.hid hh
                clear hh
                refine StepTo.comm (cases := #[scase cn (.agg #[]) (.tuple #[])]) (blocking := true) (shape := .send) rfl rfl (by simp [go_sem, execOp, scase, Act.eval]) (fun fr cs es h => step_lone_send_room h HH.out (by simp [bufOf])) ?_
                replace d0 := (cell_setChan W cn 1 ((bufOf false).push (.agg #[])) false (s1 + 1) r1 false w.heap.size 0 BNN.out).trans d0
                replace d1 := (cell_setChan W cn 1 ((bufOf false).push (.agg #[])) false (s1 + 1) r1 false w.heap.size 1 BNN.out).trans d1
                replace hC := (CS.out) W hC (s1 + 1) r1
                replace hT := hT.trans ((Oth.setChan W cn 1 ((bufOf false).push (.agg #[])) false (s1 + 1) r1 false).turn CBN.out.1 CBN.out.2)
                replace hz : w.heap.size < (W.setChan cn 1 ((bufOf false).push (.agg #[])) false (s1 + 1) r1 false).heap.size := by rw [size_setChan]; exact hz
                clear HH
                generalize W.setChan cn 1 ((bufOf false).push (.agg #[])) false (s1 + 1) r1 false = W1 at *
                go_simp
                clear W
                rename World => W
                refine AnyTo.done (by kernel_rfl) ?_
                go_wp2_with fail
                go_roundw
                case rel => exact ⟨k + 1, by omega, by go_num, by rw [HMV.out]; exact hC, hT, d0, d1, hz⟩
                case measure => simp [intOf]; omega
          · refine StepTo.op rfl rfl (fun K hK => ?_)
            go_simp
            refine hK _ _ ?_
            clear hK K
            refine AnyTo.two (x := 1) (y := 4) (by kernel_rfl) ?_ ?_
            · refine StepTo.op rfl rfl (fun K hK => ?_)
              go_simp
              refine hK _ _ ?_
              clear hK K
              refine AnyTo.two (x := 2) (y := 4) (by kernel_rfl) ?_ ?_
              · refine StepTo.op rfl rfl (fun K hK => ?_)
                go_simp
                refine ((A1.out).K W hC).mono ?_
                rintro e W' ⟨rfl, h1⟩
                refine hK _ _ ?_
                clear hK K
                replace hT := hT.trans (Turn.of_below h1 (by have := hC.le; omega))
                replace d0 := (h1.cell (p := ⟨w.heap.size, 0, none⟩) hz).trans d0
                replace d1 := (h1.cell (p := ⟨w.heap.size, 1, none⟩) hz).trans d1
                replace hC := hC.below h1
                replace hz := Nat.lt_of_lt_of_le hz h1.size
                clear h1
                clear W
                rename World => W
                refine AnyTo.one (x := 4) (by kernel_rfl) ?_
                obtain ⟨s1, r1, hh⟩ := hC.ch k c HI.out
                rw [TRK.out] at hh
                have HH := Lib.hid hh
                clear hh
                refine StepTo.comm (cases := #[rcase c (.agg #[])]) (blocking := true) (shape := .recv false) rfl rfl (by simp [go_sem, execOp, rcase, Act.eval]) (fun fr cs es h => step_lone_recv_buf false h HH.out (by simp [bufOf])) ?_
                replace d0 := (cell_setChan W c 1 ((bufOf true).extract 1 (bufOf true).size) false s1 (r1 + 1) false w.heap.size 0 BNC.out).trans d0
                replace d1 := (cell_setChan W c 1 ((bufOf true).extract 1 (bufOf true).size) false s1 (r1 + 1) false w.heap.size 1 BNC.out).trans d1
                replace hC := (CR.out) W hC s1 (r1 + 1)
                replace hT := hT.trans ((Oth.setChan W c 1 ((bufOf true).extract 1 (bufOf true).size) false s1 (r1 + 1) false).turn CB.out.1 CB.out.2)
                replace hz : w.heap.size < (W.setChan c 1 ((bufOf true).extract 1 (bufOf true).size) false s1 (r1 + 1) false).heap.size := by rw [size_setChan]; exact hz
                clear HH
                generalize W.setChan c 1 ((bufOf true).extract 1 (bufOf true).size) false s1 (r1 + 1) false = W1 at *
                simp only [got, bufOf, if_true]
                go_simp
                clear W
                rename World => W
                refine AnyTo.one (x := 5) (by kernel_rfl) ?_
                obtain ⟨s1, r1, hh⟩ := hC.ch _ cn HIN.out
                rw [TRN.out] at hh
                have HH := Lib.hid hh
                clear hh
                refine StepTo.comm (cases := #[scase cn (.agg #[]) (.tuple #[])]) (blocking := true) (shape := .send) rfl rfl (by simp [go_sem, execOp, scase, Act.eval]) (fun fr cs es h => step_lone_send_room h HH.out (by simp [bufOf])) ?_
                replace d0 := (cell_setChan W cn 1 ((bufOf false).push (.agg #[])) false (s1 + 1) r1 false w.heap.size 0 BNN.out).trans d0
                replace d1 := (cell_setChan W cn 1 ((bufOf false).push (.agg #[])) false (s1 + 1) r1 false w.heap.size 1 BNN.out).trans d1
                replace hC := (CS.out) W hC (s1 + 1) r1
                replace hT := hT.trans ((Oth.setChan W cn 1 ((bufOf false).push (.agg #[])) false (s1 + 1) r1 false).turn CBN.out.1 CBN.out.2)
                replace hz : w.heap.size < (W.setChan cn 1 ((bufOf false).push (.agg #[])) false (s1 + 1) r1 false).heap.size := by rw [size_setChan]; exact hz
                clear HH
                generalize W.setChan cn 1 ((bufOf false).push (.agg #[])) false (s1 + 1) r1 false = W1 at *
                go_simp
                clear W
                rename World => W
                refine AnyTo.done (by kernel_rfl) ?_
                go_wp2_with fail
                go_roundw
                case rel => exact ⟨k + 1, by omega, by go_num, by rw [HMV.out]; exact hC, hT, d0, d1, hz⟩
                case measure => simp [intOf]; omega
              · obtain ⟨s1, r1, hh⟩ := hC.ch k c HI.out
                rw [TRK.out] at hh
                have HH := Lib.hid hh
                clear hh
                refine StepTo.comm (cases := #[rcase c (.agg #[])]) (blocking := true) (shape := .recv false) rfl rfl (by simp [go_sem, execOp, rcase, Act.eval]) (fun fr cs es h => step_lone_recv_buf false h HH.out (by simp [bufOf])) ?_
                replace d0 := (cell_setChan W c 1 ((bufOf true).extract 1 (bufOf true).size) false s1 (r1 + 1) false w.heap.size 0 BNC.out).trans d0
                replace d1 := (cell_setChan W c 1 ((bufOf true).extract 1 (bufOf true).size) false s1 (r1 + 1) false w.heap.size 1 BNC.out).trans d1
                replace hC := (CR.out) W hC s1 (r1 + 1)
                replace hT := hT.trans ((Oth.setChan W c 1 ((bufOf true).extract 1 (bufOf true).size) false s1 (r1 + 1) false).turn CB.out.1 CB.out.2)
                replace hz : w.heap.size < (W.setChan c 1 ((bufOf true).extract 1 (bufOf true).size) false s1 (r1 + 1) false).heap.size := by rw [size_setChan]; exact hz
                clear HH
                generalize W.setChan c 1 ((bufOf true).extract 1 (bufOf true).size) false s1 (r1 + 1) false = W1 at *
                simp only [got, bufOf, if_true]
                go_simp
                clear W
                rename World => W
                refine AnyTo.one (x := 2) (by kernel_rfl) ?_
                refine StepTo.op rfl rfl (fun K hK => ?_)
                go_simp
                refine ((A1.out).L W hC).mono ?_
                rintro e W' ⟨rfl, h1⟩
                refine hK _ _ ?_
                clear hK K
                replace hT := hT.trans (Turn.of_below h1 (by have := hC.le; omega))
                replace d0 := (h1.cell (p := ⟨w.heap.size, 0, none⟩) hz).trans d0
                replace d1 := (h1.cell (p := ⟨w.heap.size, 1, none⟩) hz).trans d1
                replace hC := hC.below h1
                replace hz := Nat.lt_of_lt_of_le hz h1.size
                clear h1
                clear W
                rename World => W
                refine AnyTo.one (x := 5) (by kernel_rfl) ?_
                obtain ⟨s1, r1, hh⟩ := hC.ch _ cn HIN.out
                rw [TRN.out] at hh
                have HH := Lib.hid hh
                clear hh
                refine StepTo.comm (cases := #[scase cn (.agg #[]) (.tuple #[])]) (blocking := true) (shape := .send) rfl rfl (by simp [go_sem, execOp, scase, Act.eval]) (fun fr cs es h => step_lone_send_room h HH.out (by simp [bufOf])) ?_
                replace d0 := (cell_setChan W cn 1 ((bufOf false).push (.agg #[])) false (s1 + 1) r1 false w.heap.size 0 BNN.out).trans d0
                replace d1 := (cell_setChan W cn 1 ((bufOf false).push (.agg #[])) false (s1 + 1) r1 false w.heap.size 1 BNN.out).trans d1
                replace hC := (CS.out) W hC (s1 + 1) r1
                replace hT := hT.trans ((Oth.setChan W cn 1 ((bufOf false).push (.agg #[])) false (s1 + 1) r1 false).turn CBN.out.1 CBN.out.2)
                replace hz : w.heap.size < (W.setChan cn 1 ((bufOf false).push (.agg #[])) false (s1 + 1) r1 false).heap.size := by rw [size_setChan]; exact hz
                clear HH
                generalize W.setChan cn 1 ((bufOf false).push (.agg #[])) false (s1 + 1) r1 false = W1 at *
                go_simp
                clear W
                rename World => W
                refine AnyTo.done (by kernel_rfl) ?_
                go_wp2_with fail
                go_roundw
                case rel => exact ⟨k + 1, by omega, by go_num, by rw [HMV.out]; exact hC, hT, d0, d1, hz⟩
                case measure => simp [intOf]; omega
            · obtain ⟨s1, r1, hh⟩ := hC.ch k c HI.out
              rw [TRK.out] at hh
              have HH := Lib.hid hh
              clear hh
              refine StepTo.comm (cases := #[rcase c (.agg #[])]) (blocking := true) (shape := .recv false) rfl rfl (by simp [go_sem, execOp, rcase, Act.eval]) (fun fr cs es h => step_lone_recv_buf false h HH.out (by simp [bufOf])) ?_
              replace d0 := (cell_setChan W c 1 ((bufOf true).extract 1 (bufOf true).size) false s1 (r1 + 1) false w.heap.size 0 BNC.out).trans d0
              replace d1 := (cell_setChan W c 1 ((bufOf true).extract 1 (bufOf true).size) false s1 (r1 + 1) false w.heap.size 1 BNC.out).trans d1
              replace hC := (CR.out) W hC s1 (r1 + 1)
              replace hT := hT.trans ((Oth.setChan W c 1 ((bufOf true).extract 1 (bufOf true).size) false s1 (r1 + 1) false).turn CB.out.1 CB.out.2)
              replace hz : w.heap.size < (W.setChan c 1 ((bufOf true).extract 1 (bufOf true).size) false s1 (r1 + 1) false).heap.size := by rw [size_setChan]; exact hz
              clear HH
              generalize W.setChan c 1 ((bufOf true).extract 1 (bufOf true).size) false s1 (r1 + 1) false = W1 at *
              simp only [got, bufOf, if_true]
              go_simp
              clear W
              rename World => W
              refine AnyTo.one (x := 1) (by kernel_rfl) ?_
              refine StepTo.op rfl rfl (fun K hK => ?_)
              go_simp
              refine hK _ _ ?_
              clear hK K
              refine AnyTo.one (x := 2) (by kernel_rfl) ?_
              refine StepTo.op rfl rfl (fun K hK => ?_)
              go_simp
              refine ((A1.out).L W hC).mono ?_
              rintro e W' ⟨rfl, h1⟩
              refine hK _ _ ?_
              clear hK K
              replace hT := hT.trans (Turn.of_below h1 (by have := hC.le; omega))
              replace d0 := (h1.cell (p := ⟨w.heap.size, 0, none⟩) hz).trans d0
              replace d1 := (h1.cell (p := ⟨w.heap.size, 1, none⟩) hz).trans d1
              replace hC := hC.below h1
              replace hz := Nat.lt_of_lt_of_le hz h1.size
              clear h1
              clear W
              rename World => W
              refine AnyTo.one (x := 5) (by kernel_rfl) ?_
              obtain ⟨s1, r1, hh⟩ := hC.ch _ cn HIN.out
              rw [TRN.out] at hh
              have HH := Lib.hid hh
              clear hh
              refine StepTo.comm (cases := #[scase cn (.agg #[]) (.tuple #[])]) (blocking := true) (shape := .send) rfl rfl (by simp [go_sem, execOp, scase, Act.eval]) (fun fr cs es h => step_lone_send_room h HH.out (by simp [bufOf])) ?_
              replace d0 := (cell_setChan W cn 1 ((bufOf false).push (.agg #[])) false (s1 + 1) r1 false w.heap.size 0 BNN.out).trans d0
              replace d1 := (cell_setChan W cn 1 ((bufOf false).push (.agg #[])) false (s1 + 1) r1 false w.heap.size 1 BNN.out).trans d1
              replace hC := (CS.out) W hC (s1 + 1) r1
              replace hT := hT.trans ((Oth.setChan W cn 1 ((bufOf false).push (.agg #[])) false (s1 + 1) r1 false).turn CBN.out.1 CBN.out.2)
              replace hz : w.heap.size < (W.setChan cn 1 ((bufOf false).push (.agg #[])) false (s1 + 1) r1 false).heap.size := by rw [size_setChan]; exact hz
              clear HH
              generalize W.setChan cn 1 ((bufOf false).push (.agg #[])) false (s1 + 1) r1 false = W1 at *
              go_simp
              clear W
              rename World => W
              refine AnyTo.done (by kernel_rfl) ?_
              go_wp2_with fail
              go_roundw
              case rel => exact ⟨k + 1, by omega, by go_num, by rw [HMV.out]; exact hC, hT, d0, d1, hz⟩
              case measure => simp [intOf]; omega
        · refine StepTo.op rfl rfl (fun K hK => ?_)
          go_simp
          refine hK _ _ ?_
          clear hK K
          refine AnyTo.two (x := 0) (y := 3) (by kernel_rfl) ?_ ?_
          · refine StepTo.op rfl rfl (fun K hK => ?_)
            go_simp
            refine hK _ _ ?_
            clear hK K
            refine AnyTo.two (x := 2) (y := 3) (by kernel_rfl) ?_ ?_
            · refine StepTo.op rfl rfl (fun K hK => ?_)
              go_simp
              refine ((A1.out).K W hC).mono ?_
              rintro e W' ⟨rfl, h1⟩
              refine hK _ _ ?_
              clear hK K
              replace hT := hT.trans (Turn.of_below h1 (by have := hC.le; omega))
              replace d0 := (h1.cell (p := ⟨w.heap.size, 0, none⟩) hz).trans d0
              replace d1 := (h1.cell (p := ⟨w.heap.size, 1, none⟩) hz).trans d1
              replace hC := hC.below h1
              replace hz := Nat.lt_of_lt_of_le hz h1.size
              clear h1
              clear W
              rename World => W
              refine AnyTo.one (x := 3) (by kernel_rfl) ?_
              refine StepTo.op rfl rfl (fun K hK => ?_)
              go_simp
              refine hK _ _ ?_
              clear hK K
              refine AnyTo.one (x := 4) (by kernel_rfl) ?_
              obtain ⟨s1, r1, hh⟩ := hC.ch k c HI.out
              rw [TRK.out] at hh
              have HH := Lib.hid hh
              clear hh
              refine StepTo.comm (cases := #[rcase c (.agg #[])]) (blocking := true) (shape := .recv false) rfl rfl (by simp [go_sem, execOp, rcase, Act.eval]) (fun fr cs es h => step_lone_recv_buf false h HH.out (by simp [bufOf])) ?_
              replace d0 := (cell_setChan W c 1 ((bufOf true).extract 1 (bufOf true).size) false s1 (r1 + 1) false w.heap.size 0 BNC.out).trans d0
              replace d1 := (cell_setChan W c 1 ((bufOf true).extract 1 (bufOf true).size) false s1 (r1 + 1) false w.heap.size 1 BNC.out).trans d1
              replace hC := (CR.out) W hC s1 (r1 + 1)
              replace hT := hT.trans ((Oth.setChan W c 1 ((bufOf true).extract 1 (bufOf true).size) false s1 (r1 + 1) false).turn CB.out.1 CB.out.2)
              replace hz : w.heap.size < (W.setChan c 1 ((bufOf true).extract 1 (bufOf true).size) false s1 (r1 + 1) false).heap.size := by rw [size_setChan]; exact hz
              clear HH
              generalize W.setChan c 1 ((bufOf true).extract 1 (bufOf true).size) false s1 (r1 + 1) false = W1 at *
              simp only [got, bufOf, if_true]
              go_simp
              clear W
              rename World => W
              refine AnyTo.one (x := 5) (by kernel_rfl) ?_
              obtain ⟨s1, r1, hh⟩ := hC.ch _ cn HIN.out
              rw [TRN.out] at hh
              have HH := Lib.hid hh
              clear hh
              refine StepTo.comm (cases := #[scase cn (.agg #[]) (.tuple #[])]) (blocking := true) (shape := .send) rfl rfl (by simp [go_sem, execOp, scase, Act.eval]) (fun fr cs es h => step_lone_send_room h HH.out (by simp [bufOf])) ?_
              replace d0 := (cell_setChan W cn 1 ((bufOf false).push (.agg #[])) false (s1 + 1) r1 false w.heap.size 0 BNN.out).trans d0
              replace d1 := (cell_setChan W cn 1 ((bufOf false).push (.agg #[])) false (s1 + 1) r1 false w.heap.size 1 BNN.out).trans d1
              replace hC := (CS.out) W hC (s1 + 1) r1
              replace hT := hT.trans ((Oth.setChan W cn 1 ((bufOf false).push (.agg #[])) false (s1 + 1) r1 false).turn CBN.out.1 CBN.out.2)
              replace hz : w.heap.size < (W.setChan cn 1 ((bufOf false).push (.agg #[])) false (s1 + 1) r1 false).heap.size := by rw [size_setChan]; exact hz
              clear HH
              generalize W.setChan cn 1 ((bufOf false).push (.agg #[])) false (s1 + 1) r1 false = W1 at *
              go_simp
              clear W
              rename World => W
              refine AnyTo.done (by kernel_rfl) ?_
              go_wp2_with fail
              go_roundw
              case rel => exact ⟨k + 1, by omega, by go_num, by rw [HMV.out]; exact hC, hT, d0, d1, hz⟩
              case measure => simp [intOf]; omega
            · refine StepTo.op rfl rfl (fun K hK => ?_)
              go_simp
              refine hK _ _ ?_
              clear hK K
              refine AnyTo.two (x := 2) (y := 4) (by kernel_rfl) ?_ ?_
              · refine StepTo.op rfl rfl (fun K hK => ?_)
                go_simp
                refine ((A1.out).K W hC).mono ?_
                rintro e W' ⟨rfl, h1⟩
                refine hK _ _ ?_
                clear hK K
                replace hT := hT.trans (Turn.of_below h1 (by have := hC.le; omega))
                replace d0 := (h1.cell (p := ⟨w.heap.size, 0, none⟩) hz).trans d0
                replace d1 := (h1.cell (p := ⟨w.heap.size, 1, none⟩) hz).trans d1
                replace hC := hC.below h1
                replace hz := Nat.lt_of_lt_of_le hz h1.size
                clear h1
                clear W
                rename World => W
                refine AnyTo.one (x := 4) (by kernel_rfl) ?_
                obtain ⟨s1, r1, hh⟩ := hC.ch k c HI.out
                rw [TRK.out] at hh
                have HH := Lib.hid hh
                clear hh
                refine StepTo.comm (cases := #[rcase c (.agg #[])]) (blocking := true) (shape := .recv false) rfl rfl (by simp [go_sem, execOp, rcase, Act.eval]) (fun fr cs es h => step_lone_recv_buf false h HH.out (by simp [bufOf])) ?_
                replace d0 := (cell_setChan W c 1 ((bufOf true).extract 1 (bufOf true).size) false s1 (r1 + 1) false w.heap.size 0 BNC.out).trans d0
                replace d1 := (cell_setChan W c 1 ((bufOf true).extract 1 (bufOf true).size) false s1 (r1 + 1) false w.heap.size 1 BNC.out).trans d1
                replace hC := (CR.out) W hC s1 (r1 + 1)
                replace hT := hT.trans ((Oth.setChan W c 1 ((bufOf true).extract 1 (bufOf true).size) false s1 (r1 + 1) false).turn CB.out.1 CB.out.2)
                replace hz : w.heap.size < (W.setChan c 1 ((bufOf true).extract 1 (bufOf true).size) false s1 (r1 + 1) false).heap.size := by rw [size_setChan]; exact hz
                clear HH
                generalize W.setChan c 1 ((bufOf true).extract 1 (bufOf true).size) false s1 (r1 + 1) false = W1 at *
                simp only [got, bufOf, if_true]
                go_simp
                clear W
                rename World => W
                refine AnyTo.one (x := 5) (by kernel_rfl) ?_
                obtain ⟨s1, r1, hh⟩ := hC.ch _ cn HIN.out
                rw [TRN.out] at hh
                have HH := Lib.hid hh
                clear hh
                refine StepTo.comm (cases := #[scase cn (.agg #[]) (.tuple #[])]) (blocking := true) (shape := .send) rfl rfl (by simp [go_sem, execOp, scase, Act.eval]) (fun fr cs es h => step_lone_send_room h HH.out (by simp [bufOf])) ?_
                replace d0 := (cell_setChan W cn 1 ((bufOf false).push (.agg #[])) false (s1 + 1) r1 false w.heap.size 0 BNN.out).trans d0
                replace d1 := (cell_setChan W cn 1 ((bufOf false).push (.agg #[])) false (s1 + 1) r1 false w.heap.size 1 BNN.out).trans d1
                replace hC := (CS.out) W hC (s1 + 1) r1
                replace hT := hT.trans ((Oth.setChan W cn 1 ((bufOf false).push (.agg #[])) false (s1 + 1) r1 false).turn CBN.out.1 CBN.out.2)
                replace hz : w.heap.size < (W.setChan cn 1 ((bufOf false).push (.agg #[])) false (s1 + 1) r1 false).heap.size := by rw [size_setChan]; exact hz
                clear HH
                generalize W.setChan cn 1 ((bufOf false).push (.agg #[])) false (s1 + 1) r1 false = W1 at *
                go_simp
                clear W
                rename World => W
                refine AnyTo.done (by kernel_rfl) ?_
                go_wp2_with fail
                go_roundw
                case rel => exact ⟨k + 1, by omega, by go_num, by rw [HMV.out]; exact hC, hT, d0, d1, hz⟩
                case measure => simp [intOf]; omega
              · obtain ⟨s1, r1, hh⟩ := hC.ch k c HI.out
                rw [TRK.out] at hh
                have HH := Lib.hid hh
                clear hh
                refine StepTo.comm (cases := #[rcase c (.agg #[])]) (blocking := true) (shape := .recv false) rfl rfl (by simp [go_sem, execOp, rcase, Act.eval]) (fun fr cs es h => step_lone_recv_buf false h HH.out (by simp [bufOf])) ?_
                replace d0 := (cell_setChan W c 1 ((bufOf true).extract 1 (bufOf true).size) false s1 (r1 + 1) false w.heap.size 0 BNC.out).trans d0
                replace d1 := (cell_setChan W c 1 ((bufOf true).extract 1 (bufOf true).size) false s1 (r1 + 1) false w.heap.size 1 BNC.out).trans d1
                replace hC := (CR.out) W hC s1 (r1 + 1)
                replace hT := hT.trans ((Oth.setChan W c 1 ((bufOf true).extract 1 (bufOf true).size) false s1 (r1 + 1) false).turn CB.out.1 CB.out.2)
                replace hz : w.heap.size < (W.setChan c 1 ((bufOf true).extract 1 (bufOf true).size) false s1 (r1 + 1) false).heap.size := by rw [size_setChan]; exact hz
                clear HH
                generalize W.setChan c 1 ((bufOf true).extract 1 (bufOf true).size) false s1 (r1 + 1) false = W1 at *
                simp only [got, bufOf, if_true]
                go_simp
                clear W
                rename World => W
                refine AnyTo.one (x := 2) (by kernel_rfl) ?_
                refine StepTo.op rfl rfl (fun K hK => ?_)
                go_simp
                refine ((A1.out).L W hC).mono ?_
                rintro e W' ⟨rfl, h1⟩
                refine hK _ _ ?_
                clear hK K
                replace hT := hT.trans (Turn.of_below h1 (by have := hC.le; omega))
                replace d0 := (h1.cell (p := ⟨w.heap.size, 0, none⟩) hz).trans d0
                replace d1 := (h1.cell (p := ⟨w.heap.size, 1, none⟩) hz).trans d1
                replace hC := hC.below h1
                replace hz := Nat.lt_of_lt_of_le hz h1.size
                clear h1
                clear W
                rename World => W
                refine AnyTo.one (x := 5) (by kernel_rfl) ?_
                obtain ⟨s1, r1, hh⟩ := hC.ch _ cn HIN.out
                rw [TRN.out] at hh
                have HH := Lib.hid hh
                clear hh
                refine StepTo.comm (cases := #[scase cn (.agg #[]) (.tuple #[])]) (blocking := true) (shape := .send) rfl rfl (by simp [go_sem, execOp, scase, Act.eval]) (fun fr cs es h => step_lone_send_room h HH.out (by simp [bufOf])) ?_
                replace d0 := (cell_setChan W cn 1 ((bufOf false).push (.agg #[])) false (s1 + 1) r1 false w.heap.size 0 BNN.out).trans d0
                replace d1 := (cell_setChan W cn 1 ((bufOf false).push (.agg #[])) false (s1 + 1) r1 false w.heap.size 1 BNN.out).trans d1
                replace hC := (CS.out) W hC (s1 + 1) r1
                replace hT := hT.trans ((Oth.setChan W cn 1 ((bufOf false).push (.agg #[])) false (s1 + 1) r1 false).turn CBN.out.1 CBN.out.2)
                replace hz : w.heap.size < (W.setChan cn 1 ((bufOf false).push (.agg #[])) false (s1 + 1) r1 false).heap.size := by rw [size_setChan]; exact hz
                clear HH
                generalize W.setChan cn 1 ((bufOf false).push (.agg #[])) false (s1 + 1) r1 false = W1 at *
                go_simp
                clear W
                rename World => W
                refine AnyTo.done (by kernel_rfl) ?_
                go_wp2_with fail
                go_roundw
                case rel => exact ⟨k + 1, by omega, by go_num, by rw [HMV.out]; exact hC, hT, d0, d1, hz⟩
                case measure => simp [intOf]; omega
          · refine StepTo.op rfl rfl (fun K hK => ?_)
            go_simp
            refine hK _ _ ?_
            clear hK K
            refine AnyTo.two (x := 0) (y := 4) (by kernel_rfl) ?_ ?_
            · refine StepTo.op rfl rfl (fun K hK => ?_)
              go_simp
              refine hK _ _ ?_
              clear hK K
              refine AnyTo.two (x := 2) (y := 4) (by kernel_rfl) ?_ ?_
              · refine StepTo.op rfl rfl (fun K hK => ?_)
                go_simp
                refine ((A1.out).K W hC).mono ?_
                rintro e W' ⟨rfl, h1⟩
                refine hK _ _ ?_
                clear hK K
                replace hT := hT.trans (Turn.of_below h1 (by have := hC.le; omega))
                replace d0 := (h1.cell (p := ⟨w.heap.size, 0, none⟩) hz).trans d0
                replace d1 := (h1.cell (p := ⟨w.heap.size, 1, none⟩) hz).trans d1
                replace hC := hC.below h1
                replace hz := Nat.lt_of_lt_of_le hz h1.size
                clear h1
                clear W
                rename World => W
                refine AnyTo.one (x := 4) (by kernel_rfl) ?_
                obtain ⟨s1, r1, hh⟩ := hC.ch k c HI.out
                rw [TRK.out] at hh
                have HH := Lib.hid hh
                clear hh
                refine StepTo.comm (cases := #[rcase c (.agg #[])]) (blocking := true) (shape := .recv false) rfl rfl (by simp [go_sem, execOp, rcase, Act.eval]) (fun fr cs es h => step_lone_recv_buf false h HH.out (by simp [bufOf])) ?_
                replace d0 := (cell_setChan W c 1 ((bufOf true).extract 1 (bufOf true).size) false s1 (r1 + 1) false w.heap.size 0 BNC.out).trans d0
                replace d1 := (cell_setChan W c 1 ((bufOf true).extract 1 (bufOf true).size) false s1 (r1 + 1) false w.heap.size 1 BNC.out).trans d1
                replace hC := (CR.out) W hC s1 (r1 + 1)
                replace hT := hT.trans ((Oth.setChan W c 1 ((bufOf true).extract 1 (bufOf true).size) false s1 (r1 + 1) false).turn CB.out.1 CB.out.2)
                replace hz : w.heap.size < (W.setChan c 1 ((bufOf true).extract 1 (bufOf true).size) false s1 (r1 + 1) false).heap.size := by rw [size_setChan]; exact hz
                clear HH
                generalize W.setChan c 1 ((bufOf true).extract 1 (bufOf true).size) false s1 (r1 + 1) false = W1 at *
                simp only [got, bufOf, if_true]
                go_simp
                clear W
                rename World => W
                refine AnyTo.one (x := 5) (by kernel_rfl) ?_
                obtain ⟨s1, r1, hh⟩ := hC.ch _ cn HIN.out
                rw [TRN.out] at hh
                have HH := Lib.hid hh
                clear hh
                refine StepTo.comm (cases := #[scase cn (.agg #[]) (.tuple #[])]) (blocking := true) (shape := .send) rfl rfl (by simp [go_sem, execOp, scase, Act.eval]) (fun fr cs es h => step_lone_send_room h HH.out (by simp [bufOf])) ?_
                replace d0 := (cell_setChan W cn 1 ((bufOf false).push (.agg #[])) false (s1 + 1) r1 false w.heap.size 0 BNN.out).trans d0
                replace d1 := (cell_setChan W cn 1 ((bufOf false).push (.agg #[])) false (s1 + 1) r1 false w.heap.size 1 BNN.out).trans d1
                replace hC := (CS.out) W hC (s1 + 1) r1
                replace hT := hT.trans ((Oth.setChan W cn 1 ((bufOf false).push (.agg #[])) false (s1 + 1) r1 false).turn CBN.out.1 CBN.out.2)
                replace hz : w.heap.size < (W.setChan cn 1 ((bufOf false).push (.agg #[])) false (s1 + 1) r1 false).heap.size := by rw [size_setChan]; exact hz
                clear HH
                generalize W.setChan cn 1 ((bufOf false).push (.agg #[])) false (s1 + 1) r1 false = W1 at *
                go_simp
                clear W
                rename World => W
                refine AnyTo.done (by kernel_rfl) ?_
                go_wp2_with fail
                go_roundw
                case rel => exact ⟨k + 1, by omega, by go_num, by rw [HMV.out]; exact hC, hT, d0, d1, hz⟩
                case measure => simp [intOf]; omega
              · obtain ⟨s1, r1, hh⟩ := hC.ch k c HI.out
                rw [TRK.out] at hh
                have HH := Lib.hid hh
                clear hh
                refine StepTo.comm (cases := #[rcase c (.agg #[])]) (blocking := true) (shape := .recv false) rfl rfl (by simp [go_sem, execOp, rcase, Act.eval]) (fun fr cs es h => step_lone_recv_buf false h HH.out (by simp [bufOf])) ?_
                replace d0 := (cell_setChan W c 1 ((bufOf true).extract 1 (bufOf true).size) false s1 (r1 + 1) false w.heap.size 0 BNC.out).trans d0
                replace d1 := (cell_setChan W c 1 ((bufOf true).extract 1 (bufOf true).size) false s1 (r1 + 1) false w.heap.size 1 BNC.out).trans d1
                replace hC := (CR.out) W hC s1 (r1 + 1)
                replace hT := hT.trans ((Oth.setChan W c 1 ((bufOf true).extract 1 (bufOf true).size) false s1 (r1 + 1) false).turn CB.out.1 CB.out.2)
                replace hz : w.heap.size < (W.setChan c 1 ((bufOf true).extract 1 (bufOf true).size) false s1 (r1 + 1) false).heap.size := by rw [size_setChan]; exact hz
                clear HH
                generalize W.setChan c 1 ((bufOf true).extract 1 (bufOf true).size) false s1 (r1 + 1) false = W1 at *
                simp only [got, bufOf, if_true]
                go_simp
                clear W
                rename World => W
                refine AnyTo.one (x := 2) (by kernel_rfl) ?_
                refine StepTo.op rfl rfl (fun K hK => ?_)
                go_simp
                refine ((A1.out).L W hC).mono ?_
                rintro e W' ⟨rfl, h1⟩
                refine hK _ _ ?_
                clear hK K
                replace hT := hT.trans (Turn.of_below h1 (by have := hC.le; omega))
                replace d0 := (h1.cell (p := ⟨w.heap.size, 0, none⟩) hz).trans d0
                replace d1 := (h1.cell (p := ⟨w.heap.size, 1, none⟩) hz).trans d1
                replace hC := hC.below h1
                replace hz := Nat.lt_of_lt_of_le hz h1.size
                clear h1
                clear W
                rename World => W
                refine AnyTo.one (x := 5) (by kernel_rfl) ?_
                obtain ⟨s1, r1, hh⟩ := hC.ch _ cn HIN.out
                rw [TRN.out] at hh
                have HH := Lib.hid hh
                clear hh
                refine StepTo.comm (cases := #[scase cn (.agg #[]) (.tuple #[])]) (blocking := true) (shape := .send) rfl rfl (by simp [go_sem, execOp, scase, Act.eval]) (fun fr cs es h => step_lone_send_room h HH.out (by simp [bufOf])) ?_
                replace d0 := (cell_setChan W cn 1 ((bufOf false).push (.agg #[])) false (s1 + 1) r1 false w.heap.size 0 BNN.out).trans d0
                replace d1 := (cell_setChan W cn 1 ((bufOf false).push (.agg #[])) false (s1 + 1) r1 false w.heap.size 1 BNN.out).trans d1
                replace hC := (CS.out) W hC (s1 + 1) r1
                replace hT := hT.trans ((Oth.setChan W cn 1 ((bufOf false).push (.agg #[])) false (s1 + 1) r1 false).turn CBN.out.1 CBN.out.2)
                replace hz : w.heap.size < (W.setChan cn 1 ((bufOf false).push (.agg #[])) false (s1 + 1) r1 false).heap.size := by rw [size_setChan]; exact hz
                clear HH
                generalize W.setChan cn 1 ((bufOf false).push (.agg #[])) false (s1 + 1) r1 false = W1 at *
                go_simp
                clear W
                rename World => W
                refine AnyTo.done (by kernel_rfl) ?_
                go_wp2_with fail
                go_roundw
                case rel => exact ⟨k + 1, by omega, by go_num, by rw [HMV.out]; exact hC, hT, d0, d1, hz⟩
                case measure => simp [intOf]; omega
            · obtain ⟨s1, r1, hh⟩ := hC.ch k c HI.out
              rw [TRK.out] at hh
              have HH := Lib.hid hh
              clear hh
              refine StepTo.comm (cases := #[rcase c (.agg #[])]) (blocking := true) (shape := .recv false) rfl rfl (by simp [go_sem, execOp, rcase, Act.eval]) (fun fr cs es h => step_lone_recv_buf false h HH.out (by simp [bufOf])) ?_
              replace d0 := (cell_setChan W c 1 ((bufOf true).extract 1 (bufOf true).size) false s1 (r1 + 1) false w.heap.size 0 BNC.out).trans d0
              replace d1 := (cell_setChan W c 1 ((bufOf true).extract 1 (bufOf true).size) false s1 (r1 + 1) false w.heap.size 1 BNC.out).trans d1
              replace hC := (CR.out) W hC s1 (r1 + 1)
              replace hT := hT.trans ((Oth.setChan W c 1 ((bufOf true).extract 1 (bufOf true).size) false s1 (r1 + 1) false).turn CB.out.1 CB.out.2)
              replace hz : w.heap.size < (W.setChan c 1 ((bufOf true).extract 1 (bufOf true).size) false s1 (r1 + 1) false).heap.size := by rw [size_setChan]; exact hz
              clear HH
              generalize W.setChan c 1 ((bufOf true).extract 1 (bufOf true).size) false s1 (r1 + 1) false = W1 at *
              simp only [got, bufOf, if_true]
              go_simp
              clear W
              rename World => W
              refine AnyTo.one (x := 0) (by kernel_rfl) ?_
              refine StepTo.op rfl rfl (fun K hK => ?_)
              go_simp
              refine hK _ _ ?_
              clear hK K
              refine AnyTo.one (x := 2) (by kernel_rfl) ?_
              refine StepTo.op rfl rfl (fun K hK => ?_)
              go_simp
              refine ((A1.out).L W hC).mono ?_
              rintro e W' ⟨rfl, h1⟩
              refine hK _ _ ?_
              clear hK K
              replace hT := hT.trans (Turn.of_below h1 (by have := hC.le; omega))
              replace d0 := (h1.cell (p := ⟨w.heap.size, 0, none⟩) hz).trans d0
              replace d1 := (h1.cell (p := ⟨w.heap.size, 1, none⟩) hz).trans d1
              replace hC := hC.below h1
              replace hz := Nat.lt_of_lt_of_le hz h1.size
              clear h1
              clear W
              rename World => W
              refine AnyTo.one (x := 5) (by kernel_rfl) ?_
              obtain ⟨s1, r1, hh⟩ := hC.ch _ cn HIN.out
              rw [TRN.out] at hh
              have HH := Lib.hid hh
              clear hh
              refine StepTo.comm (cases := #[scase cn (.agg #[]) (.tuple #[])]) (blocking := true) (shape := .send) rfl rfl (by simp [go_sem, execOp, scase, Act.eval]) (fun fr cs es h => step_lone_send_room h HH.out (by simp [bufOf])) ?_
              replace d0 := (cell_setChan W cn 1 ((bufOf false).push (.agg #[])) false (s1 + 1) r1 false w.heap.size 0 BNN.out).trans d0
              replace d1 := (cell_setChan W cn 1 ((bufOf false).push (.agg #[])) false (s1 + 1) r1 false w.heap.size 1 BNN.out).trans d1
              replace hC := (CS.out) W hC (s1 + 1) r1
              replace hT := hT.trans ((Oth.setChan W cn 1 ((bufOf false).push (.agg #[])) false (s1 + 1) r1 false).turn CBN.out.1 CBN.out.2)
              replace hz : w.heap.size < (W.setChan cn 1 ((bufOf false).push (.agg #[])) false (s1 + 1) r1 false).heap.size := by rw [size_setChan]; exact hz
              clear HH
              generalize W.setChan cn 1 ((bufOf false).push (.agg #[])) false (s1 + 1) r1 false = W1 at *
              go_simp
              clear W
              rename World => W
              refine AnyTo.done (by kernel_rfl) ?_
              go_wp2_with fail
              go_roundw
              case rel => exact ⟨k + 1, by omega, by go_num, by rw [HMV.out]; exact hC, hT, d0, d1, hz⟩
              case measure => simp [intOf]; omega
        · refine StepTo.op rfl rfl (fun K hK => ?_)
          go_simp
          refine hK _ _ ?_
          clear hK K
          refine AnyTo.three (x := 0) (y := 1) (z := 4) (by kernel_rfl) ?_ ?_ ?_
          · refine StepTo.op rfl rfl (fun K hK => ?_)
            go_simp
            refine hK _ _ ?_
            clear hK K
            refine AnyTo.two (x := 1) (y := 4) (by kernel_rfl) ?_ ?_
            · refine StepTo.op rfl rfl (fun K hK => ?_)
              go_simp
              refine hK _ _ ?_
              clear hK K
              refine AnyTo.two (x := 2) (y := 4) (by kernel_rfl) ?_ ?_
              · refine StepTo.op rfl rfl (fun K hK => ?_)
                go_simp
                refine ((A1.out).K W hC).mono ?_
                rintro e W' ⟨rfl, h1⟩
                refine hK _ _ ?_
                clear hK K
                replace hT := hT.trans (Turn.of_below h1 (by have := hC.le; omega))
                replace d0 := (h1.cell (p := ⟨w.heap.size, 0, none⟩) hz).trans d0
                replace d1 := (h1.cell (p := ⟨w.heap.size, 1, none⟩) hz).trans d1
                replace hC := hC.below h1
                replace hz := Nat.lt_of_lt_of_le hz h1.size
                clear h1
                clear W
                rename World => W
                refine AnyTo.one (x := 4) (by kernel_rfl) ?_
                obtain ⟨s1, r1, hh⟩ := hC.ch k c HI.out
                rw [TRK.out] at hh
                have HH := Lib.hid hh
                clear hh
                refine StepTo.comm (cases := #[rcase c (.agg #[])]) (blocking := true) (shape := .recv false) rfl rfl (by simp [go_sem, execOp, rcase, Act.eval]) (fun fr cs es h => step_lone_recv_buf false h HH.out (by simp [bufOf])) ?_
                replace d0 := (cell_setChan W c 1 ((bufOf true).extract 1 (bufOf true).size) false s1 (r1 + 1) false w.heap.size 0 BNC.out).trans d0
                replace d1 := (cell_setChan W c 1 ((bufOf true).extract 1 (bufOf true).size) false s1 (r1 + 1) false w.heap.size 1 BNC.out).trans d1
                replace hC := (CR.out) W hC s1 (r1 + 1)
                replace hT := hT.trans ((Oth.setChan W c 1 ((bufOf true).extract 1 (bufOf true).size) false s1 (r1 + 1) false).turn CB.out.1 CB.out.2)
                replace hz : w.heap.size < (W.setChan c 1 ((bufOf true).extract 1 (bufOf true).size) false s1 (r1 + 1) false).heap.size := by rw [size_setChan]; exact hz
                clear HH
                generalize W.setChan c 1 ((bufOf true).extract 1 (bufOf true).size) false s1 (r1 + 1) false = W1 at *
                simp only [got, bufOf, if_true]
                go_simp
                clear W
                rename World => W
                refine AnyTo.one (x := 5) (by kernel_rfl) ?_
                obtain ⟨s1, r1, hh⟩ := hC.ch _ cn HIN.out
                rw [TRN.out] at hh
                have HH := Lib.hid hh
                clear hh
                refine StepTo.comm (cases := #[scase cn (.agg #[]) (.tuple #[])]) (blocking := true) (shape := .send) rfl rfl (by simp [go_sem, execOp, scase, Act.eval]) (fun fr cs es h => step_lone_send_room h HH.out (by simp [bufOf])) ?_
                replace d0 := (cell_setChan W cn 1 ((bufOf false).push (.agg #[])) false (s1 + 1) r1 false w.heap.size 0 BNN.out).trans d0
                replace d1 := (cell_setChan W cn 1 ((bufOf false).push (.agg #[])) false (s1 + 1) r1 false w.heap.size 1 BNN.out).trans d1
                replace hC := (CS.out) W hC (s1 + 1) r1
                replace hT := hT.trans ((Oth.setChan W cn 1 ((bufOf false).push (.agg #[])) false (s1 + 1) r1 false).turn CBN.out.1 CBN.out.2)
                replace hz : w.heap.size < (W.setChan cn 1 ((bufOf false).push (.agg #[])) false (s1 + 1) r1 false).heap.size := by rw [size_setChan]; exact hz
                clear HH
                generalize W.setChan cn 1 ((bufOf false).push (.agg #[])) false (s1 + 1) r1 false = W1 at *
                go_simp
                clear W
                rename World => W
                refine AnyTo.done (by kernel_rfl) ?_
                go_wp2_with fail
                go_roundw
                case rel => exact ⟨k + 1, by omega, by go_num, by rw [HMV.out]; exact hC, hT, d0, d1, hz⟩
                case measure => simp [intOf]; omega
              · obtain ⟨s1, r1, hh⟩ := hC.ch k c HI.out
                rw [TRK.out] at hh
                have HH := Lib.hid hh
                clear hh
                refine StepTo.comm (cases := #[rcase c (.agg #[])]) (blocking := true) (shape := .recv false) rfl rfl (by simp [go_sem, execOp, rcase, Act.eval]) (fun fr cs es h => step_lone_recv_buf false h HH.out (by simp [bufOf])) ?_
                replace d0 := (cell_setChan W c 1 ((bufOf true).extract 1 (bufOf true).size) false s1 (r1 + 1) false w.heap.size 0 BNC.out).trans d0
                replace d1 := (cell_setChan W c 1 ((bufOf true).extract 1 (bufOf true).size) false s1 (r1 + 1) false w.heap.size 1 BNC.out).trans d1
                replace hC := (CR.out) W hC s1 (r1 + 1)
                replace hT := hT.trans ((Oth.setChan W c 1 ((bufOf true).extract 1 (bufOf true).size) false s1 (r1 + 1) false).turn CB.out.1 CB.out.2)
                replace hz : w.heap.size < (W.setChan c 1 ((bufOf true).extract 1 (bufOf true).size) false s1 (r1 + 1) false).heap.size := by rw [size_setChan]; exact hz
                clear HH
                generalize W.setChan c 1 ((bufOf true).extract 1 (bufOf true).size) false s1 (r1 + 1) false = W1 at *
                simp only [got, bufOf, if_true]
                go_simp
                clear W
                rename World => W
                refine AnyTo.one (x := 2) (by kernel_rfl) ?_
                refine StepTo.op rfl rfl (fun K hK => ?_)
                go_simp
                refine ((A1.out).L W hC).mono ?_
                rintro e W' ⟨rfl, h1⟩
                refine hK _ _ ?_
                clear hK K
                replace hT := hT.trans (Turn.of_below h1 (by have := hC.le; omega))
                replace d0 := (h1.cell (p := ⟨w.heap.size, 0, none⟩) hz).trans d0
                replace d1 := (h1.cell (p := ⟨w.heap.size, 1, none⟩) hz).trans d1
                replace hC := hC.below h1
                replace hz := Nat.lt_of_lt_of_le hz h1.size
                clear h1
                clear W
                rename World => W
                refine AnyTo.one (x := 5) (by kernel_rfl) ?_
                obtain ⟨s1, r1, hh⟩ := hC.ch _ cn HIN.out
                rw [TRN.out] at hh
                have HH := Lib.hid hh
                clear hh
                refine StepTo.comm (cases := #[scase cn (.agg #[]) (.tuple #[])]) (blocking := true) (shape := .send) rfl rfl (by simp [go_sem, execOp, scase, Act.eval]) (fun fr cs es h => step_lone_send_room h HH.out (by simp [bufOf])) ?_
                replace d0 := (cell_setChan W cn 1 ((bufOf false).push (.agg #[])) false (s1 + 1) r1 false w.heap.size 0 BNN.out).trans d0
                replace d1 := (cell_setChan W cn 1 ((bufOf false).push (.agg #[])) false (s1 + 1) r1 false w.heap.size 1 BNN.out).trans d1
                replace hC := (CS.out) W hC (s1 + 1) r1
                replace hT := hT.trans ((Oth.setChan W cn 1 ((bufOf false).push (.agg #[])) false (s1 + 1) r1 false).turn CBN.out.1 CBN.out.2)
                replace hz : w.heap.size < (W.setChan cn 1 ((bufOf false).push (.agg #[])) false (s1 + 1) r1 false).heap.size := by rw [size_setChan]; exact hz
                clear HH
                generalize W.setChan cn 1 ((bufOf false).push (.agg #[])) false (s1 + 1) r1 false = W1 at *
                go_simp
                clear W
                rename World => W
                refine AnyTo.done (by kernel_rfl) ?_
                go_wp2_with fail
                go_roundw
                case rel => exact ⟨k + 1, by omega, by go_num, by rw [HMV.out]; exact hC, hT, d0, d1, hz⟩
                case measure => simp [intOf]; omega
            · obtain ⟨s1, r1, hh⟩ := hC.ch k c HI.out
              rw [TRK.out] at hh
              have HH := Lib.hid hh
              clear hh
              refine StepTo.comm (cases := #[rcase c (.agg #[])]) (blocking := true) (shape := .recv false) rfl rfl (by simp [go_sem, execOp, rcase, Act.eval]) (fun fr cs es h => step_lone_recv_buf false h HH.out (by simp [bufOf])) ?_
              replace d0 := (cell_setChan W c 1 ((bufOf true).extract 1 (bufOf true).size) false s1 (r1 + 1) false w.heap.size 0 BNC.out).trans d0
              replace d1 := (cell_setChan W c 1 ((bufOf true).extract 1 (bufOf true).size) false s1 (r1 + 1) false w.heap.size 1 BNC.out).trans d1
              replace hC := (CR.out) W hC s1 (r1 + 1)
              replace hT := hT.trans ((Oth.setChan W c 1 ((bufOf true).extract 1 (bufOf true).size) false s1 (r1 + 1) false).turn CB.out.1 CB.out.2)
              replace hz : w.heap.size < (W.setChan c 1 ((bufOf true).extract 1 (bufOf true).size) false s1 (r1 + 1) false).heap.size := by rw [size_setChan]; exact hz
              clear HH
              generalize W.setChan c 1 ((bufOf true).extract 1 (bufOf true).size) false s1 (r1 + 1) false = W1 at *
              simp only [got, bufOf, if_true]
              go_simp
              clear W
              rename World => W
              refine AnyTo.one (x := 1) (by kernel_rfl) ?_
              refine StepTo.op rfl rfl (fun K hK => ?_)
              go_simp
              refine hK _ _ ?_
              clear hK K
              refine AnyTo.one (x := 2) (by kernel_rfl) ?_
              refine StepTo.op rfl rfl (fun K hK => ?_)
              go_simp
              refine ((A1.out).L W hC).mono ?_
              rintro e W' ⟨rfl, h1⟩
              refine hK _ _ ?_
              clear hK K
              replace hT := hT.trans (Turn.of_below h1 (by have := hC.le; omega))
              replace d0 := (h1.cell (p := ⟨w.heap.size, 0, none⟩) hz).trans d0
              replace d1 := (h1.cell (p := ⟨w.heap.size, 1, none⟩) hz).trans d1
              replace hC := hC.below h1
              replace hz := Nat.lt_of_lt_of_le hz h1.size
              clear h1
              clear W
              rename World => W
              refine AnyTo.one (x := 5) (by kernel_rfl) ?_
              obtain ⟨s1, r1, hh⟩ := hC.ch _ cn HIN.out
              rw [TRN.out] at hh
              have HH := Lib.hid hh
              clear hh
              refine StepTo.comm (cases := #[scase cn (.agg #[]) (.tuple #[])]) (blocking := true) (shape := .send) rfl rfl (by simp [go_sem, execOp, scase, Act.eval]) (fun fr cs es h => step_lone_send_room h HH.out (by simp [bufOf])) ?_
              replace d0 := (cell_setChan W cn 1 ((bufOf false).push (.agg #[])) false (s1 + 1) r1 false w.heap.size 0 BNN.out).trans d0
              replace d1 := (cell_setChan W cn 1 ((bufOf false).push (.agg #[])) false (s1 + 1) r1 false w.heap.size 1 BNN.out).trans d1
              replace hC := (CS.out) W hC (s1 + 1) r1
              replace hT := hT.trans ((Oth.setChan W cn 1 ((bufOf false).push (.agg #[])) false (s1 + 1) r1 false).turn CBN.out.1 CBN.out.2)
              replace hz : w.heap.size < (W.setChan cn 1 ((bufOf false).push (.agg #[])) false (s1 + 1) r1 false).heap.size := by rw [size_setChan]; exact hz
              clear HH
              generalize W.setChan cn 1 ((bufOf false).push (.agg #[])) false (s1 + 1) r1 false = W1 at *
              go_simp
              clear W
              rename World => W
              refine AnyTo.done (by kernel_rfl) ?_
              go_wp2_with fail
              go_roundw
              case rel => exact ⟨k + 1, by omega, by go_num, by rw [HMV.out]; exact hC, hT, d0, d1, hz⟩
              case measure => simp [intOf]; omega
          · refine StepTo.op rfl rfl (fun K hK => ?_)
            go_simp
            refine hK _ _ ?_
            clear hK K
            refine AnyTo.two (x := 0) (y := 4) (by kernel_rfl) ?_ ?_
            · refine StepTo.op rfl rfl (fun K hK => ?_)
              go_simp
              refine hK _ _ ?_
              clear hK K
              refine AnyTo.two (x := 2) (y := 4) (by kernel_rfl) ?_ ?_
              · refine StepTo.op rfl rfl (fun K hK => ?_)
                go_simp
                refine ((A1.out).K W hC).mono ?_
                rintro e W' ⟨rfl, h1⟩
                refine hK _ _ ?_
                clear hK K
                replace hT := hT.trans (Turn.of_below h1 (by have := hC.le; omega))
                replace d0 := (h1.cell (p := ⟨w.heap.size, 0, none⟩) hz).trans d0
                replace d1 := (h1.cell (p := ⟨w.heap.size, 1, none⟩) hz).trans d1
                replace hC := hC.below h1
                replace hz := Nat.lt_of_lt_of_le hz h1.size
                clear h1
                clear W
                rename World => W
                refine AnyTo.one (x := 4) (by kernel_rfl) ?_
                obtain ⟨s1, r1, hh⟩ := hC.ch k c HI.out
                rw [TRK.out] at hh
                have HH := Lib.hid hh
                clear hh
                refine StepTo.comm (cases := #[rcase c (.agg #[])]) (blocking := true) (shape := .recv false) rfl rfl (by simp [go_sem, execOp, rcase, Act.eval]) (fun fr cs es h => step_lone_recv_buf false h HH.out (by simp [bufOf])) ?_
                replace d0 := (cell_setChan W c 1 ((bufOf true).extract 1 (bufOf true).size) false s1 (r1 + 1) false w.heap.size 0 BNC.out).trans d0
                replace d1 := (cell_setChan W c 1 ((bufOf true).extract 1 (bufOf true).size) false s1 (r1 + 1) false w.heap.size 1 BNC.out).trans d1
                replace hC := (CR.out) W hC s1 (r1 + 1)
                replace hT := hT.trans ((Oth.setChan W c 1 ((bufOf true).extract 1 (bufOf true).size) false s1 (r1 + 1) false).turn CB.out.1 CB.out.2)
                replace hz : w.heap.size < (W.setChan c 1 ((bufOf true).extract 1 (bufOf true).size) false s1 (r1 + 1) false).heap.size := by rw [size_setChan]; exact hz
                clear HH
                generalize W.setChan c 1 ((bufOf true).extract 1 (bufOf true).size) false s1 (r1 + 1) false = W1 at *
                simp only [got, bufOf, if_true]
                go_simp
                clear W
                rename World => W
                refine AnyTo.one (x := 5) (by kernel_rfl) ?_
                obtain ⟨s1, r1, hh⟩ := hC.ch _ cn HIN.out
                rw [TRN.out] at hh
                have HH := Lib.hid hh
                clear hh
                refine StepTo.comm (cases := #[scase cn (.agg #[]) (.tuple #[])]) (blocking := true) (shape := .send) rfl rfl (by simp [go_sem, execOp, scase, Act.eval]) (fun fr cs es h => step_lone_send_room h HH.out (by simp [bufOf])) ?_
                replace d0 := (cell_setChan W cn 1 ((bufOf false).push (.agg #[])) false (s1 + 1) r1 false w.heap.size 0 BNN.out).trans d0
                replace d1 := (cell_setChan W cn 1 ((bufOf false).push (.agg #[])) false (s1 + 1) r1 false w.heap.size 1 BNN.out).trans d1
                replace hC := (CS.out) W hC (s1 + 1) r1
                replace hT := hT.trans ((Oth.setChan W cn 1 ((bufOf false).push (.agg #[])) false (s1 + 1) r1 false).turn CBN.out.1 CBN.out.2)
                replace hz : w.heap.size < (W.setChan cn 1 ((bufOf false).push (.agg #[])) false (s1 + 1) r1 false).heap.size := by rw [size_setChan]; exact hz
                clear HH
                generalize W.setChan cn 1 ((bufOf false).push (.agg #[])) false (s1 + 1) r1 false = W1 at *
                go_simp
                clear W
                rename World => W
                refine AnyTo.done (by kernel_rfl) ?_
                go_wp2_with fail
                go_roundw
                case rel => exact ⟨k + 1, by omega, by go_num, by rw [HMV.out]; exact hC, hT, d0, d1, hz⟩
                case measure => simp [intOf]; omega
              · obtain ⟨s1, r1, hh⟩ := hC.ch k c HI.out
                rw [TRK.out] at hh
                have HH := Lib.hid hh
                clear hh
                refine StepTo.comm (cases := #[rcase c (.agg #[])]) (blocking := true) (shape := .recv false) rfl rfl (by simp [go_sem, execOp, rcase, Act.eval]) (fun fr cs es h => step_lone_recv_buf false h HH.out (by simp [bufOf])) ?_
                replace d0 := (cell_setChan W c 1 ((bufOf true).extract 1 (bufOf true).size) false s1 (r1 + 1) false w.heap.size 0 BNC.out).trans d0
                replace d1 := (cell_setChan W c 1 ((bufOf true).extract 1 (bufOf true).size) false s1 (r1 + 1) false w.heap.size 1 BNC.out).trans d1
                replace hC := (CR.out) W hC s1 (r1 + 1)
                replace hT := hT.trans ((Oth.setChan W c 1 ((bufOf true).extract 1 (bufOf true).size) false s1 (r1 + 1) false).turn CB.out.1 CB.out.2)
                replace hz : w.heap.size < (W.setChan c 1 ((bufOf true).extract 1 (bufOf true).size) false s1 (r1 + 1) false).heap.size := by rw [size_setChan]; exact hz
                clear HH
                generalize W.setChan c 1 ((bufOf true).extract 1 (bufOf true).size) false s1 (r1 + 1) false = W1 at *
                simp only [got, bufOf, if_true]
                go_simp
                clear W
                rename World => W
                refine AnyTo.one (x := 2) (by kernel_rfl) ?_
                refine StepTo.op rfl rfl (fun K hK => ?_)
                go_simp
                refine ((A1.out).L W hC).mono ?_
                rintro e W' ⟨rfl, h1⟩
                refine hK _ _ ?_
                clear hK K
                replace hT := hT.trans (Turn.of_below h1 (by have := hC.le; omega))
                replace d0 := (h1.cell (p := ⟨w.heap.size, 0, none⟩) hz).trans d0
                replace d1 := (h1.cell (p := ⟨w.heap.size, 1, none⟩) hz).trans d1
                replace hC := hC.below h1
                replace hz := Nat.lt_of_lt_of_le hz h1.size
                clear h1
                clear W
                rename World => W
                refine AnyTo.one (x := 5) (by kernel_rfl) ?_
                obtain ⟨s1, r1, hh⟩ := hC.ch _ cn HIN.out
                rw [TRN.out] at hh
                have HH := Lib.hid hh
                clear hh
                refine StepTo.comm (cases := #[scase cn (.agg #[]) (.tuple #[])]) (blocking := true) (shape := .send) rfl rfl (by simp [go_sem, execOp, scase, Act.eval]) (fun fr cs es h => step_lone_send_room h HH.out (by simp [bufOf])) ?_
                replace d0 := (cell_setChan W cn 1 ((bufOf false).push (.agg #[])) false (s1 + 1) r1 false w.heap.size 0 BNN.out).trans d0
                replace d1 := (cell_setChan W cn 1 ((bufOf false).push (.agg #[])) false (s1 + 1) r1 false w.heap.size 1 BNN.out).trans d1
                replace hC := (CS.out) W hC (s1 + 1) r1
                replace hT := hT.trans ((Oth.setChan W cn 1 ((bufOf false).push (.agg #[])) false (s1 + 1) r1 false).turn CBN.out.1 CBN.out.2)
                replace hz : w.heap.size < (W.setChan cn 1 ((bufOf false).push (.agg #[])) false (s1 + 1) r1 false).heap.size := by rw [size_setChan]; exact hz
                clear HH
                generalize W.setChan cn 1 ((bufOf false).push (.agg #[])) false (s1 + 1) r1 false = W1 at *
                go_simp
                clear W
                rename World => W
                refine AnyTo.done (by kernel_rfl) ?_
                go_wp2_with fail
                go_roundw
                case rel => exact ⟨k + 1, by omega, by go_num, by rw [HMV.out]; exact hC, hT, d0, d1, hz⟩
                case measure => simp [intOf]; omega
            · obtain ⟨s1, r1, hh⟩ := hC.ch k c HI.out
              rw [TRK.out] at hh
              have HH := Lib.hid hh
              clear hh
              refine StepTo.comm (cases := #[rcase c (.agg #[])]) (blocking := true) (shape := .recv false) rfl rfl (by simp [go_sem, execOp, rcase, Act.eval]) (fun fr cs es h => step_lone_recv_buf false h HH.out (by simp [bufOf])) ?_
              replace d0 := (cell_setChan W c 1 ((bufOf true).extract 1 (bufOf true).size) false s1 (r1 + 1) false w.heap.size 0 BNC.out).trans d0
              replace d1 := (cell_setChan W c 1 ((bufOf true).extract 1 (bufOf true).size) false s1 (r1 + 1) false w.heap.size 1 BNC.out).trans d1
              replace hC := (CR.out) W hC s1 (r1 + 1)
              replace hT := hT.trans ((Oth.setChan W c 1 ((bufOf true).extract 1 (bufOf true).size) false s1 (r1 + 1) false).turn CB.out.1 CB.out.2)
              replace hz : w.heap.size < (W.setChan c 1 ((bufOf true).extract 1 (bufOf true).size) false s1 (r1 + 1) false).heap.size := by rw [size_setChan]; exact hz
              clear HH
              generalize W.setChan c 1 ((bufOf true).extract 1 (bufOf true).size) false s1 (r1 + 1) false = W1 at *
              simp only [got, bufOf, if_true]
              go_simp
              clear W
              rename World => W
              refine AnyTo.one (x := 0) (by kernel_rfl) ?_
              refine StepTo.op rfl rfl (fun K hK => ?_)
              go_simp
              refine hK _ _ ?_
              clear hK K
              refine AnyTo.one (x := 2) (by kernel_rfl) ?_
              refine StepTo.op rfl rfl (fun K hK => ?_)
              go_simp
              refine ((A1.out).L W hC).mono ?_
              rintro e W' ⟨rfl, h1⟩
              refine hK _ _ ?_
              clear hK K
              replace hT := hT.trans (Turn.of_below h1 (by have := hC.le; omega))
              replace d0 := (h1.cell (p := ⟨w.heap.size, 0, none⟩) hz).trans d0
              replace d1 := (h1.cell (p := ⟨w.heap.size, 1, none⟩) hz).trans d1
              replace hC := hC.below h1
              replace hz := Nat.lt_of_lt_of_le hz h1.size
              clear h1
              clear W
              rename World => W
              refine AnyTo.one (x := 5) (by kernel_rfl) ?_
              obtain ⟨s1, r1, hh⟩ := hC.ch _ cn HIN.out
              rw [TRN.out] at hh
              have HH := Lib.hid hh
              clear hh
              refine StepTo.comm (cases := #[scase cn (.agg #[]) (.tuple #[])]) (blocking := true) (shape := .send) rfl rfl (by simp [go_sem, execOp, scase, Act.eval]) (fun fr cs es h => step_lone_send_room h HH.out (by simp [bufOf])) ?_
              replace d0 := (cell_setChan W cn 1 ((bufOf false).push (.agg #[])) false (s1 + 1) r1 false w.heap.size 0 BNN.out).trans d0
              replace d1 := (cell_setChan W cn 1 ((bufOf false).push (.agg #[])) false (s1 + 1) r1 false w.heap.size 1 BNN.out).trans d1
              replace hC := (CS.out) W hC (s1 + 1) r1
              replace hT := hT.trans ((Oth.setChan W cn 1 ((bufOf false).push (.agg #[])) false (s1 + 1) r1 false).turn CBN.out.1 CBN.out.2)
              replace hz : w.heap.size < (W.setChan cn 1 ((bufOf false).push (.agg #[])) false (s1 + 1) r1 false).heap.size := by rw [size_setChan]; exact hz
              clear HH
              generalize W.setChan cn 1 ((bufOf false).push (.agg #[])) false (s1 + 1) r1 false = W1 at *
              go_simp
              clear W
              rename World => W
              refine AnyTo.done (by kernel_rfl) ?_
              go_wp2_with fail
              go_roundw
              case rel => exact ⟨k + 1, by omega, by go_num, by rw [HMV.out]; exact hC, hT, d0, d1, hz⟩
              case measure => simp [intOf]; omega
          · obtain ⟨s1, r1, hh⟩ := hC.ch k c HI.out
            rw [TRK.out] at hh
            have HH := Lib.hid hh
            clear hh
            refine StepTo.comm (cases := #[rcase c (.agg #[])]) (blocking := true) (shape := .recv false) rfl rfl (by simp [go_sem, execOp, rcase, Act.eval]) (fun fr cs es h => step_lone_recv_buf false h HH.out (by simp [bufOf])) ?_
            replace d0 := (cell_setChan W c 1 ((bufOf true).extract 1 (bufOf true).size) false s1 (r1 + 1) false w.heap.size 0 BNC.out).trans d0
            replace d1 := (cell_setChan W c 1 ((bufOf true).extract 1 (bufOf true).size) false s1 (r1 + 1) false w.heap.size 1 BNC.out).trans d1
            replace hC := (CR.out) W hC s1 (r1 + 1)
            replace hT := hT.trans ((Oth.setChan W c 1 ((bufOf true).extract 1 (bufOf true).size) false s1 (r1 + 1) false).turn CB.out.1 CB.out.2)
            replace hz : w.heap.size < (W.setChan c 1 ((bufOf true).extract 1 (bufOf true).size) false s1 (r1 + 1) false).heap.size := by rw [size_setChan]; exact hz
            clear HH
            generalize W.setChan c 1 ((bufOf true).extract 1 (bufOf true).size) false s1 (r1 + 1) false = W1 at *
            simp only [got, bufOf, if_true]
            go_simp
            clear W
            rename World => W
            refine AnyTo.two (x := 0) (y := 1) (by kernel_rfl) ?_ ?_
            · refine StepTo.op rfl rfl (fun K hK => ?_)
              go_simp
              refine hK _ _ ?_
              clear hK K
              refine AnyTo.one (x := 1) (by kernel_rfl) ?_
              refine StepTo.op rfl rfl (fun K hK => ?_)
              go_simp
              refine hK _ _ ?_
              clear hK K
              refine AnyTo.one (x := 2) (by kernel_rfl) ?_
              refine StepTo.op rfl rfl (fun K hK => ?_)
              go_simp
              refine ((A1.out).L W hC).mono ?_
              rintro e W' ⟨rfl, h1⟩
              refine hK _ _ ?_
              clear hK K
              replace hT := hT.trans (Turn.of_below h1 (by have := hC.le; omega))
              replace d0 := (h1.cell (p := ⟨w.heap.size, 0, none⟩) hz).trans d0
              replace d1 := (h1.cell (p := ⟨w.heap.size, 1, none⟩) hz).trans d1
              replace hC := hC.below h1
              replace hz := Nat.lt_of_lt_of_le hz h1.size
              clear h1
              clear W
              rename World => W
              refine AnyTo.one (x := 5) (by kernel_rfl) ?_
              obtain ⟨s1, r1, hh⟩ := hC.ch _ cn HIN.out
              rw [TRN.out] at hh
              have HH := Lib.hid hh
              clear hh
              refine StepTo.comm (cases := #[scase cn (.agg #[]) (.tuple #[])]) (blocking := true) (shape := .send) rfl rfl (by simp [go_sem, execOp, scase, Act.eval]) (fun fr cs es h => step_lone_send_room h HH.out (by simp [bufOf])) ?_
              replace d0 := (cell_setChan W cn 1 ((bufOf false).push (.agg #[])) false (s1 + 1) r1 false w.heap.size 0 BNN.out).trans d0
              replace d1 := (cell_setChan W cn 1 ((bufOf false).push (.agg #[])) false (s1 + 1) r1 false w.heap.size 1 BNN.out).trans d1
              replace hC := (CS.out) W hC (s1 + 1) r1
              replace hT := hT.trans ((Oth.setChan W cn 1 ((bufOf false).push (.agg #[])) false (s1 + 1) r1 false).turn CBN.out.1 CBN.out.2)
              replace hz : w.heap.size < (W.setChan cn 1 ((bufOf false).push (.agg #[])) false (s1 + 1) r1 false).heap.size := by rw [size_setChan]; exact hz
              clear HH
              generalize W.setChan cn 1 ((bufOf false).push (.agg #[])) false (s1 + 1) r1 false = W1 at *
              go_simp
              clear W
              rename World => W
              refine AnyTo.done (by kernel_rfl) ?_
              go_wp2_with fail
              go_roundw
              case rel => exact ⟨k + 1, by omega, by go_num, by rw [HMV.out]; exact hC, hT, d0, d1, hz⟩
              case measure => simp [intOf]; omega
            · refine StepTo.op rfl rfl (fun K hK => ?_)
              go_simp
              refine hK _ _ ?_
              clear hK K
              refine AnyTo.one (x := 0) (by kernel_rfl) ?_
              refine StepTo.op rfl rfl (fun K hK => ?_)
              go_simp
              refine hK _ _ ?_
              clear hK K
              refine AnyTo.one (x := 2) (by kernel_rfl) ?_
              refine StepTo.op rfl rfl (fun K hK => ?_)
              go_simp
              refine ((A1.out).L W hC).mono ?_
              rintro e W' ⟨rfl, h1⟩
              refine hK _ _ ?_
              clear hK K
              replace hT := hT.trans (Turn.of_below h1 (by have := hC.le; omega))
              replace d0 := (h1.cell (p := ⟨w.heap.size, 0, none⟩) hz).trans d0
              replace d1 := (h1.cell (p := ⟨w.heap.size, 1, none⟩) hz).trans d1
              replace hC := hC.below h1
              replace hz := Nat.lt_of_lt_of_le hz h1.size
              clear h1
              clear W
              rename World => W
              refine AnyTo.one (x := 5) (by kernel_rfl) ?_
              obtain ⟨s1, r1, hh⟩ := hC.ch _ cn HIN.out
              rw [TRN.out] at hh
              have HH := Lib.hid hh
              clear hh
              refine StepTo.comm (cases := #[scase cn (.agg #[]) (.tuple #[])]) (blocking := true) (shape := .send) rfl rfl (by simp [go_sem, execOp, scase, Act.eval]) (fun fr cs es h => step_lone_send_room h HH.out (by simp [bufOf])) ?_
              replace d0 := (cell_setChan W cn 1 ((bufOf false).push (.agg #[])) false (s1 + 1) r1 false w.heap.size 0 BNN.out).trans d0
              replace d1 := (cell_setChan W cn 1 ((bufOf false).push (.agg #[])) false (s1 + 1) r1 false w.heap.size 1 BNN.out).trans d1
              replace hC := (CS.out) W hC (s1 + 1) r1
              replace hT := hT.trans ((Oth.setChan W cn 1 ((bufOf false).push (.agg #[])) false (s1 + 1) r1 false).turn CBN.out.1 CBN.out.2)
              replace hz : w.heap.size < (W.setChan cn 1 ((bufOf false).push (.agg #[])) false (s1 + 1) r1 false).heap.size := by rw [size_setChan]; exact hz
              clear HH
              generalize W.setChan cn 1 ((bufOf false).push (.agg #[])) false (s1 + 1) r1 false = W1 at *
              go_simp
              clear W
              rename World => W
              refine AnyTo.done (by kernel_rfl) ?_
              go_wp2_with fail
              go_roundw
              case rel => exact ⟨k + 1, by omega, by go_num, by rw [HMV.out]; exact hC, hT, d0, d1, hz⟩
              case measure => simp [intOf]; omega
    · have hke : k = S.size := by omega
      have HE := Lib.hid (show Cir B E g cs (tk l gp) wr by rw [tk, HN.out, ← hke]; exact HCr.out)
      go_wp2_with fail
      go_end0
      exact ⟨rfl, HE.out, HT.out⟩

end Go.Proofs.YtogimjbjdgccnaaDoor
