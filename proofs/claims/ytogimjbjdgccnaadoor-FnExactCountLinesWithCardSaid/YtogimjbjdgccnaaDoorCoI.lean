/- Contracts of the program: how often a signal shows in so many ticks; a line behind so many ticks; its period. -/
import Derived.Test.YtogimjbjdgccnaaDoorCoB
import Derived.Test.YtogimjbjdgccnaaDoorTmD
import Derived.Test.YtogimjbjdgccnaaDoorLnI
namespace Go.Proofs.YtogimjbjdgccnaaDoor
open Go.ChangeShapes Go.WideShapes Go.ChangeAt Go.RowKit
open Ln

set_option linter.unusedVariables false

theorem course_cells {w1 wr : World} {g p cap q : Nat} {l : List UInt8} {gp : Nat} {t : TypeId} (hg : g < w1.heap.size) (hc : ∀ i, i < p → w1.cell? ⟨g, i, none⟩ = some (.string (sgT l gp i))) (hB : Below (w1.heap.size + 1) (w1.alloc (.cells #[.slice (some ⟨g, 0, none⟩) p cap, .int .i64 q] t)) wr) :
    wr.cell? ⟨w1.heap.size, 0, none⟩ = some (.slice (some ⟨g, 0, none⟩) p cap) ∧ wr.cell? ⟨w1.heap.size, 1, none⟩ = some (.int .i64 q) ∧ (∀ i, i < p → wr.cell? ⟨g, i, none⟩ = some (.string (sgT l gp i))) ∧ w1.heap.size < wr.heap.size := by
  refine ⟨(hB.cell (p := ⟨w1.heap.size, 0, none⟩) (by simp)).trans (by simp [go_sem]), (hB.cell (p := ⟨w1.heap.size, 1, none⟩) (by simp)).trans (by simp [go_sem]), fun i hi => (hB.cell (p := ⟨g, i, none⟩) (by show g < w1.heap.size + 1; omega)).trans ?_, ?_⟩
  · refine (cell_same ?_).trans (hc i hi)
    exact Below.heap_alloc _ _ _ hg
  · have := hB.size
    simp at this
    omega

theorem behind_orb {l : List UInt8} {gp p q : Nat} (hP : IsPer l gp p q) (g cap t : Nat) (ht : t ≤ 10000) (w : World) (hg : g < w.heap.size) (hc : ∀ i, i < p → w.cell? ⟨g, i, none⟩ = some (.string (sgT l gp i))) :
    Calls Tryd.prog 66 #[.agg #[.slice (some ⟨g, 0, none⟩) p cap, .int .i64 q], .int .i64 t] w fun e w' => e = .returned (.string (ofL (sg (orb l gp t) gp))) ∧ Below w.heap.size w w' := by
  have := behind_any g p cap q t l gp hP.1 hP.2.1 ht w hg hc
  rwa [sgT, orb_rd hP] at this

theorem ret_ci {c : UInt8} {s : ByteArray} {g t x : Int} {b : Bool} (hb : timB s g t = b) (hs : ciR c s g t = x) : Ending.returned (.tuple #[.int .i64 x, .bool b]) = Ending.returned (.tuple #[.int .i64 (ciR c s g t), .bool (timB s g t)]) := by rw [hb, hs]

set_option maxRecDepth 100000 in
set_option maxHeartbeats 800000 in
theorem countIn_any (c : UInt8) (s : ByteArray) (g t : Int) (hs : s.size ≤ 1048576) (w : World) :
    Calls Tryd.prog 67 #[.string s, .int .i64 g, .int .i64 t, .string ⟨#[c]⟩] w fun e w' => e = .returned (.tuple #[.int .i64 (ciR c s g t), .bool (timB s g t)]) ∧ Below w.heap.size w w' := by
  cases hb : askB s g
  · have C0 := courseOf_no s g hs hb
    have HB := Lib.hid (tim_no (t := t) hb)
    clear hb
    go_enter Tryd.func67, Tryd.ntmps67
    go_wp2_with fail
    refine (C0 _).mono ?_
    rintro e w1 ⟨rfl, h1⟩
    have H1 := Lib.hid h1
    clear h1
    go_wp2_with fail
    go_ret2
    exact ⟨ret_ci HB.out (ciR_no HB.out), H1.out.alloc H1.out.size _⟩
  · obtain ⟨hl, gp, rfl, n1, n3⟩ := ask_yes hb
    obtain ⟨p, q, hP⟩ := per_ex hl gp
    have C0 := courseOf_yes s gp p q hl n1 n3 hP
    unfold CoPost at C0
    have IR := isInRange_any t 0 10000
    have TI := tim_is (t := t) hb
    cases ht : inB t 0 10000
    · rw [ht] at IR TI
      have HB := Lib.hid TI
      clear hb ht TI hP
      go_enter Tryd.func67, Tryd.ntmps67
      go_wp2_with fail
      refine (C0 _).mono ?_
      rintro e w1 ⟨b, cap, rfl, hg1, hg2, hpc, hcm, hc, h1⟩
      have H1 := Lib.hid h1
      clear h1 hc
      go_wp2_with (go_at_call 53; refine (IR _).mono ?_; rintro e w' ⟨rfl, rfl⟩)
      go_ret2
      exact ⟨ret_ci HB.out (ciR_no HB.out), H1.out.alloc H1.out.size _⟩
    · rw [ht] at IR TI
      obtain ⟨_, tn, rfl, htn⟩ := tim_yes TI
      have HB := Lib.hid TI
      have BH := Lib.hid (fun b cap k hk w hg hc => behind_orb hP b cap k hk w hg hc)
      have SL := Lib.hid (fun k => suC_le hl c gp k)
      have CT := Lib.hid (fun k w => show Calls Tryd.prog 56 #[.string (ofL (sg (orb s.data.toList gp k) gp)), .string ⟨#[c]⟩] w fun e w' => e = .returned (.int .i64 (cnt c (sg (orb s.data.toList gp k) gp) : Nat)) ∧ w = w' by
        have := count_any (ofL (sg (orb s.data.toList gp k) gp)) c w
        rwa [ofL_list] at this)
      have CL := Lib.hid (fun k => show cnt c (sg (orb s.data.toList gp k) gp) ≤ 24 by
        have b := cnt_le c (sg (orb s.data.toList gp k) gp)
        have d := (orb_ok hl gp k).n24
        rw [sg_len] at b
        omega)
      have SU := Lib.hid (fun k => show suC c s.data.toList gp (k + 1) = suC c s.data.toList gp k + cnt c (sg (orb s.data.toList gp k) gp) from rfl)
      have hS0 : suC c s.data.toList gp 0 = 0 := rfl
      have HCI := Lib.hid (ciR_yes (c := c) TI)
      clear hb ht TI hP hl
      obtain ⟨l, hl⟩ : ∃ l, s.data.toList = l := ⟨_, rfl⟩
      rw [hl] at C0 BH SL CT CL SU hS0 HCI
      clear hl
      go_enter Tryd.func67, Tryd.ntmps67
      go_wp2_with fail
      refine (C0 _).mono ?_
      rintro e w1 ⟨b, cap, rfl, hg1, hg2, hpc, hcm, hc, h1⟩
      have H1 := Lib.hid h1
      have HC := Lib.hid hc
      clear h1 hc
      go_wp2_with (go_at_call 53; refine (IR _).mono ?_; rintro e w' ⟨rfl, rfl⟩)
      go_loopw [12, 28] (fun o i wr => ∃ k : Nat, k ≤ tn ∧ i = .int .i64 k ∧ o = .int .i64 (suC c l gp k : Nat) ∧ Below (w1.heap.size + 1) (w1.alloc (.cells #[.slice (some ⟨b, 0, none⟩) p cap, .int .i64 q] 63)) wr) (fun _ i _ => tn - (intOf i).toNat)
      case atStart => exact ⟨0, Nat.zero_le _, rfl, by rw [hS0]; rfl, Below.refl _ _⟩
      case round =>
        obtain ⟨k, hk, rfl, rfl, hB⟩ := hrel
        obtain ⟨c0, c1, hcc, hlt1⟩ := course_cells hg2 HC.out hB
        have HW := Lib.hid hB
        have sl := SL.out k
        have cl := CL.out k
        clear hB
        by_cases hlt : k < tn
        · have HBH := Lib.hid (BH.out b cap k (by omega) wr (by omega) hcc)
          have HCT := Lib.hid (CT.out k)
          have su := SU.out k
          generalize suC c l gp k = S0 at *
          generalize cnt c (sg (orb l gp k) gp) = N0 at *
          generalize ofL (sg (orb l gp k) gp) = T0 at *
          clear hcc
          go_wp2_with fail
          refine (HBH.out).mono ?_
          rintro e w2 ⟨rfl, h2⟩
          have HW2 := Lib.hid (HW.out.trans (h2.mono (show w1.heap.size + 1 ≤ wr.heap.size by omega)))
          clear h2
          go_wp2_with (go_at_call 56; refine (HCT.out _).mono ?_; rintro e w' ⟨rfl, rfl⟩)
          go_roundw
          case rel => exact ⟨k + 1, by omega, by go_num, by rw [su]; go_num, HW2.out⟩
          case measure => simp [intOf]; omega
        · obtain rfl : k = tn := by omega
          have HW2 := Lib.hid ((H1.out.alloc H1.out.size (.cells #[.slice (some ⟨b, 0, none⟩) p cap, .int .i64 q] 63)).trans (HW.out.mono (show w.heap.size ≤ w1.heap.size + 1 by have := H1.out.size; omega)))
          clear hcc
          go_wp2_with fail
          go_ret2
          exact ⟨ret_ci HB.out HCI.out, HW2.out⟩

end Go.Proofs.YtogimjbjdgccnaaDoor
