/- Contracts of the program: a line behind so many ticks, its moves, waits and period. -/
import Derived.Test.YtogimjbjdgccnaaDoorCoI
import Derived.Test.YtogimjbjdgccnaaDoorTmP
namespace Go.Proofs.YtogimjbjdgccnaaDoor
open Go.ChangeShapes Go.WideShapes Go.ChangeAt Go.RowKit
open Ln

set_option linter.unusedVariables false

theorem ret_la {s x : ByteArray} {g t : Int} {b : Bool} (hb : timB s g t = b) (hs : laR s g t = x) : Ending.returned (.tuple #[.string x, .bool b]) = Ending.returned (.tuple #[.string (laR s g t), .bool (timB s g t)]) := by rw [hb, hs]

set_option maxRecDepth 100000 in
set_option maxHeartbeats 800000 in
theorem imLineAfter (s : ByteArray) (g t : Int) (hs : s.size ≤ 1048576) (m : Int) (w : World) (hm : w.cell? ⟨0, 0, none⟩ = some (.int .i64 m)) :
    Calls Tryd.prog 27 #[.string s, .int .i64 g, .int .i64 t] w fun e w' => e = .returned (.tuple #[.string (laR s g t), .bool (timB s g t)]) ∧ Below w.heap.size w w' := by
  have hz : 0 < w.heap.size := World.block_lt_of_cell? _ _ hm
  cases hb : askB s g
  · have C0 := courseOf_no s g hs hb
    have HB := Lib.hid (tim_no (t := t) hb)
    clear hb
    go_enter Tryd.func27, Tryd.ntmps27
    go_wp2_with fail
    refine (C0 _).mono ?_
    rintro e w1 ⟨rfl, h1⟩
    have H1 := Lib.hid h1
    clear h1
    go_wp2_with fail
    go_ret2
    exact ⟨ret_la HB.out (laR_no HB.out), H1.out.alloc H1.out.size _⟩
  · obtain ⟨hl, gp, rfl, n1, n3⟩ := ask_yes hb
    obtain ⟨p, q, hP⟩ := per_ex hl gp
    have C0 := courseOf_yes s gp p q hl n1 n3 hP
    unfold CoPost at C0
    have IR := isInRange_any t 0 10000
    have TI := tim_is (t := t) hb
    cases ht : inB t 0 10000
    · rw [ht] at IR TI
      have HB := Lib.hid TI
      clear hb ht TI hP
      go_enter Tryd.func27, Tryd.ntmps27
      go_wp2_with fail
      refine (C0 _).mono ?_
      rintro e w1 ⟨b, cap, rfl, hg1, hg2, hpc, hcm, hc, h1⟩
      have H1 := Lib.hid h1
      clear h1 hc
      go_wp2_with (go_at_call 53; refine (IR _).mono ?_; rintro e w' ⟨rfl, rfl⟩)
      go_ret2
      exact ⟨ret_la HB.out (laR_no HB.out), H1.out.alloc H1.out.size _⟩
    · rw [ht] at IR TI
      obtain ⟨_, tn, rfl, htn⟩ := tim_yes TI
      have HB := Lib.hid TI
      have BH := Lib.hid (fun b cap w hg hc => behind_orb hP b cap tn htn w hg hc)
      have WO := Lib.hid (fun w hm hz => show Calls Tryd.prog 65 #[.string (ofL (sg (orb s.data.toList gp tn) gp))] w fun e w' => e = .returned (.string (ofL (orb s.data.toList gp tn))) ∧ Below w.heap.size w w' by
        have := wo_any (sg (orb s.data.toList gp tn) gp) (by rw [sg_len]; exact (orb_ok hl gp tn).n24) m w hm hz
        rwa [wo_sg (orb_ok hl gp tn)] at this)
      have HLA := Lib.hid (laR_yes TI)
      clear hb ht TI hP hl
      obtain ⟨l, hl⟩ : ∃ l, s.data.toList = l := ⟨_, rfl⟩
      rw [hl] at C0 BH WO HLA
      clear hl
      go_enter Tryd.func27, Tryd.ntmps27
      go_wp2_with fail
      refine (C0 _).mono ?_
      rintro e w1 ⟨b, cap, rfl, hg1, hg2, hpc, hcm, hc, h1⟩
      have H1 := Lib.hid h1
      obtain ⟨c0, c1, hcc, hlt1⟩ := course_cells hg2 hc (Below.refl (w1.heap.size + 1) (w1.alloc (.cells #[.slice (some ⟨b, 0, none⟩) p cap, .int .i64 q] 63)))
      have HC := Lib.hid hcc
      clear h1 hc hcc
      go_wp2_with (go_at_call 53; refine (IR _).mono ?_; rintro e w' ⟨rfl, rfl⟩)
      refine (BH.out b cap _ (by simp; omega) HC.out).mono ?_
      rintro e w2 ⟨rfl, h2⟩
      have HW2 := Lib.hid ((H1.out.alloc H1.out.size (.cells #[.slice (some ⟨b, 0, none⟩) p cap, .int .i64 q] 63)).trans (h2.mono (by have := H1.out.size; simp; omega)))
      have hz2 : 0 < w2.heap.size := Nat.lt_of_lt_of_le hz HW2.out.size
      have hm2 := (HW2.out.cell (p := ⟨0, 0, none⟩) hz).trans hm
      clear h2
      go_wp2_with fail
      refine (WO.out _ hm2 hz2).mono ?_
      rintro e w3 ⟨rfl, h3⟩
      have HW3 := Lib.hid (HW2.out.trans (h3.mono HW2.out.size))
      clear h3
      go_wp2_with fail
      go_ret2
      exact ⟨ret_la HB.out HLA.out, HW3.out⟩

theorem tim_one (s : ByteArray) (g : Int) : timB s g 1 = askB s g := by rw [timB, show inB 1 0 10000 = true from by decide, Bool.and_true]

theorem imTickLine (s : ByteArray) (g : Int) (hs : s.size ≤ 1048576) (m : Int) (w : World) (hm : w.cell? ⟨0, 0, none⟩ = some (.int .i64 m)) :
    Calls Tryd.prog 25 #[.string s, .int .i64 g] w fun e w' => e = .returned (.tuple #[.string (laR s g 1), .bool (askB s g)]) ∧ Below w.heap.size w w' := by
  have LA := imLineAfter s g 1 hs m w hm
  rw [tim_one] at LA
  clear hm
  go_enter Tryd.func25, Tryd.ntmps25
  go_wp2_with fail
  refine LA.mono ?_
  rintro e w1 ⟨rfl, h1⟩
  have H1 := Lib.hid h1
  clear h1
  go_wp2_with fail
  go_ret2
  exact ⟨rfl, H1.out⟩

theorem imMovesIn (s : ByteArray) (g t : Int) (hs : s.size ≤ 1048576) (w : World) :
    Calls Tryd.prog 29 #[.string s, .int .i64 g, .int .i64 t] w fun e w' => e = .returned (.tuple #[.int .i64 (ciR 103 s g t), .bool (timB s g t)]) ∧ Below w.heap.size w w' := by
  have LA := countIn_any 103 s g t hs w
  go_enter Tryd.func29, Tryd.ntmps29
  go_wp2_with fail
  refine LA.mono ?_
  rintro e w1 ⟨rfl, h1⟩
  have H1 := Lib.hid h1
  clear h1
  go_wp2_with fail
  go_ret2
  exact ⟨rfl, H1.out⟩

theorem imWaitsIn (s : ByteArray) (g t : Int) (hs : s.size ≤ 1048576) (w : World) :
    Calls Tryd.prog 31 #[.string s, .int .i64 g, .int .i64 t] w fun e w' => e = .returned (.tuple #[.int .i64 (ciR 114 s g t), .bool (timB s g t)]) ∧ Below w.heap.size w w' := by
  have LA := countIn_any 114 s g t hs w
  go_enter Tryd.func31, Tryd.ntmps31
  go_wp2_with fail
  refine LA.mono ?_
  rintro e w1 ⟨rfl, h1⟩
  have H1 := Lib.hid h1
  clear h1
  go_wp2_with fail
  go_ret2
  exact ⟨rfl, H1.out⟩

set_option maxRecDepth 100000 in
set_option maxHeartbeats 800000 in
theorem imPeriodOfLine (s : ByteArray) (g : Int) (hs : s.size ≤ 1048576) (w : World) :
    Calls Tryd.prog 38 #[.string s, .int .i64 g] w fun e w' => e = .returned (.tuple #[.int .i64 (p1R s g), .int .i64 (p2R s g), .bool (askB s g)]) ∧ Below w.heap.size w w' := by
  cases hb : askB s g
  · have C0 := courseOf_no s g hs hb
    have HB := Lib.hid hb
    have E1 := Lib.hid (p1R_no hb)
    have E2 := Lib.hid (p2R_no hb)
    have PE := fun w => show Calls Tryd.prog 70 #[.agg #[.slice none 0 0, .int .i64 0]] w fun e w' => e = .returned (.int .i64 0) ∧ Below w.heap.size w w' from period_any none 0 0 0 (Nat.le_refl _) (by omega) w
    clear hb
    go_enter Tryd.func38, Tryd.ntmps38
    go_wp2_with fail
    refine (C0 _).mono ?_
    rintro e w1 ⟨rfl, h1⟩
    have H1 := Lib.hid h1
    clear h1
    have hS0 := show (w1.alloc (.cells #[.slice none 0 0, .int .i64 0] 63)).cell? ⟨w1.heap.size, 0, none⟩ = some (.slice none 0 0) ∧ (w1.alloc (.cells #[.slice none 0 0, .int .i64 0] 63)).cell? ⟨w1.heap.size, 1, none⟩ = some (.int .i64 0) from by simp [go_sem]
    go_wp2_with fail
    have h1 := H1.out
    have hz1 := h1.size
    go_region_held3 (fun w' => w'.cell? ⟨w1.heap.size, 0, none⟩ = some (.slice none 0 0) ∧ w'.cell? ⟨w1.heap.size, 1, none⟩ = some (.int .i64 0))
      (first | (with_reducible assumption) | (with_reducible exact y1_drew hS0) | (with_reducible exact y1_drew (y1_alloc hS0 _)) | (with_reducible exact y1_alloc (y1_drew hS0) _) | (with_reducible refine y1_drew ?_; with_reducible assumption) | (with_reducible refine y1_alloc ?_ _; with_reducible assumption) | (with_reducible refine y1_re (by with_reducible assumption) ?_ _; (focus first | (with_reducible assumption) | omega | (simp; done) | (simp; omega))) | (with_reducible refine y1_below ?_ ?_ h1; (focus first | (with_reducible assumption) | (with_reducible refine y1_undrew ?_; with_reducible assumption)); (focus first | (with_reducible assumption) | omega | (simp; done) | (simp; omega))) | ((repeat (with_reducible refine y1_set ?_ _ _ ?_; rotate_left 1; (focus first | (with_reducible assumption) | omega | (simp; done) | (simp; omega)))); with_reducible assumption))
      (first | (go_at_call 70; (with_reducible refine (PE _).mono ?_); rintro e wB ⟨rfl, h1⟩; (try with_reducible replace h1 := undrew h1); have hB : Below w.heap.size w wB := ba (by go_grown) h1; obtain ⟨hcwB, hfwB⟩ := bcell h1; have hqwB := h1.size; (try simp at hqwB); (try have hz0wB : w1.heap.size < wB.heap.size := (by omega)); (try have he0wB : w1.heap.size ≤ wB.heap.size := (by omega))))
    go_wp2_with fail
    go_ret3
    exact ⟨rII E1.out.symm E2.out.symm rfl, by go_grown⟩
  · obtain ⟨hl, gp, rfl, n1, n3⟩ := ask_yes hb
    obtain ⟨p, q, hP⟩ := per_ex hl gp
    have C0 := courseOf_yes s gp p q hl n1 n3 hP
    unfold CoPost at C0
    have hqp := hP.1
    have hp := hP.2.1
    have E1 := Lib.hid (p1R_yes hb hP)
    have E2 := Lib.hid (p2R_yes hb hP)
    have PE := Lib.hid (fun av cap w => period_any av p cap q (Nat.le_of_lt hqp) hp w)
    have HB := Lib.hid hb
    clear hb hP
    go_enter Tryd.func38, Tryd.ntmps38
    go_wp2_with fail
    refine (C0 _).mono ?_
    rintro e w1 ⟨b, cap, rfl, hg1, hg2, hpc, hcm, hc, h1⟩
    have H1 := Lib.hid h1
    clear h1 hc
    have hS0 := show (w1.alloc (.cells #[.slice (some ⟨b, 0, none⟩) p cap, .int .i64 q] 63)).cell? ⟨w1.heap.size, 0, none⟩ = some (.slice (some ⟨b, 0, none⟩) p cap) ∧ (w1.alloc (.cells #[.slice (some ⟨b, 0, none⟩) p cap, .int .i64 q] 63)).cell? ⟨w1.heap.size, 1, none⟩ = some (.int .i64 q) from by simp [go_sem]
    go_wp2_with fail
    have h1 := H1.out
    have hz1 := h1.size
    go_region_held3 (fun w' => w'.cell? ⟨w1.heap.size, 0, none⟩ = some (.slice (some ⟨b, 0, none⟩) p cap) ∧ w'.cell? ⟨w1.heap.size, 1, none⟩ = some (.int .i64 q))
      (first | (with_reducible assumption) | (with_reducible exact y1_drew hS0) | (with_reducible exact y1_drew (y1_alloc hS0 _)) | (with_reducible exact y1_alloc (y1_drew hS0) _) | (with_reducible refine y1_drew ?_; with_reducible assumption) | (with_reducible refine y1_alloc ?_ _; with_reducible assumption) | (with_reducible refine y1_re (by with_reducible assumption) ?_ _; (focus first | (with_reducible assumption) | omega | (simp; done) | (simp; omega))) | (with_reducible refine y1_below ?_ ?_ h1; (focus first | (with_reducible assumption) | (with_reducible refine y1_undrew ?_; with_reducible assumption)); (focus first | (with_reducible assumption) | omega | (simp; done) | (simp; omega))) | ((repeat (with_reducible refine y1_set ?_ _ _ ?_; rotate_left 1; (focus first | (with_reducible assumption) | omega | (simp; done) | (simp; omega)))); with_reducible assumption))
      (first | (go_at_call 70; (with_reducible refine (PE.out _ _ _).mono ?_); rintro e wB ⟨rfl, h1⟩; (try with_reducible replace h1 := undrew h1); have hB : Below w.heap.size w wB := ba (by go_grown) h1; obtain ⟨hcwB, hfwB⟩ := bcell h1; have hqwB := h1.size; (try simp at hqwB); (try have hz0wB : w1.heap.size < wB.heap.size := (by omega)); (try have he0wB : w1.heap.size ≤ wB.heap.size := (by omega))))
    go_wp2_with fail
    go_ret3
    exact ⟨rII E1.out.symm E2.out.symm rfl, by go_grown⟩

theorem ret_is {s : ByteArray} {g : Int} {x b : Bool} (hb : askB s g = b) (hs : isR s g = x) : Ending.returned (.tuple #[.bool x, .bool b]) = Ending.returned (.tuple #[.bool (isR s g), .bool (askB s g)]) := by rw [hb, hs]

theorem has_any (l : List UInt8) (c : UInt8) (w : World) :
    Calls Tryd.prog 75 #[.string (ofL l), .string ⟨#[c]⟩] w fun e w' => e = .returned (.bool (decide (cnt c l ≠ 0))) ∧ w = w' := by
  refine (Tryd.strings_Contains_one (ofL l) c w).mono ?_
  rintro e w1 ⟨rfl, rfl⟩
  rw [ofL_list, has_iff]
  exact ⟨rfl, rfl⟩

set_option maxRecDepth 100000 in
theorem imIsStuck (s : ByteArray) (g : Int) (hs : s.size ≤ 1048576) (w : World) :
    Calls Tryd.prog 45 #[.string s, .int .i64 g] w fun e w' => e = .returned (.tuple #[.bool (isR s g), .bool (askB s g)]) ∧ Below w.heap.size w w' := by
  have S0 := imSignalsOf s g hs w
  obtain ⟨l, hl⟩ : ∃ l, sgR s g = ofL l := ⟨_, (of_list _).symm⟩
  rw [hl] at S0
  have H1 := has_any l 114
  have H2 := has_any l 103
  have HI := Lib.hid (isR_sg hl)
  generalize askB s g = B at *
  generalize isR s g = I at *
  generalize ofL l = T at *
  clear hl
  cases h1 : decide (cnt 114 l ≠ 0)
  · rw [h1] at H1 HI
    clear h1
    go_enter Tryd.func45, Tryd.ntmps45
    go_wp2_with fail
    refine (S0).mono ?_
    rintro e w1 ⟨rfl, hw1⟩
    have HW := Lib.hid hw1
    clear hw1
    go_wp2_with (go_at_call 75; refine (H1 _).mono ?_; rintro e w' ⟨rfl, rfl⟩)
    go_ret2
    exact ⟨rB HI.out.symm rfl, HW.out⟩
  · rw [h1] at H1 HI
    cases h2 : decide (cnt 103 l ≠ 0) <;> rw [h2] at H2 HI <;> clear h1 h2
    all_goals
      go_enter Tryd.func45, Tryd.ntmps45
      go_wp2_with fail
      refine (S0).mono ?_
      rintro e w1 ⟨rfl, hw1⟩
      have HW := Lib.hid hw1
      clear hw1
      go_wp2_with (first | (go_at_call 75; (with_reducible refine Calls.mono (H1 _) ?_); rintro e w' ⟨rfl, rfl⟩) | (go_at_call 75; (with_reducible refine Calls.mono (H2 _) ?_); rintro e w' ⟨rfl, rfl⟩))
      go_ret2
      exact ⟨rB HI.out.symm rfl, HW.out⟩

end Go.Proofs.YtogimjbjdgccnaaDoor
