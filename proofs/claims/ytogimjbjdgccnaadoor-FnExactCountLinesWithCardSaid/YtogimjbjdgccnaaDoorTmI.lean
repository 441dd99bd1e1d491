/- Contracts of the model: a line behind so many ticks, its moves, waits, period; standing still. -/
import Derived.Test.YtogimjbjdgccnaaDoorTkQ
import Derived.Test.YtogimjbjdgccnaaDoorTmP
namespace Go.Proofs.YtogimjbjdgccnaaDoor
open Go.ChangeShapes Go.WideShapes Go.ChangeAt Go.RowKit
open Ln

set_option linter.unusedVariables false

theorem tnTimes_any (s : ByteArray) (g t : Int) (hs : s.size ≤ 1048576) (w : World) :
    Calls Tryd.prog 62 #[.string s, .int .i64 g, .int .i64 t] w fun e w' => e = .returned (.bool (timB s g t)) ∧ w = w' := by
  have TA := tnAsked_any s g hs
  rw [show (lnB s.data.toList && inB g 1 3) = askB s g from rfl] at TA
  cases hb : askB s g
  · rw [hb] at TA
    have HB := Lib.hid (tim_no (t := t) hb)
    clear hb
    go_enter Tryd.func62, Tryd.ntmps62
    go_wp2_with (go_at_call 57; refine (TA _).mono ?_; rintro e w' ⟨rfl, rfl⟩)
    go_ret
    exact ⟨congrArg (fun b => Ending.returned (.bool b)) HB.out.symm, rfl⟩
  · rw [hb] at TA
    have HB := Lib.hid (tim_is (t := t) hb)
    clear hb
    go_enter Tryd.func62, Tryd.ntmps62
    go_wp2_with (first | (go_at_call 57; refine (TA _).mono ?_; rintro e w' ⟨rfl, rfl⟩) | (go_at_call 77; refine (l1In_any _ _ _ _).mono ?_; rintro e w' ⟨rfl, rfl⟩))
    go_ret
    exact ⟨congrArg (fun b => Ending.returned (.bool b)) HB.out.symm, rfl⟩

theorem tnAfter_s (s : ByteArray) (gp t : Nat) (hl : LnOk s.data.toList) (hg1 : 1 ≤ gp) (hg3 : gp ≤ 3) (ht : t ≤ 10000) (w : World) :
    Calls Tryd.prog 63 #[.string s, .int .i64 gp, .int .i64 t] w fun e w' => e = .returned (.tuple #[.string (ofL (orb s.data.toList gp t)), .int .i64 (mvT s.data.toList gp t : Nat)]) ∧ Below w.heap.size w w' := by
  have := tnAfter_any s.data.toList gp t hl hg1 hg3 ht w
  rwa [of_list] at this

theorem spLineAfter (s : ByteArray) (g t : Int) (hs : s.size ≤ 1048576) (w : World) :
    Calls Tryd.prog 26 #[.string s, .int .i64 g, .int .i64 t] w fun e w' => e = .returned (.tuple #[.string (laR s g t), .bool (timB s g t)]) ∧ Below w.heap.size w w' := by
  have TT := tnTimes_any s g t hs
  cases hb : timB s g t
  · rw [hb] at TT
    have HR := Lib.hid (laR_no hb)
    clear hb
    go_enter Tryd.func26, Tryd.ntmps26
    go_wp2_with (go_at_call 62; refine (TT _).mono ?_; rintro e w' ⟨rfl, rfl⟩)
    go_ret2
    exact ⟨rT HR.out.symm rfl, Below.refl _ _⟩
  · obtain ⟨ha, tn, rfl, htn⟩ := tim_yes hb
    obtain ⟨hl, gp, rfl, n1, n3⟩ := ask_yes ha
    rw [hb] at TT
    have HR := Lib.hid (laR_yes hb)
    have TA := Lib.hid (tnAfter_s s gp tn hl n1 n3 htn)
    clear hb ha hl
    go_enter Tryd.func26, Tryd.ntmps26
    go_wp2_with (go_at_call 62; refine (TT _).mono ?_; rintro e w' ⟨rfl, rfl⟩)
    refine (TA.out _).mono ?_
    rintro e w1 ⟨rfl, h1⟩
    have H1 := Lib.hid h1
    clear h1
    go_wp2_with fail
    go_ret2
    exact ⟨rT HR.out.symm rfl, H1.out⟩

theorem spMovesIn (s : ByteArray) (g t : Int) (hs : s.size ≤ 1048576) (w : World) :
    Calls Tryd.prog 28 #[.string s, .int .i64 g, .int .i64 t] w fun e w' => e = .returned (.tuple #[.int .i64 (ciR 103 s g t), .bool (timB s g t)]) ∧ Below w.heap.size w w' := by
  have TT := tnTimes_any s g t hs
  cases hb : timB s g t
  · rw [hb] at TT
    have HR := Lib.hid (ciR_no (c := 103) hb)
    clear hb
    go_enter Tryd.func28, Tryd.ntmps28
    go_wp2_with (go_at_call 62; refine (TT _).mono ?_; rintro e w' ⟨rfl, rfl⟩)
    go_ret2
    exact ⟨rI HR.out.symm rfl, Below.refl _ _⟩
  · obtain ⟨ha, tn, rfl, htn⟩ := tim_yes hb
    obtain ⟨hl, gp, rfl, n1, n3⟩ := ask_yes ha
    rw [hb] at TT
    have hR := ciR_yes (c := 103) hb
    rw [suC_mv] at hR
    have HR := Lib.hid hR
    have TA := Lib.hid (tnAfter_s s gp tn hl n1 n3 htn)
    clear hb ha hl hR
    go_enter Tryd.func28, Tryd.ntmps28
    go_wp2_with (go_at_call 62; refine (TT _).mono ?_; rintro e w' ⟨rfl, rfl⟩)
    refine (TA.out _).mono ?_
    rintro e w1 ⟨rfl, h1⟩
    have H1 := Lib.hid h1
    clear h1
    go_wp2_with fail
    go_ret2
    exact ⟨rI HR.out.symm rfl, H1.out⟩

theorem spWaitsIn (s : ByteArray) (g t : Int) (hs : s.size ≤ 1048576) (w : World) :
    Calls Tryd.prog 30 #[.string s, .int .i64 g, .int .i64 t] w fun e w' => e = .returned (.tuple #[.int .i64 (ciR 114 s g t), .bool (timB s g t)]) ∧ Below w.heap.size w w' := by
  have TT := tnTimes_any s g t hs
  cases hb : timB s g t
  · rw [hb] at TT
    have HR := Lib.hid (ciR_no (c := 114) hb)
    clear hb
    go_enter Tryd.func30, Tryd.ntmps30
    go_wp2_with (go_at_call 62; refine (TT _).mono ?_; rintro e w' ⟨rfl, rfl⟩)
    go_ret2
    exact ⟨rI HR.out.symm rfl, Below.refl _ _⟩
  · obtain ⟨ha, tn, rfl, htn⟩ := tim_yes hb
    obtain ⟨hl, gp, rfl, n1, n3⟩ := ask_yes ha
    rw [hb] at TT
    have hR := ciR_yes (c := 114) hb
    rw [suC_wt] at hR
    have we := wtT_eq hl n1 tn
    have wn := cnt_le 84 s.data.toList
    have n24 := hl.n24
    have pn : cnt 84 s.data.toList * tn ≤ 24 * 10000 := Nat.mul_le_mul (by omega) htn
    have HR := Lib.hid hR
    have TA := Lib.hid (tnAfter_s s gp tn hl n1 n3 htn)
    have TR := Lib.hid (tnTrains_any s hl)
    have wm : IntKind.i64.wrap ((cnt 84 s.data.toList : Nat) * (tn : Nat) : Int) = (cnt 84 s.data.toList * tn : Nat) := by rw [IntKind.wrap_i64] <;> simp <;> omega
    have ws : IntKind.i64.wrap (((cnt 84 s.data.toList * tn : Nat) : Int) - (mvT s.data.toList gp tn : Nat)) = (wtT s.data.toList gp tn : Nat) := by rw [IntKind.wrap_i64] <;> omega
    clear hb ha hl hR
    generalize cnt 84 s.data.toList * tn = P at *
    go_enter Tryd.func30, Tryd.ntmps30
    go_wp2_with (go_at_call 62; refine (TT _).mono ?_; rintro e w' ⟨rfl, rfl⟩)
    refine (TA.out _).mono ?_
    rintro e w1 ⟨rfl, h1⟩
    have H1 := Lib.hid h1
    clear h1
    go_wp2_with (go_at_call 55; refine (TR.out _).mono ?_; rintro e w' ⟨rfl, rfl⟩)
    go_ret2
    exact ⟨rI HR.out.symm rfl, H1.out⟩

theorem laR_one {s : ByteArray} {gp : Nat} (h : askB s gp = true) : laR s gp 1 = ofL (tk s.data.toList gp) := by
  rw [laR, timB, h, show inB 1 0 10000 = true from by decide]
  rfl

theorem laR_one_no {s : ByteArray} {g : Int} (h : askB s g = false) : laR s g 1 = ⟨#[]⟩ := laR_no (tim_no h)

theorem spTickLine (s : ByteArray) (g : Int) (hs : s.size ≤ 1048576) (w : World) :
    Calls Tryd.prog 24 #[.string s, .int .i64 g] w fun e w' => e = .returned (.tuple #[.string (laR s g 1), .bool (askB s g)]) ∧ Below w.heap.size w w' := by
  have TA := tnAsked_any s g hs
  rw [show (lnB s.data.toList && inB g 1 3) = askB s g from rfl] at TA
  cases hb : askB s g
  · rw [hb] at TA
    have HR := Lib.hid (laR_one_no hb)
    clear hb
    go_enter Tryd.func24, Tryd.ntmps24
    go_wp2_with (go_at_call 57; refine (TA _).mono ?_; rintro e w' ⟨rfl, rfl⟩)
    go_ret2
    exact ⟨rT HR.out.symm rfl, Below.refl _ _⟩
  · obtain ⟨hl, gp, rfl, n1, n3⟩ := ask_yes hb
    rw [hb] at TA
    have HR := Lib.hid (laR_one hb)
    have TK := Lib.hid (tnTick_any s gp hl n1 n3)
    clear hb hl
    go_enter Tryd.func24, Tryd.ntmps24
    go_wp2_with (go_at_call 57; refine (TA _).mono ?_; rintro e w' ⟨rfl, rfl⟩)
    refine (TK.out _).mono ?_
    rintro e w1 ⟨rfl, h1⟩
    have H1 := Lib.hid h1
    clear h1
    go_wp2_with fail
    go_ret2
    exact ⟨rT HR.out.symm rfl, H1.out⟩

theorem spPeriodOfLine (s : ByteArray) (g : Int) (hs : s.size ≤ 1048576) (w : World) :
    Calls Tryd.prog 37 #[.string s, .int .i64 g] w fun e w' => e = .returned (.tuple #[.int .i64 (p1R s g), .int .i64 (p2R s g), .bool (askB s g)]) ∧ Below w.heap.size w w' := by
  have TA := tnAsked_any s g hs
  rw [show (lnB s.data.toList && inB g 1 3) = askB s g from rfl] at TA
  cases hb : askB s g
  · rw [hb] at TA
    have E1 := Lib.hid (p1R_no hb)
    have E2 := Lib.hid (p2R_no hb)
    clear hb
    go_enter Tryd.func37, Tryd.ntmps37
    go_wp2_with (go_at_call 57; refine (TA _).mono ?_; rintro e w' ⟨rfl, rfl⟩)
    go_ret3
    exact ⟨rII E1.out.symm E2.out.symm rfl, Below.refl _ _⟩
  · obtain ⟨hl, gp, rfl, n1, n3⟩ := ask_yes hb
    rw [hb] at TA
    obtain ⟨p, q, hP⟩ := per_ex hl gp
    have E1 := Lib.hid (p1R_yes hb hP)
    have E2 := Lib.hid (p2R_yes hb hP)
    have tp := tnPeriod_any s.data.toList gp p q hl n1 n3 hP
    rw [of_list] at tp
    have TP := Lib.hid tp
    clear hb hl hP tp
    go_enter Tryd.func37, Tryd.ntmps37
    go_wp2_with (go_at_call 57; refine (TA _).mono ?_; rintro e w' ⟨rfl, rfl⟩)
    refine (TP.out _).mono ?_
    rintro e w1 ⟨rfl, h1⟩
    have H1 := Lib.hid h1
    clear h1
    go_wp2_with fail
    go_ret3
    exact ⟨rII E1.out.symm E2.out.symm rfl, H1.out⟩

set_option maxHeartbeats 800000 in
theorem spIsStuck (s : ByteArray) (g : Int) (hs : s.size ≤ 1048576) (w : World) :
    Calls Tryd.prog 44 #[.string s, .int .i64 g] w fun e w' => e = .returned (.tuple #[.bool (isR s g), .bool (askB s g)]) ∧ Below w.heap.size w w' := by
  have TA := tnAsked_any s g hs
  rw [show (lnB s.data.toList && inB g 1 3) = askB s g from rfl] at TA
  cases hb : askB s g
  · rw [hb] at TA
    have HR := Lib.hid (isR_no hb)
    clear hb
    go_enter Tryd.func44, Tryd.ntmps44
    go_wp2_with (go_at_call 57; refine (TA _).mono ?_; rintro e w' ⟨rfl, rfl⟩)
    go_ret2
    exact ⟨rB HR.out.symm rfl, Below.refl _ _⟩
  · obtain ⟨hl, gp, rfl, n1, n3⟩ := ask_yes hb
    rw [hb] at TA
    have HR := Lib.hid (isR_yes hb)
    have TK := Lib.hid (tnTick_any s gp hl n1 n3)
    have TR := Lib.hid (tnTrains_any s hl)
    clear hb hl
    generalize mvN s.data.toList gp = M at *
    generalize cnt 84 s.data.toList = C at *
    by_cases hC : C = 0
    · subst hC
      go_enter Tryd.func44, Tryd.ntmps44
      go_wp2_with (go_at_call 57; refine (TA _).mono ?_; rintro e w' ⟨rfl, rfl⟩)
      refine (TK.out _).mono ?_
      rintro e w1 ⟨rfl, h1⟩
      have H1 := Lib.hid h1
      clear h1
      go_wp2_with (go_at_call 55; refine (TR.out _).mono ?_; rintro e w' ⟨rfl, rfl⟩)
      go_ret2
      exact ⟨rB (by rw [HR.out]; simp) rfl, H1.out⟩
    · have hp : 0 < (C : Int) := by omega
      have hp2 : ¬ (C : Int) = 0 := by omega
      by_cases hM : M = 0
      · subst hM
        have e : isR s gp = true := by rw [HR.out]; simp [hC]
        go_enter Tryd.func44, Tryd.ntmps44
        go_wp2_with (go_at_call 57; refine (TA _).mono ?_; rintro e w' ⟨rfl, rfl⟩)
        refine (TK.out _).mono ?_
        rintro e' w1 ⟨rfl, h1⟩
        have H1 := Lib.hid h1
        clear h1
        go_wp2_with (go_at_call 55; refine (TR.out _).mono ?_; rintro e w' ⟨rfl, rfl⟩)
        go_ret2
        exact ⟨rB e.symm rfl, H1.out⟩
      · have e : isR s gp = false := by rw [HR.out]; simp [hM]
        have hm : ¬ (M : Int) = 0 := by omega
        have hm0 : M ≠ 0 := hM
        go_enter Tryd.func44, Tryd.ntmps44
        go_wp2_with (go_at_call 57; refine (TA _).mono ?_; rintro e w' ⟨rfl, rfl⟩)
        refine (TK.out _).mono ?_
        rintro e' w1 ⟨rfl, h1⟩
        have H1 := Lib.hid h1
        clear h1
        go_wp2_with (go_at_call 55; refine (TR.out _).mono ?_; rintro e w' ⟨rfl, rfl⟩)
        go_ret2
        exact ⟨rB (by rw [e]; simpa using hM) rfl, H1.out⟩

end Go.Proofs.YtogimjbjdgccnaaDoor
