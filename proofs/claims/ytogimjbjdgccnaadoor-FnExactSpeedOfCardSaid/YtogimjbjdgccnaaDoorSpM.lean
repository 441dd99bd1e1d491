/- The speed of a line: what it is, in plain words; the model's contract. -/
import Derived.Test.YtogimjbjdgccnaaDoorTkQ
import Derived.Test.YtogimjbjdgccnaaDoorTmI
import Derived.Test.YtogimjbjdgccnaaDoorGcI
namespace Go.Proofs.YtogimjbjdgccnaaDoor
open Go.ChangeShapes Go.WideShapes Go.ChangeAt Go.RowKit
open Ln

set_option linter.unusedVariables false

/-- Moves and ticks of a period, by their greatest common divisor. -/
noncomputable def mvP (l : List UInt8) (gp : Nat) : Nat := mvT l gp (peP l gp) - mvT l gp (peQ l gp)
noncomputable def tiP (l : List UInt8) (gp : Nat) : Nat := peP l gp - peQ l gp
noncomputable def v0R (s : ByteArray) (g : Int) : Int := cond (askB s g) ((mvP s.data.toList g.toNat / Nat.gcd (mvP s.data.toList g.toNat) (tiP s.data.toList g.toNat) : Nat) : Int) 0
noncomputable def v1R (s : ByteArray) (g : Int) : Int := cond (askB s g) ((tiP s.data.toList g.toNat / Nat.gcd (mvP s.data.toList g.toNat) (tiP s.data.toList g.toNat) : Nat) : Int) 0
theorem v0R_no {s : ByteArray} {g : Int} (h : askB s g = false) : v0R s g = 0 := by rw [v0R, h]; rfl

theorem v1R_no {s : ByteArray} {g : Int} (h : askB s g = false) : v1R s g = 0 := by rw [v1R, h]; rfl

theorem v0R_yes {s : ByteArray} {gp p q M P : Nat} (h : askB s gp = true) (hP : IsPer s.data.toList gp p q) (hM : mvT s.data.toList gp p - mvT s.data.toList gp q = M) (hQ : p - q = P) : v0R s gp = ((M / Nat.gcd M P : Nat) : Int) := by rw [v0R, h, Int.toNat_natCast, mvP, tiP, (pe_is hP).1, (pe_is hP).2, hM, hQ]; rfl

theorem v1R_yes {s : ByteArray} {gp p q M P : Nat} (h : askB s gp = true) (hP : IsPer s.data.toList gp p q) (hM : mvT s.data.toList gp p - mvT s.data.toList gp q = M) (hQ : p - q = P) : v1R s gp = ((P / Nat.gcd M P : Nat) : Int) := by rw [v1R, h, Int.toNat_natCast, mvP, tiP, (pe_is hP).1, (pe_is hP).2, hM, hQ]; rfl

theorem quo_nat (a n : Nat) (ha : a ≤ 1099511627776) : wrap64 ((a : Int) / (n : Int)) = ((a / n : Nat) : Int) := by
  have := Nat.div_le_self a n
  rw [show ((a : Int) / (n : Int)) = ((a / n : Nat) : Int) from rfl]
  generalize a / n = d at this ⊢
  exact IntWalk.wrap64_in _ ⟨by omega, by omega⟩

theorem rVV {x y u v : Int} {a b : Bool} (h : x = y) (h2 : u = v) (h' : a = b) : Ending.returned (.tuple #[.agg #[.int .i64 x, .int .i64 u], .bool a]) = Ending.returned (.tuple #[.agg #[.int .i64 y, .int .i64 v], .bool b]) := by rw [h, h2, h']

set_option maxRecDepth 100000 in
set_option maxHeartbeats 1600000 in
theorem spSpeedOf (s : ByteArray) (g : Int) (hs : s.size ≤ 1048576) (w : World) :
    Calls Tryd.prog 39 #[.string s, .int .i64 g] w fun e w' => e = .returned (.tuple #[.agg #[.int .i64 (v0R s g), .int .i64 (v1R s g)], .bool (askB s g)]) ∧ Below w.heap.size w w' := by
  have TA := tnAsked_any s g hs
  rw [show (lnB s.data.toList && inB g 1 3) = askB s g from rfl] at TA
  cases hb : askB s g
  · rw [hb] at TA
    have E1 := Lib.hid (v0R_no hb)
    have E2 := Lib.hid (v1R_no hb)
    clear hb
    go_enter Tryd.func39, Tryd.ntmps39
    go_wp2_with (go_at_call 57; refine (TA _).mono ?_; rintro e w' ⟨rfl, rfl⟩)
    refine bodyPost_ret (by simp [results, Tryd.results39, go_sem, *]; try rfl) rfl ?_
    exact ⟨rVV E1.out.symm E2.out.symm rfl, by go_grown⟩
  · obtain ⟨hl, gp, rfl, n1, n3⟩ := ask_yes hb
    rw [hb] at TA
    obtain ⟨p, q, hP⟩ := per_ex hl gp
    have tp := tnPeriod_any s.data.toList gp p q hl n1 n3 hP
    have mo := mvT_mono s.data.toList gp (Nat.le_of_lt hP.1)
    have ml := mvT_le hl gp p
    have hp := hP.2.1
    have hqp := hP.1
    obtain ⟨M, hM⟩ : ∃ M, mvT s.data.toList gp p - mvT s.data.toList gp q = M := ⟨_, rfl⟩
    obtain ⟨P, hQ⟩ : ∃ P, p - q = P := ⟨_, rfl⟩
    rw [of_list, show ((p : Int) - (q : Int)) = (P : Nat) by omega, show ((mvT s.data.toList gp p : Int) - (mvT s.data.toList gp q : Int)) = (M : Nat) by omega] at tp
    have TP := Lib.hid tp
    have E1 := Lib.hid (v0R_yes hb hP hM hQ)
    have E2 := Lib.hid (v1R_yes hb hP hM hQ)
    have hM2 : M ≤ 1099511627776 := by omega
    have hP2 : P ≤ 1099511627776 := by omega
    have hP0 : 0 < P := by omega
    clear hb hl hP tp mo ml hM hQ hp hqp
    have GC := Lib.hid (tnCommon_any M P hM2 hP2)
    have hd := Nat.gcd_pos_of_pos_right M hP0
    generalize Nat.gcd M P = D at *
    have hne : ¬ (D : Int) = 0 := by omega
    have w1 := Lib.hid (quo_nat M D hM2)
    have w2 := Lib.hid (quo_nat P D hP2)
    go_enter Tryd.func39, Tryd.ntmps39
    go_wp2_with (go_at_call 57; refine (TA _).mono ?_; rintro e w' ⟨rfl, rfl⟩)
    (go_at_call 69; (with_reducible refine (TP.out _).mono ?_); rintro e wB ⟨rfl, h1⟩; (try with_reducible replace h1 := undrew h1); have hB : Below w.heap.size w wB := ba (by go_grown) h1; obtain ⟨hcwB, hfwB⟩ := bcell h1; have hqwB := h1.size; (try simp at hqwB); (try have hz0wB : w.heap.size < wB.heap.size := (by omega)); (try have he0wB : w.heap.size ≤ wB.heap.size := (by omega)))
    go_wp2_with fail
    (go_at_call 71; (with_reducible refine (GC.out _).mono ?_); rintro e wC ⟨rfl, h1⟩; (try with_reducible replace h1 := undrew h1); have hB : Below w.heap.size w wC := ba (by go_grown) h1; obtain ⟨hcwC, hfwC⟩ := bcell h1; have hqwC := h1.size; (try simp at hqwC); (try have hz0wC : w.heap.size < wC.heap.size := (by omega)); (try have he0wC : w.heap.size ≤ wC.heap.size := (by omega)))
    go_wp2_with fail
    go_region
    all_goals
      go_wp2_with fail
      refine bodyPost_ret (by simp [results, Tryd.results39, go_sem, *]; try rfl) rfl ?_
      exact ⟨rVV (w1.out.trans E1.out.symm) (w2.out.trans E2.out.symm) rfl, by go_grown⟩

end Go.Proofs.YtogimjbjdgccnaaDoor
