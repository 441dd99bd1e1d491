/- Lines: periods, standing still, first free; what the results are, in plain words. -/
import Derived.Test.YtogimjbjdgccnaaDoorTmD
namespace Go.Proofs.YtogimjbjdgccnaaDoor
open Ln

set_option linter.unusedVariables false

theorem of_list (s : ByteArray) : ofL s.data.toList = s := by cases s; simp [ofL]

open Go in
theorem rT {x y : ByteArray} {a b : Bool} (h : x = y) (h' : a = b) : Ending.returned (.tuple #[.string x, .bool a]) = Ending.returned (.tuple #[.string y, .bool b]) := by rw [h, h']
open Go in

theorem rI {x y : Int} {a b : Bool} (h : x = y) (h' : a = b) : Ending.returned (.tuple #[.int .i64 x, .bool a]) = Ending.returned (.tuple #[.int .i64 y, .bool b]) := by rw [h, h']
open Go in

theorem rB {x y : Bool} {a b : Bool} (h : x = y) (h' : a = b) : Ending.returned (.tuple #[.bool x, .bool a]) = Ending.returned (.tuple #[.bool y, .bool b]) := by rw [h, h']
open Go in

theorem rII {x y u v : Int} {a b : Bool} (h : x = y) (h2 : u = v) (h' : a = b) : Ending.returned (.tuple #[.int .i64 x, .int .i64 u, .bool a]) = Ending.returned (.tuple #[.int .i64 y, .int .i64 v, .bool b]) := by rw [h, h2, h']

open Classical in
noncomputable def peP (l : List UInt8) (gp : Nat) : Nat := if h : ∃ p q, IsPer l gp p q then Classical.choose h else 0
open Classical in
noncomputable def peQ (l : List UInt8) (gp : Nat) : Nat := if h : ∃ p q, IsPer l gp p q then Classical.choose (Classical.choose_spec h) else 0
theorem pe_is {l : List UInt8} {gp p q : Nat} (h : IsPer l gp p q) : peP l gp = p ∧ peQ l gp = q := by
  have hx : ∃ p q, IsPer l gp p q := ⟨p, q, h⟩
  have := Classical.choose_spec (Classical.choose_spec hx)
  rw [peP, peQ, dif_pos hx, dif_pos hx]
  exact this.uniq h
noncomputable def p1R (s : ByteArray) (g : Int) : Int := cond (askB s g) (peQ s.data.toList g.toNat : Nat) 0
noncomputable def p2R (s : ByteArray) (g : Int) : Int := cond (askB s g) ((peP s.data.toList g.toNat : Nat) - (peQ s.data.toList g.toNat : Nat)) 0

theorem p1R_no {s : ByteArray} {g : Int} (h : askB s g = false) : p1R s g = 0 := by rw [p1R, h]; rfl

theorem p2R_no {s : ByteArray} {g : Int} (h : askB s g = false) : p2R s g = 0 := by rw [p2R, h]; rfl

theorem p1R_yes {s : ByteArray} {gp p q : Nat} (h : askB s gp = true) (hP : IsPer s.data.toList gp p q) : p1R s gp = (q : Nat) := by rw [p1R, h, Int.toNat_natCast, (pe_is hP).2]; rfl

theorem p2R_yes {s : ByteArray} {gp p q : Nat} (h : askB s gp = true) (hP : IsPer s.data.toList gp p q) : p2R s gp = (p : Nat) - (q : Nat) := by rw [p2R, h, Int.toNat_natCast, (pe_is hP).1, (pe_is hP).2]; rfl

def isR (s : ByteArray) (g : Int) : Bool := cond (askB s g) (decide (cnt 84 s.data.toList ≠ 0) && decide (mvN s.data.toList g.toNat = 0)) false

theorem isR_no {s : ByteArray} {g : Int} (h : askB s g = false) : isR s g = false := by rw [isR, h]; rfl

theorem isR_yes {s : ByteArray} {gp : Nat} (h : askB s gp = true) : isR s gp = (decide (cnt 84 s.data.toList ≠ 0) && decide (mvN s.data.toList gp = 0)) := by rw [isR, h]; rfl

theorem isR_sg {s : ByteArray} {g : Int} {l : List UInt8} (h : sgR s g = ofL l) : isR s g = (decide (cnt 114 l ≠ 0) && !decide (cnt 103 l ≠ 0)) := by
  cases hb : askB s g
  · rw [sgR_no hb] at h
    have : l = [] := by
      have := congrArg (fun z => z.data.toList) h
      rw [ofL_list] at this
      exact this.symm
    subst this
    rw [isR_no hb]
    rfl
  · obtain ⟨hl, n, rfl, n1, n3⟩ := ask_yes hb
    rw [sgR_yes hb] at h
    have := ofL_inj h
    subst this
    rw [isR_yes hb, cnt_green]
    have := cnt_sum s.data.toList n
    rw [cnt_green] at this
    by_cases e : mvN s.data.toList n = 0
    · rw [e, Nat.zero_add] at this
      rw [this, e]
      simp
    · simp [e]

/-- The first tick in front of which all signals are green. -/
def ffO (l : List UInt8) (gp p : Nat) : Option Nat := cond (decide (cnt 84 l ≠ 0)) ((List.range p).find? fun k => fre (orb l gp k) gp) none
noncomputable def ffR (s : ByteArray) (g : Int) : Option Nat := cond (askB s g) (ffO s.data.toList g.toNat (peP s.data.toList g.toNat)) none
noncomputable def ffI (s : ByteArray) (g : Int) : Int := ((ffR s g).getD 0 : Nat)
noncomputable def ffB (s : ByteArray) (g : Int) : Bool := (ffR s g).isSome

theorem ffR_no {s : ByteArray} {g : Int} (h : askB s g = false) : ffR s g = none := by rw [ffR, h]; rfl

theorem ffR_yes {s : ByteArray} {gp p q : Nat} (h : askB s gp = true) (hP : IsPer s.data.toList gp p q) : ffR s gp = ffO s.data.toList gp p := by rw [ffR, h, Int.toNat_natCast, (pe_is hP).1]; rfl

theorem ffO_none {l : List UInt8} {gp p : Nat} (h : cnt 84 l = 0) : ffO l gp p = none := by rw [ffO, h]; rfl

theorem ffO_all {l : List UInt8} {gp p : Nat} (h : ∀ k, k < p → fre (orb l gp k) gp = false) : ffO l gp p = none := by
  rw [ffO]
  have : (List.range p).find? (fun k => fre (orb l gp k) gp) = none := by
    rw [List.find?_eq_none]
    intro k hk
    rw [h k (List.mem_range.1 hk)]
    decide
  rw [this]
  cases decide (cnt 84 l ≠ 0) <;> rfl

theorem ffO_at {l : List UInt8} {gp p k : Nat} (hc : cnt 84 l ≠ 0) (hk : k < p) (hn : ∀ i, i < k → fre (orb l gp i) gp = false) (hy : fre (orb l gp k) gp = true) : ffO l gp p = some k := by
  rw [ffO, show decide (cnt 84 l ≠ 0) = true from by simpa using hc]
  show (List.range p).find? (fun k => fre (orb l gp k) gp) = some k
  rw [List.find?_range_eq_some]
  exact ⟨hy, by simpa using hk, fun i hi => by rw [hn i hi]; rfl⟩

theorem fre_sg {l : List UInt8} {gp : Nat} (hl : LnOk l) (hg : 1 ≤ gp) (hc : cnt 84 l ≠ 0) (k : Nat) : (decide (cnt 103 (sg (orb l gp k) gp) ≠ 0) && !decide (cnt 114 (sg (orb l gp k) gp) ≠ 0)) = fre (orb l gp k) gp := by
  have a := cnt_sum (orb l gp k) gp
  rw [orb_cnt hl hg] at a
  have b := fre_iff (orb l gp k) gp
  by_cases e : cnt 114 (sg (orb l gp k) gp) = 0
  · rw [b.2 e, e]
    rw [e, Nat.add_zero] at a
    rw [a]
    simp [hc]
  · have : fre (orb l gp k) gp = false := by
      cases h : fre (orb l gp k) gp
      · rfl
      · exact absurd (b.1 h) e
    rw [this]
    simp [e]

theorem fre_no {l : List UInt8} {gp : Nat} (hl : LnOk l) (hg : 1 ≤ gp) (hc : cnt 84 l = 0) (k : Nat) : decide (cnt 103 (sg (orb l gp k) gp) ≠ 0) = false := by
  have a := cnt_sum (orb l gp k) gp
  rw [orb_cnt hl hg, hc] at a
  simp
  omega

end Go.Proofs.YtogimjbjdgccnaaDoor
