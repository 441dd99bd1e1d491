/- Lines behind so many ticks: what the results are, in plain words. -/
import Derived.Test.YtogimjbjdgccnaaDoorTkP
namespace Go.Proofs.YtogimjbjdgccnaaDoor
open Ln

set_option linter.unusedVariables false

def timB (s : ByteArray) (g t : Int) : Bool := askB s g && inB t 0 10000

theorem tim_yes {s : ByteArray} {g t : Int} (h : timB s g t = true) : askB s g = true ∧ ∃ n : Nat, t = n ∧ n ≤ 10000 := by
  simp only [timB, inB, Bool.and_eq_true, decide_eq_true_eq] at h
  exact ⟨h.1, t.toNat, by omega, by omega⟩

theorem tim_in {n : Nat} (h : n ≤ 10000) : inB (n : Int) 0 10000 = true := by simp [inB]; omega

theorem tim_no {s : ByteArray} {g t : Int} (h : askB s g = false) : timB s g t = false := by rw [timB, h]; rfl

theorem tim_no2 {s : ByteArray} {g t : Int} (h : inB t 0 10000 = false) : timB s g t = false := by rw [timB, h, Bool.and_false]

theorem tim_is {s : ByteArray} {g t : Int} (h : askB s g = true) : timB s g t = inB t 0 10000 := by rw [timB, h]; rfl

def laR (s : ByteArray) (g t : Int) : ByteArray := cond (timB s g t) (ofL (orb s.data.toList g.toNat t.toNat)) ⟨#[]⟩

theorem laR_yes {s : ByteArray} {n k : Nat} (h : timB s n k = true) : laR s n k = ofL (orb s.data.toList n k) := by rw [laR, h]; rfl

theorem laR_no {s : ByteArray} {g t : Int} (h : timB s g t = false) : laR s g t = ⟨#[]⟩ := by rw [laR, h]; rfl

/-- How often a signal shows in the first ticks. -/
def suC (c : UInt8) (l : List UInt8) (g : Nat) : Nat → Nat
  | 0 => 0
  | k + 1 => suC c l g k + cnt c (sg (orb l g k) g)

theorem suC_mv (l : List UInt8) (g : Nat) : ∀ k, suC 103 l g k = mvT l g k
  | 0 => rfl
  | k + 1 => by rw [suC, mvT, suC_mv l g k, cnt_green]

theorem suC_wt (l : List UInt8) (g : Nat) : ∀ k, suC 114 l g k = wtT l g k
  | 0 => rfl
  | k + 1 => by rw [suC, wtT, suC_wt l g k]

theorem suC_le {l : List UInt8} (h : LnOk l) (c : UInt8) (g : Nat) : ∀ k, suC c l g k ≤ 24 * k
  | 0 => Nat.le_refl _
  | k + 1 => by
    have a := suC_le h c g k
    have b := cnt_le c (sg (orb l g k) g)
    have d := (orb_ok h g k).n24
    rw [sg_len] at b
    rw [suC]
    omega

def ciR (c : UInt8) (s : ByteArray) (g t : Int) : Int := cond (timB s g t) (suC c s.data.toList g.toNat t.toNat : Nat) 0

theorem ciR_yes {c : UInt8} {s : ByteArray} {n k : Nat} (h : timB s n k = true) : ciR c s n k = (suC c s.data.toList n k : Nat) := by rw [ciR, h]; rfl

theorem ciR_no {c : UInt8} {s : ByteArray} {g t : Int} (h : timB s g t = false) : ciR c s g t = 0 := by rw [ciR, h]; rfl

end Go.Proofs.YtogimjbjdgccnaaDoor
