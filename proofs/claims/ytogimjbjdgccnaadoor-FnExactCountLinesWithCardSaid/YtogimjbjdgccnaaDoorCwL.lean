/- Lines counted: all lines of n blocks, by doubling and by their numbers' digits; what the result is, in plain words. -/
import Derived.Test.YtogimjbjdgccnaaDoorTmP
namespace Go.Proofs.YtogimjbjdgccnaaDoor.Ln

set_option linter.unusedVariables false

/-- All lines of n blocks, by doubling. -/
def allL : Nat → List (List UInt8)
  | 0 => [[]]
  | n + 1 => (allL n).flatMap fun l => [l ++ [46], l ++ [84]]

/-- The line of n blocks whose trains are a number's digits. -/
def dgL (n m : Nat) : List UInt8 := (List.range n).map fun i => if m / 2 ^ i % 2 = 1 then 84 else 46

theorem dgL_len (n m : Nat) : (dgL n m).length = n := by simp [dgL]

theorem dgL_succ (n m : Nat) : dgL (n + 1) m = dgL n m ++ [if m / 2 ^ n % 2 = 1 then 84 else 46] := by simp [dgL, List.range_succ]

theorem dgL_ok {n : Nat} (h1 : 1 ≤ n) (h2 : n ≤ 24) (m : Nat) : LnOk (dgL n m) := by
  rw [← lnB_iff]
  have ha : (dgL n m).all lnb = true := by
    rw [List.all_eq_true]
    intro c hc
    obtain ⟨i, _, rfl⟩ := List.mem_map.1 hc
    split <;> rfl
  simp [lnB, dgL_len, h1, h2, ha]

theorem dgL_low {n m : Nat} (h : m < 2 ^ n) : dgL (n + 1) m = dgL n m ++ [46] := by
  rw [dgL_succ, Nat.div_eq_of_lt h]
  rfl

theorem dgL_high {n m : Nat} (h : m < 2 ^ n) : dgL (n + 1) (2 ^ n + m) = dgL n m ++ [84] := by
  have hp : 0 < 2 ^ n := Nat.pow_pos (by decide)
  rw [dgL_succ]
  congr 1
  · rw [dgL, dgL]
    refine List.map_congr_left fun i hi => ?_
    have hi' := List.mem_range.1 hi
    have : (2 ^ n + m) / 2 ^ i % 2 = m / 2 ^ i % 2 := by
      have e : 2 ^ n = 2 ^ i * (2 * 2 ^ (n - i - 1)) := by
        rw [← Nat.pow_succ', ← Nat.pow_add]
        congr 1
        omega
      rw [e, Nat.mul_add_div (Nat.pow_pos (by decide)), Nat.mul_add_mod]
    rw [this]
  · rw [Nat.add_div_left _ hp, Nat.div_eq_of_lt h]
    rfl

theorem range_two (k : Nat) : List.range (k + k) = List.range k ++ (List.range k).map (k + ·) := List.range_add

theorem flat_perm (x y : UInt8) : ∀ ls : List (List UInt8), (ls.flatMap fun l => [l ++ [x], l ++ [y]]).Perm (ls.map (· ++ [x]) ++ ls.map (· ++ [y]))
  | [] => List.Perm.refl _
  | l :: ls => by
    have ih := flat_perm x y ls
    simp only [List.flatMap_cons, List.map_cons, List.cons_append, List.nil_append]
    refine List.Perm.cons _ ?_
    exact (List.Perm.cons _ ih).trans (List.perm_middle.symm)

theorem all_perm : ∀ n, (allL n).Perm ((List.range (2 ^ n)).map (dgL n))
  | 0 => List.Perm.refl _
  | n + 1 => by
    have ih := all_perm n
    rw [allL]
    refine (flat_perm 46 84 (allL n)).trans ?_
    have e : (List.range (2 ^ (n + 1))).map (dgL (n + 1)) = ((List.range (2 ^ n)).map (dgL n)).map (· ++ [46]) ++ ((List.range (2 ^ n)).map (dgL n)).map (· ++ [84]) := by
      rw [Nat.pow_succ, Nat.mul_two, range_two, List.map_append, List.map_map, List.map_map, List.map_map]
      congr 1
      · exact List.map_congr_left fun m hm => dgL_low (List.mem_range.1 hm)
      · exact List.map_congr_left fun m hm => dgL_high (List.mem_range.1 hm)
    rw [e]
    exact (ih.map _).append (ih.map _)

theorem allL_len : ∀ n, (allL n).length = 2 ^ n := fun n => by rw [(all_perm n).length_eq]; simp

theorem allL_in {n : Nat} {l : List UInt8} (h : l ∈ allL n) : ∃ m, l = dgL n m := by
  have := (all_perm n).mem_iff.1 h
  obtain ⟨m, _, rfl⟩ := List.mem_map.1 this
  exact ⟨m, rfl⟩

/-- A line that counts: so many trains, all signals green. -/
def cwP (t gp : Nat) (l : List UInt8) : Bool := decide (cnt 84 l = t) && fre l gp

def cwN (n t gp : Nat) : Nat := (allL n).countP (cwP t gp)

theorem cwN_dg (n t gp : Nat) : cwN n t gp = ((List.range (2 ^ n)).map (dgL n)).countP (cwP t gp) := (all_perm n).countP_eq _

def cwK (n t gp m : Nat) : Nat := ((List.range m).map (dgL n)).countP (cwP t gp)

theorem cwK_zero (n t gp : Nat) : cwK n t gp 0 = 0 := rfl

theorem cwK_succ (n t gp m : Nat) : cwK n t gp (m + 1) = cwK n t gp m + (if cwP t gp (dgL n m) then 1 else 0) := by
  rw [cwK, List.range_succ, List.map_append, List.countP_append, ← cwK]
  simp [List.countP_cons]

theorem cwK_le (n t gp m : Nat) : cwK n t gp m ≤ m := by
  have := List.countP_le_length (p := cwP t gp) (l := (List.range m).map (dgL n))
  rwa [List.length_map, List.length_range] at this

def cwB (n t g : Int) : Bool := inB n 1 10 && (inB t 0 n && inB g 1 3)

def cwR (n t g : Int) : Int := cond (cwB n t g) (cwN n.toNat t.toNat g.toNat : Nat) 0

end Go.Proofs.YtogimjbjdgccnaaDoor.Ln
