/- Contracts: the number of a run; behind how many steps a run counts to itself, in the model. -/
import Derived.Test.YtoaccnpkobbaaaaYSt
namespace Go.Proofs.Ytoaccnpkobbaaaa
open Go.ChangeShapes Go.WideShapes Go.ChangeAt Go.RowKit
open Yd

set_option linter.unusedVariables false

theorem bits_snoc : ∀ (l : List Int) (s : Int) (n : Nat), Yd.bits (l ++ [s]) n = 2 * Yd.bits l n + s.toNat
  | [], s, n => by simp [Yd.bits]
  | x :: l, s, n => by rw [List.cons_append, Yd.bits, bits_snoc l s]; rfl

set_option maxRecDepth 100000 in
set_option maxHeartbeats 800000 in
theorem ydNumber_any (a p l u : Nat) (ss : List Int) (hl : ss.length = l) (hl6 : l ≤ 6) (ha : a ≤ 18) (hs : ∀ s ∈ ss, 0 ≤ s ∧ s ≤ 1) (w : World) (h : RL w p l ss) :
    Calls Try.prog 71 #[.agg #[.int .i64 (a:Nat), .slice (some ⟨p, 0, none⟩) l u]] w fun e w' => e = .returned (.int .i64 (num (a, ss) : Nat)) ∧ Below w.heap.size w w' := by
  have HL := Lib.hid hl
  have HS := Lib.hid hs
  have H1 := Lib.hid (h.keep ((Below.refl w.heap.size w).alloc (Nat.le_refl _) (.cells #[.int .i64 (a : Nat), .slice (some ⟨p, 0, none⟩) l u] 36)))
  have hb : ∀ k, k ≤ l → Yd.bits (ss.take k) a ≤ 2000 := fun k hk => by
    have := bits_lt (ss.take k) a 19 (fun s hx => hs s (List.mem_of_mem_take hx)) (by omega)
    rw [List.length_take, hl, Nat.min_eq_left hk] at this
    have h64 : 2 ^ k ≤ 2 ^ 6 := Nat.pow_le_pow_right (by decide) (by omega)
    have : 19 * 2 ^ k ≤ 19 * 2 ^ 6 := Nat.mul_le_mul_left _ h64
    omega
  have HB := Lib.hid hb
  clear hl h hs hb
  go_enter Try.func71, Try.ntmps71
  go_wp2_with fail
  go_loop [3, 11] (fun t i => ∃ k : Nat, k ≤ l ∧ i = .int .i64 k ∧ t = .int .i64 (Yd.bits (ss.take k) a : Nat)) (fun _ i => l - (intOf i).toNat)
  case atStart => exact ⟨0, Nat.zero_le _, rfl, by simp [Yd.bits]⟩
  case round =>
    obtain ⟨k, hk, rfl, rfl⟩ := hrel
    by_cases hlt : k < l
    · obtain ⟨x, hx⟩ : ∃ x, ss[k]? = some x := ⟨_, List.getElem?_eq_getElem (by rw [HL.out]; exact hlt)⟩
      have c0 := H1.out.get hlt hx
      have i1 : (0 : Int) ≤ (k : Int) := by omega
      have i2 : (k : Int) < (l : Int) := by omega
      have hxr := HS.out x (List.mem_of_getElem? hx)
      have hq := HB.out k hk
      have hn : Yd.bits (ss.take (k + 1)) a = 2 * Yd.bits (ss.take k) a + x.toNat := by rw [List.take_add_one, hx]; exact bits_snoc _ _ _
      have HN := Lib.hid hn
      clear hx hn
      generalize Yd.bits (ss.take k) a = q at *
      have i3 : (0 : Int) ≤ (q : Int) := by omega
      have i4 : (q : Int) ≤ 2000 := by omega
      have i5 : 0 ≤ x := hxr.1
      have i6 : x ≤ 1 := hxr.2
      clear hxr
      go_wp2_with fail
      go_round
      case rel => exact ⟨k + 1, by omega, by go_num, by rw [HN.out]; congr 1; omega⟩
      case measure => simp [intOf]; omega
    · obtain rfl : k = l := by omega
      rw [List.take_of_length_le (by rw [HL.out]; exact Nat.le_refl _)]
      generalize hq : Yd.bits ss a = q
      go_wp2_with fail
      go_ret
      exact ⟨by rw [num, hq]; rfl, by go_grown⟩

/-- Behind how many steps, less one, a run is there again. -/
def ctO (ks rs : List Int) (a : Nat) (ss : List Int) : Option Nat := (List.range 2000).find? fun i => decide (orb ks rs a ss (i + 1) = (a, ss))

def ctB (ks rs : List Int) (x : Int) (ss : List Int) : Bool := rnB ks rs x ss && (ctO ks rs x.toNat ss).isSome

def ctV (ks rs : List Int) (x : Int) (ss : List Int) : Int := if rnB ks rs x ss = true then (ctO ks rs x.toNat ss).elim 0 (fun i => (i : Int) + 1) else 0

theorem ctO_some {ks rs ss : List Int} {a k : Nat} (hk : k < 2000) (h : ∀ i, i < k → ¬ orb ks rs a ss (i + 1) = (a, ss)) (hp : orb ks rs a ss (k + 1) = (a, ss)) : ctO ks rs a ss = some k := by
  rw [ctO, List.find?_range_eq_some]
  exact ⟨by simpa using hp, by simpa using hk, fun j hj => by simpa using h j hj⟩

theorem ctO_none {ks rs ss : List Int} {a : Nat} (h : ∀ i, i < 2000 → ¬ orb ks rs a ss (i + 1) = (a, ss)) : ctO ks rs a ss = none := by
  rw [ctO, List.find?_eq_none]
  intro i hi
  simpa using h i (List.mem_range.1 hi)

end Go.Proofs.Ytoaccnpkobbaaaa
