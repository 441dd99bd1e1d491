/- Contract: the spots of a run, in the program. -/
import Derived.Test.YtoaccnpkobbaaaaYSp
import Derived.Test.YtoaccnpkobbaaaaClZ
import Derived.Deep.AppendLies
import Derived.Deep.RegionLaw
import Derived.Laws.MakeOwn
namespace Go.Proofs.Ytoaccnpkobbaaaa
open Go.ChangeShapes Go.WideShapes Go.ChangeAt Go.RowKit
open Yd

set_option linter.unusedVariables false

/-- The cells of a spot, of a list of spots. -/
def spC (x : Nat × List Int) : List Value := Value.int .i64 (x.1 : Int) :: (pad6 x.2).map (Value.int .i64)

def spsC (l : List (Nat × List Int)) : List Value := l.flatMap spC

theorem spC_len {x : Nat × List Int} (h : x.2.length ≤ 6) : (spC x).length = 7 := by rw [spC, List.length_cons, List.length_map, pad6_len h]

/-- The first n spots of a run's orbit. -/
def orL (ks rs : List Int) (a : Nat) (ss : List Int) (n : Nat) : List (Nat × List Int) := (List.range n).map (orb ks rs a ss)

theorem orL_len (ks rs : List Int) (a : Nat) (ss : List Int) (n : Nat) : (orL ks rs a ss n).length = n := by simp [orL]

theorem orL_succ (ks rs : List Int) (a : Nat) (ss : List Int) (n : Nat) : orL ks rs a ss (n + 1) = orL ks rs a ss n ++ [orb ks rs a ss n] := by simp [orL, List.range_succ]

theorem orL_get {ks rs : List Int} {a : Nat} {ss : List Int} {n j : Nat} (h : j < n) : (orL ks rs a ss n)[j]? = some (orb ks rs a ss j) := by simp [orL, h]

theorem spsC_append (l m : List (Nat × List Int)) : spsC (l ++ m) = spsC l ++ spsC m := by simp [spsC]

theorem spsC_get : ∀ (l : List (Nat × List Int)) (j i : Nat) (x : Nat × List Int) (v : Value), (∀ y ∈ l, y.2.length ≤ 6) → l[j]? = some x → i < 7 → (spC x)[i]? = some v → (spsC l)[7 * j + i]? = some v
  | [], j, i, x, v, _, hx, _, _ => by simp at hx
  | y :: l, 0, i, x, v, h, hx, hi, hv => by
    simp at hx
    subst hx
    rw [spsC, List.flatMap_cons, List.getElem?_append_left (by rw [spC_len (h y (by simp))]; omega)]
    simpa using hv
  | y :: l, j + 1, i, x, v, h, hx, hi, hv => by
    have ih := spsC_get l j i x v (fun z hz => h z (by simp [hz])) (by simpa using hx) hi hv
    rw [spsC, List.flatMap_cons, List.getElem?_append_right (by rw [spC_len (h y (by simp))]; omega), spC_len (h y (by simp)), show 7 * (j + 1) + i - 7 = 7 * j + i by omega]
    exact ih

theorem spInfo : (Try.prog.info? 80).map (fun i => (i.zero, i.size, i.bytes)) = some (some (.agg #[.int .i64 0, .int .i64 0, .int .i64 0, .int .i64 0, .int .i64 0, .int .i64 0, .int .i64 0]), 7, 56) := by kernel_rfl

theorem own_cell {w : World} {B n g cap j : Nat} {e : TypeId} {xs : List Value} {v : Value} (h : w.ownsRow B e 7 (.slice (some ⟨g, 0, none⟩) n cap) n xs) (hj : xs[j]? = some v) : w.cell? ⟨g, j, none⟩ = some v := by
  rcases h.2 with ⟨h1, _⟩ | ⟨g', cap', cur, h1, _, hg, _, _, _, ht⟩
  · cases h1
  injection h1 with h1 _ _
  injection h1 with h1
  injection h1 with h1
  subst h1
  have h2 := hj
  rw [← ht, List.getElem?_take] at h2
  split at h2
  · rw [heap_cell hg]; simpa using h2
  · cases h2

theorem spC_six {x : Nat × List Int} (h : x.2.length ≤ 6) : ∃ x0 x1 x2 x3 x4 x5, spC x = [.int .i64 (x.1 : Int), .int .i64 x0, .int .i64 x1, .int .i64 x2, .int .i64 x3, .int .i64 x4, .int .i64 x5] ∧ spV x.1 x.2 = .agg #[.int .i64 (x.1 : Int), .int .i64 x0, .int .i64 x1, .int .i64 x2, .int .i64 x3, .int .i64 x4, .int .i64 x5] := by
  obtain ⟨x0, x1, x2, x3, x4, x5, hx⟩ := six_of (pad6_len h)
  exact ⟨x0, x1, x2, x3, x4, x5, by rw [spC, hx]; rfl, by rw [spV, hx]; rfl⟩

theorem one_spC (x : Nat × List Int) : ∀ u ∈ spC x, u.oneCell' = true := by
  intro u hu
  rw [spC, List.mem_cons] at hu
  rcases hu with rfl | hu
  · rfl
  · obtain ⟨y, _, rfl⟩ := List.mem_map.1 hu; rfl

theorem own_belowS {W w1 : World} {B : Nat} {e : TypeId} {size n : Nat} {v : Value} {xs : List Value} (h : W.ownsRow B e size v n xs) (hb : Below W.heap.size W w1) : w1.ownsRow B e size v n xs :=
  h.kept (row := none) ⟨hb.os, hb.tape, hb.output, hb.size, fun k hk _ => hb.block k hk⟩ (by cases v.ownBlock <;> simp)

/-- The spots of a run on a yard, n steps. -/
def SoPost (l : List (Nat × List Int)) (w : World) (e : Ending) (w' : World) : Prop :=
  ∃ g cap, e = .returned (.tuple #[.slice (some ⟨g, 0, none⟩) l.length cap, .bool true]) ∧ w.heap.size ≤ g ∧ w'.ownsRow w.heap.size 80 7 (.slice (some ⟨g, 0, none⟩) l.length cap) l.length (spsC l) ∧ Below w.heap.size w w'

theorem spotsOf_no (x : Int) (g c h d p q n m l : Nat) (N M : Int) (ks rs ss : List Int) (hn : ks.length = n) (hm : rs.length = m) (hl : ss.length = l) (hb : n ≤ 2000000) (hb' : m ≤ 2000000) (hb2 : l ≤ 2000000) (w : World) (h1 : RL w g n ks) (h2 : RL w h m rs) (h3 : RL w p l ss)
    (hno : rnB ks rs x ss = false ∨ inB N 0 M = false) :
    Calls Try.prog 69 #[.agg #[.slice (some ⟨g, 0, none⟩) n c, .slice (some ⟨h, 0, none⟩) m d], .agg #[.int .i64 x, .slice (some ⟨p, 0, none⟩) l q], .int .i64 N, .int .i64 M] w fun e w' => e = .returned (.tuple #[.slice none 0 0, .bool false]) ∧ Below w.heap.size w w' := by
  have R := Lib.hid (fun w' (hw : Below w.heap.size w w') => isRunOn_any x g c h d p q n m l ks rs ss hn hm hl hb hb' hb2 w' (h1.keep hw) (h2.keep hw) (h3.keep hw))
  clear hn hm hl h1 h2 h3
  rcases hno with hr | hi
  · have HR := Lib.hid hr
    clear hr
    go_enter Try.func69, Try.ntmps69
    go_wp2_with fail
    refine (R.out _ (by go_grown)).mono ?_
    rintro e w1 ⟨rfl, k1⟩
    rw [HR.out]
    have hB : Below w.heap.size w w1 := ba (by go_grown) k1
    clear k1
    go_wp2_with fail
    go_ret2
    exact ⟨rfl, hB⟩
  · cases hr : rnB ks rs x ss
    · have HR := Lib.hid hr
      go_enter Try.func69, Try.ntmps69
      go_wp2_with fail
      refine (R.out _ (by go_grown)).mono ?_
      rintro e w1 ⟨rfl, k1⟩
      rw [HR.out]
      have hB : Below w.heap.size w w1 := ba (by go_grown) k1
      clear k1
      go_wp2_with fail
      go_ret2
      exact ⟨rfl, hB⟩
    · have HR := Lib.hid hr
      go_enter Try.func69, Try.ntmps69
      go_wp2_with fail
      refine (R.out _ (by go_grown)).mono ?_
      rintro e w1 ⟨rfl, k1⟩
      rw [HR.out]
      have hB : Below w.heap.size w w1 := ba (by go_grown) k1
      clear k1
      go_wp2_with (go_at_call 61; refine (isInRange_any _ _ _ _).mono ?_; rintro e w' ⟨rfl, rfl⟩)
      go_ret2
      exact ⟨rfl, hB⟩

end Go.Proofs.Ytoaccnpkobbaaaa
