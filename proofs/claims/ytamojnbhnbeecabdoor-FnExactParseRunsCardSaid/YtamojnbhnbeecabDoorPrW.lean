/- Contracts: ParseRuns of the program. -/
import Derived.Test.YtamojnbhnbeecabDoorPrV
namespace Go.Proofs.YtamojnbhnbeecabDoor
open Go.ChangeShapes Go.WideShapes Go.ChangeAt Go.RowKit

set_option linter.unusedVariables false

def prS (s : ByteArray) : ByteArray := ofL ((prP s).getD [])
def prB (s : ByteArray) : Bool := (prP s).isSome
theorem beq_data (a b : ByteArray) : (a.toList == b.data.toList) = decide (a = b) := by
  rw [Lib.toList_data, Bool.eq_iff_iff, beq_iff_eq, decide_eq_true_eq]
  constructor
  · intro h
    rw [← ofL_self a, h, ofL_self]
  · intro h
    rw [h]
theorem ret_pr {s x : ByteArray} {b : Bool} {l : Option (List UInt8)} (h : prP s = l) (hb : l.isSome = b) (hx : ofL (l.getD []) = x) : Ending.returned (.tuple #[.string x, .bool b]) = Ending.returned (.tuple #[.string (prS s), .bool (prB s)]) := by rw [prS, prB, h, hb, hx]

set_option maxRecDepth 100000 in
set_option maxHeartbeats 3200000 in
theorem imParseRuns {w0 : World} {tp1 tp2 : TypeId} {p1 p2 : Value} (hv1 : w0.var? Tryd.prog "strconv.ErrSyntax" = some #[.iface tp1 p1]) (hv2 : w0.var? Tryd.prog "strconv.ErrRange" = some #[.iface tp2 p2])
    (s : ByteArray) (hs : s.size ≤ 1048576) (w : World) (hb0 : Below w0.heap.size w0 w) :
    Calls Tryd.prog 8 #[.string s] w fun e w' => e = .returned (.tuple #[.string (prS s), .bool (prB s)]) ∧ Below w.heap.size w w' := by
  have UN := Lib.hid (unrolled_any hv1 hv2 s hs w hb0)
  clear hv1 hv2 hb0
  by_cases hd : s = ⟨#[45]⟩
  · have HR := Lib.hid (show prP s = some [] by simp [prP, hd])
    have hE : (s.toList == [45]) = true := (beq_data s ⟨#[45]⟩).trans (decide_eq_true hd)
    clear hd
    go_enter Tryd.func8, Tryd.ntmps8
    go_wp2_with fail
    go_ret2
    exact ⟨ret_pr HR.out rfl rfl, Below.refl _ _⟩
  · have hE : (s.toList == [45]) = false := (beq_data s ⟨#[45]⟩).trans (decide_eq_false hd)
    cases hu : unr [] s.data.toList with
    | none =>
      have HR := Lib.hid (show prP s = none by simp [prP, hd, hu])
      have U1 : unB s = false := by simp [unB, hu]
      have U2 : unP s = ⟨#[]⟩ := by simp [unP, hu, ofL]
      rw [U1, U2] at UN
      clear hd U1 U2 hu
      go_enter Tryd.func8, Tryd.ntmps8
      go_wp2_with (go_at_call 18; (with_reducible refine (UN.out).mono ?_); rintro e wA ⟨rfl, h1⟩; (try with_reducible replace h1 := undrew h1); have hB : Below w.heap.size w wA := ba (by go_grown) h1; obtain ⟨hcwA, hfwA⟩ := bcell h1; have hqwA := h1.size; (try simp at hqwA); (try have hz0wA : w.heap.size < wA.heap.size := (by omega)); (try have he0wA : w.heap.size ≤ wA.heap.size := (by omega)))
      go_ret2
      exact ⟨ret_pr HR.out rfl rfl, by go_grown⟩
    | some l =>
      have U1 : unB s = true := by simp [unB, hu]
      have U2 : unP s = ofL l := by simp [unP, hu]
      rw [U1, U2] at UN
      obtain ⟨g1, g2⟩ := unr_good _ _ [] _ (Nat.le_refl _) (by simp) (by simp) hu
      have tk := tk_list g1 g2
      have hrt : rtS (ofL l) = ruS (ofL l) := by simp [rtS, tk]
      have IR := imRunsText (ofL l) (by rw [ofL_size]; omega)
      rw [tk, hrt] at IR
      obtain ⟨x, hx⟩ : ∃ x, ruS (ofL l) = x := ⟨_, rfl⟩
      rw [hx] at IR
      have IR := Lib.hid IR
      by_cases hxs : x = s
      · have HR := Lib.hid (show prP s = some l by simp [prP, hd, hu, hx, hxs])
        have hE2 : (x.toList == s.toList) = true := (congrArg (x.toList == ·) (Lib.toList_data s)).trans ((beq_data x s).trans (decide_eq_true hxs))
        obtain ⟨y, hy⟩ : ∃ y, ofL l = y := ⟨_, rfl⟩
        have HY := Lib.hid hy
        rw [hy] at UN IR
        clear hd U1 U2 hu tk hrt hx g1 g2 hxs hy
        go_enter Tryd.func8, Tryd.ntmps8
        go_wp2_with (first | (go_at_call 18; (with_reducible refine (UN.out).mono ?_); rintro e wA ⟨rfl, h1⟩; (try with_reducible replace h1 := undrew h1); have hB : Below w.heap.size w wA := ba (by go_grown) h1; obtain ⟨hcwA, hfwA⟩ := bcell h1; have hqwA := h1.size; (try simp at hqwA); (try have hz0wA : w.heap.size < wA.heap.size := (by omega)); (try have he0wA : w.heap.size ≤ wA.heap.size := (by omega))) | (go_at_call 6; (with_reducible refine (IR.out _).mono ?_); rintro e wB ⟨rfl, h1⟩; (try with_reducible replace h1 := undrew h1); have hB : Below w.heap.size w wB := ba (by go_grown) h1; obtain ⟨hcwB, hfwB⟩ := bcell h1; have hqwB := h1.size; (try simp at hqwB); (try have hz0wB : w.heap.size < wB.heap.size := (by omega)); (try have he0wB : w.heap.size ≤ wB.heap.size := (by omega)); (try have hz1wB : wA.heap.size < wB.heap.size := (by omega)); (try have he1wB : wA.heap.size ≤ wB.heap.size := (by omega))))
        go_ret2
        exact ⟨ret_pr HR.out rfl HY.out, by go_grown⟩
      · have HR := Lib.hid (show prP s = none by simp [prP, hd, hu, hx, hxs])
        have hE2 : (x.toList == s.toList) = false := (congrArg (x.toList == ·) (Lib.toList_data s)).trans ((beq_data x s).trans (decide_eq_false hxs))
        obtain ⟨y, hy⟩ : ∃ y, ofL l = y := ⟨_, rfl⟩
        rw [hy] at UN IR
        clear hd U1 U2 hu tk hrt hx g1 g2 hxs hy
        go_enter Tryd.func8, Tryd.ntmps8
        go_wp2_with (first | (go_at_call 18; (with_reducible refine (UN.out).mono ?_); rintro e wA ⟨rfl, h1⟩; (try with_reducible replace h1 := undrew h1); have hB : Below w.heap.size w wA := ba (by go_grown) h1; obtain ⟨hcwA, hfwA⟩ := bcell h1; have hqwA := h1.size; (try simp at hqwA); (try have hz0wA : w.heap.size < wA.heap.size := (by omega)); (try have he0wA : w.heap.size ≤ wA.heap.size := (by omega))) | (go_at_call 6; (with_reducible refine (IR.out _).mono ?_); rintro e wB ⟨rfl, h1⟩; (try with_reducible replace h1 := undrew h1); have hB : Below w.heap.size w wB := ba (by go_grown) h1; obtain ⟨hcwB, hfwB⟩ := bcell h1; have hqwB := h1.size; (try simp at hqwB); (try have hz0wB : w.heap.size < wB.heap.size := (by omega)); (try have he0wB : w.heap.size ≤ wB.heap.size := (by omega)); (try have hz1wB : wA.heap.size < wB.heap.size := (by omega)); (try have he1wB : wA.heap.size ≤ wB.heap.size := (by omega))))
        go_ret2
        exact ⟨ret_pr HR.out rfl rfl, by go_grown⟩

end Go.Proofs.YtamojnbhnbeecabDoor
