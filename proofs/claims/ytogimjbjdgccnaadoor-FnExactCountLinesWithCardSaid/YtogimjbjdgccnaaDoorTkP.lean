/- Contracts of the model: many ticks; when a line comes again. -/
import Derived.Test.YtogimjbjdgccnaaDoorTkO
import Derived.Test.YtogimjbjdgccnaaDoorCoO
namespace Go.Proofs.YtogimjbjdgccnaaDoor
open Go.ChangeShapes Go.WideShapes Go.ChangeAt Go.RowKit
open Ln

set_option linter.unusedVariables false

theorem ofL_list (l : List UInt8) : (ofL l).data.toList = l := by simp [ofL]

theorem tnTick_on (l : List UInt8) (gp : Nat) (hl : LnOk l) (hg1 : 1 ≤ gp) (hg3 : gp ≤ 3) (w : World) :
    Calls Tryd.prog 61 #[.string (ofL l), .int .i64 gp] w fun e w' => e = .returned (.tuple #[.string (ofL (tk l gp)), .int .i64 (mvN l gp : Nat)]) ∧ Below w.heap.size w w' := by
  have := tnTick_any (ofL l) gp (by rw [ofL_list]; exact hl) hg1 hg3 w
  rwa [ofL_list] at this

set_option maxRecDepth 100000 in
set_option maxHeartbeats 800000 in
theorem tnAfter_any (l : List UInt8) (gp t : Nat) (hl : LnOk l) (hg1 : 1 ≤ gp) (hg3 : gp ≤ 3) (ht : t ≤ 10000) (w : World) :
    Calls Tryd.prog 63 #[.string (ofL l), .int .i64 gp, .int .i64 t] w fun e w' => e = .returned (.tuple #[.string (ofL (orb l gp t)), .int .i64 (mvT l gp t : Nat)]) ∧ Below w.heap.size w w' := by
  have TT := Lib.hid (fun k => tnTick_on (orb l gp k) gp (orb_ok hl gp k) hg1 hg3)
  have ML := Lib.hid (fun k => mvT_le hl gp k)
  have MN := Lib.hid (fun k => show mvN (orb l gp k) gp ≤ 24 from Nat.le_trans (mvN_le _ _) (orb_ok hl gp k).n24)
  clear hl
  go_enter Tryd.func63, Tryd.ntmps63
  go_wp2_with fail
  go_loopw [0, 2, 8] (fun a b m wr => ∃ k j : Nat, k + j = t ∧ a = .string (ofL (orb l gp k)) ∧ b = .int .i64 j ∧ m = .int .i64 (mvT l gp k : Nat) ∧ Below w.heap.size w wr) (fun _ b _ _ => (intOf b).toNat)
  case atStart => exact ⟨0, t, Nat.zero_add _, rfl, rfl, rfl, Below.refl _ _⟩
  case round =>
    obtain ⟨k, j, hkj, rfl, rfl, rfl, hB⟩ := hrel
    have HB := Lib.hid hB
    have ml := ML.out k
    have mn := MN.out k
    clear hB
    by_cases hj : 0 < j
    · have HS := Lib.hid (TT.out k wr)
      have E1 := Lib.hid (show mvT l gp (k + 1) = mvT l gp k + mvN (orb l gp k) gp from rfl)
      have E2 := Lib.hid (show orb l gp (k + 1) = tk (orb l gp k) gp from rfl)
      generalize mvT l gp k = M at *
      generalize mvN (orb l gp k) gp = N at *
      generalize tk (orb l gp k) gp = T at *
      have i0 : (0 : Int) ≤ (M : Int) := by omega
      have i1 : (M : Int) ≤ 240000 := by omega
      have i2 : (N : Int) ≤ 24 := by omega
      go_wp2_with fail
      refine (HS.out).mono ?_
      rintro e w1 ⟨rfl, h1⟩
      have HB1 := Lib.hid (HB.out.trans (h1.mono HB.out.size))
      clear h1
      go_wp2_with fail
      go_roundw
      case rel => exact ⟨k + 1, j - 1, by omega, by rw [E2.out], by go_num, by rw [E1.out]; go_num, HB1.out⟩
      case measure => simp [intOf]; omega
    · obtain rfl : j = 0 := by omega
      obtain rfl : k = t := by omega
      go_wp2_with fail
      go_ret2
      exact ⟨rfl, HB.out⟩

def rowS (l : List UInt8) (gp k : Nat) : List Value := (List.range (k + 1)).map fun i => .string (ofL (orb l gp i))

def rowM (l : List UInt8) (gp k : Nat) : List Value := (List.range (k + 1)).map fun i => .int .i64 (mvT l gp i : Nat)

theorem rowS_succ (l : List UInt8) (gp k : Nat) : rowS l gp (k + 1) = rowS l gp k ++ [.string (ofL (orb l gp (k + 1)))] := by simp [rowS, List.range_succ]

theorem rowM_succ (l : List UInt8) (gp k : Nat) : rowM l gp (k + 1) = rowM l gp k ++ [.int .i64 (mvT l gp (k + 1) : Nat)] := by simp [rowM, List.range_succ]

theorem rowS_get {l : List UInt8} {gp k i : Nat} (h : i ≤ k) : (rowS l gp k)[i]? = some (.string (ofL (orb l gp i))) := by
  have : i < k + 1 := by omega
  simp [rowS, this]

theorem rowM_get {l : List UInt8} {gp k i : Nat} (h : i ≤ k) : (rowM l gp k)[i]? = some (.int .i64 (mvT l gp i : Nat)) := by
  have : i < k + 1 := by omega
  simp [rowM, this]

theorem own_new (w : World) (B : Nat) (x : Value) (e : TypeId) (hB : B ≤ w.heap.size) : (w.alloc (.cells #[x] e)).ownsRow B e 1 (.slice (some ⟨w.heap.size, 0, none⟩) 1 1) 1 [x] :=
  ⟨rfl, .inr ⟨w.heap.size, 1, #[x], rfl, hB, heap_alloc_new w _, Nat.le_refl _, by unfold maxLen; decide, rfl, rfl⟩⟩

theorem own_some {W : World} {B : Nat} {e : TypeId} {n : Nat} {v : Value} {xs : List Value} (h : W.ownsRow B e 1 v n xs) (hn : 0 < n) : ∃ g cap, v = .slice (some ⟨g, 0, none⟩) n cap ∧ B ≤ g ∧ g < W.heap.size ∧ ∀ i x, xs[i]? = some x → W.cell? ⟨g, i, none⟩ = some x := by
  have h0 := h
  rcases h.2 with ⟨_, h0⟩ | ⟨g, cap, cur, rfl, hb, hg, _⟩
  · omega
  · refine ⟨g, cap, rfl, hb, (Array.getElem?_eq_some_iff.1 hg).1, fun i x hx => ?_⟩
    have := h0.cells (g := g) rfl i x hx
    have ha : ((⟨g, 0, none⟩ : Addr).add i) = ⟨g, i, none⟩ := by by_cases e : i = 0 <;> simp [Addr.add, e]
    rwa [ha] at this

end Go.Proofs.YtogimjbjdgccnaaDoor
