/- Contracts of the program: the block ahead; are the blocks clear that a signal looks at? -/
import Derived.Test.YtogimjbjdgccnaaDoorTrH
import Derived.BigQuiet
import Derived.Deep.QuietTactic
import Derived.LoopTactic
namespace Go.Proofs.YtogimjbjdgccnaaDoor
open Go.ChangeShapes Go.WideShapes Go.ChangeAt Go.RowKit
open Ln

set_option linter.unusedVariables false

theorem below_dw {w : World} (n m : Nat) : Below m w (w.drewN n) := ⟨rfl, rfl, rfl, Nat.le_refl _, fun _ _ => rfl⟩

theorem rem_nat (a n : Nat) : ((a : Nat) : Int).tmod (n : Int) = ((a % n : Nat) : Int) := by
  rw [Int.tmod_eq_emod_of_nonneg (by omega)]; rfl

set_option maxRecDepth 100000 in
theorem ahead_any (B E g n cap i k c : Nat) (s : Int) (cs : List Nat) (l : List UInt8) (hn : l.length = n) (n24 : n ≤ 24) (hi : i < n) (hk : k ≤ 24) (hc : cs[(i + k) % n]? = some c) (w : World) (hC : Cir B E g cs l w) :
    Calls Tryd.prog 101 #[.agg #[.slice (some ⟨g, 0, none⟩) n cap, .int .i64 s], .int .i64 i, .int .i64 k] w fun e w' => e = .returned (.chan (some c)) ∧ Below w.heap.size w w' := by
  have hrow := hC.row _ _ hc
  have hlt : (i + k) % n < n := Nat.mod_lt _ (by omega)
  have hrm := rem_nat (i + k) n
  rw [show ((i + k : Nat) : Int) = (i : Int) + (k : Int) by omega] at hrm
  have hgE := hC.gE
  have hle := hC.le
  have hgs : g < w.heap.size := by omega
  have hn0 : ((n : Int) == 0) = false := by simp; omega
  have hs1 : IntKind.i64.wrap ((i : Int) + (k : Int)) = (i : Int) + (k : Int) := by rw [IntKind.wrap_i64]; omega
  generalize (i + k) % n = j at *
  have j0 : (0 : Int) ≤ (j : Int) := by omega
  have j1 : (j : Int) < (n : Int) := by omega
  clear hC hc hi hk
  go_enter Tryd.func101, Tryd.ntmps101
  go_wp2_with fail
  go_quiet (fail)
  go_wp2_with fail
  go_ret
  exact ⟨rfl, (show Below w.heap.size w (w.alloc _) by go_grown).trans (below_dw _ _)⟩

theorem clr_all {l : List UInt8} {gp i s : Nat} (hs : s = min gp (l.length - 1)) (h : ∀ j, j < s → tr l ((i + (j + 1)) % l.length) = false) : clr l gp i = true := by
  rw [clr, List.all_eq_true, ← hs]
  intro k hk
  rw [h k (List.mem_range.1 hk)]; rfl

theorem clr_not {l : List UInt8} {gp i s k : Nat} (hs : s = min gp (l.length - 1)) (hk : k < s) (h : tr l ((i + (k + 1)) % l.length) = true) : clr l gp i = false := by
  rw [clr, List.all_eq_false, ← hs]
  exact ⟨k, List.mem_range.2 hk, by rw [h]; simp⟩

set_option maxRecDepth 100000 in
set_option maxHeartbeats 800000 in
theorem isClear_any (B E g n cap i gp s : Nat) (cs : List Nat) (l : List UInt8) (hn : l.length = n) (n24 : n ≤ 24) (hi : i < n) (hg1 : 1 ≤ gp) (hs : s = min gp (n - 1)) (w : World) (hB : B ≤ E) (hC : Cir B E g cs l w) :
    Calls Tryd.prog 90 #[.agg #[.slice (some ⟨g, 0, none⟩) n cap, .int .i64 s], .int .i64 i] w fun e w' => e = .returned (.bool (grn l gp i)) ∧ Cir B E g cs l w' ∧ Turn B E w w' := by
  have hle := hC.le
  have hCL := Lib.hid (fun (h : ∀ j, j < s → tr l ((i + (j + 1)) % n) = false) => show clr l gp i = true from clr_all (s := s) (by rw [hn]; exact hs) (by rw [hn]; exact h))
  have hCN := Lib.hid (fun (k : Nat) (hk : k < s) (h : tr l ((i + (k + 1)) % n) = true) => show clr l gp i = false from clr_not (s := s) (by rw [hn]; exact hs) hk (by rw [hn]; exact h))
  have hGR : grn l gp i = (decide (2 ≤ n) && clr l gp i) := by rw [grn, hn]
  have s24 : s ≤ 24 := by omega
  have A0 := Lib.hid (fun (k c : Nat) (wr : World) (h : k ≤ 24) (hc : cs[(i + k) % n]? = some c) (hr : Cir B E g cs l wr) => ahead_any B E g n cap i k c s cs l hn n24 hi h hc wr hr)
  have hd := Lib.hid (show decide (2 ≤ n) = decide (0 < s) by rw [decide_eq_decide]; omega)
  have CI := Lib.hid (fun k => show ∃ c, cs[(i + k) % n]? = some c from ⟨_, List.getElem?_eq_getElem (by rw [hC.len, hn]; exact Nat.mod_lt _ (by omega))⟩)
  have HC := Lib.hid hC
  have HG := Lib.hid hGR
  clear hC hGR hn hs
  go_enter Tryd.func90, Tryd.ntmps90
  go_wp2_with fail
  go_loopw [8] (fun v wr => ∃ k : Nat, k ≤ s ∧ v = .int .i64 k ∧ (∀ j, j < k → tr l ((i + (j + 1)) % n) = false) ∧ Cir B E g cs l wr ∧ Turn B E w wr ∧ wr.cell? ⟨w.heap.size, 0, none⟩ = some (.slice (some ⟨g, 0, none⟩) n cap) ∧ wr.cell? ⟨w.heap.size, 1, none⟩ = some (.int .i64 s) ∧ w.heap.size < wr.heap.size) (fun v _ => s - (intOf v).toNat)
  case atStart => exact ⟨0, Nat.zero_le _, rfl, fun j hj => absurd hj (by omega), HC.out.alloc _, Turn.of_below (by go_grown) (by omega), by go_simp, by go_simp, by simp⟩
  case round =>
    obtain ⟨k, hk, rfl, hall, hCr, hT, hc0, hc1, hsz⟩ := hrel
    have HA := Lib.hid hall
    have HCr := Lib.hid hCr
    have HT := Lib.hid hT
    have i0 : (0 : Int) ≤ (k : Int) := by omega
    clear hall hCr hT
    by_cases hlt : k < s
    · obtain ⟨c, hc⟩ := CI.out (k + 1)
      have A1 := A0.out (k + 1) c wr (by omega) hc HCr.out
      rw [show ((k + 1 : Nat) : Int) = (k : Int) + 1 by omega] at A1
      have HA1 := Lib.hid A1
      have HI := Lib.hid hc
      clear A1 hc
      go_wp2_with fail
      refine (HA1.out).mono ?_
      rintro e w1 ⟨rfl, h1⟩
      have C1 := HCr.out.below h1
      have T1 := HT.out.trans (Turn.of_below h1 (by have := HCr.out.le; omega))
      have d0 := (h1.cell (p := ⟨w.heap.size, 0, none⟩) hsz).trans hc0
      have d1 := (h1.cell (p := ⟨w.heap.size, 1, none⟩) hsz).trans hc1
      have z1 := Nat.lt_of_lt_of_le hsz h1.size
      have H0 := hasTrain_any B E g _ c cs l w1 C1 HI.out
      clear h1 hc0 hc1
      have HH := Lib.hid H0
      have HT1 := Lib.hid T1
      clear H0 C1 T1
      go_wp2_with fail
      refine (HH.out).mono ?_
      rintro e w2 ⟨rfl, C2, T2⟩
      have e0 := (T2.cell (b := w.heap.size) (o := 0) hle z1).trans d0
      have e1 := (T2.cell (b := w.heap.size) (o := 1) hle z1).trans d1
      have z2 := Nat.lt_of_lt_of_le z1 T2.low.size
      have HT2 := Lib.hid (HT1.out.trans T2)
      have HC2 := Lib.hid C2
      clear C2 T2 d0 d1
      cases ht : tr l ((i + (k + 1)) % n)
      · have HALL := Lib.hid (show ∀ j, j < k + 1 → tr l ((i + (j + 1)) % n) = false from fun j hj => by
          by_cases e : j = k
          · rw [e]; exact ht
          · exact HA.out j (by omega))
        clear ht
        go_wp2_with fail
        go_roundw
        case rel => exact ⟨k + 1, by omega, by go_num, HALL.out, HC2.out, HT2.out, e0, e1, z2⟩
        case measure => simp [intOf]; omega
      · have hcl := Lib.hid (hCN.out k hlt ht)
        clear ht
        go_wp2_with fail
        go_ret
        exact ⟨by rw [HG.out, hcl.out]; simp, HC2.out, HT2.out⟩
    · obtain rfl : k = s := by omega
      have hcl := Lib.hid (hCL.out HA.out)
      go_wp2_with fail
      go_ret
      exact ⟨by rw [HG.out, hcl.out, hd.out]; simp, HCr.out, HT.out⟩

end Go.Proofs.YtogimjbjdgccnaaDoor
