/- Contracts: lists of numbers that came in, counted and copied, in the laws. -/
import Derived.Test.YtoaccnpkobbaaaaDoorIs
import Derived.Deep.OwnRows
namespace Go.Proofs.YtoaccnpkobbaaaaDoor
open Go.ChangeShapes Go.WideShapes Go.ChangeAt Go.RowKit

set_option linter.unusedVariables false

/-- The slice at a reads xs, below block N. -/
def RdA (N : Nat) (w : World) (a : Option Addr) (xs : List Int) : Prop := ∀ (j : Nat) x, xs[j]? = some x → ∃ b : Addr, a = some b ∧ b.block < N ∧ w.cell? (b.add j) = some (.int .i64 x)

theorem RdA.below {w w' : World} {N m : Nat} {a : Option Addr} {xs : List Int} (h : RdA N w a xs) (hg : N ≤ m) (hb : Below m w w') : RdA N w' a xs := fun j x hx => by
  obtain ⟨b, h1, h2, h3⟩ := h j x hx
  refine ⟨b, h1, h2, ?_⟩
  rw [hb.cell (by by_cases e : j = 0 <;> simp [Addr.add, e] <;> omega)]
  exact h3

/-- Block g begins with n numbers: those of xs, then zeros; nothing of them is frozen. -/
def RL (w : World) (g n : Nat) (xs : List Int) : Prop := g < w.heap.size ∧ ∀ j : Nat, j < n → w.cell? ⟨g, j, none⟩ = some (.int .i64 (xs.getD j 0)) ∧ w.frozen? ⟨g, j, none⟩ = false

theorem RL.lt {w : World} {g n : Nat} {xs : List Int} (h : RL w g n xs) : g < w.heap.size := h.1

theorem RL.cell {w : World} {g n j : Nat} {xs : List Int} (h : RL w g n xs) (hj : j < n) : w.cell? ⟨g, j, none⟩ = some (.int .i64 (xs.getD j 0)) := (h.2 j hj).1

theorem RL.get {w : World} {g n j : Nat} {x : Int} {xs : List Int} (h : RL w g n xs) (hj : j < n) (hx : xs[j]? = some x) : w.cell? ⟨g, j, none⟩ = some (.int .i64 x) := by
  rw [h.cell hj]
  simp [hx]

theorem RL.rowI {w : World} {g n : Nat} {xs : List Int} (h : RL w g n xs) (hn : xs.length = n) : RowI w g xs := fun j x hx => h.get (by rw [← hn]; exact (List.getElem?_eq_some_iff.1 hx).1) hx

theorem RL.free {w : World} {g n : Nat} {xs : List Int} (h : RL w g n xs) : FreeR w g n := fun j hj => (h.2 j hj).2

theorem RL.of_block {w w' : World} {g n : Nat} {xs : List Int} (h : RL w g n xs) (hz : w.heap.size ≤ w'.heap.size) (e : w'.heap[g]? = w.heap[g]?) : RL w' g n xs :=
  ⟨Nat.lt_of_lt_of_le h.1 hz, fun j hj => by
    rw [World.cell?_of_block (w := w) (a := ⟨g, j, none⟩) e, World.frozen?_of_block (w := w) (a := ⟨g, j, none⟩) e]
    exact h.2 j hj⟩

theorem RL.below {w w' : World} {g n m : Nat} {xs : List Int} (h : RL w g n xs) (hg : g < m) (hb : Below m w w') : RL w' g n xs := h.of_block hb.size (hb.block g hg)

theorem RL.keep {w w' : World} {g n : Nat} {xs : List Int} (h : RL w g n xs) (hb : Below w.heap.size w w') : RL w' g n xs := h.below h.lt hb

theorem RL.set {w : World} {g n : Nat} {xs : List Int} (h : RL w g n xs) (j : Nat) (hj : j < xs.length) (x : Int) : RL (w.setCell ⟨g, j, none⟩ (.int .i64 x)) g n (xs.set j x) :=
  ⟨by simpa using h.1, fun i hi => by
    refine ⟨?_, by rw [World.frozen?_setCell]; exact (h.2 i hi).2⟩
    by_cases e : j = i
    · subst e
      rw [World.cell?_setCell_same (h := h.cell hi)]
      simp [hj]
    · rw [World.cell?_setCell_other (h := fun q => e (by injection q)), h.cell hi]
      simp [e]⟩

theorem RL.other {w : World} {g n : Nat} {xs : List Int} (h : RL w g n xs) {a : Addr} (ha : g ≠ a.block) (v : Value) : RL (w.setCell a v) g n xs :=
  ⟨by simpa using h.1, fun i hi => ⟨by rw [World.cell?_setCell_other (h := fun q => ha (by rw [q]))]; exact h.cell hi, by rw [World.frozen?_setCell]; exact (h.2 i hi).2⟩⟩

theorem RL.shorter {w : World} {g n m : Nat} {xs : List Int} (h : RL w g n xs) (hm : m ≤ n) : RL w g m xs := ⟨h.1, fun j hj => h.2 j (by omega)⟩

theorem RL.of_row {w : World} {g n : Nat} {xs : List Int} (h : w.rowIs g 3 n fun j => .int .i64 (xs.getD j 0)) : RL w g n xs := ⟨World.rowIs.lt h, fun j hj => ⟨World.rowIs.cell h hj, World.rowIs.frozen h j⟩⟩

theorem RdA.mono {w : World} {N M : Nat} {a : Option Addr} {xs : List Int} (h : RdA N w a xs) (hM : N ≤ M) : RdA M w a xs := fun j x hx => by
  obtain ⟨b, h1, h2, h3⟩ := h j x hx
  exact ⟨b, h1, by omega, h3⟩

theorem numInfo : (Tryd.prog.info? 3).map (fun i => (i.zero, i.size, i.bytes)) = some (some (.int .i64 0), 1, 8) := by kernel_rfl

theorem mkInts (n : Nat) (hn : n ≤ 2000000) (w : World) : (Instr.makeSlice 22 (.int .i64 ((n : Nat) : Int)) (.int .i64 ((n : Nat) : Int))).run Tryd.prog w = .ok (.slice (some ⟨w.heap.size, 0, none⟩) n n) (w.alloc (.cells (madeCells #[.int .i64 0] n) 3)) :=
  run_make_row' (P := Tryd.prog) 22 3 (.int .i64 0) 8 Tryd.underlying22 numInfo rfl .i64 .i64 n (by omega) (by omega) w

theorem RL.made (w : World) (n : Nat) : RL (w.alloc (.cells (madeCells #[.int .i64 0] n) 3)) w.heap.size n (List.replicate n 0) := by
  refine RL.of_row (World.rowIs.congr (World.rowIs_made w (.int .i64 0) n 3) fun i hi => ?_)
  simp [hi]

set_option maxRecDepth 100000 in
theorem szIntS_any (a : Option Addr) (n c : Nat) (left : Int) (h0 : 0 ≤ left) (h1 : left ≤ 1048576) (hn : n ≤ 9223372036854775807) (w : World) :
    Calls Tryd.prog 14 #[.slice a n c, .int .i64 left] w fun e w' => e = .returned (.int .i64 (if (n : Int) ≤ left then left - n else -1)) ∧ w = w' := by
  by_cases h : (n : Int) ≤ left
  · have hc : ¬ left - (n : Int) < 0 := by omega
    rw [if_pos h]
    clear h
    go_enter Tryd.func14, Tryd.ntmps14
    go_wp2_with fail
    go_ret
    exact ⟨rfl, rfl⟩
  · have hc : left - (n : Int) < 0 := by omega
    rw [if_neg h]
    clear h
    go_enter Tryd.func14, Tryd.ntmps14
    go_wp2_with fail
    go_ret
    exact ⟨rfl, rfl⟩

theorem take_row {xs : List Int} {k n : Nat} {x : Int} (hx : xs[k]? = some x) (hk : k < n) : (xs.take k ++ List.replicate (n - k) 0).set k x = xs.take (k + 1) ++ List.replicate (n - (k + 1)) 0 := by
  have hl : (xs.take k).length = k := by rw [List.length_take]; have := (List.getElem?_eq_some_iff.1 hx).1; omega
  rw [List.set_append_right _ _ (by omega), hl, Nat.sub_self, show n - k = n - (k + 1) + 1 by omega, List.replicate_succ, List.set_cons_zero, List.take_add_one, hx, List.append_assoc]
  rfl

set_option maxRecDepth 100000 in
set_option maxHeartbeats 800000 in
theorem toIntS_any (a : Option Addr) (n c : Nat) (xs : List Int) (hn : xs.length = n) (hb : n ≤ 2000000) (w : World) (N : Nat) (hN : N ≤ w.heap.size) (h : RdA N w a xs) :
    Calls Tryd.prog 17 #[.slice a n c] w fun e w' => e = .returned (.slice (some ⟨w.heap.size, 0, none⟩) n n) ∧ RL w' w.heap.size n xs ∧ Below w.heap.size w w' := by
  have HN := Lib.hid hn
  have H1 := Lib.hid h
  have HM := Lib.hid (RL.made w n)
  clear hn h
  have hmk := mkInts n (by omega)
  go_enter Tryd.func17, Tryd.ntmps17
  go_wp2_with fail
  go_loopw [4] (fun i wr => ∃ k : Nat, k ≤ n ∧ i = .int .i64 k ∧ RL wr w.heap.size n (xs.take k ++ List.replicate (n - k) 0) ∧ Below w.heap.size w wr) (fun i _ => n - (intOf i).toNat)
  case atStart => exact ⟨0, Nat.zero_le _, rfl, HM.out, by go_grown⟩
  case round =>
    obtain ⟨k, hk, rfl, r1, hB⟩ := hrel
    have HB := Lib.hid hB
    have R1 := Lib.hid r1
    clear hB r1
    by_cases hlt : k < n
    · obtain ⟨x, hx⟩ : ∃ x, xs[k]? = some x := ⟨_, List.getElem?_eq_getElem (by rw [HN.out]; exact hlt)⟩
      obtain ⟨b, rfl, hb1, hb2⟩ := H1.out k x hx
      have c0 := HB.out.cell (p := b.add k) (by by_cases e : k = 0 <;> simp [Addr.add, e] <;> omega)
      rw [hb2] at c0
      obtain ⟨c1, e1⟩ : ∃ y, wr.cell? ⟨w.heap.size, k, none⟩ = some (.int .i64 y) := ⟨_, R1.out.cell hlt⟩
      have f1 := R1.out.free k hlt
      have R2 := Lib.hid (R1.out.set k (by rw [List.length_append, List.length_take, List.length_replicate, HN.out]; omega) x)
      rw [take_row hx hlt] at R2
      have i1 : (0 : Int) ≤ (k : Int) := by omega
      have i2 : (k : Int) < (n : Int) := by omega
      clear hb2 hx
      go_wp2_with fail
      go_roundw
      case rel => exact ⟨k + 1, by omega, by go_num, R2.out, HB.out.setCell (Nat.le_refl _) _⟩
      case measure => simp [intOf]; omega
    · obtain rfl : k = n := by omega
      rw [show xs.take k ++ List.replicate (k - k) 0 = xs by rw [List.take_of_length_le (by rw [HN.out]; exact Nat.le_refl _)]; simp] at R1
      go_wp2_with fail
      go_ret
      exact ⟨rfl, R1.out, HB.out⟩

end Go.Proofs.YtoaccnpkobbaaaaDoor
