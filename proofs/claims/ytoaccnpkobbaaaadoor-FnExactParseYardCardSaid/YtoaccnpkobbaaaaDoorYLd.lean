/- Contracts: yards and runs compared, marked and looked at again, in the laws. -/
import Derived.Test.YtoaccnpkobbaaaaDoorYLc
import Derived.Test.YtoaccnpkobbaaaaDoorYLb
namespace Go.Proofs.YtoaccnpkobbaaaaDoor
open Go.ChangeShapes Go.WideShapes Go.ChangeAt Go.RowKit

set_option linter.unusedVariables false

set_option maxRecDepth 100000 in
set_option maxHeartbeats 800000 in
theorem eqYard_same (g c h d g' c' h' d' n m : Nat) (ks rs : List Int) (hn : ks.length = n) (hm : rs.length = m) (hb : n ≤ 2000000) (hb' : m ≤ 2000000) (w : World)
    (h1 : RL w g n ks) (h2 : RL w h m rs) (h1' : RL w g' n ks) (h2' : RL w h' m rs) :
    Calls Tryd.prog 9 #[.agg #[.slice (some ⟨g, 0, none⟩) n c, .slice (some ⟨h, 0, none⟩) m d], .agg #[.slice (some ⟨g', 0, none⟩) n c', .slice (some ⟨h', 0, none⟩) m d']] w fun e w' => e = .returned (.bool true) ∧ Below w.heap.size w w' := by
  have HN := Lib.hid hn
  have HM := Lib.hid hm
  have H1 := Lib.hid h1
  have H2 := Lib.hid h2
  have H1' := Lib.hid h1'
  have H2' := Lib.hid h2'
  clear hn hm h1 h2 h1' h2'
  go_enter Tryd.func9, Tryd.ntmps9
  go_wp2_with fail
  refine (eqIntS_all g c g' c' n ks HN.out hb _ (H1.out.keep (by go_grown)) (H1'.out.keep (by go_grown))).mono ?_
  rintro e w1 ⟨rfl, k1⟩
  have hB : Below w.heap.size w w1 := ba (by go_grown) k1
  obtain ⟨hc1, hf1⟩ := bcell k1
  have hq := k1.size
  simp at hq
  have z0 : w.heap.size < w1.heap.size := by omega
  have z1 : w.heap.size + 1 < w1.heap.size := by omega
  clear k1
  go_wp2_with fail
  refine (eqIntS_all h d h' d' m rs HM.out hb' _ (H2.out.keep hB) (H2'.out.keep hB)).mono ?_
  rintro e w2 ⟨rfl, k2⟩
  have hB2 := hB.trans (k2.mono hB.size)
  clear k2
  go_wp2_with fail
  go_ret
  exact ⟨rfl, hB2⟩

/-- The world grew, and of what was there the blocks g and h alone may have turned. -/
structure Apart2 (g h : Nat) (w w' : World) : Prop where
  os : w'.os = w.os
  tape : w'.tape = w.tape
  output : w'.output = w.output
  size : w.heap.size ≤ w'.heap.size
  block : ∀ b, b < w.heap.size → b ≠ g → b ≠ h → w'.heap[b]? = w.heap[b]?

theorem Apart2.of {g : Nat} {w w' : World} (h : w.grownBy w' (some g)) (k : Nat) : Apart2 g k w w' := ⟨h.os, h.tape, h.output, h.size, fun b hb hg _ => h.block b hb (by intro e; injection e with e; exact hg e)⟩

theorem Apart2.of' {g : Nat} {w w' : World} (h : w.grownBy w' (some g)) (k : Nat) : Apart2 k g w w' := ⟨h.os, h.tape, h.output, h.size, fun b hb _ hg => h.block b hb (by intro e; injection e with e; exact hg e)⟩

theorem Apart2.ofB {w w' : World} (h : Below w.heap.size w w') (g k : Nat) : Apart2 g k w w' := ⟨h.os, h.tape, h.output, h.size, fun b hb _ _ => h.block b hb⟩

theorem Apart2.trans {g h : Nat} {a b c : World} (x : Apart2 g h a b) (y : Apart2 g h b c) : Apart2 g h a c :=
  ⟨y.os.trans x.os, y.tape.trans x.tape, y.output.trans x.output, Nat.le_trans x.size y.size, fun k hk h1 h2 => (y.block k (Nat.lt_of_lt_of_le hk x.size) h1 h2).trans (x.block k hk h1 h2)⟩

theorem Apart2.below {g h N : Nat} {w w' : World} (x : Apart2 g h w w') (hN : N ≤ w.heap.size) (hg : N ≤ g) (hh : N ≤ h) : Below N w w' :=
  ⟨x.os, x.tape, x.output, x.size, fun b hb => x.block b (by omega) (by omega) (by omega)⟩

theorem RL.apart {g h k n : Nat} {w w' : World} {xs : List Int} (r : RL w k n xs) (x : Apart2 g h w w') (hg : k ≠ g) (hh : k ≠ h) : RL w' k n xs := r.of_block x.size (x.block k r.lt hg hh)

theorem Apart2.cell {g h : Nat} {w w' : World} {a : Addr} (x : Apart2 g h w w') (ha : a.block < w.heap.size) (hg : a.block ≠ g) (hh : a.block ≠ h) : w'.cell? a = w.cell? a := World.cell?_of_block (w := w) (x.block a.block ha hg hh)

set_option maxRecDepth 100000 in
set_option maxHeartbeats 800000 in
theorem markYard_at (g c h d n m : Nat) (k0 : Int) (ks rs : List Int) (hn : ks.length = n) (hm : rs.length = m) (hb : n ≤ 2000000) (hb' : m ≤ 2000000) (b0 : 0 ≤ k0) (b1 : k0 ≤ 10000000) (hne : g ≠ h) (w : World)
    (h1 : RL w g n ks) (h2 : RL w h m rs) :
    Calls Tryd.prog 12 #[.agg #[.slice (some ⟨g, 0, none⟩) n c, .slice (some ⟨h, 0, none⟩) m d], .int .i64 k0] w fun e w' => e = .returned (.int .i64 (k0 + n + m)) ∧ RL w' g n (mkL k0 n) ∧ RL w' h m (mkL (k0 + n) m) ∧ Apart2 g h w w' := by
  have HN := Lib.hid hn
  have HM := Lib.hid hm
  have hq1 := h1.lt
  have hq2 := h2.lt
  have H1 := Lib.hid h1
  have H2 := Lib.hid h2
  clear hn hm h1 h2
  go_enter Tryd.func12, Tryd.ntmps12
  go_wp2_with fail
  refine (markIntS_at g c n k0 ks HN.out hb b0 (by omega) _ (H1.out.keep (by go_grown))).mono ?_
  rintro e w1 ⟨rfl, r1, g1⟩
  have hz := g1.size
  simp at hz
  have c0 := g1.cell (a := ⟨w.heap.size, 1, none⟩) (v := .slice (some ⟨h, 0, none⟩) m d) (by simp [go_sem]) (by intro e; injection e with e; simp at e; omega)
  have R2 := Lib.hid (RL.of_block (H2.out.keep (by go_grown : Below w.heap.size w (w.alloc (.cells #[.slice (some ⟨g, 0, none⟩) n c, .slice (some ⟨h, 0, none⟩) m d] 28)))) g1.size (g1.block h (by simp; omega) (by intro e; injection e with e; omega)))
  have R1 := Lib.hid r1
  have G1 := Lib.hid ((Apart2.ofB (by go_grown : Below w.heap.size w (w.alloc (.cells #[.slice (some ⟨g, 0, none⟩) n c, .slice (some ⟨h, 0, none⟩) m d] 28))) g h).trans (Apart2.of g1 h))
  have z0 : w.heap.size < w1.heap.size := by omega
  clear r1 g1
  go_wp2_with fail
  refine (markIntS_at h d m (k0 + n) rs HM.out hb' (by omega) (by omega) _ R2.out).mono ?_
  rintro e w2 ⟨rfl, r2, g2⟩
  have R1' := Lib.hid (RL.of_block R1.out g2.size (g2.block g (by omega) (by intro e; injection e with e; exact hne e)))
  have R2' := Lib.hid r2
  have G2 := Lib.hid (G1.out.trans (Apart2.of' g2 g))
  clear r2 g2
  go_wp2_with fail
  go_ret
  exact ⟨rfl, R1'.out, R2'.out, G2.out⟩

end Go.Proofs.YtoaccnpkobbaaaaDoor
