/- Contract: the ends that a train passes, in the model. -/
import Derived.Test.YtoaccnpkobbaaaaYNm
import Derived.Test.YtoaccnpkobbaaaaYSo
import Derived.Maps.AppendAt
namespace Go.Proofs.Ytoaccnpkobbaaaa
open Go.ChangeShapes Go.WideShapes Go.ChangeAt Go.RowKit
open Yd

set_option linter.unusedVariables false

/-- The ends of the first n spots. -/
def enL (ks rs : List Int) (a : Nat) (ss : List Int) (n : Nat) : List Int := (List.range n).map fun i => ((orb ks rs a ss i).1 : Int)

theorem enL_len (ks rs : List Int) (a : Nat) (ss : List Int) (n : Nat) : (enL ks rs a ss n).length = n := by simp [enL]

theorem enL_succ (ks rs : List Int) (a : Nat) (ss : List Int) (n : Nat) : enL ks rs a ss (n + 1) = enL ks rs a ss n ++ [((orb ks rs a ss n).1 : Int)] := by simp [enL, List.range_succ]

theorem enL_succM (ks rs : List Int) (a : Nat) (ss : List Int) (n : Nat) : (enL ks rs a ss (n + 1)).map (Value.int .i64) = (enL ks rs a ss n).map (Value.int .i64) ++ [.int .i64 ((orb ks rs a ss n).1 : Nat)] := by rw [enL_succ, List.map_append]; rfl

theorem ydSteps_any (x : Int) (N : Int) (g c h d p q n m l : Nat) (ks rs ss : List Int) (hn : ks.length = n) (hm : rs.length = m) (hl : ss.length = l) (hb : n ≤ 2000000) (hb' : m ≤ 2000000) (hb2 : l ≤ 2000000) (w : World) (h1 : RL w g n ks) (h2 : RL w h m rs) (h3 : RL w p l ss) :
    Calls Try.prog 67 #[.agg #[.slice (some ⟨g, 0, none⟩) n c, .slice (some ⟨h, 0, none⟩) m d], .agg #[.int .i64 x, .slice (some ⟨p, 0, none⟩) l q], .int .i64 N] w fun e w' => e = .returned (.bool (rnB ks rs x ss && inB N 0 2000)) ∧ Below w.heap.size w w' := by
  have R := Lib.hid (fun w' (hw : Below w.heap.size w w') => ydRun_any x g c h d p q n m l ks rs ss hn hm hl hb hb' hb2 w' (h1.keep hw) (h2.keep hw) (h3.keep hw))
  clear hn hm hl h1 h2 h3
  cases hr : rnB ks rs x ss
  · have HR := Lib.hid hr
    go_enter Try.func67, Try.ntmps67
    go_wp2_with fail
    refine (R.out _ (by go_grown)).mono ?_
    rintro e w1 ⟨rfl, k1⟩
    rw [HR.out]
    have hB : Below w.heap.size w w1 := ba (by go_grown) k1
    clear k1
    go_wp2_with fail
    go_ret
    exact ⟨rfl, hB⟩
  · have HR := Lib.hid hr
    go_enter Try.func67, Try.ntmps67
    go_wp2_with fail
    refine (R.out _ (by go_grown)).mono ?_
    rintro e w1 ⟨rfl, k1⟩
    rw [HR.out]
    have hB : Below w.heap.size w w1 := ba (by go_grown) k1
    clear k1
    go_wp2_with (go_at_call 72; refine (l1In_any _ _ _ _).mono ?_; rintro e w' ⟨rfl, rfl⟩)
    go_ret
    exact ⟨rfl, hB⟩

theorem spEnds_no (x N : Int) (g c h d p q n m l : Nat) (ks rs ss : List Int) (hn : ks.length = n) (hm : rs.length = m) (hl : ss.length = l) (hb : n ≤ 2000000) (hb' : m ≤ 2000000) (hb2 : l ≤ 2000000) (hno : (rnB ks rs x ss && inB N 0 200) = false) (w : World) (h1 : RL w g n ks) (h2 : RL w h m rs) (h3 : RL w p l ss) :
    Calls Try.prog 33 #[.agg #[.slice (some ⟨g, 0, none⟩) n c, .slice (some ⟨h, 0, none⟩) m d], .agg #[.int .i64 x, .slice (some ⟨p, 0, none⟩) l q], .int .i64 N] w fun e w' => e = .returned (.tuple #[.slice none 0 0, .bool false]) ∧ Below w.heap.size w w' := by
  have R := Lib.hid (fun w' (hw : Below w.heap.size w w') => ydSteps_any x N g c h d p q n m l ks rs ss hn hm hl hb hb' hb2 w' (h1.keep hw) (h2.keep hw) (h3.keep hw))
  clear hn hm hl h1 h2 h3
  cases hs : (rnB ks rs x ss && inB N 0 2000)
  · have HS := Lib.hid hs
    go_enter Try.func33, Try.ntmps33
    go_wp2_with fail
    refine (R.out _ (by go_grown)).mono ?_
    rintro e w1 ⟨rfl, k1⟩
    rw [HS.out]
    have hB : Below w.heap.size w w1 := ba (by go_grown) k1
    clear k1
    go_wp2_with fail
    go_ret2
    exact ⟨rfl, hB⟩
  · have HS := Lib.hid hs
    have hN : 200 < N := by
      simp only [Bool.and_eq_true] at hs
      rw [hs.1, Bool.true_and] at hno
      have h1 := hs.2
      simp [inB] at h1 hno
      omega
    go_enter Try.func33, Try.ntmps33
    go_wp2_with fail
    refine (R.out _ (by go_grown)).mono ?_
    rintro e w1 ⟨rfl, k1⟩
    rw [HS.out]
    have hB : Below w.heap.size w w1 := ba (by go_grown) k1
    clear k1
    go_wp2_with fail
    go_ret2
    exact ⟨rfl, hB⟩

/-- What is known of the run that a model's loop goes on with. -/
structure RnAt (w wr : World) (b g c h d n m l : Nat) (x : Nat × List Int) : Prop where
  y0 : wr.cell? ⟨w.heap.size, 0, none⟩ = some (.slice (some ⟨g, 0, none⟩) n c)
  y1 : wr.cell? ⟨w.heap.size, 1, none⟩ = some (.slice (some ⟨h, 0, none⟩) m d)
  r0 : wr.cell? ⟨b, 0, none⟩ = some (.int .i64 (x.1 : Nat))
  f0 : wr.frozen? ⟨b, 0, none⟩ = false
  f1 : wr.frozen? ⟨b, 1, none⟩ = false
  row : ∃ q c', wr.cell? ⟨b, 1, none⟩ = some (.slice (some ⟨q, 0, none⟩) l c') ∧ RL wr q l x.2 ∧ q ≠ b
  lt : b < wr.heap.size
  ge : w.heap.size < b
  below : Below w.heap.size w wr

theorem RnAt.keep {w wr w2 : World} {b g c h d n m l : Nat} {x : Nat × List Int} (r : RnAt w wr b g c h d n m l x) (k : Below wr.heap.size wr w2) : RnAt w w2 b g c h d n m l x := by
  have hs := k.size
  have h1 := r.lt
  have h2 := r.ge
  obtain ⟨q, c', h3, h4, h5⟩ := r.row
  exact ⟨cl_below r.y0 (by omega) k, cl_below r.y1 (by omega) k, cl_below r.r0 h1 k, (k.frozen (p := ⟨b, 0, none⟩) h1).trans r.f0, (k.frozen (p := ⟨b, 1, none⟩) h1).trans r.f1,
    ⟨q, c', cl_below h3 h1 k, h4.keep k, h5⟩, by omega, h2, r.below.trans (k.mono r.below.size)⟩

/-- .. behind a call that grew a row of its own. -/
theorem RnAt.grown {w wr w2 : World} {b g c h d n m l : Nat} {x : Nat × List Int} {row : Option Nat} (r : RnAt w wr b g c h d n m l x) (k : wr.grownBy w2 row) (hrow : ∀ j, row = some j → b < j ∧ ∀ q c', wr.cell? ⟨b, 1, none⟩ = some (.slice (some ⟨q, 0, none⟩) l c') → q ≠ j) : RnAt w w2 b g c h d n m l x := by
  have h1 := r.lt
  have h2 := r.ge
  obtain ⟨q, c', h3, h4, h5⟩ := r.row
  have nb : some b ≠ row := fun e => by have := (hrow b e.symm).1; omega
  have nw : some w.heap.size ≠ row := fun e => by have := (hrow _ e.symm).1; omega
  have nq : some q ≠ row := fun e => (hrow q e.symm).2 q c' h3 rfl
  refine ⟨k.cell r.y0 nw, k.cell r.y1 nw, k.cell r.r0 nb, ?_, ?_, ⟨q, c', k.cell h3 nb, ?_, h5⟩, by have := k.size; omega, h2, r.below.grown k r.below.size (fun j hj => by have := (hrow j hj).1; omega)⟩
  · rw [World.frozen?_of_block (w := wr) (k.block b h1 nb)]; exact r.f0
  · rw [World.frozen?_of_block (w := wr) (k.block b h1 nb)]; exact r.f1
  · exact h4.of_block k.size (k.block q h4.lt nq)

/-- .. behind a step that is stored. -/
theorem RnAt.store {w wr : World} {b g c h d n m l : Nat} {x : Nat × List Int} (r : RnAt w wr b g c h d n m l x) (a' q1 c1 : Nat) (ss' : List Int) (hR : RL wr q1 l ss') (hq : b < q1) :
    RnAt w ((wr.setCell ⟨b, 0, none⟩ (.int .i64 (a' : Nat))).setCell ⟨b, 1, none⟩ (.slice (some ⟨q1, 0, none⟩) l c1)) b g c h d n m l (a', ss') := by
  have h1 := r.lt
  have h2 := r.ge
  obtain ⟨q, c', h3, h4, h5⟩ := r.row
  refine ⟨cl_set (cl_set r.y0 _ _ (by simp; omega)) _ _ (by simp; omega), cl_set (cl_set r.y1 _ _ (by simp; omega)) _ _ (by simp; omega), ?_, by simp [r.f0], by simp [r.f1],
    ⟨q1, c1, ?_, (hR.other (by simp; omega) _).other (by simp; omega) _, by omega⟩, by simpa using h1, h2, (r.below.setCell (by simp; omega) _).setCell (by simp; omega) _⟩
  · rw [World.cell?_setCell_other (h := by simp), World.cell?_setCell_same (h := r.r0)]
  · rw [World.cell?_setCell_same (h := (World.cell?_setCell_other (w := wr) (a := ⟨b, 0, none⟩) (b := ⟨b, 1, none⟩) _ (by simp)).trans h3)]

end Go.Proofs.Ytoaccnpkobbaaaa
