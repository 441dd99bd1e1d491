/- Contracts and facts, put together (part 2). Conditions: each says its own. -/
import Derived.Test.YtppbbcckijcckaaT1
import Derived.LoopTactic
import Derived.Outline
import Derived.Deep.QuietTactic
import Derived.BigQuiet
import Derived.Laws.AppendOwn
import Derived.Laws.OwnMore
import Derived.Deep.AppendLies
import Derived.ChangeSlices
import Derived.Deep.Slices
import Derived.Laws.MakeOwn

/- Contracts: lists of numbers compared, marked and looked at again. -/
namespace Go.Proofs.Ytppbbcckijcckaa
open Go.ChangeShapes Go.WideShapes Go.ChangeAt Go.RowKit

set_option linter.unusedVariables false

/-- Block g holds the numbers xs from its beginning on. -/
def RowI (w : World) (g : Nat) (xs : List Int) : Prop := ∀ (j : Nat) x, xs[j]? = some x → w.cell? ⟨g, j, none⟩ = some (.int .i64 x)

/-- .. the first n are the numbers from k on. -/
def RowK (w : World) (g n : Nat) (k : Int) : Prop := ∀ j : Nat, j < n → w.cell? ⟨g, j, none⟩ = some (.int .i64 (k + j))

def FreeR (w : World) (g n : Nat) : Prop := ∀ j : Nat, j < n → w.frozen? ⟨g, j, none⟩ = false

theorem RowI.below {w w' : World} {g m : Nat} {xs : List Int} (h : RowI w g xs) (hg : g < m) (hb : Below m w w') : RowI w' g xs := fun j x hx => by
  rw [hb.cell (p := ⟨g, j, none⟩) hg]; exact h j x hx

theorem RowK.below {w w' : World} {g n m : Nat} {k : Int} (h : RowK w g n k) (hg : g < m) (hb : Below m w w') : RowK w' g n k := fun j hj => by
  rw [hb.cell (p := ⟨g, j, none⟩) hg]; exact h j hj

theorem RowI.grown {w w' : World} {g : Nat} {row : Option Nat} {xs : List Int} (h : RowI w g xs) (hg : w.grownBy w' row) (hne : some g ≠ row) : RowI w' g xs := fun j x hx =>
  hg.cell (h j x hx) hne

theorem below_drawn {w : World} (n m : Nat) : Below m w (w.drewN n) := ⟨rfl, rfl, rfl, Nat.le_refl _, fun _ _ => rfl⟩

theorem set_grown {w wr : World} {g : Nat} (h : w.grownBy wr (some g)) (j : Nat) (v : Value) : w.grownBy (wr.setCell ⟨g, j, none⟩ v) (some g) :=
  ⟨h.os, h.tape, h.output, by simpa [World.setCell] using h.size, fun k hk hne => by rw [Below.heap_setCell _ _ _ _ (fun e => hne (by simp [e]))]; exact h.block k hk hne⟩

end Go.Proofs.Ytppbbcckijcckaa

/- What a list of numbers is, behind a call; the lists' contracts at nil. -/
namespace Go.Proofs.Ytppbbcckijcckaa
open Go.ChangeShapes Go.WideShapes Go.ChangeAt Go.RowKit

def NumPost (xs : List Int) (n : Nat) (w : World) (e : Ending) (w' : World) : Prop :=
  ∃ g cap, e = .returned (.tuple #[.slice (some ⟨g, 0, none⟩) n cap, .bool true]) ∧ w'.ownsRow w.heap.size 3 1 (.slice (some ⟨g, 0, none⟩) n cap) n (xs.map (Value.int .i64)) ∧ Below w.heap.size w w'

theorem rowI_of {w : World} {B g n cap : Nat} {e : TypeId} {xs : List Int} (h : w.ownsRow B e 1 (.slice (some ⟨g, 0, none⟩) n cap) n (xs.map (Value.int .i64))) (hn : xs.length = n) : RowI w g xs := fun j x hx => by
  have hj : j < n := by rw [← hn]; exact (List.getElem?_eq_some_iff.1 hx).1
  rw [h.cellAt j (by omega)]
  simp [hx]

theorem freeR_of {w : World} {B g n cap : Nat} {e : TypeId} {xs : List Value} (h : w.ownsRow B e 1 (.slice (some ⟨g, 0, none⟩) n cap) n xs) : FreeR w g n := fun j _ => h.frozenAt j

theorem freeR_below {w w' : World} {g n m : Nat} (h : FreeR w g n) (hg : g < m) (hb : Below m w w') : FreeR w' g n := fun j hj => by
  rw [hb.frozen (p := ⟨g, j, none⟩) hg]; exact h j hj

end Go.Proofs.Ytppbbcckijcckaa

/- Cells: two joints in two rows, handed on. -/
namespace Go.Proofs.Ytppbbcckijcckaa
open Go.ChangeShapes Go.WideShapes Go.ChangeAt Go.RowKit

section
variable {B0 B1 o p : Nat} {v0 v1 v2 v3 v4 v5 v6 v7 : Value} {W w1 : World}
theorem jj_below (h : W.cell? ⟨B0, o, none⟩ = some v0 ∧ W.cell? ⟨B0, o + 1, none⟩ = some v1 ∧ W.cell? ⟨B0, o + 2, none⟩ = some v2 ∧ W.cell? ⟨B0, o + 3, none⟩ = some v3 ∧ W.cell? ⟨B1, p, none⟩ = some v4 ∧ W.cell? ⟨B1, p + 1, none⟩ = some v5 ∧ W.cell? ⟨B1, p + 2, none⟩ = some v6 ∧ W.cell? ⟨B1, p + 3, none⟩ = some v7) (h0 : B0 < W.heap.size) (h1 : B1 < W.heap.size) (hb : Below W.heap.size W w1) : w1.cell? ⟨B0, o, none⟩ = some v0 ∧ w1.cell? ⟨B0, o + 1, none⟩ = some v1 ∧ w1.cell? ⟨B0, o + 2, none⟩ = some v2 ∧ w1.cell? ⟨B0, o + 3, none⟩ = some v3 ∧ w1.cell? ⟨B1, p, none⟩ = some v4 ∧ w1.cell? ⟨B1, p + 1, none⟩ = some v5 ∧ w1.cell? ⟨B1, p + 2, none⟩ = some v6 ∧ w1.cell? ⟨B1, p + 3, none⟩ = some v7 :=
  let ⟨k0, k1, k2, k3, k4, k5, k6, k7⟩ := h
  ⟨cl_below k0 h0 hb, cl_below k1 h0 hb, cl_below k2 h0 hb, cl_below k3 h0 hb, cl_below k4 h1 hb, cl_below k5 h1 hb, cl_below k6 h1 hb, cl_below k7 h1 hb⟩

theorem jj_alloc (h : W.cell? ⟨B0, o, none⟩ = some v0 ∧ W.cell? ⟨B0, o + 1, none⟩ = some v1 ∧ W.cell? ⟨B0, o + 2, none⟩ = some v2 ∧ W.cell? ⟨B0, o + 3, none⟩ = some v3 ∧ W.cell? ⟨B1, p, none⟩ = some v4 ∧ W.cell? ⟨B1, p + 1, none⟩ = some v5 ∧ W.cell? ⟨B1, p + 2, none⟩ = some v6 ∧ W.cell? ⟨B1, p + 3, none⟩ = some v7) (x : Obj) : (W.alloc x).cell? ⟨B0, o, none⟩ = some v0 ∧ (W.alloc x).cell? ⟨B0, o + 1, none⟩ = some v1 ∧ (W.alloc x).cell? ⟨B0, o + 2, none⟩ = some v2 ∧ (W.alloc x).cell? ⟨B0, o + 3, none⟩ = some v3 ∧ (W.alloc x).cell? ⟨B1, p, none⟩ = some v4 ∧ (W.alloc x).cell? ⟨B1, p + 1, none⟩ = some v5 ∧ (W.alloc x).cell? ⟨B1, p + 2, none⟩ = some v6 ∧ (W.alloc x).cell? ⟨B1, p + 3, none⟩ = some v7 :=
  let ⟨k0, k1, k2, k3, k4, k5, k6, k7⟩ := h
  ⟨cl_alloc k0 x, cl_alloc k1 x, cl_alloc k2 x, cl_alloc k3 x, cl_alloc k4 x, cl_alloc k5 x, cl_alloc k6 x, cl_alloc k7 x⟩

theorem jj_re {x : Obj} (h : (W.alloc x).cell? ⟨B0, o, none⟩ = some v0 ∧ (W.alloc x).cell? ⟨B0, o + 1, none⟩ = some v1 ∧ (W.alloc x).cell? ⟨B0, o + 2, none⟩ = some v2 ∧ (W.alloc x).cell? ⟨B0, o + 3, none⟩ = some v3 ∧ (W.alloc x).cell? ⟨B1, p, none⟩ = some v4 ∧ (W.alloc x).cell? ⟨B1, p + 1, none⟩ = some v5 ∧ (W.alloc x).cell? ⟨B1, p + 2, none⟩ = some v6 ∧ (W.alloc x).cell? ⟨B1, p + 3, none⟩ = some v7) (h0 : B0 < W.heap.size) (h1 : B1 < W.heap.size) (y : Obj) : (W.alloc y).cell? ⟨B0, o, none⟩ = some v0 ∧ (W.alloc y).cell? ⟨B0, o + 1, none⟩ = some v1 ∧ (W.alloc y).cell? ⟨B0, o + 2, none⟩ = some v2 ∧ (W.alloc y).cell? ⟨B0, o + 3, none⟩ = some v3 ∧ (W.alloc y).cell? ⟨B1, p, none⟩ = some v4 ∧ (W.alloc y).cell? ⟨B1, p + 1, none⟩ = some v5 ∧ (W.alloc y).cell? ⟨B1, p + 2, none⟩ = some v6 ∧ (W.alloc y).cell? ⟨B1, p + 3, none⟩ = some v7 :=
  let ⟨k0, k1, k2, k3, k4, k5, k6, k7⟩ := h
  ⟨cl_re k0 h0 y, cl_re k1 h0 y, cl_re k2 h0 y, cl_re k3 h0 y, cl_re k4 h1 y, cl_re k5 h1 y, cl_re k6 h1 y, cl_re k7 h1 y⟩

theorem jj_drew (h : W.cell? ⟨B0, o, none⟩ = some v0 ∧ W.cell? ⟨B0, o + 1, none⟩ = some v1 ∧ W.cell? ⟨B0, o + 2, none⟩ = some v2 ∧ W.cell? ⟨B0, o + 3, none⟩ = some v3 ∧ W.cell? ⟨B1, p, none⟩ = some v4 ∧ W.cell? ⟨B1, p + 1, none⟩ = some v5 ∧ W.cell? ⟨B1, p + 2, none⟩ = some v6 ∧ W.cell? ⟨B1, p + 3, none⟩ = some v7) : W.drew.cell? ⟨B0, o, none⟩ = some v0 ∧ W.drew.cell? ⟨B0, o + 1, none⟩ = some v1 ∧ W.drew.cell? ⟨B0, o + 2, none⟩ = some v2 ∧ W.drew.cell? ⟨B0, o + 3, none⟩ = some v3 ∧ W.drew.cell? ⟨B1, p, none⟩ = some v4 ∧ W.drew.cell? ⟨B1, p + 1, none⟩ = some v5 ∧ W.drew.cell? ⟨B1, p + 2, none⟩ = some v6 ∧ W.drew.cell? ⟨B1, p + 3, none⟩ = some v7 := h

theorem jj_undrew (h : W.drew.cell? ⟨B0, o, none⟩ = some v0 ∧ W.drew.cell? ⟨B0, o + 1, none⟩ = some v1 ∧ W.drew.cell? ⟨B0, o + 2, none⟩ = some v2 ∧ W.drew.cell? ⟨B0, o + 3, none⟩ = some v3 ∧ W.drew.cell? ⟨B1, p, none⟩ = some v4 ∧ W.drew.cell? ⟨B1, p + 1, none⟩ = some v5 ∧ W.drew.cell? ⟨B1, p + 2, none⟩ = some v6 ∧ W.drew.cell? ⟨B1, p + 3, none⟩ = some v7) : W.cell? ⟨B0, o, none⟩ = some v0 ∧ W.cell? ⟨B0, o + 1, none⟩ = some v1 ∧ W.cell? ⟨B0, o + 2, none⟩ = some v2 ∧ W.cell? ⟨B0, o + 3, none⟩ = some v3 ∧ W.cell? ⟨B1, p, none⟩ = some v4 ∧ W.cell? ⟨B1, p + 1, none⟩ = some v5 ∧ W.cell? ⟨B1, p + 2, none⟩ = some v6 ∧ W.cell? ⟨B1, p + 3, none⟩ = some v7 := h

theorem jj_set (h : W.cell? ⟨B0, o, none⟩ = some v0 ∧ W.cell? ⟨B0, o + 1, none⟩ = some v1 ∧ W.cell? ⟨B0, o + 2, none⟩ = some v2 ∧ W.cell? ⟨B0, o + 3, none⟩ = some v3 ∧ W.cell? ⟨B1, p, none⟩ = some v4 ∧ W.cell? ⟨B1, p + 1, none⟩ = some v5 ∧ W.cell? ⟨B1, p + 2, none⟩ = some v6 ∧ W.cell? ⟨B1, p + 3, none⟩ = some v7) (a : Addr) (u : Value) (h0 : a.block ≠ B0) (h1 : a.block ≠ B1) : (W.setCell a u).cell? ⟨B0, o, none⟩ = some v0 ∧ (W.setCell a u).cell? ⟨B0, o + 1, none⟩ = some v1 ∧ (W.setCell a u).cell? ⟨B0, o + 2, none⟩ = some v2 ∧ (W.setCell a u).cell? ⟨B0, o + 3, none⟩ = some v3 ∧ (W.setCell a u).cell? ⟨B1, p, none⟩ = some v4 ∧ (W.setCell a u).cell? ⟨B1, p + 1, none⟩ = some v5 ∧ (W.setCell a u).cell? ⟨B1, p + 2, none⟩ = some v6 ∧ (W.setCell a u).cell? ⟨B1, p + 3, none⟩ = some v7 :=
  let ⟨k0, k1, k2, k3, k4, k5, k6, k7⟩ := h
  ⟨cl_set k0 a u h0, cl_set k1 a u h0, cl_set k2 a u h0, cl_set k3 a u h0, cl_set k4 a u h1, cl_set k5 a u h1, cl_set k6 a u h1, cl_set k7 a u h1⟩
end

end Go.Proofs.Ytppbbcckijcckaa

/- An argument that is a list of points, opened. -/
namespace Go.Proofs.Ytppbbcckijcckaa
open Go.ChangeShapes Go.WideShapes Go.ChangeAt Go.RowKit Go.Joins Go.Deep

set_option linter.unusedVariables false

/-- Points that lie at an address, below block m. -/
def PdA (m : Nat) (w : World) (a : Option Addr) (l : List Pn) : Prop :=
  ∀ (j : Nat) (p : Pn), l[j]? = some p → ∃ ad, a = some ad ∧ ad.block < m ∧ w.cell? (ad.add (j * 4)) = some (.int .i64 p.a) ∧ w.cell? (ad.add (j * 4 + 1)) = some (.int .i64 p.b) ∧ w.cell? (ad.add (j * 4 + 2)) = some (.int .i64 p.c) ∧ w.cell? (ad.add (j * 4 + 3)) = some (.int .i64 p.d)

theorem add_block (a : Addr) (n : Nat) : (a.add n).block = a.block := by by_cases e : n = 0 <;> simp [Addr.add, e]

theorem add_add7 (a : Addr) (i j : Nat) : (a.add i).add j = a.add (i + j) := by
  by_cases e : i = 0 <;> by_cases f : j = 0 <;> simp [Addr.add, e, f, Nat.add_assoc]

theorem PdA.below {m n : Nat} {w w' : World} {a : Option Addr} {l : List Pn} (h : PdA m w a l) (hm : m ≤ n) (hb : Below n w w') : PdA m w' a l := fun j p hp => by
  obtain ⟨ad, e, hlt, c0, c1, c2, c3⟩ := h j p hp
  have k := fun (i : Nat) (v : Value) (hc : w.cell? (ad.add i) = some v) => show w'.cell? (ad.add i) = some v by
    rw [hb.cell (p := ad.add i) (by rw [add_block]; omega)]; exact hc
  exact ⟨ad, e, hlt, k _ _ c0, k _ _ c1, k _ _ c2, k _ _ c3⟩

set_option maxRecDepth 100000 in
theorem open_points {H : Type} {enc : TypeId × Value → H} {W : World} {base : Nat} {spare : Nat → Bool} {held : Bool} {r : Reach} {b0 : Nat} {v : Value} {d : DataW H} {p : List MemPlace}
    (hv : Value.okWide Try.prog W r b0 45 v) (h : DataW.Trod enc Try.prog W base spare held 45 v d p) : ∃ (a : Option Addr) (n c : Nat) (l : List Pn), v = .slice a n c ∧ l.length = n ∧ n ≤ maxLen ∧ PdA W.heap.size W a l := by
  obtain ⟨a0, len, cap, rfl⟩ := okWide_slice Try.underlying45 hv
  obtain ⟨fuel, hf⟩ := h
  have hf' : DataW.trod enc Try.prog W base spare held fuel 45 [.slice a0 len cap] = some (d, p) := by simpa [Value.cells] using hf
  have ce : Try.prog.cellsOf 23 = 4 := by kernel_rfl
  rcases open_slice Try.underlying45 hf' with ⟨hcs, _⟩ | ⟨a, l2, c2, m, n, D, Pl, hcs, hb, hl, hm, hmm, _, hx⟩
  · simp at hcs
    obtain ⟨rfl, rfl, rfl⟩ := hcs
    exact ⟨none, 0, 0, [], rfl, rfl, Nat.zero_le _, fun j x hx => by simp at hx⟩
  · simp at hcs
    obtain ⟨rfl, rfl, rfl⟩ := hcs
    have hlm : len ≤ m := by rw [hmm]; split <;> omega
    have each : ∀ i, i < len → ∃ q : Pn, W.cell? (a.add (i * 4)) = some (.int .i64 q.a) ∧ W.cell? (a.add (i * 4 + 1)) = some (.int .i64 q.b) ∧ W.cell? (a.add (i * 4 + 2)) = some (.int .i64 q.c) ∧ W.cell? (a.add (i * 4 + 3)) = some (.int .i64 q.d) := by
      intro i hi
      obtain ⟨cs', h1, h2⟩ := hx i (by omega)
      rw [ce] at h1
      obtain ⟨_, hlen, hcell⟩ := World.cells?_some h1
      obtain ⟨xs, k, hk, hxy, _, hxl, hff⟩ := DataW.trod_struct Try.underlying23 h2
      match cs', hlen with
      | [v0, v1, v2, v3], _ =>
        have e0 := hcell 0 (by omega)
        have e1 := hcell 1 (by omega)
        have e2 := hcell 2 (by omega)
        have e3 := hcell 3 (by omega)
        rw [add_add7] at e0 e1 e2 e3
        have c3 : Try.prog.cellsOf 3 = 1 := by kernel_rfl
        have g0 := hff 0 _ rfl
        have g1 := hff 1 _ rfl
        have g2 := hff 2 _ rfl
        have g3 := hff 3 _ rfl
        match xs, hxl with
        | [y0, y1, y2, y3], _ =>
        simp [c3] at g0 g1 g2 g3
        obtain ⟨a0, q0, _, _⟩ := DataW.trod_int Try.underlying3 g0
        obtain ⟨a1, q1, _, _⟩ := DataW.trod_int Try.underlying3 g1
        obtain ⟨a2, q2, _, _⟩ := DataW.trod_int Try.underlying3 g2
        obtain ⟨a3, q3, _, _⟩ := DataW.trod_int Try.underlying3 g3
        simp at q0 q1 q2 q3
        subst q0 q1 q2 q3
        exact ⟨⟨a0, a1, a2, a3⟩, by simpa using e0, by simpa using e1, by simpa using e2, by simpa using e3⟩
    obtain ⟨q, hq⟩ := choose_lt each
    refine ⟨some a, len, cap, (List.range len).map q, rfl, by simp, by omega, fun j p hp => ?_⟩
    have hj : j < len := by have := (List.getElem?_eq_some_iff.1 hp).1; simpa using this
    rw [List.getElem?_map, List.getElem?_range hj] at hp
    simp only [Option.map_some, Option.some.injEq] at hp
    subst hp
    have := hq j hj
    refine ⟨a, rfl, ?_, this⟩
    have hb1 := block_lt_of_cell this.1
    rwa [add_block] at hb1

end Go.Proofs.Ytppbbcckijcckaa

/- Contracts: lists of points in the laws: counted, copied, compared, marked and looked at again. -/
namespace Go.Proofs.Ytppbbcckijcckaa
open Go.ChangeShapes Go.WideShapes Go.ChangeAt Go.RowKit Go.Sort

set_option linter.unusedVariables false
set_option linter.unusedSimpArgs false

set_option maxRecDepth 100000 in
set_option maxHeartbeats 1600000 in
theorem eqPointS_same (g c g' c' n : Nat) (l : List Pn) (hn : l.length = n) (hb : n ≤ 2000000) (w : World) (hg : g < w.heap.size) (hg' : g' < w.heap.size) (h1 : RowP w g l) (h2 : RowP w g' l) :
    Calls Try.prog 43 #[.slice (some ⟨g, 0, none⟩) n c, .slice (some ⟨g', 0, none⟩) n c'] w fun e w' => e = .returned (.bool true) ∧ Below w.heap.size w w' := by
  have HN := Lib.hid hn
  have H1 := Lib.hid h1
  have H2 := Lib.hid h2
  clear hn h1 h2
  go_enter Try.func43, Try.ntmps43
  go_wp2_with fail
  go_loopw [5] (fun i wr => ∃ k : Nat, k ≤ n ∧ i = .int .i64 k ∧ Below w.heap.size w wr) (fun i _ => n - (intOf i).toNat)
  case atStart => exact ⟨0, Nat.zero_le _, rfl, Below.refl _ _⟩
  case round =>
    obtain ⟨k, hk, rfl, hB⟩ := hrel
    by_cases hlt : k < n
    · obtain ⟨p, hp⟩ : ∃ p, l[k]? = some p := ⟨_, List.getElem?_eq_getElem (by rw [HN.out]; exact hlt)⟩
      obtain ⟨c0, c1, c2, c3⟩ := (H1.out.below hg hB) k p hp
      obtain ⟨d0, d1, d2, d3⟩ := (H2.out.below hg' hB) k p hp
      obtain ⟨x0, x1, x2, x3⟩ := p
      simp only at c0 c1 c2 c3 d0 d1 d2 d3
      have hS0 : wr.cell? ⟨g, k * 4, none⟩ = some (.int .i64 x0) ∧ wr.cell? ⟨g, k * 4 + 1, none⟩ = some (.int .i64 x1) ∧ wr.cell? ⟨g, k * 4 + 2, none⟩ = some (.int .i64 x2) ∧ wr.cell? ⟨g, k * 4 + 3, none⟩ = some (.int .i64 x3) ∧ wr.cell? ⟨g', k * 4, none⟩ = some (.int .i64 x0) ∧ wr.cell? ⟨g', k * 4 + 1, none⟩ = some (.int .i64 x1) ∧ wr.cell? ⟨g', k * 4 + 2, none⟩ = some (.int .i64 x2) ∧ wr.cell? ⟨g', k * 4 + 3, none⟩ = some (.int .i64 x3) := ⟨c0, c1, c2, c3, d0, d1, d2, d3⟩
      have hz := hB.size
      have hgr : g < wr.heap.size := by omega
      have hgr' : g' < wr.heap.size := by omega
      have j1 : (0 : Int) ≤ (k : Int) := by omega
      have j2 : (k : Int) < (n : Int) := by omega
      clear hp c0 c1 c2 c3 d0 d1 d2 d3
      go_wp2_with fail
      go_region_held3 (fun w' => w'.cell? ⟨g, k * 4, none⟩ = some (.int .i64 x0) ∧ w'.cell? ⟨g, k * 4 + 1, none⟩ = some (.int .i64 x1) ∧ w'.cell? ⟨g, k * 4 + 2, none⟩ = some (.int .i64 x2) ∧ w'.cell? ⟨g, k * 4 + 3, none⟩ = some (.int .i64 x3) ∧ w'.cell? ⟨g', k * 4, none⟩ = some (.int .i64 x0) ∧ w'.cell? ⟨g', k * 4 + 1, none⟩ = some (.int .i64 x1) ∧ w'.cell? ⟨g', k * 4 + 2, none⟩ = some (.int .i64 x2) ∧ w'.cell? ⟨g', k * 4 + 3, none⟩ = some (.int .i64 x3))
        (first | (with_reducible assumption) | (with_reducible exact jj_drew hS0) | (with_reducible exact jj_drew (jj_alloc hS0 _)) | (with_reducible exact jj_alloc (jj_drew hS0) _) | (with_reducible refine jj_drew ?_; with_reducible assumption) | (with_reducible refine jj_alloc ?_ _; with_reducible assumption) | (with_reducible refine jj_re (by with_reducible assumption) ?_ ?_ _; (focus first | (with_reducible assumption) | omega | (simp; done) | (simp; omega)); (focus first | (with_reducible assumption) | omega | (simp; done) | (simp; omega))) | (with_reducible refine jj_below ?_ ?_ ?_ h1; (focus first | (with_reducible assumption) | (with_reducible refine jj_undrew ?_; with_reducible assumption)); (focus first | (with_reducible assumption) | omega | (simp; done) | (simp; omega)); (focus first | (with_reducible assumption) | omega | (simp; done) | (simp; omega))) | ((repeat (with_reducible refine jj_set ?_ _ _ ?_ ?_; rotate_left 1; (focus first | (with_reducible assumption) | omega | (simp; done) | (simp; omega)); (focus first | (with_reducible assumption) | omega | (simp; done) | (simp; omega)))); with_reducible assumption))
        ((go_at_call 48; (with_reducible refine (eqPoint_same x0 x1 x2 x3 _).mono ?_); rintro e wA ⟨rfl, h1⟩; (try with_reducible replace h1 := undrew h1); have hB : Below w.heap.size w wA := ba (by go_grown) h1; obtain ⟨hcwA, hfwA⟩ := bcell h1; have hqwA := h1.size; (try simp at hqwA); (try have hz0wA : g < wA.heap.size := (by omega)); (try have he0wA : g ≤ wA.heap.size := (by omega)); (try have hz1wA : g' < wA.heap.size := (by omega)); (try have he1wA : g' ≤ wA.heap.size := (by omega))))
      all_goals
        go_wp2_with fail
        go_roundw
        case rel => exact ⟨k + 1, by omega, by go_num, by go_grown⟩
        case measure => simp [intOf]; omega
    · go_wp2_with fail
      go_ret
      exact ⟨rfl, hB⟩

theorem eqPointS_nil (w : World) : Calls Try.prog 43 #[.slice none 0 0, .slice none 0 0] w fun e w' => e = .returned (.bool true) ∧ w = w' := by
  go_enter Try.func43, Try.ntmps43
  go_wp2_with fail
  refine wp_loop_rounds 1 ?_
  rw [rounds_succ]
  go_wp2_with fail
  go_ret
  exact ⟨rfl, rfl⟩

theorem markPointS_nil (w : World) : Calls Try.prog 44 #[.slice none 0 0, .int .i64 1] w fun e w' => e = .returned (.int .i64 1) ∧ w = w' := by
  go_enter Try.func44, Try.ntmps44
  go_wp2_with fail
  refine wp_loop_rounds 1 ?_
  rw [rounds_succ]
  go_wp2_with fail
  go_ret
  exact ⟨rfl, rfl⟩

theorem heldPointS_nil (w : World) : Calls Try.prog 45 #[.slice none 0 0, .int .i64 1] w fun e w' => e = .returned (.int .i64 1) ∧ w = w' := by
  go_enter Try.func45, Try.ntmps45
  go_wp2_with fail
  refine wp_loop_rounds 1 ?_
  rw [rounds_succ]
  go_wp2_with fail
  go_ret
  exact ⟨rfl, rfl⟩

theorem rowK_set {wr : World} {g m : Nat} (h : RowK wr g m 1) {v : Value} (hv : wr.cell? ⟨g, m, none⟩ = some v) : RowK (wr.setCell ⟨g, m, none⟩ (.int .i64 (1 + (m : Int)))) g (m + 1) 1 := fun j hj => by
  by_cases e : m = j
  · subst e
    rw [World.cell?_setCell_same (h := hv)]
  · rw [World.cell?_setCell_other (h := fun h => e (by injection h))]
    exact h j (by omega)

theorem cell_set {wr : World} {g m j : Nat} {v u : Value} (h : wr.cell? ⟨g, j, none⟩ = some v) (hne : m ≠ j) : (wr.setCell ⟨g, m, none⟩ u).cell? ⟨g, j, none⟩ = some v := by
  rw [World.cell?_setCell_other (h := fun h => hne (by injection h))]; exact h

theorem rowK_set4 {wr : World} {g k : Nat} (h : RowK wr g (k * 4) 1) {v0 v1 v2 v3 : Value} (h0 : wr.cell? ⟨g, k * 4, none⟩ = some v0) (h1 : wr.cell? ⟨g, k * 4 + 1, none⟩ = some v1) (h2 : wr.cell? ⟨g, k * 4 + 2, none⟩ = some v2) (h3 : wr.cell? ⟨g, k * 4 + 3, none⟩ = some v3)
    {a b c d : Int} (ea : a = 1 + 4 * (k : Int)) (eb : b = 1 + 4 * (k : Int) + 1) (ec : c = 1 + 4 * (k : Int) + 1 + 1) (ed : d = 1 + 4 * (k : Int) + 1 + 1 + 1) :
    RowK ((((wr.setCell ⟨g, k * 4, none⟩ (.int .i64 a)).setCell ⟨g, k * 4 + 1, none⟩ (.int .i64 b)).setCell ⟨g, k * 4 + 2, none⟩ (.int .i64 c)).setCell ⟨g, k * 4 + 3, none⟩ (.int .i64 d)) g ((k + 1) * 4) 1 := by
  obtain rfl : a = 1 + ((k * 4 : Nat) : Int) := by omega
  obtain rfl : b = 1 + ((k * 4 + 1 : Nat) : Int) := by omega
  obtain rfl : c = 1 + ((k * 4 + 2 : Nat) : Int) := by omega
  obtain rfl : d = 1 + ((k * 4 + 3 : Nat) : Int) := by omega
  have r0 := rowK_set h h0
  have r1 := rowK_set r0 (cell_set h1 (by omega))
  have r2 := rowK_set r1 (cell_set (cell_set h2 (by omega)) (by omega))
  have r3 := rowK_set r2 (cell_set (cell_set (cell_set h3 (by omega)) (by omega)) (by omega))
  rw [show (k + 1) * 4 = k * 4 + 3 + 1 by omega]
  exact r3

theorem jt_cells {w : World} {g : Nat} {l : List Pn} (h : RowP w g l) {k : Nat} (hk : k < l.length) : ∃ v0 v1 v2 v3, w.cell? ⟨g, k * 4, none⟩ = some v0 ∧ w.cell? ⟨g, k * 4 + 1, none⟩ = some v1 ∧ w.cell? ⟨g, k * 4 + 2, none⟩ = some v2 ∧ w.cell? ⟨g, k * 4 + 3, none⟩ = some v3 := by
  obtain ⟨a, b, c, d⟩ := h k _ (List.getElem?_eq_getElem hk)
  exact ⟨_, _, _, _, a, b, c, d⟩

set_option maxRecDepth 100000 in
set_option maxHeartbeats 1600000 in
theorem markPointS_any (g c n : Nat) (l : List Pn) (hn : l.length = n) (hb : n ≤ 2000000) (w : World) (h1 : RowP w g l) (hf : FreeR w g (n * 4)) :
    Calls Try.prog 44 #[.slice (some ⟨g, 0, none⟩) n c, .int .i64 1] w fun e w' => e = .returned (.int .i64 (1 + 4 * (n : Int))) ∧ RowK w' g (n * 4) 1 ∧ w.grownBy w' (some g) := by
  have HN := Lib.hid hn
  have H1 := Lib.hid h1
  have HF := Lib.hid hf
  clear hn h1 hf
  go_enter Try.func44, Try.ntmps44
  go_wp2_with fail
  go_loopw [1, 5] (fun t i wr => ∃ k : Nat, k ≤ n ∧ i = .int .i64 k ∧ t = .int .i64 (1 + 4 * (k : Int)) ∧ RowK wr g (k * 4) 1 ∧ (∀ j : Nat, k * 4 ≤ j → wr.cell? ⟨g, j, none⟩ = w.cell? ⟨g, j, none⟩) ∧ FreeR wr g (n * 4) ∧ w.grownBy wr (some g)) (fun _ i _ => n - (intOf i).toNat)
  case atStart => exact ⟨0, Nat.zero_le _, rfl, rfl, fun j hj => absurd hj (by omega), fun _ _ => rfl, HF.out, World.grownBy.refl _ _⟩
  case round =>
    obtain ⟨k, hk, rfl, rfl, r1, r2, r3, hG⟩ := hrel
    have R1 := Lib.hid r1
    have R2 := Lib.hid r2
    have R3 := Lib.hid r3
    have HG := Lib.hid hG
    clear r1 r2 r3 hG
    by_cases hlt : k < n
    · obtain ⟨v0, v1, v2, v3, e0, e1, e2, e3⟩ := jt_cells H1.out (k := k) (by rw [HN.out]; exact hlt)
      have c0 := (R2.out (k * 4) (by omega)).trans e0
      have c1 := (R2.out (k * 4 + 1) (by omega)).trans e1
      have c2 := (R2.out (k * 4 + 2) (by omega)).trans e2
      have c3 := (R2.out (k * 4 + 3) (by omega)).trans e3
      have f0 := R3.out (k * 4) (by omega)
      have f1 := R3.out (k * 4 + 1) (by omega)
      have f2 := R3.out (k * 4 + 2) (by omega)
      have f3 := R3.out (k * 4 + 3) (by omega)
      have C := Lib.hid (And.intro c0 (And.intro c1 (And.intro c2 c3)))
      clear e0 e1 e2 e3
      go_wp2_with fail
      go_roundw
      case rel =>
        refine ⟨k + 1, by omega, by go_num, by congr 1, rowK_set4 R1.out C.out.1 C.out.2.1 C.out.2.2.1 C.out.2.2.2 rfl rfl rfl rfl, fun j hj => ?_, fun j hj => ?_, set_grown (set_grown (set_grown (set_grown HG.out _ _) _ _) _ _) _ _⟩
        · rw [World.cell?_setCell_other (h := fun h => absurd (by injection h) (show ¬ k * 4 + 3 = j by omega)), World.cell?_setCell_other (h := fun h => absurd (by injection h) (show ¬ k * 4 + 2 = j by omega)), World.cell?_setCell_other (h := fun h => absurd (by injection h) (show ¬ k * 4 + 1 = j by omega)), World.cell?_setCell_other (h := fun h => absurd (by injection h) (show ¬ k * 4 = j by omega))]
          exact R2.out j (by omega)
        · rw [World.frozen?_setCell, World.frozen?_setCell, World.frozen?_setCell, World.frozen?_setCell]
          exact R3.out j hj
      case measure => simp [intOf]; omega
    · obtain rfl : k = n := by omega
      go_wp2_with fail
      go_ret
      exact ⟨rfl, R1.out, HG.out⟩

set_option maxRecDepth 100000 in
set_option maxHeartbeats 800000 in
theorem heldPointS_any (g c n : Nat) (hb : n ≤ 2000000) (w : World) (h1 : RowK w g (n * 4) 1) :
    Calls Try.prog 45 #[.slice (some ⟨g, 0, none⟩) n c, .int .i64 1] w fun e w' => e = .returned (.int .i64 (1 + 4 * (n : Int))) ∧ w = w' := by
  have H1 := Lib.hid h1
  clear h1
  go_enter Try.func45, Try.ntmps45
  go_wp2_with fail
  go_loop [1, 5] (fun t i => ∃ k : Nat, k ≤ n ∧ i = .int .i64 k ∧ t = .int .i64 (1 + 4 * (k : Int))) (fun _ i => n - (intOf i).toNat)
  case atStart => exact ⟨0, Nat.zero_le _, rfl, rfl⟩
  case round =>
    obtain ⟨k, hk, rfl, rfl⟩ := hrel
    by_cases hlt : k < n
    · have c0 : w.cell? ⟨g, k * 4, none⟩ = some (.int .i64 (1 + 4 * (k : Int))) := by rw [H1.out (k * 4) (by omega)]; congr 2; omega
      have c1 : w.cell? ⟨g, k * 4 + 1, none⟩ = some (.int .i64 (1 + 4 * (k : Int) + 1)) := by rw [H1.out (k * 4 + 1) (by omega)]; congr 2; omega
      have c2 : w.cell? ⟨g, k * 4 + 2, none⟩ = some (.int .i64 (1 + 4 * (k : Int) + 1 + 1)) := by rw [H1.out (k * 4 + 2) (by omega)]; congr 2; omega
      have c3 : w.cell? ⟨g, k * 4 + 3, none⟩ = some (.int .i64 (1 + 4 * (k : Int) + 1 + 1 + 1)) := by rw [H1.out (k * 4 + 3) (by omega)]; congr 2; omega
      go_wp2_with fail
      go_round
      case rel => exact ⟨k + 1, by omega, by go_num, by congr 1⟩
      case measure => simp [intOf]; omega
    · obtain rfl : k = n := by omega
      go_wp2_with fail
      go_ret
      exact ⟨rfl, rfl⟩

theorem add_pos7 (a : Addr) {i : Nat} (h : i ≠ 0) : a.add i = ⟨a.block, a.off + i, none⟩ := by simp [Addr.add, h]

set_option maxRecDepth 100000 in
theorem szPointS_any (a : Option Addr) (n c : Nat) (left : Int) (h0 : 0 ≤ left) (h1 : left ≤ 1048576) (hn : n ≤ 9223372036854775807) (w : World) :
    Calls Try.prog 39 #[.slice a n c, .int .i64 left] w fun e w' => e = .returned (.int .i64 (if (n : Int) ≤ left then left - n else -1)) ∧ w = w' := by
  by_cases h : (n : Int) ≤ left
  · have hc : ¬ left - (n : Int) < 0 := by omega
    rw [if_pos h]
    clear h
    go_enter Try.func39, Try.ntmps39
    go_wp2_with fail
    go_ret
    exact ⟨rfl, rfl⟩
  · have hc : left - (n : Int) < 0 := by omega
    rw [if_neg h]
    clear h
    go_enter Try.func39, Try.ntmps39
    go_wp2_with fail
    go_ret
    exact ⟨rfl, rfl⟩

theorem ptInfo3 : (Try.prog.info? 26).map (fun i => (i.zero, i.size, i.bytes)) = some (some (.agg #[.int .i64 0, .int .i64 0, .int .i64 0, .int .i64 0]), 4, 32) := by kernel_rfl

theorem mkPts (n : Nat) (hn : n ≤ 2000000) (w : World) : (Instr.makeSlice 47 (.int .i64 ((n : Nat) : Int)) (.int .i64 ((n : Nat) : Int))).run Try.prog w = .ok (.slice (some ⟨w.heap.size, 0, none⟩) n n) (w.alloc (.cells (madeCells #[.int .i64 0, .int .i64 0, .int .i64 0, .int .i64 0] (n * 4)) 26)) := by
  obtain ⟨i, hi, hzz⟩ := Option.map_eq_some_iff.1 ptInfo3
  simp only [Prod.mk.injEq] at hzz
  obtain ⟨hz, hs, hb⟩ := hzz
  have := run_make (P := Try.prog) w 47 26 i (.agg #[.int .i64 0, .int .i64 0, .int .i64 0, .int .i64 0]) Try.underlying47 hi hz .i64 .i64 n n (by omega) (by omega) (by rw [hb]; omega) (by omega)
  rw [hs] at this
  simpa [Value.cells] using this

/-- Block g holds room for n points. -/
def RoomP (w : World) (g n : Nat) : Prop := g < w.heap.size ∧ ∀ j, j < n * 4 → (∃ v, w.cell? ⟨g, j, none⟩ = some v) ∧ w.frozen? ⟨g, j, none⟩ = false

theorem RoomP.made (w : World) (n : Nat) : RoomP (w.alloc (.cells (madeCells #[.int .i64 0, .int .i64 0, .int .i64 0, .int .i64 0] (n * 4)) 26)) w.heap.size n :=
  ⟨by simp, fun j hj => ⟨⟨.int .i64 0, by
    rw [Lib.cell_of_heap (heap_alloc_new w _) j]
    have h4 : j % 4 = 0 ∨ j % 4 = 1 ∨ j % 4 = 2 ∨ j % 4 = 3 := by omega
    rcases h4 with h4 | h4 | h4 | h4 <;> simp [madeCells, hj, h4]⟩, by
    have := heap_alloc_new w (.cells (madeCells #[.int .i64 0, .int .i64 0, .int .i64 0, .int .i64 0] (n * 4)) 26)
    simp only [World.frozen?]
    rw [this]
    simp⟩⟩

theorem RoomP.below {w w' : World} {g n m : Nat} (h : RoomP w g n) (hg : g < m) (hb : Below m w w') : RoomP w' g n :=
  ⟨Nat.lt_of_lt_of_le h.1 hb.size, fun j hj => ⟨(by obtain ⟨v, hv⟩ := (h.2 j hj).1; exact ⟨v, by rw [hb.cell (p := ⟨g, j, none⟩) hg]; exact hv⟩), by rw [hb.frozen (p := ⟨g, j, none⟩) hg]; exact (h.2 j hj).2⟩⟩

theorem RoomP.set {w : World} {g n : Nat} (h : RoomP w g n) (a : Addr) (v : Value) : RoomP (w.setCell a v) g n :=
  ⟨by simpa using h.1, fun j hj => ⟨(by
    obtain ⟨u, hu⟩ := (h.2 j hj).1
    by_cases e : a = ⟨g, j, none⟩
    · subst e; exact ⟨v, by rw [World.cell?_setCell_same (h := hu)]⟩
    · exact ⟨u, by rw [World.cell?_setCell_other (h := e)]; exact hu⟩), by rw [World.frozen?_setCell]; exact (h.2 j hj).2⟩⟩

theorem RowP.put {w : World} {g n k : Nat} {l : List Pn} {x : Pn} (h : RowP w g (l.take k)) (hR : RoomP w g n) (hk : k < n) (hx : l[k]? = some x) :
    RowP ((((w.setCell ⟨g, k * 4, none⟩ (.int .i64 x.a)).setCell ⟨g, k * 4 + 1, none⟩ (.int .i64 x.b)).setCell ⟨g, k * 4 + 2, none⟩ (.int .i64 x.c)).setCell ⟨g, k * 4 + 3, none⟩ (.int .i64 x.d)) g (l.take (k + 1)) := fun j p hp => by
  have hj : j < k + 1 := by
    have := (List.getElem?_eq_some_iff.1 hp).1
    rw [List.length_take] at this; omega
  by_cases e : j = k
  · subst e
    have hlk : j < l.length := (List.getElem?_eq_some_iff.1 hx).1
    rw [List.getElem?_take_of_lt (by omega), hx] at hp
    simp only [Option.some.injEq] at hp
    subst hp
    obtain ⟨v0, h0⟩ := (hR.2 (j * 4) (by omega)).1
    obtain ⟨v1, h1⟩ := (hR.2 (j * 4 + 1) (by omega)).1
    obtain ⟨v2, h2⟩ := (hR.2 (j * 4 + 2) (by omega)).1
    obtain ⟨v3, h3⟩ := (hR.2 (j * 4 + 3) (by omega)).1
    have d1 := cell_set (m := j * 4) (u := .int .i64 x.a) h1 (by omega)
    have d2 := cell_set (m := j * 4 + 1) (u := .int .i64 x.b) (cell_set (m := j * 4) (u := .int .i64 x.a) h2 (by omega)) (by omega)
    have d3 := cell_set (m := j * 4 + 2) (u := .int .i64 x.c) (cell_set (m := j * 4 + 1) (u := .int .i64 x.b) (cell_set (m := j * 4) (u := .int .i64 x.a) h3 (by omega)) (by omega)) (by omega)
    exact ⟨cell_set (cell_set (cell_set (World.cell?_setCell_same _ _ _ h0) (by omega)) (by omega)) (by omega), cell_set (cell_set (World.cell?_setCell_same _ _ _ d1) (by omega)) (by omega), cell_set (World.cell?_setCell_same _ _ _ d2) (by omega), World.cell?_setCell_same _ _ _ d3⟩
  · rw [List.getElem?_take_of_lt (by omega)] at hp
    obtain ⟨c0, c1, c2, c3⟩ := h j p (by rw [List.getElem?_take_of_lt (by omega)]; exact hp)
    have k4 : ∀ (i : Nat) (v : Value), i < 4 → w.cell? ⟨g, j * 4 + i, none⟩ = some v → ((((w.setCell ⟨g, k * 4, none⟩ (.int .i64 x.a)).setCell ⟨g, k * 4 + 1, none⟩ (.int .i64 x.b)).setCell ⟨g, k * 4 + 2, none⟩ (.int .i64 x.c)).setCell ⟨g, k * 4 + 3, none⟩ (.int .i64 x.d)).cell? ⟨g, j * 4 + i, none⟩ = some v := fun i v hi hv =>
      cell_set (cell_set (cell_set (cell_set hv (by omega)) (by omega)) (by omega)) (by omega)
    exact ⟨k4 0 _ (by omega) c0, k4 1 _ (by omega) c1, k4 2 _ (by omega) c2, k4 3 _ (by omega) c3⟩

set_option maxRecDepth 100000 in
set_option maxHeartbeats 1600000 in
theorem toPointS_any (a : Option Addr) (n c : Nat) (l : List Pn) (hn : l.length = n) (hb : n ≤ 1048576) (w : World) (N : Nat) (hN : N ≤ w.heap.size) (h : PdA N w a l) :
    Calls Try.prog 41 #[.slice a n c] w fun e w' => e = .returned (.slice (some ⟨w.heap.size, 0, none⟩) n n) ∧ RowP w' w.heap.size l ∧ RoomP w' w.heap.size n ∧ Below w.heap.size w w' := by
  have HN := Lib.hid hn
  have H1 := Lib.hid h
  have HM := Lib.hid (RoomP.made w n)
  have hmk := mkPts n (by omega)
  clear hn h
  go_enter Try.func41, Try.ntmps41
  go_wp2_with fail
  go_loopw [4] (fun i wr => ∃ k : Nat, k ≤ n ∧ i = .int .i64 k ∧ RowP wr w.heap.size (l.take k) ∧ RoomP wr w.heap.size n ∧ Below w.heap.size w wr) (fun i _ => n - (intOf i).toNat)
  case atStart => exact ⟨0, Nat.zero_le _, rfl, fun j p hp => by simp at hp, HM.out, by go_grown⟩
  case round =>
    obtain ⟨k, hk, rfl, r1, m1, hB⟩ := hrel
    have HB := Lib.hid hB
    have R1 := Lib.hid r1
    have M1 := Lib.hid m1
    clear hB r1 m1
    by_cases hlt : k < n
    · obtain ⟨x, hx⟩ : ∃ x, l[k]? = some x := ⟨_, List.getElem?_eq_getElem (by rw [HN.out]; exact hlt)⟩
      obtain ⟨b, rfl, hb1, c0, c1, c2, c3⟩ := (H1.out.below hN HB.out) k x hx
      have HX := Lib.hid hx
      have hz := HB.out.size
      have hgr := M1.out.1
      have hbN : b.block < wr.heap.size := by omega
      have i1 : (0 : Int) ≤ (k : Int) := by omega
      have i2 : (k : Int) < (n : Int) := by omega
      rw [← add_add7] at c1 c2 c3
      rw [add_pos7 _ (by decide)] at c1 c2 c3
      obtain ⟨⟨v0, o0⟩, f0⟩ := M1.out.2 (k * 4) (by omega)
      obtain ⟨⟨v1, o1⟩, f1⟩ := M1.out.2 (k * 4 + 1) (by omega)
      obtain ⟨⟨v2, o2⟩, f2⟩ := M1.out.2 (k * 4 + 2) (by omega)
      obtain ⟨⟨v3, o3⟩, f3⟩ := M1.out.2 (k * 4 + 3) (by omega)
      have hBw := HB.out
      clear hx
      go_wp2_with fail
      (go_at_call 18; (with_reducible refine (toPoint_any x.a x.b x.c x.d _).mono ?_); rintro e w1 ⟨rfl, h1⟩; (try with_reducible replace h1 := undrew h1); have hB : Below w.heap.size w w1 := ba (by go_grown) h1; obtain ⟨hcw1, hfw1⟩ := bcell h1; have hqw1 := h1.size; (try simp at hqw1); (try have hz0w1 : w.heap.size < w1.heap.size := (by omega)); (try have he0w1 : w.heap.size ≤ w1.heap.size := (by omega)); have HB1 := Lib.hid hB; have HR1 := Lib.hid (R1.out.below hgr h1); have HM1 := Lib.hid (M1.out.below hgr h1))
      go_wp2_with fail
      go_roundw
      case rel => exact ⟨k + 1, by omega, by go_num, RowP.put HR1.out HM1.out hlt HX.out, (((HM1.out.set _ _).set _ _).set _ _).set _ _, (((HB1.out.setCell (Nat.le_refl _) _).setCell (Nat.le_refl _) _).setCell (Nat.le_refl _) _).setCell (Nat.le_refl _) _⟩
      case measure => simp [intOf]; omega
    · obtain rfl : k = n := by omega
      rw [List.take_of_length_le (by rw [HN.out]; exact Nat.le_refl _)] at R1
      go_wp2_with fail
      go_ret
      exact ⟨rfl, R1.out, M1.out, HB.out⟩

end Go.Proofs.Ytppbbcckijcckaa

/- The pair that is farthest apart: the norm of a difference; the fold over all pairs. All pure. -/
namespace Go.Proofs.Ytppbbcckijcckaa

set_option linter.unusedVariables false

/-- The norm. -/
def Pn.nm (p : Pn) : Su := ⟨p.a * p.a + p.b * p.b + p.c * p.c + p.d * p.d, p.a * p.b + p.b * p.c + p.c * p.d - p.a * p.d⟩

theorem four_nm (p q : Pn) : Ve.dt (Pn.vec q p) (Pn.vec q p) = (⟨4, 0⟩ : Su) * (p.sub q).nm := by
  apply Su.ext' <;> simp only [Ve.dt, Pn.vec, Pn.sub, Pn.nm, Su.add_x, Su.add_r, Su.mul_x, Su.mul_r] <;> grind

theorem dt_self_nn (u : Ve) : 0 ≤ (Ve.dt u u).sn ∧ ((Ve.dt u u).sn = 0 → u = 0) := by
  have hc : (Ve.cr u u).sn = 0 := by rw [Ve.cr_self]; rfl
  rcases Ve.lx_tri u with h | h | h
  · have := Su.sn_P (Ve.dt_pos h h hc)
    exact ⟨by omega, fun k => by omega⟩
  · subst h
    rw [Ve.dt_zero_l]
    exact ⟨by rw [Su.sn_0]; omega, fun _ => rfl⟩
  · have hc' : (Ve.cr (-u) (-u)).sn = 0 := by rw [Ve.cr_self]; rfl
    have := Su.sn_P (Ve.dt_pos h h hc')
    rw [Ve.dt_neg_l, Ve.dt_neg_r, Su.neg_neg'] at this
    exact ⟨by omega, fun k => by omega⟩

theorem nm_nn (p q : Pn) : 0 ≤ (p.sub q).nm.sn ∧ ((p.sub q).nm.sn = 0 → p = q) := by
  have h := dt_self_nn (Pn.vec q p)
  rw [four_nm, Su.sn_mul, show (⟨4, 0⟩ : Su).sn = 1 from by decide, Int.one_mul] at h
  exact ⟨h.1, fun k => (Pn.vec_zero.1 (h.2 k)).symm⟩

theorem nm_symm (p q : Pn) : (q.sub p).nm = (p.sub q).nm := by
  apply Su.ext' <;> simp only [Pn.sub, Pn.nm] <;> grind

theorem nm_self (p : Pn) : (p.sub p).nm = 0 := by
  apply Su.ext' <;> simp only [Pn.sub, Pn.nm, Su.zero_x, Su.zero_r] <;> grind

theorem nm_bd {p q : Pn} (hp : Bd 100000 p) (hq : Bd 100000 q) : Bs 1000000000000 (p.sub q).nm := by
  have h := hp.sub2 hq
  unfold Bd at h
  obtain ⟨⟨a0, a1⟩, ⟨b0, b1⟩, ⟨c0, c1⟩, ⟨d0, d1⟩⟩ := h
  have aa := mulb a0 a1 a0 a1; have bb := mulb b0 b1 b0 b1; have cc := mulb c0 c1 c0 c1; have dd := mulb d0 d1 d0 d1
  have ab := mulb a0 a1 b0 b1; have bc := mulb b0 b1 c0 c1; have cd := mulb c0 c1 d0 d1; have ad := mulb a0 a1 d0 d1
  unfold Bs Pn.nm
  simp only
  omega

/-- One pair more. -/
def fpF (acc x : Pn × Pn) : Pn × Pn := if 0 < ((x.1.sub x.2).nm - (acc.1.sub acc.2).nm).sn then x else acc

def fpI (a : Pn) (l : List Pn) (acc : Pn × Pn) : Pn × Pn := l.foldl (fun acc b => fpF acc (a, b)) acc

def fpO : List Pn → Pn × Pn → Pn × Pn
  | [], acc => acc
  | a :: t, acc => fpO t (fpI a t acc)

theorem fpI_drop {l : List Pn} {k : Nat} {b : Pn} (h : l[k]? = some b) (a : Pn) (acc : Pn × Pn) : fpI a (l.drop k) acc = fpI a (l.drop (k + 1)) (fpF acc (a, b)) := by
  obtain ⟨hk, e⟩ := List.getElem?_eq_some_iff.1 h
  rw [List.drop_eq_getElem_cons hk, e]; rfl

theorem fpO_drop {l : List Pn} {k : Nat} {a : Pn} (h : l[k]? = some a) (acc : Pn × Pn) : fpO (l.drop k) acc = fpO (l.drop (k + 1)) (fpI a (l.drop (k + 1)) acc) := by
  obtain ⟨hk, e⟩ := List.getElem?_eq_some_iff.1 h
  rw [List.drop_eq_getElem_cons hk, e]; rfl

theorem fpI_end {l : List Pn} {k : Nat} (h : l.length ≤ k) (a : Pn) (acc : Pn × Pn) : fpI a (l.drop k) acc = acc := by
  rw [List.drop_eq_nil_of_le h]; rfl

theorem fpO_end {l : List Pn} {k : Nat} (h : l.length ≤ k) (acc : Pn × Pn) : fpO (l.drop k) acc = acc := by
  rw [List.drop_eq_nil_of_le h]; rfl

theorem fpF_first {p b : Pn} : fpF (p, p) (p, b) = (p, b) := by
  unfold fpF
  split
  · rfl
  · rename_i h
    simp only [nm_self] at h
    have h0 := nm_nn p b
    have e : (p.sub b).nm - 0 = (p.sub b).nm := by apply Su.ext' <;> simp [Su.sub_x, Su.sub_r, Su.zero_x, Su.zero_r]
    rw [e] at h
    have := h0.2 (by omega)
    rw [← this]

theorem fpF_mem {l : List Pn} {acc x : Pn × Pn} (h : acc.1 ∈ l ∧ acc.2 ∈ l) (k : x.1 ∈ l ∧ x.2 ∈ l) : (fpF acc x).1 ∈ l ∧ (fpF acc x).2 ∈ l := by
  unfold fpF; split
  · exact k
  · exact h

/-- The norm is more than the least one that the model begins with. -/
theorem nm_more (p q : Pn) : 0 < ((p.sub q).nm - ⟨-1, 0⟩).sn := by
  have h := (nm_nn p q).1
  have e : (p.sub q).nm - ⟨-1, 0⟩ = (p.sub q).nm + ⟨1, 0⟩ := by
    apply Su.ext' <;> simp only [Su.sub_x, Su.sub_r, Su.add_x, Su.add_r] <;> omega
  rw [e]
  have h1 : (⟨1, 0⟩ : Su).sn = 1 := by decide
  have := Su.sn_add h (show 0 ≤ (⟨1, 0⟩ : Su).sn by rw [h1]; omega)
  by_cases hz : ((p.sub q).nm + ⟨1, 0⟩).sn = 0
  · have := (this.2 hz).2
    omega
  · omega

/-- Lists of one to twenty places. -/
def plsB (l : List Pn) : Bool := inB l.length 1 20 && l.all plB

/-- The two points that are farthest apart. -/
def fpR (l : List Pn) : Pn × Pn := cond (plsB l) (fpO l (l[0]!, l[0]!)) (⟨0, 0, 0, 0⟩, ⟨0, 0, 0, 0⟩)

end Go.Proofs.Ytppbbcckijcckaa

/- Contract: whether a number lies in a range. -/
namespace Go.Proofs.Ytppbbcckijcckaa
open Go.ChangeShapes Go.WideShapes Go.ChangeAt Go.RowKit

set_option maxRecDepth 100000 in
theorem isInRange_any (n lo hi : Int) (w : World) :
    Calls Try.prog 87 #[.int .i64 n, .int .i64 lo, .int .i64 hi] w fun e w' => e = .returned (.bool (inB n lo hi)) ∧ w = w' := by
  go_enter Try.func87, Try.ntmps87
  go_wp2
  · go_ret
    exact ⟨by simp [inB, *], rfl⟩
  · go_ret
    exact ⟨by simp [inB]; omega, rfl⟩

end Go.Proofs.Ytppbbcckijcckaa

/- Contracts: lists of one to twenty places, in the model; norms of differences. -/
namespace Go.Proofs.Ytppbbcckijcckaa
open Go.ChangeShapes Go.WideShapes Go.ChangeAt Go.RowKit Go.Sort

set_option linter.unusedVariables false
set_option linter.unusedSimpArgs false

set_option maxRecDepth 100000 in
set_option maxHeartbeats 1600000 in
theorem arPointsP (g n cap : Nat) (l : List Pn) (hn : l.length = n) (hb : n ≤ 1048576) (w : World) (hg : g < w.heap.size) (h1 : RowP w g l) :
    Calls Try.prog 85 #[.slice (some ⟨g, 0, none⟩) n cap] w fun e w' => e = .returned (.bool (plsB l)) ∧ Below w.heap.size w w' := by
  have HE := Lib.hid (show plsB l = (inB (n : Int) 1 20 && l.all plB) by unfold plsB; rw [hn])
  have HN := Lib.hid hn
  have H1 := Lib.hid h1
  clear hn h1
  cases hi : inB (n : Int) 1 20
  · have e : plsB l = false := by rw [HE.out, hi]; rfl
    rw [e]
    go_enter Try.func85, Try.ntmps85
    go_wp2_with (go_at_call 127; refine (l1In_any _ _ _ _).mono ?_; rintro e w' ⟨rfl, rfl⟩)
    go_ret
    exact ⟨rfl, Below.refl _ _⟩
  · have e : plsB l = l.all plB := by rw [HE.out, hi]; rfl
    rw [e]
    go_enter Try.func85, Try.ntmps85
    go_wp2_with (go_at_call 127; refine (l1In_any _ _ _ _).mono ?_; rintro e w' ⟨rfl, rfl⟩)
    go_loopw [11] (fun i wr => ∃ k : Nat, k ≤ n ∧ i = .int .i64 k ∧ (l.take k).all plB = true ∧ Below w.heap.size w wr) (fun i _ => n - (intOf i).toNat)
    case atStart => exact ⟨0, Nat.zero_le _, rfl, by simp, Below.refl _ _⟩
    case round =>
      obtain ⟨k, hk, rfl, hA, hB⟩ := hrel
      have HA := Lib.hid hA
      clear hA
      by_cases hlt : k < n
      · obtain ⟨p, hp⟩ : ∃ p, l[k]? = some p := ⟨_, List.getElem?_eq_getElem (by rw [HN.out]; exact hlt)⟩
        obtain ⟨c0, c1, c2, c3⟩ := (H1.out.below hg hB) k p hp
        have hz := hB.size
        have HP := Lib.hid hp
        clear hp
        have j1 : (0 : Int) ≤ (k : Int) := by omega
        have j2 : (k : Int) < (n : Int) := by omega
        have hS : (l.take (k + 1)).all plB = plB p := by
          rw [List.take_add_one, HP.out]; simp [HA.out]
        have hF : plB p = false → l.all plB = false := fun h => by
          rw [List.all_eq_false]; exact ⟨p, List.mem_of_getElem? HP.out, by simp [h]⟩
        have HS := Lib.hid hS
        have HF := Lib.hid hF
        have AG := arGoodP p
        clear hS hF
        cases b0 : plB p <;> rw [b0] at AG
        all_goals
          go_wp2_with (go_at_call 53; (with_reducible refine (AG _).mono ?_); rintro e w1 ⟨rfl, h1⟩; (try with_reducible replace h1 := undrew h1); have hB : Below w.heap.size w w1 := ba (by go_grown) h1; obtain ⟨hcw1, hfw1⟩ := bcell h1; have hqw1 := h1.size; (try simp at hqw1); (try have hz0w1 : w.heap.size < w1.heap.size := (by omega)); (try have he0w1 : w.heap.size ≤ w1.heap.size := (by omega)))
          first
            | (go_ret; exact ⟨by rw [HF.out b0]; rfl, by go_grown⟩)
            | (go_roundw
               case rel => exact ⟨k + 1, by omega, by go_num, by rw [HS.out]; exact b0, by go_grown⟩
               case measure => simp [intOf]; omega)
      · have hkn : k = n := by omega
        have hr : l.all plB = true := by
          have := HA.out
          rw [hkn, ← HN.out, List.take_length] at this
          exact this
        go_wp2_with fail
        go_ret
        exact ⟨by rw [hr]; rfl, hB⟩

theorem nm01 (p : Pn) (h : Bd 200000 p) : nm0 p.a p.b p.c p.d = p.nm.x ∧ nm1 p.a p.b p.c p.d = p.nm.r := by
  unfold Bd at h
  obtain ⟨⟨a0, a1⟩, ⟨b0, b1⟩, ⟨c0, c1⟩, ⟨d0, d1⟩⟩ := h
  have aa := mulb a0 a1 a0 a1; have bb := mulb b0 b1 b0 b1; have cc := mulb c0 c1 c0 c1; have dd := mulb d0 d1 d0 d1
  have ab := mulb a0 a1 b0 b1; have bc := mulb b0 b1 c0 c1; have cd := mulb c0 c1 d0 d1; have ad := mulb a0 a1 d0 d1
  unfold nm0 nm1 Pn.nm
  simp only
  rw [w64p (p.a * p.a) (by omega) (by omega), w64p (p.b * p.b) (by omega) (by omega), w64p (p.c * p.c) (by omega) (by omega), w64p (p.d * p.d) (by omega) (by omega), w64p (p.a * p.b) (by omega) (by omega), w64p (p.b * p.c) (by omega) (by omega), w64p (p.c * p.d) (by omega) (by omega), w64p (p.a * p.d) (by omega) (by omega)]
  rw [w64p (p.a * p.a + p.b * p.b) (by omega) (by omega), w64p (p.a * p.a + p.b * p.b + p.c * p.c) (by omega) (by omega), w64p (p.a * p.a + p.b * p.b + p.c * p.c + p.d * p.d) (by omega) (by omega), w64p (p.a * p.b + p.b * p.c) (by omega) (by omega), w64p (p.a * p.b + p.b * p.c + p.c * p.d) (by omega) (by omega), w64p (p.a * p.b + p.b * p.c + p.c * p.d - p.a * p.d) (by omega) (by omega)]
  exact ⟨rfl, rfl⟩

theorem spNmP (p : Pn) (h : Bd 200000 p) (w : World) : Calls Try.prog 95 #[pv p] w fun e w' => e = .returned (sv p.nm) ∧ Below w.heap.size w w' := by
  obtain ⟨e0, e1⟩ := nm01 p h
  have := spNorm_any p.a p.b p.c p.d w
  rw [e0, e1] at this
  exact this

theorem imNmP (p : Pn) (h : Bd 200000 p) (w : World) : Calls Try.prog 134 #[pv p] w fun e w' => e = .returned (sv p.nm) ∧ Below w.heap.size w w' := by
  obtain ⟨e0, e1⟩ := nm01 p h
  have := imNorm_any p.a p.b p.c p.d w
  rw [e0, e1] at this
  exact this

set_option maxRecDepth 100000 in
/-- The norm of a chord. -/
theorem chNormP (p q : Pn) (hp : Bd 100000 p) (hq : Bd 100000 q) (w : World) :
    Calls Try.prog 98 #[cv p q] w fun e w' => e = .returned (sv (p.sub q).nm) ∧ Below w.heap.size w w' := by
  have N := imNmP (q.sub p) (hq.sub2 hp)
  rw [nm_symm p q] at N
  go_enter Try.func98, Try.ntmps98
  go_wp2_with (first | (go_at_call 110; (with_reducible refine (imLessP q p (hq.mono (by omega)) (hp.mono (by omega)) _).mono ?_); rintro e w1 ⟨rfl, h1⟩; (try with_reducible replace h1 := undrew h1); have hB : Below w.heap.size w w1 := ba (by go_grown) h1; obtain ⟨hcw1, hfw1⟩ := bcell h1; have hqw1 := h1.size; (try simp at hqw1); (try have hz0w1 : w.heap.size < w1.heap.size := (by omega)); (try have he0w1 : w.heap.size ≤ w1.heap.size := (by omega)); (try have hz1w1 : w.heap.size + 1 < w1.heap.size := (by omega)); (try have he1w1 : w.heap.size + 1 ≤ w1.heap.size := (by omega))) | (go_at_call 134; (with_reducible refine (N _).mono ?_); rintro e w2 ⟨rfl, h1⟩; (try with_reducible replace h1 := undrew h1); have hB : Below w.heap.size w w2 := ba (by go_grown) h1; obtain ⟨hcw2, hfw2⟩ := bcell h1; have hqw2 := h1.size; (try simp at hqw2); (try have hz0w2 : w.heap.size < w2.heap.size := (by omega)); (try have he0w2 : w.heap.size ≤ w2.heap.size := (by omega)); (try have hz1w2 : w.heap.size + 1 < w2.heap.size := (by omega)); (try have he1w2 : w.heap.size + 1 ≤ w2.heap.size := (by omega))))
  refine bodyPost_ret (by simp [results, Try.results98, go_sem, *]; try rfl) rfl ?_
  exact ⟨rfl, by go_grown⟩

end Go.Proofs.Ytppbbcckijcckaa

/- Contracts: FarthestPair, in the model. -/
namespace Go.Proofs.Ytppbbcckijcckaa
open Go.ChangeShapes Go.WideShapes Go.ChangeAt Go.RowKit Go.Sort

set_option linter.unusedVariables false
set_option linter.unusedSimpArgs false

theorem plsB_n {l : List Pn} {n : Nat} (hn : l.length = n) (h : plsB l = true) : (1 ≤ n ∧ n ≤ 20) ∧ ∀ x ∈ l, Bd 100000 x := by
  unfold plsB inB at h
  simp only [Bool.and_eq_true, decide_eq_true_eq] at h
  refine ⟨by omega, fun x hx => plB_bd (List.all_eq_true.1 h.2 x hx)⟩

theorem fpR_no {l : List Pn} (h : plsB l = false) : fpR l = (⟨0, 0, 0, 0⟩, ⟨0, 0, 0, 0⟩) := by simp [fpR, h]

theorem fpR_yes {l : List Pn} {p : Pn} (h : plsB l = true) (h0 : l[0]? = some p) : fpR l = fpO (l.drop 0) (p, p) := by
  have : l[0]! = p := by
    rw [getElem!_pos l 0 (List.getElem?_eq_some_iff.1 h0).1]; exact (List.getElem?_eq_some_iff.1 h0).2
  simp [fpR, h, this]

/-- What the model's greatest norm tells of one pair more. -/
theorem fp_more {acc : Pn × Pn} {m : Su} {p0 a b : Pn} (hm : m = (acc.1.sub acc.2).nm ∨ (m = ⟨-1, 0⟩ ∧ acc = (p0, p0) ∧ a = p0)) :
    (0 < ((a.sub b).nm - m).sn → fpF acc (a, b) = (a, b)) ∧ (¬ 0 < ((a.sub b).nm - m).sn → fpF acc (a, b) = acc ∧ m = (acc.1.sub acc.2).nm) := by
  rcases hm with rfl | ⟨rfl, rfl, rfl⟩
  · refine ⟨fun h => ?_, fun h => ⟨?_, rfl⟩⟩
    · unfold fpF; rw [if_pos h]
    · unfold fpF; rw [if_neg h]
  · refine ⟨fun _ => fpF_first, fun h => absurd (nm_more _ _) h⟩

abbrev ptO (p : Pn) : Obj := .cells #[.int .i64 p.a, .int .i64 p.b, .int .i64 p.c, .int .i64 p.d] 26

theorem newpt7 (W : World) (p : Pn) : (W.alloc (ptO p)).cell? ⟨W.heap.size, 0, none⟩ = some (.int .i64 (p).a) ∧ (W.alloc (ptO p)).cell? ⟨W.heap.size, 1, none⟩ = some (.int .i64 (p).b) ∧ (W.alloc (ptO p)).cell? ⟨W.heap.size, 2, none⟩ = some (.int .i64 (p).c) ∧ (W.alloc (ptO p)).cell? ⟨W.heap.size, 3, none⟩ = some (.int .i64 (p).d) := ⟨by go_simp, by go_simp, by go_simp, by go_simp⟩

/-- The blocks of the two points and of the norm that are the greatest so far; the results' blocks as they were made. -/
structure FpAt (w X : World) (A B M : Nat) (P Q : Pn) (m : Su) : Prop where
  ca : X.cell? ⟨A, 0, none⟩ = some (.int .i64 (P).a) ∧ X.cell? ⟨A, 1, none⟩ = some (.int .i64 (P).b) ∧ X.cell? ⟨A, 2, none⟩ = some (.int .i64 (P).c) ∧ X.cell? ⟨A, 3, none⟩ = some (.int .i64 (P).d)
  cb : X.cell? ⟨B, 0, none⟩ = some (.int .i64 (Q).a) ∧ X.cell? ⟨B, 1, none⟩ = some (.int .i64 (Q).b) ∧ X.cell? ⟨B, 2, none⟩ = some (.int .i64 (Q).c) ∧ X.cell? ⟨B, 3, none⟩ = some (.int .i64 (Q).d)
  cm : X.cell? ⟨M, 0, none⟩ = some (.int .i64 (m).x) ∧ X.cell? ⟨M, 1, none⟩ = some (.int .i64 (m).r)
  fa : ∀ i, X.frozen? ⟨A, i, none⟩ = false
  fb : ∀ i, X.frozen? ⟨B, i, none⟩ = false
  fm : ∀ i, X.frozen? ⟨M, i, none⟩ = false
  c0 : X.cell? ⟨w.heap.size, 0, none⟩ = some (.int .i64 ((⟨0, 0, 0, 0⟩ : Pn)).a) ∧ X.cell? ⟨w.heap.size, 1, none⟩ = some (.int .i64 ((⟨0, 0, 0, 0⟩ : Pn)).b) ∧ X.cell? ⟨w.heap.size, 2, none⟩ = some (.int .i64 ((⟨0, 0, 0, 0⟩ : Pn)).c) ∧ X.cell? ⟨w.heap.size, 3, none⟩ = some (.int .i64 ((⟨0, 0, 0, 0⟩ : Pn)).d)
  c1 : X.cell? ⟨w.heap.size + 1, 0, none⟩ = some (.int .i64 ((⟨0, 0, 0, 0⟩ : Pn)).a) ∧ X.cell? ⟨w.heap.size + 1, 1, none⟩ = some (.int .i64 ((⟨0, 0, 0, 0⟩ : Pn)).b) ∧ X.cell? ⟨w.heap.size + 1, 2, none⟩ = some (.int .i64 ((⟨0, 0, 0, 0⟩ : Pn)).c) ∧ X.cell? ⟨w.heap.size + 1, 3, none⟩ = some (.int .i64 ((⟨0, 0, 0, 0⟩ : Pn)).d)
  f0 : ∀ i, X.frozen? ⟨w.heap.size, i, none⟩ = false
  f1 : ∀ i, X.frozen? ⟨w.heap.size + 1, i, none⟩ = false
  la : A < X.heap.size
  lb : B < X.heap.size
  lm : M < X.heap.size
  lw : w.heap.size + 1 < X.heap.size
  bl : Below w.heap.size w X

theorem FpAt.mono {w X X' : World} {A B M : Nat} {P Q : Pn} {m : Su} (h : FpAt w X A B M P Q m) (hb : Below X.heap.size X X') : FpAt w X' A B M P Q m := by
  obtain ⟨ca, cb, cm, fa, fb, fm, c0, c1, f0, f1, la, lb, lm, lw, bl⟩ := h
  have k : ∀ (b o : Nat) (v : Value), b < X.heap.size → X.cell? ⟨b, o, none⟩ = some v → X'.cell? ⟨b, o, none⟩ = some v := fun b o v hlt hv => by rw [hb.cell (p := ⟨b, o, none⟩) hlt]; exact hv
  have f : ∀ (b o : Nat), b < X.heap.size → X.frozen? ⟨b, o, none⟩ = false → X'.frozen? ⟨b, o, none⟩ = false := fun b o hlt hv => by rw [hb.frozen (p := ⟨b, o, none⟩) hlt]; exact hv
  have hz := hb.size
  exact ⟨⟨k _ _ _ la ca.1, k _ _ _ la ca.2.1, k _ _ _ la ca.2.2.1, k _ _ _ la ca.2.2.2⟩, ⟨k _ _ _ lb cb.1, k _ _ _ lb cb.2.1, k _ _ _ lb cb.2.2.1, k _ _ _ lb cb.2.2.2⟩, ⟨k _ _ _ lm cm.1, k _ _ _ lm cm.2⟩, fun i => f _ _ la (fa i), fun i => f _ _ lb (fb i), fun i => f _ _ lm (fm i),
    ⟨k _ _ _ (by omega) c0.1, k _ _ _ (by omega) c0.2.1, k _ _ _ (by omega) c0.2.2.1, k _ _ _ (by omega) c0.2.2.2⟩, ⟨k _ _ _ (by omega) c1.1, k _ _ _ (by omega) c1.2.1, k _ _ _ (by omega) c1.2.2.1, k _ _ _ (by omega) c1.2.2.2⟩, fun i => f _ _ (by omega) (f0 i), fun i => f _ _ (by omega) (f1 i), by omega, by omega, by omega, by omega, ba bl hb⟩

theorem FpAt.alloc {w X : World} {A B M : Nat} {P Q : Pn} {m : Su} (h : FpAt w X A B M P Q m) (o : Obj) : FpAt w (X.alloc o) A B M P Q m := h.mono ((Below.refl _ X).alloc (Nat.le_refl _) o)

theorem FpAt.put {w X : World} {A B M : Nat} {P Q P' Q' : Pn} {m m' : Su} (h : FpAt w X A B M P Q m) (nAB : ¬ A = B) (nAM : ¬ A = M) (nBM : ¬ B = M) (lA : w.heap.size + 1 < A) (lB : w.heap.size + 1 < B) (lM : w.heap.size + 1 < M) :
    FpAt w ((((((((((X.setCell ⟨A, 0, none⟩ (.int .i64 P'.a)).setCell ⟨A, 1, none⟩ (.int .i64 P'.b)).setCell ⟨A, 2, none⟩ (.int .i64 P'.c)).setCell ⟨A, 3, none⟩ (.int .i64 P'.d)).setCell ⟨B, 0, none⟩ (.int .i64 Q'.a)).setCell ⟨B, 1, none⟩ (.int .i64 Q'.b)).setCell ⟨B, 2, none⟩ (.int .i64 Q'.c)).setCell ⟨B, 3, none⟩ (.int .i64 Q'.d)).setCell ⟨M, 0, none⟩ (.int .i64 m'.x)).setCell ⟨M, 1, none⟩ (.int .i64 m'.r)) A B M P' Q' m' := by
  obtain ⟨⟨a0, a1, a2, a3⟩, ⟨b0, b1, b2, b3⟩, ⟨m0, m1⟩, fa, fb, fm, ⟨c0, c1, c2, c3⟩, ⟨d0, d1, d2, d3⟩, f0, f1, la, lb, lm, lw, bl⟩ := h
  have nBA : ¬ B = A := fun e => nAB e.symm
  have nMA : ¬ M = A := fun e => nAM e.symm
  have nMB : ¬ M = B := fun e => nBM e.symm
  have x0 : ¬ A = w.heap.size := by omega
  have x1 : ¬ B = w.heap.size := by omega
  have x2 : ¬ M = w.heap.size := by omega
  have x3 : ¬ A = w.heap.size + 1 := by omega
  have x4 : ¬ B = w.heap.size + 1 := by omega
  have x5 : ¬ M = w.heap.size + 1 := by omega
  refine ⟨⟨?_, ?_, ?_, ?_⟩, ⟨?_, ?_, ?_, ?_⟩, ⟨?_, ?_⟩, ?_, ?_, ?_, ⟨?_, ?_, ?_, ?_⟩, ⟨?_, ?_, ?_, ?_⟩, ?_, ?_, by simpa using la, by simpa using lb, by simpa using lm, by simpa using lw, ?_⟩
  any_goals (simp [go_sem, *]; done)
  exact (((((((((bl.setCell (by show w.heap.size ≤ A; omega) _).setCell (by show w.heap.size ≤ A; omega) _).setCell (by show w.heap.size ≤ A; omega) _).setCell (by show w.heap.size ≤ A; omega) _).setCell (by show w.heap.size ≤ B; omega) _).setCell (by show w.heap.size ≤ B; omega) _).setCell (by show w.heap.size ≤ B; omega) _).setCell (by show w.heap.size ≤ B; omega) _).setCell (by show w.heap.size ≤ M; omega) _).setCell (by show w.heap.size ≤ M; omega) _

set_option maxRecDepth 100000 in
set_option maxHeartbeats 6400000 in
theorem spFarthestPair (g n cap : Nat) (l : List Pn) (hn : l.length = n) (hb : n ≤ 1048576) (hcap : n ≤ cap) (w : World) (hg : g < w.heap.size) (h1 : RowP w g l) :
    Calls Try.prog 46 #[.slice (some ⟨g, 0, none⟩) n cap] w fun e w' => e = .returned (.tuple #[pv (fpR l).1, pv (fpR l).2, .bool (plsB l)]) ∧ Below w.heap.size w w' := by
  have AP := fun (W : World) (hW : Below w.heap.size w W) => arPointsP g n cap l hn hb W (Nat.lt_of_lt_of_le hg hW.size) (h1.below hg hW)
  cases hp : plsB l <;> rw [hp] at AP
  · rw [fpR_no hp]
    have HAP := Lib.hid AP
    clear h1 AP hn
    go_enter Try.func46, Try.ntmps46
    go_wp2_with fail
    (go_at_call 85; (with_reducible refine Calls.mono (HAP.out _ ?_) ?_); (focus (go_grown; done)); rintro e wA ⟨rfl, h1⟩; (try with_reducible replace h1 := undrew h1); have hB : Below w.heap.size w wA := ba (by go_grown) h1; obtain ⟨hcwA, hfwA⟩ := bcell h1; have hqwA := h1.size; (try simp at hqwA); (try have hz0wA : w.heap.size < wA.heap.size := (by omega)); (try have he0wA : w.heap.size ≤ wA.heap.size := (by omega)); (try have hz1wA : w.heap.size + 1 < wA.heap.size := (by omega)); (try have he1wA : w.heap.size + 1 ≤ wA.heap.size := (by omega)))
    have y0 : wA.cell? ⟨w.heap.size, 0, none⟩ = some (.int .i64 ((⟨0, 0, 0, 0⟩ : Pn)).a) ∧ wA.cell? ⟨w.heap.size, 1, none⟩ = some (.int .i64 ((⟨0, 0, 0, 0⟩ : Pn)).b) ∧ wA.cell? ⟨w.heap.size, 2, none⟩ = some (.int .i64 ((⟨0, 0, 0, 0⟩ : Pn)).c) ∧ wA.cell? ⟨w.heap.size, 3, none⟩ = some (.int .i64 ((⟨0, 0, 0, 0⟩ : Pn)).d) := ⟨by go_simp, by go_simp, by go_simp, by go_simp⟩
    have y1 : wA.cell? ⟨w.heap.size + 1, 0, none⟩ = some (.int .i64 ((⟨0, 0, 0, 0⟩ : Pn)).a) ∧ wA.cell? ⟨w.heap.size + 1, 1, none⟩ = some (.int .i64 ((⟨0, 0, 0, 0⟩ : Pn)).b) ∧ wA.cell? ⟨w.heap.size + 1, 2, none⟩ = some (.int .i64 ((⟨0, 0, 0, 0⟩ : Pn)).c) ∧ wA.cell? ⟨w.heap.size + 1, 3, none⟩ = some (.int .i64 ((⟨0, 0, 0, 0⟩ : Pn)).d) := ⟨by go_simp, by go_simp, by go_simp, by go_simp⟩
    have y2 : ∀ i, wA.frozen? ⟨w.heap.size, i, none⟩ = false := fun i => by go_simp
    have y3 : ∀ i, wA.frozen? ⟨w.heap.size + 1, i, none⟩ = false := fun i => by go_simp
    obtain ⟨y00, y01, y02, y03⟩ := y0
    obtain ⟨y10, y11, y12, y13⟩ := y1
    have HBA := Lib.hid hB
    clear hcwA hfwA hB
    go_wp2_with fail
    refine bodyPost_ret (by simp [results, Try.results46, go_sem, *]; try rfl) rfl ?_
    have hB := HBA.out
    exact ⟨rfl, by go_grown⟩
  · obtain ⟨⟨n1, n20⟩, hbd⟩ := plsB_n hn hp
    obtain ⟨p0, hp0⟩ : ∃ x, l[0]? = some x := ⟨_, List.getElem?_eq_getElem (by omega)⟩
    obtain ⟨R, hR⟩ : ∃ R, fpR l = R := ⟨_, rfl⟩
    have HS := Lib.hid (show fpO (l.drop 0) (p0, p0) = R by rw [← hR, fpR_yes hp hp0])
    rw [hR]
    have hp0m := List.mem_of_getElem? hp0
    have HAP := Lib.hid AP
    have HN := Lib.hid hn
    have H1 := Lib.hid h1
    have HM := Lib.hid hbd
    have HP0 := Lib.hid hp0
    have C0 := Lib.hid (h1 0 p0 hp0)
    have n2 : (0 : Int) < (n : Int) := by omega
    have n0 : 0 < n := by omega
    clear hR h1 AP hn hbd hp hp0
    go_enter Try.func46, Try.ntmps46
    go_wp2_with fail
    (go_at_call 85; (with_reducible refine Calls.mono (HAP.out _ ?_) ?_); (focus (go_grown; done)); rintro e wA ⟨rfl, h1⟩; (try with_reducible replace h1 := undrew h1); have hB : Below w.heap.size w wA := ba (by go_grown) h1; obtain ⟨hcwA, hfwA⟩ := bcell h1; have hqwA := h1.size; (try simp at hqwA); (try have hz0wA : w.heap.size < wA.heap.size := (by omega)); (try have he0wA : w.heap.size ≤ wA.heap.size := (by omega)); (try have hz1wA : w.heap.size + 1 < wA.heap.size := (by omega)); (try have he1wA : w.heap.size + 1 ≤ wA.heap.size := (by omega)))
    have hC0 := (H1.out.below hg hB) 0 p0 HP0.out
    simp only [Nat.zero_mul, Nat.zero_add] at hC0
    obtain ⟨c0, c1, c2, c3⟩ := hC0
    have y0 : wA.cell? ⟨w.heap.size, 0, none⟩ = some (.int .i64 ((⟨0, 0, 0, 0⟩ : Pn)).a) ∧ wA.cell? ⟨w.heap.size, 1, none⟩ = some (.int .i64 ((⟨0, 0, 0, 0⟩ : Pn)).b) ∧ wA.cell? ⟨w.heap.size, 2, none⟩ = some (.int .i64 ((⟨0, 0, 0, 0⟩ : Pn)).c) ∧ wA.cell? ⟨w.heap.size, 3, none⟩ = some (.int .i64 ((⟨0, 0, 0, 0⟩ : Pn)).d) := ⟨by go_simp, by go_simp, by go_simp, by go_simp⟩
    have y1 : wA.cell? ⟨w.heap.size + 1, 0, none⟩ = some (.int .i64 ((⟨0, 0, 0, 0⟩ : Pn)).a) ∧ wA.cell? ⟨w.heap.size + 1, 1, none⟩ = some (.int .i64 ((⟨0, 0, 0, 0⟩ : Pn)).b) ∧ wA.cell? ⟨w.heap.size + 1, 2, none⟩ = some (.int .i64 ((⟨0, 0, 0, 0⟩ : Pn)).c) ∧ wA.cell? ⟨w.heap.size + 1, 3, none⟩ = some (.int .i64 ((⟨0, 0, 0, 0⟩ : Pn)).d) := ⟨by go_simp, by go_simp, by go_simp, by go_simp⟩
    have y2 : ∀ i, wA.frozen? ⟨w.heap.size, i, none⟩ = false := fun i => by go_simp
    have y3 : ∀ i, wA.frozen? ⟨w.heap.size + 1, i, none⟩ = false := fun i => by go_simp
    obtain ⟨y00, y01, y02, y03⟩ := y0
    obtain ⟨y10, y11, y12, y13⟩ := y1
    have gA : g < wA.heap.size := Nat.lt_of_lt_of_le hg hB.size
    have HBA := Lib.hid hB
    clear hcwA hfwA hB
    go_wp2_with fail
    refine absW (F := fun W => (W.cell? ⟨g, 0, none⟩ = some (.int .i64 (p0).a) ∧ W.cell? ⟨g, 1, none⟩ = some (.int .i64 (p0).b) ∧ W.cell? ⟨g, 2, none⟩ = some (.int .i64 (p0).c) ∧ W.cell? ⟨g, 3, none⟩ = some (.int .i64 (p0).d)) ∧ (W.cell? ⟨w.heap.size, 0, none⟩ = some (.int .i64 ((⟨0, 0, 0, 0⟩ : Pn)).a) ∧ W.cell? ⟨w.heap.size, 1, none⟩ = some (.int .i64 ((⟨0, 0, 0, 0⟩ : Pn)).b) ∧ W.cell? ⟨w.heap.size, 2, none⟩ = some (.int .i64 ((⟨0, 0, 0, 0⟩ : Pn)).c) ∧ W.cell? ⟨w.heap.size, 3, none⟩ = some (.int .i64 ((⟨0, 0, 0, 0⟩ : Pn)).d)) ∧ (W.cell? ⟨w.heap.size + 1, 0, none⟩ = some (.int .i64 ((⟨0, 0, 0, 0⟩ : Pn)).a) ∧ W.cell? ⟨w.heap.size + 1, 1, none⟩ = some (.int .i64 ((⟨0, 0, 0, 0⟩ : Pn)).b) ∧ W.cell? ⟨w.heap.size + 1, 2, none⟩ = some (.int .i64 ((⟨0, 0, 0, 0⟩ : Pn)).c) ∧ W.cell? ⟨w.heap.size + 1, 3, none⟩ = some (.int .i64 ((⟨0, 0, 0, 0⟩ : Pn)).d)) ∧ (∀ i, W.frozen? ⟨w.heap.size, i, none⟩ = false) ∧ (∀ i, W.frozen? ⟨w.heap.size + 1, i, none⟩ = false) ∧ g < W.heap.size ∧ w.heap.size + 1 < W.heap.size ∧ Below w.heap.size w W) ⟨⟨c0, c1, c2, c3⟩, ⟨y00, y01, y02, y03⟩, ⟨y10, y11, y12, y13⟩, y2, y3, gA, hz1wA, HBA.out⟩ ?_
    rintro W ⟨⟨a0, a1, a2, a3⟩, ⟨b0, b1, b2, b3⟩, ⟨d0, d1, d2, d3⟩, fr0, fr1, gW, zW, HBW⟩
    have HBW := Lib.hid HBW
    clear c0 c1 c2 c3 y00 y01 y02 y03 y10 y11 y12 y13 y2 y3
    have ne0 : ¬ W.heap.size = w.heap.size := by omega
    have ne1 : ¬ W.heap.size + 1 = w.heap.size := by omega
    have ne2 : ¬ W.heap.size = w.heap.size + 1 := by omega
    have ne3 : ¬ W.heap.size + 1 = w.heap.size + 1 := by omega
    have ne4 : ¬ W.heap.size = g := by omega
    have ne5 : ¬ W.heap.size + 1 = g := by omega
    have z1 : w.heap.size < W.heap.size := by omega
    have z2 : w.heap.size < W.heap.size + 1 := by omega
    have z3 : w.heap.size + 1 < W.heap.size + 1 := by omega
    have hBW := HBW.out
    go_cut [5, 6] (fun t u wx => ∃ A B : Nat, t = .pointer (some ⟨A, 0, none⟩) ∧ u = .pointer (some ⟨B, 0, none⟩) ∧ ¬ A = B ∧ w.heap.size + 1 < A ∧ w.heap.size + 1 < B ∧ A < wx.heap.size ∧ B < wx.heap.size ∧ (wx.cell? ⟨A, 0, none⟩ = some (.int .i64 (p0).a) ∧ wx.cell? ⟨A, 1, none⟩ = some (.int .i64 (p0).b) ∧ wx.cell? ⟨A, 2, none⟩ = some (.int .i64 (p0).c) ∧ wx.cell? ⟨A, 3, none⟩ = some (.int .i64 (p0).d)) ∧ (wx.cell? ⟨B, 0, none⟩ = some (.int .i64 (p0).a) ∧ wx.cell? ⟨B, 1, none⟩ = some (.int .i64 (p0).b) ∧ wx.cell? ⟨B, 2, none⟩ = some (.int .i64 (p0).c) ∧ wx.cell? ⟨B, 3, none⟩ = some (.int .i64 (p0).d)) ∧ (∀ i, wx.frozen? ⟨A, i, none⟩ = false) ∧ (∀ i, wx.frozen? ⟨B, i, none⟩ = false) ∧ (wx.cell? ⟨w.heap.size, 0, none⟩ = some (.int .i64 ((⟨0, 0, 0, 0⟩ : Pn)).a) ∧ wx.cell? ⟨w.heap.size, 1, none⟩ = some (.int .i64 ((⟨0, 0, 0, 0⟩ : Pn)).b) ∧ wx.cell? ⟨w.heap.size, 2, none⟩ = some (.int .i64 ((⟨0, 0, 0, 0⟩ : Pn)).c) ∧ wx.cell? ⟨w.heap.size, 3, none⟩ = some (.int .i64 ((⟨0, 0, 0, 0⟩ : Pn)).d)) ∧ (wx.cell? ⟨w.heap.size + 1, 0, none⟩ = some (.int .i64 ((⟨0, 0, 0, 0⟩ : Pn)).a) ∧ wx.cell? ⟨w.heap.size + 1, 1, none⟩ = some (.int .i64 ((⟨0, 0, 0, 0⟩ : Pn)).b) ∧ wx.cell? ⟨w.heap.size + 1, 2, none⟩ = some (.int .i64 ((⟨0, 0, 0, 0⟩ : Pn)).c) ∧ wx.cell? ⟨w.heap.size + 1, 3, none⟩ = some (.int .i64 ((⟨0, 0, 0, 0⟩ : Pn)).d)) ∧ (∀ i, wx.frozen? ⟨w.heap.size, i, none⟩ = false) ∧ (∀ i, wx.frozen? ⟨w.heap.size + 1, i, none⟩ = false) ∧ Below w.heap.size w wx)
    case first =>
      go_region_held3 (fun w' => w'.cell? ⟨g, 0, none⟩ = some (.int .i64 (p0).a) ∧ w'.cell? ⟨g, 1, none⟩ = some (.int .i64 (p0).b) ∧ w'.cell? ⟨g, 2, none⟩ = some (.int .i64 (p0).c) ∧ w'.cell? ⟨g, 3, none⟩ = some (.int .i64 (p0).d)) (go_keep) (fail)
      all_goals
        go_wp2_with fail
        go_meet
        (first | (refine ⟨W.heap.size, W.heap.size + 1, rfl, rfl, ?_⟩) | (refine ⟨W.heap.size + 1, W.heap.size, rfl, rfl, ?_⟩))
        refine ⟨by omega, by omega, by omega, by first | (simp; done) | (simp; omega), by first | (simp; done) | (simp; omega), ⟨by go_simp, by go_simp, by go_simp, by go_simp⟩, ⟨by go_simp, by go_simp, by go_simp, by go_simp⟩, fun i => by go_simp, fun i => by go_simp, ⟨by go_simp, by go_simp, by go_simp, by go_simp⟩, ⟨by go_simp, by go_simp, by go_simp, by go_simp⟩, fun i => by go_simp, fun i => by go_simp, by go_grown⟩
    case rest =>
      obtain ⟨A, B, rfl, rfl, nAB, lA, lB, sA, sB, ⟨pa0, pa1, pa2, pa3⟩, ⟨pb0, pb1, pb2, pb3⟩, frA, frB, ⟨r00, r01, r02, r03⟩, ⟨r10, r11, r12, r13⟩, fR0, fR1, hBc⟩ := hcut
      have gc : g < wc.heap.size := Nat.lt_of_lt_of_le hg hBc.size
      have HAt0 := Lib.hid (show FpAt w (wc.alloc (.cells #[.int .i64 (-1), .int .i64 0] 34)) A B wc.heap.size p0 p0 ⟨-1, 0⟩ from by
        have h1 := hBc.alloc hBc.size (.cells #[.int .i64 (-1), .int .i64 0] 34)
        have y0 : w.heap.size < wc.heap.size := by omega
        have y1 : w.heap.size + 1 < wc.heap.size := by omega
        refine ⟨⟨by go_simp, by go_simp, by go_simp, by go_simp⟩, ⟨by go_simp, by go_simp, by go_simp, by go_simp⟩, ⟨by go_simp, by go_simp⟩, fun i => by go_simp, fun i => by go_simp, fun i => by go_simp, ⟨by go_simp, by go_simp, by go_simp, by go_simp⟩, ⟨by go_simp, by go_simp, by go_simp, by go_simp⟩, fun i => by go_simp, fun i => by go_simp, by simp; omega, by simp; omega, by simp, by simp; omega, h1⟩)
      have nAM : ¬ A = wc.heap.size := by omega
      have nBM : ¬ B = wc.heap.size := by omega
      have lM : w.heap.size + 1 < wc.heap.size := by omega
      clear pa0 pa1 pa2 pa3 pb0 pb1 pb2 pb3 frA frB r00 r01 r02 r03 r10 r11 r12 r13 fR0 fR1 hBc
      go_wp2_with fail
      go_loopw [27] (fun i wr => ∃ (k : Nat) (acc : Pn × Pn) (m : Su), k ≤ n ∧ i = .int .i64 k ∧ fpO (l.drop k) acc = R ∧ (acc.1 ∈ l ∧ acc.2 ∈ l) ∧ (m = (acc.1.sub acc.2).nm ∨ (m = ⟨-1, 0⟩ ∧ acc = (p0, p0) ∧ (k = 0 ∨ n = 1))) ∧ FpAt w wr A B wc.heap.size acc.1 acc.2 m) (fun i _ => n - (intOf i).toNat)
      case atStart => exact ⟨0, (p0, p0), ⟨-1, 0⟩, Nat.zero_le _, rfl, HS.out, ⟨hp0m, hp0m⟩, .inr ⟨rfl, rfl, .inl rfl⟩, HAt0.out⟩
      case round =>
        obtain ⟨k, acc, m, hk, rfl, hF, hmem, hm, hAt⟩ := hrel
        by_cases hlt : k < n
        · obtain ⟨a, ha⟩ : ∃ x, l[k]? = some x := ⟨_, List.getElem?_eq_getElem (by rw [HN.out]; exact hlt)⟩
          obtain ⟨c0, c1, c2, c3⟩ := (H1.out.below hg hAt.bl) k a ha
          have gr : g < wr.heap.size := Nat.lt_of_lt_of_le hg hAt.bl.size
          have ham := List.mem_of_getElem? ha
          have hF2 := hF
          rw [fpO_drop ha] at hF2
          have HF2 := Lib.hid hF2
          have HMM := Lib.hid (show m = (acc.1.sub acc.2).nm ∨ (m = ⟨-1, 0⟩ ∧ acc = (p0, p0) ∧ a = p0 ∧ k = 0) by
            rcases hm with h | ⟨h1, h2, h3⟩
            · exact .inl h
            · have : k = 0 := by omega
              refine .inr ⟨h1, h2, ?_, this⟩
              rw [this, HP0.out] at ha
              exact (Option.some.inj ha).symm)
          have HAt := Lib.hid hAt
          have HA1 := Lib.hid (hAt.alloc (.cells #[.int .i64 a.a, .int .i64 a.b, .int .i64 a.c, .int .i64 a.d] 26))
          have hz := hAt.lm
          have hma := HM.out a ham
          have i1 : (0 : Int) ≤ (k : Int) := by omega
          have i2 : (k : Int) < (n : Int) := by omega
          have i3 : (0 : Int) ≤ (k : Int) + 1 := by omega
          have i4 : IntKind.i64.wrap ((k : Int) + 1) = (k : Int) + 1 := IntWalk.i64_in _ ⟨by omega, by omega⟩
          have i5 : (k : Int) + 1 ≤ (n : Int) := by omega
          have i6 : (n : Int) ≤ (cap : Int) := by omega
          have i7 : ((k : Int) + 1).toNat = k + 1 := by omega
          have Y0 := Lib.hid (newpt7 wr a)
          clear hF hF2 hAt ha hm
          -- INNER
          by_cases hck : cap = k + 1
          · go_wp2_with fail
            obtain ⟨wo, rfl⟩ : ∃ wo, wo = wr := ⟨_, rfl⟩
            go_loopw [37] (fun j wi => ∃ (c : Nat) (acc' : Pn × Pn) (m' : Su), c ≤ n - (k + 1) ∧ j = .int .i64 c ∧ fpO (l.drop (k + 1)) (fpI a (l.drop (k + 1 + c)) acc') = R ∧ (acc'.1 ∈ l ∧ acc'.2 ∈ l) ∧ (m' = (acc'.1.sub acc'.2).nm ∨ (m' = ⟨-1, 0⟩ ∧ acc' = (p0, p0) ∧ a = p0 ∧ k = 0 ∧ c = 0)) ∧ FpAt w wi A B wc.heap.size acc'.1 acc'.2 m' ∧ (wi.cell? ⟨wo.heap.size, 0, none⟩ = some (.int .i64 (a).a) ∧ wi.cell? ⟨wo.heap.size, 1, none⟩ = some (.int .i64 (a).b) ∧ wi.cell? ⟨wo.heap.size, 2, none⟩ = some (.int .i64 (a).c) ∧ wi.cell? ⟨wo.heap.size, 3, none⟩ = some (.int .i64 (a).d)) ∧ wo.heap.size < wi.heap.size) (fun j _ => n - (intOf j).toNat)
            case atStart => exact ⟨0, acc, m, Nat.zero_le _, rfl, HF2.out, hmem, HMM.out.imp id (fun h => ⟨h.1, h.2.1, h.2.2.1, h.2.2.2, rfl⟩), HA1.out, Y0.out, by simp⟩
            case round =>
              clear HMM hmem HF2 HA1 Y0 HAt
              obtain ⟨c, ⟨P, Q⟩, m', hc, rfl, hF, ⟨hP, hQ⟩, hm, hAt, ⟨q0, q1, q2, q3⟩, zi⟩ := hrel
              by_cases hcl : c < n - (k + 1)
              · exfalso; omega

              · have hcn : c = n - (k + 1) := by omega
                rw [fpI_end (by rw [HN.out]; omega)] at hF
                have HF3 := Lib.hid hF
                have HM3 := Lib.hid (show m' = (P.sub Q).nm ∨ (m' = ⟨-1, 0⟩ ∧ (P, Q) = (p0, p0) ∧ (k + 1 = 0 ∨ n = 1)) by
                  rcases hm with h | ⟨h1, h2, h3, h4, h5⟩
                  · exact .inl h
                  · exact .inr ⟨h1, h2, .inr (by omega)⟩)
                have HA3 := Lib.hid hAt
                have g1 : ¬ (c : Int) < ((n - (k + 1) : Nat) : Int) := by omega
                clear hF hm hAt q0 q1 q2 q3
                go_wp2_with fail
                go_roundw
                case rel => exact ⟨k + 1, (P, Q), m', by omega, by go_num, HF3.out, ⟨hP, hQ⟩, HM3.out, HA3.out⟩
                case measure => simp [intOf]; omega
          · go_wp2_with fail
            obtain ⟨wo, rfl⟩ : ∃ wo, wo = wr := ⟨_, rfl⟩
            go_loopw [37] (fun j wi => ∃ (c : Nat) (acc' : Pn × Pn) (m' : Su), c ≤ n - (k + 1) ∧ j = .int .i64 c ∧ fpO (l.drop (k + 1)) (fpI a (l.drop (k + 1 + c)) acc') = R ∧ (acc'.1 ∈ l ∧ acc'.2 ∈ l) ∧ (m' = (acc'.1.sub acc'.2).nm ∨ (m' = ⟨-1, 0⟩ ∧ acc' = (p0, p0) ∧ a = p0 ∧ k = 0 ∧ c = 0)) ∧ FpAt w wi A B wc.heap.size acc'.1 acc'.2 m' ∧ (wi.cell? ⟨wo.heap.size, 0, none⟩ = some (.int .i64 (a).a) ∧ wi.cell? ⟨wo.heap.size, 1, none⟩ = some (.int .i64 (a).b) ∧ wi.cell? ⟨wo.heap.size, 2, none⟩ = some (.int .i64 (a).c) ∧ wi.cell? ⟨wo.heap.size, 3, none⟩ = some (.int .i64 (a).d)) ∧ wo.heap.size < wi.heap.size) (fun j _ => n - (intOf j).toNat)
            case atStart => exact ⟨0, acc, m, Nat.zero_le _, rfl, HF2.out, hmem, HMM.out.imp id (fun h => ⟨h.1, h.2.1, h.2.2.1, h.2.2.2, rfl⟩), HA1.out, Y0.out, by simp⟩
            case round =>
              clear HMM hmem HF2 HA1 Y0 HAt
              obtain ⟨c, ⟨P, Q⟩, m', hc, rfl, hF, ⟨hP, hQ⟩, hm, hAt, ⟨q0, q1, q2, q3⟩, zi⟩ := hrel
              by_cases hcl : c < n - (k + 1)
              · obtain ⟨b, hb'⟩ : ∃ x, l[k + 1 + c]? = some x := ⟨_, List.getElem?_eq_getElem (by rw [HN.out]; omega)⟩
                obtain ⟨e0, e1, e2, e3⟩ := (H1.out.below hg hAt.bl) (k + 1 + c) b hb'
                rw [Nat.add_mul (k + 1) c] at e0 e1 e2 e3
                have hbm := List.mem_of_getElem? hb'
                have gr' : g < wr.heap.size := Nat.lt_of_lt_of_le hg hAt.bl.size
                have FM := fp_more (b := b) (show m' = ((P, Q).1.sub (P, Q).2).nm ∨ (m' = ⟨-1, 0⟩ ∧ (P, Q) = (p0, p0) ∧ a = p0) by
                  rcases hm with h | ⟨h1, h2, h3, _⟩
                  · exact .inl h
                  · exact .inr ⟨h1, h2, h3⟩)
                have hmB : Bs 1900000000000000 m' := by
                  rcases hm with h | ⟨h, _⟩
                  · rw [h]; exact (nm_bd (HM.out P hP) (HM.out Q hQ)).mono (by omega)
                  · rw [h]; unfold Bs; simp
                rw [fpI_drop hb'] at hF
                have HFM := Lib.hid FM
                have HF := Lib.hid hF
                have hmb := HM.out b hbm
                have LS := spLessP a b (hma.mono (by omega)) (hmb.mono (by omega))
                have NM := spNmP (a.sub b) (hma.sub2 hmb)
                have CM := spCmpQ (a.sub b).nm m' ((nm_bd hma hmb).mono (by omega)) hmB
                generalize hv0 : ((a.sub b).nm - m').sn = v at *
                obtain ⟨⟨a0, a1, a2, a3⟩, ⟨b0, b1, b2, b3⟩, ⟨m0, m1⟩, fa, fb, fm, ⟨x0, x1, x2, x3⟩, ⟨d0, d1, d2, d3⟩, f0, f1, la, lb, lm, lw, bl⟩ := hAt
                have HAi := Lib.hid (show FpAt w wr A B wc.heap.size P Q m' from ⟨⟨a0, a1, a2, a3⟩, ⟨b0, b1, b2, b3⟩, ⟨m0, m1⟩, fa, fb, fm, ⟨x0, x1, x2, x3⟩, ⟨d0, d1, d2, d3⟩, f0, f1, la, lb, lm, lw, bl⟩)
                have j1 : (0 : Int) ≤ (c : Int) := by omega
                have j2 : (c : Int) < ((n - (k + 1) : Nat) : Int) := by omega
                have t1 : ¬ A = wo.heap.size := by omega
                have t2 : ¬ B = wo.heap.size := by omega
                have t3 : ¬ A = wr.heap.size := by omega
                have t4 : ¬ B = wr.heap.size := by omega
                have t5 : ¬ B = A := by omega
                have t6 : ¬ wc.heap.size = A := by omega
                have t7 : ¬ wc.heap.size = B := by omega
                clear hF FM hb' hm x0 x1 x2 x3 d0 d1 d2 d3 f0 f1
                go_wp2_with fail
                (go_at_call 96; (with_reducible refine (LS _).mono ?_); rintro e wB ⟨rfl, h1⟩; (try with_reducible replace h1 := undrew h1); have hB : Below w.heap.size w wB := ba (by go_grown) h1; obtain ⟨hcwB, hfwB⟩ := bcell h1; have hqwB := h1.size; (try simp at hqwB); (try have hz0wB : wo.heap.size < wB.heap.size := (by omega)); (try have he0wB : wo.heap.size ≤ wB.heap.size := (by omega)); (try have hz1wB : wr.heap.size < wB.heap.size := (by omega)); (try have he1wB : wr.heap.size ≤ wB.heap.size := (by omega)); (try have hz2wB : A < wB.heap.size := (by omega)); (try have he2wB : A ≤ wB.heap.size := (by omega)); (try have hz3wB : B < wB.heap.size := (by omega)); (try have he3wB : B ≤ wB.heap.size := (by omega)); (try have hz4wB : wc.heap.size < wB.heap.size := (by omega)); (try have he4wB : wc.heap.size ≤ wB.heap.size := (by omega)); (try have hz5wB : w.heap.size < wB.heap.size := (by omega)); (try have he5wB : w.heap.size ≤ wB.heap.size := (by omega)); have HFB := Lib.hid ((HAi.out.alloc _).mono h1))
                go_wp2_with fail
                (go_at_call 95; (with_reducible refine (NM _).mono ?_); rintro e wC ⟨rfl, h1⟩; (try with_reducible replace h1 := undrew h1); have hB : Below w.heap.size w wC := ba (by go_grown) h1; obtain ⟨hcwC, hfwC⟩ := bcell h1; have hqwC := h1.size; (try simp at hqwC); (try have hz0wC : wo.heap.size < wC.heap.size := (by omega)); (try have he0wC : wo.heap.size ≤ wC.heap.size := (by omega)); (try have hz1wC : wr.heap.size < wC.heap.size := (by omega)); (try have he1wC : wr.heap.size ≤ wC.heap.size := (by omega)); (try have hz2wC : A < wC.heap.size := (by omega)); (try have he2wC : A ≤ wC.heap.size := (by omega)); (try have hz3wC : B < wC.heap.size := (by omega)); (try have he3wC : B ≤ wC.heap.size := (by omega)); (try have hz4wC : wc.heap.size < wC.heap.size := (by omega)); (try have he4wC : wc.heap.size ≤ wC.heap.size := (by omega)); (try have hz5wC : w.heap.size < wC.heap.size := (by omega)); (try have he5wC : w.heap.size ≤ wC.heap.size := (by omega)); have HFC := Lib.hid (HFB.out.mono h1))
                go_wp2_with fail
                (go_at_call 97; (with_reducible refine (CM _).mono ?_); rintro e wE ⟨rfl, h1⟩; (try with_reducible replace h1 := undrew h1); have hB : Below w.heap.size w wE := ba (by go_grown) h1; obtain ⟨hcwE, hfwE⟩ := bcell h1; have hqwE := h1.size; (try simp at hqwE); (try have hz0wE : wo.heap.size < wE.heap.size := (by omega)); (try have he0wE : wo.heap.size ≤ wE.heap.size := (by omega)); (try have hz1wE : wr.heap.size < wE.heap.size := (by omega)); (try have he1wE : wr.heap.size ≤ wE.heap.size := (by omega)); (try have hz2wE : A < wE.heap.size := (by omega)); (try have he2wE : A ≤ wE.heap.size := (by omega)); (try have hz3wE : B < wE.heap.size := (by omega)); (try have he3wE : B ≤ wE.heap.size := (by omega)); (try have hz4wE : wc.heap.size < wE.heap.size := (by omega)); (try have he4wE : wc.heap.size ≤ wE.heap.size := (by omega)); (try have hz5wE : wC.heap.size < wE.heap.size := (by omega)); (try have he5wE : wC.heap.size ≤ wE.heap.size := (by omega)); (try have hz6wE : w.heap.size < wE.heap.size := (by omega)); (try have he6wE : w.heap.size ≤ wE.heap.size := (by omega)); have HFE := Lib.hid ((HFC.out.alloc _).mono h1))
                have t8 : ¬ A = wC.heap.size := by omega
                have t9 : ¬ B = wC.heap.size := by omega
                have t10 : ¬ wc.heap.size = wC.heap.size := by omega
                have zE : wo.heap.size < wE.heap.size := by omega
                by_cases hv : 0 < v
                · have hv1 := (HFM.out.1 hv)
                  have HF1 := Lib.hid (show fpO (l.drop (k + 1)) (fpI a (l.drop (k + 1 + c + 1)) (a, b)) = R by rw [← hv1]; exact HF.out)
                  have dv : decide (0 < v) = true := decide_eq_true hv
                  clear hv1
                  have t11 : ¬ wc.heap.size = wo.heap.size := by omega
                  go_wp2_with fail
                  go_roundw
                  case rel => exact ⟨c + 1, (a, b), (a.sub b).nm, by omega, by go_num, HF1.out, ⟨ham, hbm⟩, .inl rfl, FpAt.put HFE.out nAB nAM nBM lA lB lM, ⟨by go_simp, by go_simp, by go_simp, by go_simp⟩, by simp; omega⟩
                  case measure => simp [intOf]; omega
                · have hv2 := (HFM.out.2 (by omega))
                  have HF1 := Lib.hid (show fpO (l.drop (k + 1)) (fpI a (l.drop (k + 1 + c + 1)) (P, Q)) = R by rw [← hv2.1]; exact HF.out)
                  have HM4 := Lib.hid hv2.2
                  have dv : decide (0 < v) = false := decide_eq_false hv
                  clear hv2
                  go_wp2_with fail
                  go_roundw
                  case rel => exact ⟨c + 1, (P, Q), m', by omega, by go_num, HF1.out, ⟨hP, hQ⟩, .inl HM4.out, HFE.out, ⟨by go_simp, by go_simp, by go_simp, by go_simp⟩, zE⟩
                  case measure => simp [intOf]; omega

              · have hcn : c = n - (k + 1) := by omega
                rw [fpI_end (by rw [HN.out]; omega)] at hF
                have HF3 := Lib.hid hF
                have HM3 := Lib.hid (show m' = (P.sub Q).nm ∨ (m' = ⟨-1, 0⟩ ∧ (P, Q) = (p0, p0) ∧ (k + 1 = 0 ∨ n = 1)) by
                  rcases hm with h | ⟨h1, h2, h3, h4, h5⟩
                  · exact .inl h
                  · exact .inr ⟨h1, h2, .inr (by omega)⟩)
                have HA3 := Lib.hid hAt
                have g1 : ¬ (c : Int) < ((n - (k + 1) : Nat) : Int) := by omega
                clear hF hm hAt q0 q1 q2 q3
                go_wp2_with fail
                go_roundw
                case rel => exact ⟨k + 1, (P, Q), m', by omega, by go_num, HF3.out, ⟨hP, hQ⟩, HM3.out, HA3.out⟩
                case measure => simp [intOf]; omega
        · have hkn : k = n := by omega
          rw [fpO_end (by rw [HN.out]; omega)] at hF
          obtain ⟨P, Q⟩ := acc
          have HF3 := Lib.hid hF
          obtain ⟨⟨a0, a1, a2, a3⟩, ⟨b0, b1, b2, b3⟩, ⟨m0, m1⟩, fa, fb, fm, ⟨x0, x1, x2, x3⟩, ⟨d0, d1, d2, d3⟩, f0, f1, la, lb, lm, lw, bl⟩ := hAt
          have s1 : ¬ A = w.heap.size := by omega
          have s2 : ¬ B = w.heap.size := by omega
          have s3 : ¬ A = w.heap.size + 1 := by omega
          have s4 : ¬ B = w.heap.size + 1 := by omega
          have s5 : ¬ w.heap.size = A := by omega
          have s6 : ¬ w.heap.size = B := by omega
          have s7 : ¬ w.heap.size + 1 = A := by omega
          have s8 : ¬ w.heap.size + 1 = B := by omega
          clear hF hm hmem
          go_wp2_with fail
          go_region_held3 (fun w' => (w'.cell? ⟨A, 0, none⟩ = some (.int .i64 (P).a) ∧ w'.cell? ⟨A, 1, none⟩ = some (.int .i64 (P).b) ∧ w'.cell? ⟨A, 2, none⟩ = some (.int .i64 (P).c) ∧ w'.cell? ⟨A, 3, none⟩ = some (.int .i64 (P).d)) ∧ (w'.cell? ⟨B, 0, none⟩ = some (.int .i64 (Q).a) ∧ w'.cell? ⟨B, 1, none⟩ = some (.int .i64 (Q).b) ∧ w'.cell? ⟨B, 2, none⟩ = some (.int .i64 (Q).c) ∧ w'.cell? ⟨B, 3, none⟩ = some (.int .i64 (Q).d))) (go_keep) (fail)
          all_goals
            go_wp2_with fail
            refine bodyPost_ret (by simp [results, Try.results46, go_sem, *]; try rfl) rfl ?_
            exact ⟨by rw [← HF3.out], by go_grown⟩

end Go.Proofs.Ytppbbcckijcckaa
