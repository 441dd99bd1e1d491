/- The signals of a line followed until they come again: what lies in memory. -/
import Derived.Test.YtogimjbjdgccnaaDoorSgI
import Derived.Test.YtogimjbjdgccnaaDoorTkC
import Derived.Maps.OwnSet
import Derived.Maps.Views
import Derived.Maps.AppendAt
namespace Go.Proofs.YtogimjbjdgccnaaDoor
open Go Go.ChangeMaps Go.MapKept Go.ChangeShapes Go.WideShapes Go.ChangeAt Go.RowKit
open Go.WideMaps (KeyLaw)
open Go.Maps (Keyed)
open Ln

set_option linter.unusedVariables false

theorem skLaw : KeyLaw Tryd.prog 9 := WideMaps.string_law Tryd.underlying9

/-- The key that a text is. -/
def klT (s : ByteArray) : Lit := .string s.data.toList

theorem klT_key (s : ByteArray) (h : s.size ≤ 1048576) : keyOf Tryd.prog 9 (.string s) = some (klT s) := WideMaps.keyOf_string_mk Tryd.underlying9 (by unfold maxLen; omega)

theorem klT_inj {s t : ByteArray} (hs : s.size ≤ 1048576) (ht : t.size ≤ 1048576) (e : klT s = klT t) : s = t := by
  have a := klT_key s hs
  have b := klT_key t ht
  rw [e] at a
  have := skLaw.inj a b
  simpa using this

set_option maxRecDepth 100000 in
theorem klT_lit {s : ByteArray} (h : s.size ≤ 1048576) : WideAt.IsKeyLit (klT s) := (Keyed.of_law skLaw).key (klT_key s h)

/-- What a map holds behind k rounds over the texts f 0, f 1, .. -/
structure MpS (f : Nat → ByteArray) (D : DataW Unit) (k : Nat) : Prop where
  isMap : Maps.IsMap D
  at' : ∀ i, i < k → D.atKey (klT (f i)) (.lit (.int .i64 0)) = .lit (.int .i64 (i : Int))
  has : ∀ i, i < k → Maps.has D (klT (f i)) = true
  no : ∀ j, (∀ i, i < k → ¬ f i = f j) → Maps.has D (klT (f j)) = false

theorem MpS.zero (f : Nat → ByteArray) : MpS f (.map []) 0 :=
  ⟨⟨_, rfl⟩, fun i hi => absurd hi (by omega), fun i hi => absurd hi (by omega), fun j _ => by simp [Maps.has]⟩

theorem MpS.succ {f : Nat → ByteArray} {D : DataW Unit} {k : Nat} (h : MpS f D k) (hf : ∀ i, (f i).size ≤ 1048576) (hn : ∀ i, i < k → ¬ f i = f k) : MpS f (D.put (klT (f k)) (.lit (.int .i64 (k : Int)))) (k + 1) := by
  have inj : ∀ i j, klT (f i) = klT (f j) → f i = f j := fun i j e => klT_inj (hf i) (hf j) e
  refine ⟨?_, fun i hi => ?_, fun i hi => ?_, fun j hj => ?_⟩
  · exact h.isMap.put _ _
  · by_cases e : i = k
    · subst e; exact Maps.atKey_put_same h.isMap (klT_lit (hf i)) _ _
    · rw [Maps.atKey_put_other (fun q => hn i (by omega) (inj i k q))]
      exact h.at' i (by omega)
  · by_cases e : i = k
    · subst e; exact Maps.has_put_same h.isMap (klT_lit (hf i)) _
    · rw [Maps.has_put_other (fun q => hn i (by omega) (inj i k q))]
      exact h.has i (by omega)
  · rw [Maps.has_put_other (fun q => hj k (by omega) (inj j k q).symm)]
    exact h.no j fun i hi => hj i (by omega)

theorem map_same {H : Type} {P : Program} {k : TypeId} {R : Value → Option (DataW H × List MemPlace)} {w w' : World} {b n : Nat} {D : DataW H} (h : w.ownsMap P k R b n D) (hs : w'.heap[b]? = w.heap[b]?) : w'.ownsMap P k R b n D := by
  obtain ⟨es, clock, hb, F, hz, hD⟩ := h
  exact ⟨es, clock, hs.trans hb, F, hz, hD⟩

/-- The signals behind i ticks. -/
def sgT (l : List UInt8) (gp i : Nat) : ByteArray := ofL (sg (orb l gp i) gp)

theorem sgT_size {l : List UInt8} (h : LnOk l) (gp i : Nat) : (sgT l gp i).size ≤ 24 := by rw [sgT, ofL_size, sg_len, orb_len]; exact h.n24

theorem ofL_inj {a b : List UInt8} (h : ofL a = ofL b) : a = b := by
  have := congrArg (fun z => z.data.toList) h
  simpa [ofL] using this

theorem sgT_inj {l : List UInt8} (h : LnOk l) {gp i j : Nat} (e : sgT l gp i = sgT l gp j) : orb l gp i = orb l gp j := sg_inj (orb_ok h gp i) (orb_ok h gp j) (ofL_inj e)

def sgV (l : List UInt8) (gp k : Nat) : List Value := (List.range k).map fun i => .string (sgT l gp i)

theorem sgV_succ (l : List UInt8) (gp k : Nat) : sgV l gp (k + 1) = sgV l gp k ++ [.string (sgT l gp k)] := by simp [sgV, List.range_succ]

theorem sgV_get {l : List UInt8} {gp k i : Nat} (h : i < k) : (sgV l gp k)[i]? = some (.string (sgT l gp i)) := by simp [sgV, h]

/-- The state of a course: the line behind j ticks lies in the circuit, k signals are followed. -/
structure Co (w : World) (B E g cap n s : Nat) (cs : List Nat) (l : List UInt8) (gp j k : Nat) (wr : World) : Prop where
  cir : Cir B E g cs (orb l gp j) wr
  b0 : wr.cell? ⟨w.heap.size, 0, none⟩ = some (.slice none 0 0)
  b1 : wr.cell? ⟨w.heap.size, 1, none⟩ = some (.int .i64 0)
  f0 : wr.frozen? ⟨w.heap.size, 0, none⟩ = false
  f1 : wr.frozen? ⟨w.heap.size, 1, none⟩ = false
  c0 : wr.cell? ⟨E, 0, none⟩ = some (.slice (some ⟨g, 0, none⟩) n cap)
  c1 : wr.cell? ⟨E, 1, none⟩ = some (.int .i64 s)
  row : ∃ v, wr.cell? ⟨E + 1, 0, none⟩ = some v ∧ wr.ownsRow (E + 3) 9 1 v k (sgV l gp k)
  d1 : wr.cell? ⟨E + 1, 1, none⟩ = some (.int .i64 0)
  e0 : wr.frozen? ⟨E + 1, 0, none⟩ = false
  e1 : wr.frozen? ⟨E + 1, 1, none⟩ = false
  map : ∃ D, wr.ownsMap Tryd.prog 9 (plainElem (H := Unit) Tryd.prog 3) (E + 2) k D ∧ MpS (sgT l gp) D k
  lt : E + 2 < wr.heap.size
  wB : w.heap.size < B
  low : Below w.heap.size w wr

theorem cell_same {w w' : World} {b o : Nat} (h : w'.heap[b]? = w.heap[b]?) : w'.cell? ⟨b, o, none⟩ = w.cell? ⟨b, o, none⟩ := by simp only [World.cell?, h]

theorem frozen_same {w w' : World} {b o : Nat} (h : w'.heap[b]? = w.heap[b]?) : w'.frozen? ⟨b, o, none⟩ = w.frozen? ⟨b, o, none⟩ := by simp only [World.frozen?, h]

theorem Co.turn {w wr w' : World} {B E g cap n s : Nat} {cs : List Nat} {l : List UInt8} {gp j j' k : Nat} (h : Co w B E g cap n s cs l gp j k wr) (hT : Turn B E wr w') (hC : Cir B E g cs (orb l gp j') w') (hBE : B ≤ E) : Co w B E g cap n s cs l gp j' k w' := by
  have hlt := h.lt
  have hwB := h.wB
  have a0 : w'.heap[w.heap.size]? = wr.heap[w.heap.size]? := hT.low.block _ hwB
  have a1 : ∀ b, E ≤ b → b < wr.heap.size → w'.heap[b]? = wr.heap[b]? := fun b hb hl => hT.hi b hb hl
  refine ⟨hC, (cell_same a0).trans h.b0, (cell_same a0).trans h.b1, (frozen_same a0).trans h.f0, (frozen_same a0).trans h.f1, (cell_same (a1 E (Nat.le_refl _) (by omega))).trans h.c0, (cell_same (a1 E (Nat.le_refl _) (by omega))).trans h.c1, ?_,
    (cell_same (a1 (E + 1) (by omega) (by omega))).trans h.d1, (frozen_same (a1 (E + 1) (by omega) (by omega))).trans h.e0, (frozen_same (a1 (E + 1) (by omega) (by omega))).trans h.e1, ?_, Nat.lt_of_lt_of_le hlt hT.low.size, hwB, h.low.trans (hT.low.mono (by omega))⟩
  · obtain ⟨v, hv, hr⟩ := h.row
    exact ⟨v, (cell_same (a1 (E + 1) (by omega) (by omega))).trans hv, row_same hr fun b hb hl => a1 b (by omega) hl⟩
  · obtain ⟨D, hM, hD⟩ := h.map
    exact ⟨D, map_same hM (a1 (E + 2) (by omega) hlt), hD⟩

theorem Co.put {w w2 W3 W4 : World} {B E g cap n s : Nat} {cs : List Nat} {l : List UInt8} {gp j k : Nat} (h : Co w B E g cap n s cs l gp j k w2) (hBE : B ≤ E) {D' : DataW Unit} {v v' : Value} (hv : w2.cell? ⟨E + 1, 0, none⟩ = some v) (hr : w2.ownsRow (E + 3) 9 1 v k (sgV l gp k))
    (hM3 : W3.ownsMap Tryd.prog 9 (plainElem (H := Unit) Tryd.prog 3) (E + 2) (k + 1) D') (hD3 : MpS (sgT l gp) D' (k + 1)) (hg3 : w2.grownBy W3 (some (E + 2))) (o : Obj)
    (hown : W4.ownsRow (E + 3) 9 1 v' (k + 1) (sgV l gp k ++ [.string (sgT l gp k)])) (hgr : (W3.alloc o).grownBy W4 v.ownBlock) :
    W4.cell? ⟨E + 1, 0, none⟩ = some v ∧ W4.frozen? ⟨E + 1, 0, none⟩ = false ∧ Co w B E g cap n s cs l gp j (k + 1) (W4.setCell ⟨E + 1, 0, none⟩ v') := by
  have hlt := h.lt
  have hwB := h.wB
  have s3 := hg3.size
  have s4 := hgr.size
  simp at s4
  have hvb : ∀ b, b < E + 3 → some b ≠ v.ownBlock := fun b hb e => by have := (hr.lt b e.symm).1; omega
  have k4 : ∀ b, b < E + 3 → b ≠ E + 2 → b < w2.heap.size → W4.heap[b]? = w2.heap[b]? := fun b hb hn hl => by
    rw [hgr.block b (by simp; omega) (hvb b hb), Below.heap_alloc _ _ _ (show b < W3.heap.size by omega), hg3.block b hl (fun e => hn (by injection e))]
  have k5 : ∀ b, b ≠ E + 1 → (W4.setCell ⟨E + 1, 0, none⟩ v').heap[b]? = W4.heap[b]? := fun b hb => by simp [World.setCell, Array.getElem?_modify, Ne.symm hb]
  have kk : ∀ b, b < E + 1 → (W4.setCell ⟨E + 1, 0, none⟩ v').heap[b]? = w2.heap[b]? := fun b hb => by rw [k5 b (by omega), k4 b (by omega) (by omega) (by omega)]
  have q0 : W4.cell? ⟨E + 1, 0, none⟩ = some v := (cell_same (k4 (E + 1) (by omega) (by omega) (by omega))).trans hv
  refine ⟨q0, (frozen_same (k4 (E + 1) (by omega) (by omega) (by omega))).trans h.e0, ?_⟩
  have hle := h.cir.le
  refine ⟨h.cir.keep (fun b _ hb => kk b (by omega)) (by simp; omega), (cell_same (kk _ (by omega))).trans h.b0, (cell_same (kk _ (by omega))).trans h.b1, (frozen_same (kk _ (by omega))).trans h.f0, (frozen_same (kk _ (by omega))).trans h.f1,
    (cell_same (kk _ (by omega))).trans h.c0, (cell_same (kk _ (by omega))).trans h.c1, ⟨v', ?_, ?_⟩, ?_, ?_, ?_, ⟨D', ?_, hD3⟩, by simp; omega, hwB, ?_⟩
  · rw [World.cell?_setCell_same (h := q0)]
  · rw [sgV_succ]
    exact row_same hown fun b hb _ => k5 b (by omega)
  · rw [World.cell?_setCell_other (h := by simp)]
    exact (cell_same (k4 (E + 1) (by omega) (by omega) (by omega))).trans h.d1
  · rw [World.frozen?_setCell]
    exact (frozen_same (k4 (E + 1) (by omega) (by omega) (by omega))).trans h.e0
  · rw [World.frozen?_setCell]
    exact (frozen_same (k4 (E + 1) (by omega) (by omega) (by omega))).trans h.e1
  · refine map_same hM3 ?_
    have hl3 := hM3.lt
    rw [k5 _ (by omega), hgr.block (E + 2) (by simp; omega) (hvb _ (by omega)), Below.heap_alloc _ _ _ hl3]
  · have hb3 : Below w.heap.size w W3 := h.low.grown hg3 (by omega) (fun j hj => by injection hj with hj; omega)
    have hb4 := (hb3.alloc hb3.size o).grown hgr (by simp; omega) (fun j hj => by have := (hr.lt j hj).1; omega)
    exact hb4.setCell (p := ⟨E + 1, 0, none⟩) (by show w.heap.size ≤ E + 1; omega) v'

end Go.Proofs.YtogimjbjdgccnaaDoor
