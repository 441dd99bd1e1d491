/- Circuits: a row of channels of one place each; what a call may turn of them. -/
import Derived.Test.YtogimjbjdgccnaaDoorCmL
import Derived.Test.YtogimjbjdgccnaaDoorLnM
import Derived.Conc.SmallLaws
namespace Go.Proofs.YtogimjbjdgccnaaDoor
open Go.Conc Go.ChangeShapes Go.WideShapes Go.ChangeAt Go.RowKit
open Ln

/-- What lies in a channel's buffer. -/
def bufOf (b : Bool) : Array Value := if b then #[.agg #[]] else #[]

/-- Behind B nothing but the blocks from B up to E has turned. -/
structure Turn (B E : Nat) (w w' : World) : Prop where
  low : Below B w w'
  hi : ∀ k, E ≤ k → k < w.heap.size → w'.heap[k]? = w.heap[k]?

theorem Turn.refl (B E : Nat) (w : World) : Turn B E w w := ⟨Below.refl _ _, fun _ _ _ => rfl⟩

theorem Turn.trans {B E : Nat} {a b c : World} (h : Turn B E a b) (k : Turn B E b c) : Turn B E a c :=
  ⟨h.low.trans k.low, fun i hi hl => (k.hi i hi (Nat.lt_of_lt_of_le hl h.low.size)).trans (h.hi i hi hl)⟩

theorem Turn.of_below {B E : Nat} {w w' : World} (h : Below w.heap.size w w') (hB : B ≤ w.heap.size) : Turn B E w w' :=
  ⟨h.mono hB, fun k _ hk => h.block k hk⟩

theorem Turn.cell {B E : Nat} {w w' : World} (h : Turn B E w w') {b o : Nat} (hb : E ≤ b) (hl : b < w.heap.size) : w'.cell? ⟨b, o, none⟩ = w.cell? ⟨b, o, none⟩ := by
  simp only [World.cell?, h.hi b hb hl]

theorem Turn.frozen {B E : Nat} {w w' : World} (h : Turn B E w w') {b o : Nat} (hb : E ≤ b) (hl : b < w.heap.size) : w'.frozen? ⟨b, o, none⟩ = w.frozen? ⟨b, o, none⟩ := by
  simp only [World.frozen?, h.hi b hb hl]

/-- Channels in a row: block g holds them, cs are theirs; each lies between B and E; a channel holds a train where the line l has one. -/
structure Cir (B E g : Nat) (cs : List Nat) (l : List UInt8) (w : World) : Prop where
  len : cs.length = l.length
  row : ∀ (i : Nat) c, cs[i]? = some c → w.cell? ⟨g, i, none⟩ = some (Value.chan (some c))
  ch : ∀ (i : Nat) c, cs[i]? = some c → ∃ s r, w.heap[c]? = some (Obj.chan 1 (bufOf (tr l i)) false s r false)
  dis : ∀ (i j : Nat) c, cs[i]? = some c → cs[j]? = some c → i = j
  gB : B ≤ g
  gE : g < E
  cB : ∀ (i : Nat) c, cs[i]? = some c → B ≤ c ∧ c < E ∧ c ≠ g
  le : E ≤ w.heap.size

theorem Cir.keep {B E g : Nat} {cs : List Nat} {l : List UInt8} {w w' : World} (h : Cir B E g cs l w) (hk : ∀ k, B ≤ k → k < E → w'.heap[k]? = w.heap[k]?) (hs : w.heap.size ≤ w'.heap.size) : Cir B E g cs l w' :=
  ⟨h.len, fun i c hc => by have := h.row i c hc; simp only [World.cell?, hk g h.gB h.gE] at this ⊢; exact this, fun i c hc => by
    obtain ⟨h1, h2, _⟩ := h.cB i c hc
    rw [hk c h1 h2]; exact h.ch i c hc, h.dis, h.gB, h.gE, h.cB, Nat.le_trans h.le hs⟩

theorem Cir.below {B E g : Nat} {cs : List Nat} {l : List UInt8} {w w' : World} (h : Cir B E g cs l w) (hb : Below w.heap.size w w') : Cir B E g cs l w' :=
  h.keep (fun k _ hk => hb.block k (Nat.lt_of_lt_of_le hk h.le)) hb.size

theorem Cir.setCell {B E g : Nat} {cs : List Nat} {l : List UInt8} {w : World} (h : Cir B E g cs l w) (a : Addr) (v : Value) (ha : E ≤ a.block) : Cir B E g cs l (w.setCell a v) :=
  h.keep (fun k _ hk => by
    have hb : Below E w (w.setCell a v) := (Below.refl E w).setCell ha v
    exact hb.block k hk) (by simp)

theorem Cir.alloc {B E g : Nat} {cs : List Nat} {l : List UInt8} {w : World} (h : Cir B E g cs l w) (o : Obj) : Cir B E g cs l (w.alloc o) := h.below (by go_grown)

/-- One channel of the row has turned. -/
theorem Cir.turn1 {B E g i c : Nat} {cs : List Nat} {l l' : List UInt8} {w w' : World} (h : Cir B E g cs l w) (hc : cs[i]? = some c) (hl : l'.length = l.length) (hl' : ∀ j, j ≠ i → tr l' j = tr l j)
    (hn : ∃ s r, w'.heap[c]? = some (Obj.chan 1 (bufOf (tr l' i)) false s r false)) (ho : ∀ k, k < w.heap.size → k ≠ c → w'.heap[k]? = w.heap[k]?) (hs : w.heap.size ≤ w'.heap.size) : Cir B E g cs l' w' := by
  obtain ⟨h1, h2, h3⟩ := h.cB i c hc
  have hg := h.gE
  have hle := h.le
  refine ⟨h.len.trans hl.symm, fun j d hd => ?_, fun j d hd => ?_, h.dis, h.gB, h.gE, h.cB, Nat.le_trans h.le hs⟩
  · have := h.row j d hd
    simp only [World.cell?, ho g (by omega) (fun e => h3 e.symm)] at this ⊢
    exact this
  · by_cases e : j = i
    · subst e
      rw [hc] at hd
      injection hd with hd
      subst hd
      exact hn
    · rw [hl' j e]
      obtain ⟨k1, k2, _⟩ := h.cB j d hd
      rw [ho d (by omega) (fun q => e (h.dis j i d hd (by rw [q]; exact hc)))]
      exact h.ch j d hd

theorem setChan_far (w : World) (c k cap : Nat) (buf : Array Value) (cl : Bool) (s r : Nat) (tm : Bool) (h : k ≠ c) : (w.setChan c cap buf cl s r tm).heap[k]? = w.heap[k]? := by
  simp [World.setChan, Array.getElem?_setIfInBounds_ne (Ne.symm h)]

theorem cell_setChan (w : World) (c cap : Nat) (buf : Array Value) (cl : Bool) (s r : Nat) (tm : Bool) (b o : Nat) (h : b ≠ c) : (w.setChan c cap buf cl s r tm).cell? ⟨b, o, none⟩ = w.cell? ⟨b, o, none⟩ := by
  simp only [World.cell?, setChan_far w c b cap buf cl s r tm h]

theorem frozen_setChan (w : World) (c cap : Nat) (buf : Array Value) (cl : Bool) (s r : Nat) (tm : Bool) (b o : Nat) (h : b ≠ c) : (w.setChan c cap buf cl s r tm).frozen? ⟨b, o, none⟩ = w.frozen? ⟨b, o, none⟩ := by
  simp only [World.frozen?, setChan_far w c b cap buf cl s r tm h]

theorem below_setChan1 {B : Nat} (w : World) {c : Nat} (hc : B ≤ c) (cap : Nat) (buf : Array Value) (cl : Bool) (s r : Nat) (tm : Bool) : Below B w (w.setChan c cap buf cl s r tm) := below_setChan (Below.refl B w) hc _ _ _ _ _ _

/-- Only block c of those that were there has turned. -/
structure Oth (c : Nat) (w w' : World) : Prop where
  low : Below c w w'
  blk : ∀ k, k < w.heap.size → k ≠ c → w'.heap[k]? = w.heap[k]?

theorem Oth.refl (c : Nat) (w : World) : Oth c w w := ⟨Below.refl _ _, fun _ _ _ => rfl⟩

theorem Oth.trans {c : Nat} {x y z : World} (h : Oth c x y) (k : Oth c y z) : Oth c x z :=
  ⟨h.low.trans k.low, fun i hi hn => (k.blk i (Nat.lt_of_lt_of_le hi h.low.size) hn).trans (h.blk i hi hn)⟩

theorem Oth.of_below {c : Nat} {w w' : World} (h : Below w.heap.size w w') (hc : c ≤ w.heap.size) : Oth c w w' := ⟨h.mono hc, fun k hk _ => h.block k hk⟩

theorem Oth.setChan (w : World) (c cap : Nat) (buf : Array Value) (cl : Bool) (s r : Nat) (tm : Bool) : Oth c w (w.setChan c cap buf cl s r tm) :=
  ⟨below_setChan1 w (Nat.le_refl c) cap buf cl s r tm, fun k _ hn => setChan_far w c k cap buf cl s r tm hn⟩

theorem Oth.turn {B E c : Nat} {w w' : World} (h : Oth c w w') (hB : B ≤ c) (hE : c < E) : Turn B E w w' := ⟨h.low.mono hB, fun k hk hl => h.blk k hl (by omega)⟩

end Go.Proofs.YtogimjbjdgccnaaDoor
