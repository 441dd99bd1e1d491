/- Contracts and facts, put together (part 5). Conditions: each says its own. -/
import Derived.Test.YtoenkgenoloihabQ4
import Derived.Deep.DrawnRows
import Derived.Maps.OwnOps
import Derived.WalkKit
import Derived.LoopTactic
import Derived.Lib.Hide
import Derived.Shelf.Bits.Mul64
import Derived.Lib.SlBytesConst
import Derived.Deep.RegionHeld3
import Derived.Maps.RangeWalk

/- Contract: the program's 'partsFrom'. -/
namespace Go.Proofs.Ytoenkgenoloihab
open Go.ChangeShapes Go.WideShapes Go.ChangeAt Go.RowKit

set_option linter.unusedVariables false

/-- How a piece is laid. -/
theorem laying_any {c : UInt8} (hc : pcb c = true) : ∃ g : FuncId, (g = 73 ∨ g = 74 ∨ g = 75) ∧ (∀ (x : ByteArray) (w : World), x = ⟨#[c]⟩ → Calls Try.prog 62 #[.string x] w fun e w' => e = .returned (.func (Fn.func g) #[] #[]) ∧ w = w') ∧
    ∀ (s : Sp), s.okB 1000000 → ∀ w : World, Calls Try.prog g #[.agg #[.int .i64 s.x0, .int .i64 s.x1, .int .i64 s.x2, .int .i64 s.x3, .int .i64 s.h]] w fun e w' =>
      e = .returned (.agg #[.int .i64 (s.next c).x0, .int .i64 (s.next c).x1, .int .i64 (s.next c).x2, .int .i64 (s.next c).x3, .int .i64 (s.next c).h]) ∧ Below w.heap.size w w' := by
  rcases pcb_cases hc with rfl | rfl | rfl
  · refine ⟨_, .inl rfl, fun x w hx => lay_S' x hx w, fun s hs w => ?_⟩
    obtain ⟨⟨b0, b0'⟩, ⟨b1, b1'⟩, ⟨b2, b2'⟩, ⟨b3, b3'⟩, b4, b5⟩ := hs
    exact straightP s.x0 s.x1 s.x2 s.x3 s.h b4 b5 b0 b0' b1 b1' b2 b2' b3 b3' w
  · refine ⟨_, .inr (.inl rfl), fun x w hx => lay_L' x hx w, fun s hs w => ?_⟩
    obtain ⟨⟨b0, b0'⟩, ⟨b1, b1'⟩, ⟨b2, b2'⟩, ⟨b3, b3'⟩, b4, b5⟩ := hs
    exact leftP s.x0 s.x1 s.x2 s.x3 s.h b4 b5 b0 b0' b1 b1' b2 b2' b3 b3' w
  · refine ⟨_, .inr (.inr rfl), fun x w hx => lay_R' x hx w, fun s hs w => ?_⟩
    obtain ⟨⟨b0, b0'⟩, ⟨b1, b1'⟩, ⟨b2, b2'⟩, ⟨b3, b3'⟩, b4, b5⟩ := hs
    exact rightP s.x0 s.x1 s.x2 s.x3 s.h b4 b5 b0 b0' b1 b1' b2 b2' b3 b3' w

theorem ltr_at {k : Nat} (hk : k < 3) : ∃ c, ltr[k]? = some c ∧ pcb c = true ∧ (ByteArray.mk #[76, 82, 83]).extract k (k + 1) = ⟨#[c]⟩ ∧ ltr.take (k + 1) = ltr.take k ++ [c] := by
  match k, hk with
  | 0, _ => exact ⟨76, rfl, rfl, by decide, rfl⟩
  | 1, _ => exact ⟨82, rfl, rfl, by decide, rfl⟩
  | 2, _ => exact ⟨83, rfl, rfl, by decide, rfl⟩

theorem parts_start (a : Sp) : prtCells (parts a 0) = [.int .i64 a.x0, .int .i64 a.x1, .int .i64 a.x2, .int .i64 a.x3, .int .i64 a.h, .string ⟨#[]⟩] := rfl

theorem litCellsP {W : World} {B n : Nat} {e : TypeId} {size : Nat} {cs : Array Value} {xs : List Value} (hn : W.heap.size = n) (hb : B ≤ n) (hs : cs.size = size) (hx : cs.toList = xs) : (W.alloc (.cells cs e)).ownsRow B e size (.slice (some ⟨n, 0, none⟩) 1 1) 1 xs := by
  subst hn hs hx
  exact ⟨by simp, .inr ⟨W.heap.size, 1, cs, rfl, hb, heap_alloc_new _ _, Nat.le_refl _, by decide, by simp, by rw [Nat.one_mul]; exact List.take_of_length_le (by simp)⟩⟩

theorem concat_run {a b t : ByteArray} (ht : a ++ b = t) (h : a.size + b.size ≤ 1000000) (w : World) : (Op.stringOp .add a b).run Try.prog w = .ok (.string t) w := by
  rw [← ht]
  exact run_string_add_sum w a b (by omega)

theorem blk6 {W : World} {g : Nat} {t : TypeId} {a0 a1 a2 a3 a4 a5 : Value} (h : W.heap[g]? = some (.cells #[a0, a1, a2, a3, a4, a5] t (0, 0))) :
    W.cell? ⟨g, 0, none⟩ = some a0 ∧ W.cell? ⟨g, 1, none⟩ = some a1 ∧ W.cell? ⟨g, 2, none⟩ = some a2 ∧ W.cell? ⟨g, 3, none⟩ = some a3 ∧ W.cell? ⟨g, 4, none⟩ = some a4 ∧ W.cell? ⟨g, 5, none⟩ = some a5 := by
  simp [World.cell?, h]

theorem blkLt {W : World} {g : Nat} {o : Obj} (h : W.heap[g]? = some o) : g < W.heap.size := (Array.getElem?_eq_some_iff.1 h).1

theorem own_lessP {W : World} {B B' : Nat} {e : TypeId} {size n : Nat} {v : Value} {xs : List Value} (h : W.ownsRow B e size v n xs) (hB : B' ≤ B) : W.ownsRow B' e size v n xs := by
  refine ⟨h.1, ?_⟩
  rcases h.2 with h2 | ⟨g, cap, cur, h1, h2, h3⟩
  · exact .inl h2
  · exact .inr ⟨g, cap, cur, h1, by omega, h3⟩

theorem own_nb {W : World} {B e size n : Nat} {v : Value} {xs : List Value} (h : W.ownsRow B e size v n xs) : v.ownBlock ≠ some W.heap.size := by
  intro hv
  have := (h.lt _ hv).2
  omega

end Go.Proofs.Ytoenkgenoloihab

/- Contract: the way back from a step, in the program. -/
namespace Go.Proofs.Ytoenkgenoloihab
open Go.ChangeShapes Go.WideShapes Go.ChangeAt Go.RowKit

set_option linter.unusedVariables false

theorem times_tuB (k : Int) (h0 : 0 ≤ k) (h7 : k ≤ 7) (a0 a1 a2 a3 : Int) (pa0 : -999999 ≤ a0) (qa0 : a0 ≤ 999999) (pa1 : -999999 ≤ a1) (qa1 : a1 ≤ 999999) (pa2 : -999999 ≤ a2) (qa2 : a2 ≤ 999999) (pa3 : -999999 ≤ a3) (qa3 : a3 ≤ 999999) (w : World) :
    Calls Try.prog 78 #[.agg #[.int .i64 a0, .int .i64 a1, .int .i64 a2, .int .i64 a3], .agg #[.int .i64 (tu0 k 1 0 0 0), .int .i64 (tu1 k 1 0 0 0), .int .i64 (tu2 k 1 0 0 0), .int .i64 (tu3 k 1 0 0 0)]] w fun e w' => e = .returned (.agg #[.int .i64 (tu0 k a0 a1 a2 a3), .int .i64 (tu1 k a0 a1 a2 a3), .int .i64 (tu2 k a0 a1 a2 a3), .int .i64 (tu3 k a0 a1 a2 a3)]) ∧ Below w.heap.size w w' := by
  obtain ⟨b0, b0'⟩ := tu_bd0 k h0 h7
  obtain ⟨b1, b1'⟩ := tu_bd1 k h0 h7
  obtain ⟨b2, b2'⟩ := tu_bd2 k h0 h7
  obtain ⟨b3, b3'⟩ := tu_bd3 k h0 h7
  refine (imTimes_any a0 a1 a2 a3 (tu0 k 1 0 0 0) (tu1 k 1 0 0 0) (tu2 k 1 0 0 0) (tu3 k 1 0 0 0) pa0 qa0 pa1 qa1 pa2 qa2 pa3 qa3 b0 b0' b1 b1' b2 b2' b3 b3' w).mono ?_
  rintro e w' ⟨rfl, hb⟩
  exact ⟨by rw [tm_tu0 a0 a1 a2 a3 k h0 h7, tm_tu1 a0 a1 a2 a3 k h0 h7, tm_tu2 a0 a1 a2 a3 k h0 h7, tm_tu3 a0 a1 a2 a3 k h0 h7], hb⟩

theorem turn_back (h : Int) (h0 : 0 ≤ h) (h7 : h ≤ 7) (w : World) :
    Calls Try.prog 31 #[.int .i64 0, .int .i64 (-h)] w fun e w' => e = .returned (.int .i64 ((8 - h) % 8)) ∧ w = w' := by
  have h2 : (-h + 8).tmod 8 = (8 - h) % 8 := by rw [Int.tmod_eq_emod_of_nonneg (by omega), show -h + 8 = 8 - h by omega]
  have HM := Lib.hid h2
  clear h2
  go_enter Try.func31, Try.ntmps31
  go_wp2
  go_ret
  exact ⟨by first | rfl | (rw [← HM.out]; rfl) | (simp; done), rfl⟩

set_option maxRecDepth 100000 in
set_option maxHeartbeats 1600000 in
theorem wayBack_any (s : Sp) (hs : s.okB 999999) (w : World) :
    Calls Try.prog 65 #[.agg #[.int .i64 s.x0, .int .i64 s.x1, .int .i64 s.x2, .int .i64 s.x3, .int .i64 s.h]] w fun e w' =>
      e = .returned (.agg #[.int .i64 (wayB s).x0, .int .i64 (wayB s).x1, .int .i64 (wayB s).x2, .int .i64 (wayB s).x3, .int .i64 (wayB s).h]) ∧ Below w.heap.size w w' := by
  obtain ⟨x0, x1, x2, x3, h⟩ := s
  obtain ⟨⟨b0, b0'⟩, ⟨b1, b1'⟩, ⟨b2, b2'⟩, ⟨b3, b3'⟩, b4, b5⟩ := hs
  simp only at b0 b0' b1 b1' b2 b2' b3 b3' b4 b5
  have hc0 : 0 ≤ (8 - h) % 8 := by omega
  have hc7 : (8 - h) % 8 ≤ 7 := by omega
  have T := Lib.hid (times_tuB ((8 - h) % 8) hc0 hc7 (-x0) (-x1) (-x2) (-x3) (by omega) (by omega) (by omega) (by omega) (by omega) (by omega) (by omega) (by omega))
  have PW := Lib.hid (power_any ((8 - h) % 8) hc0 hc7)
  have SC := Lib.hid (scN x0 x1 x2 x3 b0 b0' b1 b1' b2 b2' b3 b3')
  have TB := Lib.hid (turn_back h b4 b5)
  simp only [wayB]
  generalize (8 - h) % 8 = k at *
  go_enter Try.func65, Try.ntmps65
  go_wp2_with (go_at_call 31; refine (TB.out _).mono ?_; rintro e w' ⟨rfl, rfl⟩)
  (go_at_call 77; (with_reducible refine (SC.out _).mono ?_); rintro e wA ⟨rfl, h1⟩; (try with_reducible replace h1 := undrew h1); have hB : Below w.heap.size w wA := ba (by go_grown) h1; obtain ⟨hcwA, hfwA⟩ := bcell h1; have hqwA := h1.size; (try simp at hqwA); (try have hz0wA : w.heap.size < wA.heap.size := (by omega)); (try have he0wA : w.heap.size ≤ wA.heap.size := (by omega)); (try have hz1wA : w.heap.size + 1 < wA.heap.size := (by omega)); (try have he1wA : w.heap.size + 1 ≤ wA.heap.size := (by omega)))
  go_wp2_with fail
  (go_at_call 79; (with_reducible refine (PW.out _).mono ?_); rintro e wB ⟨rfl, h1⟩; (try with_reducible replace h1 := undrew h1); have hB : Below w.heap.size w wB := ba (by go_grown) h1; obtain ⟨hcwB, hfwB⟩ := bcell h1; have hqwB := h1.size; (try simp at hqwB); (try have hz0wB : w.heap.size < wB.heap.size := (by omega)); (try have he0wB : w.heap.size ≤ wB.heap.size := (by omega)); (try have hz1wB : w.heap.size + 1 < wB.heap.size := (by omega)); (try have he1wB : w.heap.size + 1 ≤ wB.heap.size := (by omega)))
  go_wp2_with fail
  (go_at_call 78; (with_reducible refine (T.out _).mono ?_); rintro e wC ⟨rfl, h1⟩; (try with_reducible replace h1 := undrew h1); have hB : Below w.heap.size w wC := ba (by go_grown) h1; obtain ⟨hcwC, hfwC⟩ := bcell h1; have hqwC := h1.size; (try simp at hqwC); (try have hz0wC : w.heap.size < wC.heap.size := (by omega)); (try have he0wC : w.heap.size ≤ wC.heap.size := (by omega)); (try have hz1wC : w.heap.size + 1 < wC.heap.size := (by omega)); (try have he1wC : w.heap.size + 1 ≤ wC.heap.size := (by omega)))
  go_wp2_with fail
  refine bodyPost_ret (by simp [results, Try.results65, go_sem, *]; try rfl) rfl ?_
  exact ⟨rfl, by go_grown⟩

end Go.Proofs.Ytoenkgenoloihab

/- Contract: the program's 'closings'. -/
namespace Go.Proofs.Ytoenkgenoloihab
open Go.ChangeShapes Go.WideShapes Go.ChangeAt Go.RowKit

set_option linter.unusedVariables false

def StrPost (l : List (List UInt8)) (w : World) (e : Ending) (w' : World) : Prop :=
  ∃ v, e = .returned v ∧ w'.ownsRow w.heap.size 9 1 v l.length (strV l) ∧ Below w.heap.size w w'

theorem srInfo : (Try.prog.info? 9).map (fun i => (i.zero, i.size, i.bytes)) = some (some (.string ByteArray.empty), 1, 16) := by kernel_rfl

/-- Texts at their place, in a block that was there. -/
def StrAt (w : World) (g : Nat) (l : List (List UInt8)) : Prop := ∀ i u, l[i]? = some u → w.cell? ⟨g, i, none⟩ = some (.string (ofL u))

theorem StrAt.below {w w' : World} {g n : Nat} {l : List (List UInt8)} (h : StrAt w g l) (hg : g < n) (hb : Below n w w') : StrAt w' g l := fun i u hu => by
  rw [hb.cell (p := ⟨g, i, none⟩) hg]; exact h i u hu

theorem str_of {W : World} {B n g cap : Nat} {e : TypeId} {l : List (List UInt8)} (h : W.ownsRow B e 1 (.slice (some ⟨g, 0, none⟩) n cap) n (strV l)) (hn : l.length = n) : StrAt W g l := fun i u hu => by
  have hi : i < n := by rw [← hn]; exact (List.getElem?_eq_some_iff.1 hu).1
  rw [h.cellAt i (by omega)]
  simp [strV, hu]

def accG (l2 l1 : List (Sp × List UInt8)) (j : Nat) : List (List UInt8) := (l2.take j).flatMap fun p => (grp (wayB p.1) l1).map fun v => p.2 ++ v

theorem accG_end (a : Sp) (k0 : 0 ≤ a.h) (k7 : a.h ≤ 7) (m n : Nat) : accG (parts a m) (parts sp0 n) (3 ^ m) = clsL a (m + n) := by
  rw [accG, List.take_of_length_le (by rw [parts_len]; exact Nat.le_refl _), cls_halves a k0 k7]

theorem accG_next {l2 l1 : List (Sp × List UInt8)} {j : Nat} {p : Sp × List UInt8} (h : l2[j]? = some p) : accG l2 l1 (j + 1) = accG l2 l1 j ++ (grp (wayB p.1) l1).map fun v => p.2 ++ v := by
  rw [accG, List.take_add_one, h]
  simp [accG, List.flatMap_append]

theorem accG_le (l2 l1 : List (Sp × List UInt8)) : ∀ j, (accG l2 l1 j).length ≤ j * l1.length
  | 0 => by simp [accG]
  | j + 1 => by
    have ih := accG_le l2 l1 j
    rw [Nat.succ_mul]
    by_cases h : j < l2.length
    · rw [accG_next (List.getElem?_eq_getElem h), List.length_append, List.length_map]
      have := grp_le (wayB l2[j].1) l1
      omega
    · rw [show accG l2 l1 (j + 1) = accG l2 l1 j by rw [accG, accG, List.take_of_length_le (by omega), List.take_of_length_le (by omega)]]
      omega

theorem PrtAt.grown {w w' : World} {g : Nat} {l : List (Sp × List UInt8)} {row : Option Nat} (h : PrtAt w g l) (hg : w.grownBy w' row) (hne : some g ≠ row) : PrtAt w' g l := by
  intro i p hp
  obtain ⟨a, b, c, d, e, f⟩ := h i p hp
  exact ⟨hg.cell a hne, hg.cell b hne, hg.cell c hne, hg.cell d hne, hg.cell e hne, hg.cell f hne⟩

theorem wayB_ok {s : Sp} {n : Int} (h : s.okB n) : (wayB s).okB n := by
  obtain ⟨⟨b0, b0'⟩, ⟨b1, b1'⟩, ⟨b2, b2'⟩, ⟨b3, b3'⟩, b4, b5⟩ := h
  simp only [Sp.okB, wayB]
  refine ⟨?_, ?_, ?_, ?_, by omega, by omega⟩
  · unfold tu0; repeat' split <;> omega
  · unfold tu1; repeat' split <;> omega
  · unfold tu2; repeat' split <;> omega
  · unfold tu3; repeat' split <;> omega

theorem own_blkC {W : World} {B : Nat} {e t : TypeId} {size n : Nat} {v : Value} {xs : List Value} {g : Nat} {cs : Array Value} {fz : Nat × Nat} (h : W.ownsRow B e size v n xs) (hg : W.heap[g]? = some (.cells cs t fz)) (hne : e ≠ t) : some g ≠ v.ownBlock := by
  rcases h.2 with ⟨rfl, _⟩ | ⟨g', cap, cur, rfl, _, hg', _⟩
  · simp [Value.ownBlock]
  · intro he
    simp only [Value.ownBlock, Option.some.injEq] at he
    subst he
    rw [hg] at hg'
    simp only [Option.some.injEq, Obj.cells.injEq] at hg'
    exact hne hg'.2.1.symm

theorem own_formC {W : World} {B n size : Nat} {e : TypeId} {v : Value} {xs : List Value} (h : W.ownsRow B e size v n xs) : ∃ av cv, v = .slice av n cv := by
  rcases h.2 with ⟨h, h0⟩ | ⟨g, cap, cur, h, _⟩
  · exact ⟨none, 0, by rw [h, h0]⟩
  · exact ⟨_, _, h⟩

theorem news_one {W W1 : World} {n : Nat} {row : Option Nat} (hn : W.heap.size = n) (x : Value) (t : TypeId) (hg : (W.alloc (.cells #[x] t)).grownBy W1 row) (hne : some n ≠ row) : ∀ j u, [x][j]? = some u → W1.cell? ((⟨n, 0, none⟩ : Addr).add j) = some u := by
  subst hn
  intro j u hj
  have h := cell_one_new W x t j u hj
  match j, hj, h with
  | 0, _, h => exact hg.cell h (by simpa [Addr.add] using hne)

theorem blk5 {W : World} {g : Nat} {t : TypeId} {a0 a1 a2 a3 a4 : Value} (h : W.heap[g]? = some (.cells #[a0, a1, a2, a3, a4] t (0, 0))) :
    W.cell? ⟨g, 0, none⟩ = some a0 ∧ W.cell? ⟨g, 1, none⟩ = some a1 ∧ W.cell? ⟨g, 2, none⟩ = some a2 ∧ W.cell? ⟨g, 3, none⟩ = some a3 ∧ W.cell? ⟨g, 4, none⟩ = some a4 := by
  simp [World.cell?, h]

theorem grp_mem {k : Sp} {l : List (Sp × List UInt8)} {x : List UInt8} (h : x ∈ grp k l) : ∃ p ∈ l, p.2 = x := by
  simp only [grp, List.mem_map, List.mem_filter] at h
  obtain ⟨p, ⟨hp, _⟩, rfl⟩ := h
  exact ⟨p, hp, rfl⟩

end Go.Proofs.Ytoenkgenoloihab

/- Contract: the model's 'clWords'. -/
namespace Go.Proofs.Ytoenkgenoloihab
open Go.ChangeShapes Go.WideShapes Go.ChangeAt Go.RowKit

set_option linter.unusedVariables false

def nxW (l : List (List UInt8)) : List (List UInt8) := l.flatMap fun w => ltr.map fun c => w ++ [c]

theorem words_nx (n : Nat) : words (n + 1) = nxW (words n) := rfl

theorem nxW_take {l : List (List UInt8)} {j : Nat} {u : List UInt8} (h : l[j]? = some u) : nxW (l.take (j + 1)) = nxW (l.take j) ++ [u ++ [76], u ++ [82], u ++ [83]] := by
  rw [List.take_add_one, h]
  simp [nxW, ltr, List.flatMap_append]

theorem news_three {W : World} {n : Nat} (hn : W.heap.size = n) (x y z : Value) (t : TypeId) : ∀ j u, [x, y, z][j]? = some u → (W.alloc (.cells #[x, y, z] t)).cell? ((⟨n, 0, none⟩ : Addr).add j) = some u := by
  subst hn
  exact fun j u h => World.news_of_block (cs := #[x, y, z]) (heap_alloc_new W _) j u h

set_option maxRecDepth 100000 in
set_option maxHeartbeats 3200000 in
theorem clWords_any (n : Nat) (hn : n ≤ 7) (w : World) : Calls Try.prog 38 #[.int .i64 (n : Nat)] w (StrPost (words n) w) := by
  obtain ⟨i0, hi, iz0, iz1, iz2⟩ := info_parts srInfo
  go_enter Try.func38, Try.ntmps38
  go_wp2_with fail
  go_loopw [0, 3] (fun i v wr => ∃ k : Nat, k ≤ n ∧ i = .int .i64 ((n - k : Nat) : Int) ∧ wr.ownsRow w.heap.size 9 1 v (3 ^ k) (strV (words k)) ∧ Below w.heap.size w wr) (fun i _ _ => (intOf i).toNat)
  case atStart => exact ⟨0, Nat.zero_le _, rfl, litCellsP (by simp) (by omega) rfl rfl, by go_grown⟩
  case round =>
    obtain ⟨k, hk, rfl, hO, hb⟩ := hrel
    have hz : w.heap.size ≤ wr.heap.size := hb.size
    have h3 : 0 < 3 ^ k := Nat.pow_pos (by decide)
    obtain ⟨g, cap, rfl, hg0, hcp⟩ := hO.form h3
    by_cases hlt : k < n
    · obtain ⟨M, hM⟩ : ∃ M, 3 ^ k = M := ⟨_, rfl⟩
      have hM1 : M ≤ 2187 := by rw [← hM]; exact Nat.pow_le_pow_right (by decide) (show k ≤ 7 by omega)
      have hMS := Lib.hid (show 3 ^ (k + 1) = 3 * M by rw [Nat.pow_succ, hM, Nat.mul_comm])
      have hl := words_count k
      have hnx := words_nx k
      have hul : ∀ u ∈ words k, u.length ≤ 10 := fun u hu => by rw [words_len k u hu]; omega
      rw [hM] at hO h3 hl
      generalize words k = l at hO hl hnx hul
      have hg := (hO.lt g rfl).2
      have HP := Lib.hid (str_of hO hl)
      have HL := Lib.hid hl
      have HNX := Lib.hid hnx
      have HUL := Lib.hid hul
      have HB := Lib.hid hb
      have hd0 : 0 < n - k := by omega
      have hdd : ((n - k : Nat) : Int) - 1 = ((n - (k + 1) : Nat) : Int) := by omega
      generalize hd : n - k = d at *
      generalize hd2 : n - (k + 1) = d2 at *
      obtain ⟨wo, rfl⟩ : ∃ wo : World, wo = wr := ⟨_, rfl⟩
      rw [hM]
      clear hO hl hnx hul hb hM
      go_wp2_with fail
      go_loopw [4, 14] (fun t j wr => ∃ (jj : Nat) (v : Value), jj ≤ M ∧ j = .int .i64 jj ∧ v = t ∧ wr.ownsRow wo.heap.size 9 1 v (3 * jj) (strV (nxW (l.take jj))) ∧ Below wo.heap.size wo wr) (fun _ j _ => M - (intOf j).toNat)
      case atStart => exact ⟨0, _, Nat.zero_le _, rfl, rfl, World.ownsRow_nil _ _ _ _, Below.refl _ _⟩
      case round =>
        obtain ⟨j, v, hj, rfl, rfl, hN, hb2⟩ := hrel
        have hz2 := hb2.size
        by_cases hlj : j < M
        · obtain ⟨u, hu⟩ : ∃ u, l[j]? = some u := ⟨_, List.getElem?_eq_getElem (by rw [HL.out]; exact hlj)⟩
          have c0 := (HP.out.below hg hb2) j u hu
          have hul := HUL.out u (List.mem_of_getElem? hu)
          have HT := Lib.hid (nxW_take hu)
          obtain ⟨T1, hT1⟩ : ∃ T, ofL (u ++ [76]) = T := ⟨_, rfl⟩
          obtain ⟨T2, hT2⟩ : ∃ T, ofL (u ++ [82]) = T := ⟨_, rfl⟩
          obtain ⟨T3, hT3⟩ : ∃ T, ofL (u ++ [83]) = T := ⟨_, rfl⟩
          have k1 : ∀ w : World, (Op.stringOp .add (ofL u) ⟨#[76]⟩).run Try.prog w = .ok (.string T1) w := fun w => concat_run (by rw [← hT1]; exact ofL_snoc u 76) (by rw [ofL_size]; show _ + 1 ≤ _; omega) w
          have k2 : ∀ w : World, (Op.stringOp .add (ofL u) ⟨#[82]⟩).run Try.prog w = .ok (.string T2) w := fun w => concat_run (by rw [← hT2]; exact ofL_snoc u 82) (by rw [ofL_size]; show _ + 1 ≤ _; omega) w
          have k3 : ∀ w : World, (Op.stringOp .add (ofL u) ⟨#[83]⟩).run Try.prog w = .ok (.string T3) w := fun w => concat_run (by rw [← hT3]; exact ofL_snoc u 83) (by rw [ofL_size]; show _ + 1 ≤ _; omega) w
          have HV := Lib.hid (show strV (nxW (l.take (j + 1))) = strV (nxW (l.take j)) ++ [.string T1, .string T2, .string T3] by rw [HT.out, strV_append, ← hT1, ← hT2, ← hT3]; rfl)
          have HN := Lib.hid (hN.alloc (.cells #[.string T1, .string T2, .string T3] 9))
          have HB2 := Lib.hid (hb2.alloc hz2 (.cells #[.string T1, .string T2, .string T3] 9))
          clear hu hN hb2 hT1 hT2 hT3
          go_wp2_with (at_builtin; refine wpList_append_own_at _ rfl _ _ 50 rfl wo.heap.size 9 i0 (.string ByteArray.empty) 1 16 Try.underlying50 hi iz0 iz1 iz2 rfl (by decide) v _ _ rfl HN.out ⟨wr.heap.size, 0, none⟩ 3 3 [.string T1, .string T2, .string T3] rfl rfl (news_three rfl _ _ _ _) (by intro u hu; simp at hu; rcases hu with rfl | rfl | rfl <;> rfl) (by unfold maxLen; omega) (by omega) (by simp; omega) ?_; intro v' w2 hown' hgrow hnil hloc)
          have hlt' := HN.out.lt
          have HB8 := Lib.hid (HB2.out.grown hgrow (by simp; omega) (fun k hk => (hlt' k hk).1))
          have HO8 := Lib.hid hown'
          clear hlt' hgrow hown' hnil hloc
          go_roundw
          case rel => exact ⟨j + 1, v', by omega, by go_num, rfl, by rw [HV.out]; exact HO8.out, HB8.out⟩
          case measure => simp [intOf]; omega
        · obtain rfl : j = M := by omega
          have hta : l.take j = l := List.take_of_length_le (by rw [HL.out]; exact Nat.le_refl _)
          rw [hta] at hN
          have HN := Lib.hid (own_lessP hN hz)
          have HB2 := Lib.hid (HB.out.trans (hb2.mono hz))
          clear hN hb2 hta
          go_wp2_with fail
          go_roundw
          case rel => exact ⟨k + 1, by omega, by rw [hd2], by rw [hMS.out, HNX.out]; exact HN.out, HB2.out⟩
          case measure => simp [intOf]; omega
    · obtain rfl : k = n := by omega
      have HO := Lib.hid hO
      have HB := Lib.hid hb
      have h00 : k - k = 0 := by omega
      rw [h00]
      clear hO hb
      go_wp2_with fail
      go_ret
      exact ⟨_, rfl, by rw [words_count]; exact HO.out, HB.out⟩

end Go.Proofs.Ytoenkgenoloihab

/- Contract: the model's 'clBacks': the keys of all ends, in order. -/
namespace Go.Proofs.Ytoenkgenoloihab
open Go.ChangeShapes Go.WideShapes Go.ChangeAt Go.RowKit

set_option linter.unusedVariables false

def sp4 : Sp := ⟨0, 0, 0, 0, 4⟩

/-- The key of the end of a text, laid from 0 with the heading 4. -/
def bkI (u : List UInt8) : Int := keyI (fin sp4 u) (trW u)

def bkL (n : Nat) : List Int := (words n).map bkI

theorem trW_bd (u : List UInt8) (n : Nat) (h : u.length ≤ n) : -(n : Int) ≤ trW u ∧ trW u ≤ n := by
  have n1 := cnt_le 76 u
  have n2 := cnt_le 82 u
  unfold trW
  omega

theorem fin_sm (h : Int) (h0 : 0 ≤ h) (h7 : h ≤ 7) (u : List UInt8) (hu : u.length ≤ 14) (t : Int) (t0 : -60 ≤ t) (t1 : t ≤ 60) : smK (fin ⟨0, 0, 0, 0, h⟩ u) t := by
  have := fin_ok (s := ⟨0, 0, 0, 0, h⟩) (n := 0) (by simp [Sp.okB, h0, h7]) u
  simp only [Sp.okB] at this
  simp only [smK]
  omega

theorem bk_sm {n : Nat} (hn : n ≤ 7) {u : List UInt8} (h : u ∈ words n) : smK (fin sp4 u) (trW u) := by
  have hl := words_len n u h
  have := trW_bd u 7 (by omega)
  exact fin_sm 4 (by decide) (by decide) u (by omega) _ (by omega) (by omega)

set_option maxRecDepth 100000 in
set_option maxHeartbeats 3200000 in
theorem clBacks_any (n : Nat) (hn : n ≤ 7) (w : World) : Calls Try.prog 37 #[.int .i64 (n : Nat)] w (SortPost (bkL n) w) := by
  obtain ⟨i0, hi, iz0, iz1, iz2⟩ := info_parts nmInfoS
  have P := Lib.hid (clWords_any n hn)
  have hpc : ∀ u ∈ words n, u.all pcb = true ∧ u.length ≤ 14 ∧ smK (fin sp4 u) (trW u) := fun u hu => ⟨words_pcb n u hu, by rw [words_len n u hu]; omega, bk_sm hn hu⟩
  have hlen := words_count n
  have hL : bkL n = (words n).map bkI := rfl
  rw [hL]
  obtain ⟨M, hM⟩ : ∃ M, 3 ^ n = M := ⟨_, rfl⟩
  have hM1 : M ≤ 2187 := by rw [← hM]; exact Nat.pow_le_pow_right (by decide) hn
  rw [hM] at hlen
  generalize words n = l at *
  have HPC := Lib.hid hpc
  have HL := Lib.hid hlen
  clear hL hpc hlen hM
  go_enter Try.func37, Try.ntmps37
  go_wp2_with fail
  refine (P.out _).mono ?_
  rintro e w1 ⟨v1, rfl, o1, hb1⟩
  rw [HL.out] at o1
  obtain ⟨av, cv, rfl⟩ := own_formC o1
  have HB1 := Lib.hid hb1
  have O1 := Lib.hid o1
  clear hb1 o1
  go_wp2_with fail
  go_loopw [3, 11] (fun t j wr => ∃ (jj : Nat) (v : Value), jj ≤ M ∧ j = .int .i64 jj ∧ v = t ∧ wr.ownsRow w1.heap.size 3 1 v jj (((l.take jj).map bkI).map (Value.int .i64)) ∧ Below w1.heap.size w1 wr) (fun _ j _ => M - (intOf j).toNat)
  case atStart => exact ⟨0, _, Nat.zero_le _, rfl, rfl, World.ownsRow_nil _ _ _ _, Below.refl _ _⟩
  case round =>
    obtain ⟨j, v, hj, rfl, rfl, hN, hb2⟩ := hrel
    have hz2 := hb2.size
    by_cases hlj : j < M
    · obtain ⟨u, hu⟩ : ∃ u, l[j]? = some u := ⟨_, List.getElem?_eq_getElem (by rw [HL.out]; exact hlj)⟩
      obtain ⟨hp1, hp2, hp3⟩ := HPC.out u (List.mem_of_getElem? hu)
      obtain ⟨g, rfl⟩ : ∃ g, av = some ⟨g, 0, none⟩ := by
        rcases O1.out.2 with ⟨h, h0⟩ | ⟨g, cap, _, h, _⟩
        · omega
        · injection h with h; exact ⟨g, h⟩
      have c0 := (str_of O1.out HL.out).below (O1.out.lt g rfl).2 hb2 j u hu
      have CE := Lib.hid (clEnd_any u hp1 hp2 4 (by decide) (by decide))
      have CK := Lib.hid (clKey_any (fin sp4 u) (trW u) hp3)
      have HT := Lib.hid (show ((l.take (j + 1)).map bkI).map (Value.int .i64) = ((l.take j).map bkI).map (Value.int .i64) ++ [.int .i64 (keyI (fin sp4 u) (trW u))] by
        rw [List.take_add_one, hu, List.map_append, List.map_append]; rfl)
      rw [show (⟨0, 0, 0, 0, 4⟩ : Sp) = sp4 from rfl] at CE
      generalize keyI (fin sp4 u) (trW u) = K at *
      generalize fin sp4 u = p at *
      generalize trW u = tr at *
      generalize ofL u = T at *
      have HN := Lib.hid hN
      have HB2 := Lib.hid hb2
      clear hu hp1 hp2 hp3 hN hb2
      go_wp2_with fail
      refine (CE.out _).mono ?_
      rintro e w2 ⟨rfl, hb3⟩
      have hz3 := hb3.size
      go_wp2_with fail
      refine (CK.out _).mono ?_
      rintro e w3 ⟨rfl, hb4⟩
      have hz4 := hb4.size
      simp at hz4
      have hAll := ((HB2.out.trans (hb3.mono hz2)).alloc (Nat.le_trans hz2 hz3) (.cells #[.int .i64 p.x0, .int .i64 p.x1, .int .i64 p.x2, .int .i64 p.x3] 44)).trans (hb4.mono (by simp; omega))
      have hst := (hb3.alloc hz3 (.cells #[.int .i64 p.x0, .int .i64 p.x1, .int .i64 p.x2, .int .i64 p.x3] 44)).trans (hb4.mono (by simp; omega))
      have HN3 := Lib.hid ((HN.out.kept (below_grown hst) (by cases v.ownBlock <;> simp)).alloc (.cells #[.int .i64 K] 3))
      have HB3 := Lib.hid (hAll.alloc hAll.size (.cells #[.int .i64 K] 3))
      have hz5 := hAll.size
      clear hb3 hb4 hAll hst
      go_wp2_with (at_builtin; refine wpList_append_own_at _ rfl _ _ 28 rfl w1.heap.size 3 i0 (.int .i64 0) 1 8 Try.underlying28 hi iz0 iz1 iz2 rfl (by decide) v _ _ rfl HN3.out ⟨w3.heap.size, 0, none⟩ 1 1 [.int .i64 K] rfl rfl (cell_one_new _ _ _) (by intro u hu; simp at hu; subst hu; rfl) (by unfold maxLen; omega) (by omega) (by simp; omega) ?_; intro v' w4 hown' hgrow hnil hloc)
      have hlt' := HN3.out.lt
      have HB8 := Lib.hid (HB3.out.grown hgrow (by simp; omega) (fun k hk => (hlt' k hk).1))
      have HO8 := Lib.hid hown'
      clear hlt' hgrow hown' hnil hloc
      go_roundw
      case rel => exact ⟨j + 1, v', by omega, by go_num, rfl, by rw [HT.out]; exact HO8.out, HB8.out⟩
      case measure => simp [intOf]; omega
    · obtain rfl : j = M := by omega
      have hta : l.take j = l := List.take_of_length_le (by rw [HL.out]; exact Nat.le_refl _)
      rw [hta] at hN
      have hln : (l.map bkI).length = j := by rw [List.length_map, HL.out]
      have hIV : IntV wr v (l.map bkI) := iv_own (by rw [hln]; exact hN)
      have S := Lib.hid (fun W hW => clSort_any (l.map bkI) (by rw [hln]; omega) v W (hIV.below hW))
      have HB2 := Lib.hid (HB1.out.trans (hb2.mono HB1.out.size))
      clear hN hb2 hta hln hIV
      go_wp2_with fail
      refine (S.out _ (Below.refl _ _)).mono ?_
      rintro e w2 ⟨v2, ys, rfl, h1, h2, h3, hb5⟩
      have H1 := Lib.hid h1
      have HB5 := Lib.hid (HB2.out.trans (hb5.mono HB2.out.size))
      clear h1 hb5
      go_wp2_with fail
      go_ret
      exact ⟨v2, ys, rfl, H1.out, h2, h3, HB5.out⟩

end Go.Proofs.Ytoenkgenoloihab

/- Contracts: norms, and twice the numbers to the east and to the north, in the model and in the program. -/
namespace Go.Proofs.Ytoenkgenoloihab
open Go.ChangeShapes Go.WideShapes Go.ChangeAt Go.RowKit

def nm0 (a0 a1 a2 a3 : Int) : Int := wrap64 (wrap64 (wrap64 (wrap64 (a0 * a0) + wrap64 (a1 * a1)) + wrap64 (a2 * a2)) + wrap64 (a3 * a3))

def nm1 (a0 a1 a2 a3 : Int) : Int := wrap64 (wrap64 (wrap64 (wrap64 (a0 * a1) + wrap64 (a1 * a2)) + wrap64 (a2 * a3)) - wrap64 (a0 * a3))

set_option maxRecDepth 100000 in
set_option maxHeartbeats 400000 in
theorem spNorm_any (a0 a1 a2 a3 : Int) (w : World) :
    Calls Try.prog 68 #[.agg #[.int .i64 a0, .int .i64 a1, .int .i64 a2, .int .i64 a3]] w fun e w' => e = .returned (.agg #[.int .i64 (nm0 a0 a1 a2 a3), .int .i64 (nm1 a0 a1 a2 a3)]) ∧ Below w.heap.size w w' := by
  go_enter Try.func68, Try.ntmps68
  go_wp2
  go_returns
  exact ⟨rfl, by go_grown⟩

end Go.Proofs.Ytoenkgenoloihab

/- Plain numbers: no square is twice another one; parts of the continued fraction of the root of two. -/
namespace Go.Proofs.Ytoenkgenoloihab

theorem irr (n : Nat) : ∀ (y r : Int), r.toNat ≤ n → 0 < y → 0 < r → y * y ≠ 2 * (y * r) + r * r := by
  induction n with
  | zero => intro y r h _ h0; omega
  | succ n ih =>
    intro y r hr hy h0 he
    have h1 : 2 * r < y := by
      rcases Int.lt_or_le (2 * r) y with h | h
      · exact h
      · have := Int.mul_le_mul_of_nonneg_left h (Int.le_of_lt hy)
        have e : y * (2 * r) = 2 * (y * r) := by rw [Int.mul_left_comm]
        have p := Int.mul_pos h0 h0
        omega
    have h2 : y < 3 * r := by
      rcases Int.lt_or_le y (3 * r) with h | h
      · exact h
      · have k := Int.mul_le_mul_of_nonneg_left h (Int.le_of_lt hy)
        have e : y * (3 * r) = 3 * (y * r) := by rw [Int.mul_left_comm]
        have k2 := Int.mul_le_mul_of_nonneg_right h (Int.le_of_lt h0)
        have e2 : 3 * r * r = 3 * (r * r) := Int.mul_assoc _ _ _
        have p := Int.mul_pos h0 h0
        omega
    obtain ⟨t, ht⟩ : ∃ t, y = 2 * r + t := ⟨y - 2 * r, by omega⟩
    subst ht
    refine ih r t (by omega) h0 (by omega) ?_
    have e1 : (2 * r + t) * (2 * r + t) = 4 * (r * r) + 4 * (r * t) + t * t := by
      rw [Int.add_mul, Int.mul_add, Int.mul_add]
      have a1 : 2 * r * (2 * r) = 4 * (r * r) := by rw [Int.mul_assoc, Int.mul_left_comm r 2 r, ← Int.mul_assoc]; rfl
      have a2 : 2 * r * t = 2 * (r * t) := Int.mul_assoc _ _ _
      have a3 : t * (2 * r) = 2 * (r * t) := by rw [Int.mul_comm, Int.mul_assoc]
      omega
    have e2 : (2 * r + t) * r = 2 * (r * r) + r * t := by
      rw [Int.add_mul, Int.mul_assoc, Int.mul_comm t r]
    rw [e1, e2] at he
    omega

def G1 (x y : Int) : Bool := decide (2 * (y * y) < x * x)

def G2 (x y : Int) : Bool := decide (2 * (x * y) + y * y < x * x)

theorem sq_add (y r : Int) : (y + r) * (y + r) = y * y + 2 * (y * r) + r * r := by
  rw [Int.add_mul, Int.mul_add, Int.mul_add, Int.mul_comm r y]
  omega

theorem G1_step (y r : Int) (hy : 0 < y) (h0 : 0 < r) : G1 (y + r) y = !G2 y r := by
  have i := irr r.toNat y r (Nat.le_refl _) hy h0
  unfold G1 G2
  rw [sq_add]
  by_cases h : 2 * (y * r) + r * r < y * y
  · have : ¬ 2 * (y * y) < y * y + 2 * (y * r) + r * r := by omega
    simp [h, this]
  · have : 2 * (y * y) < y * y + 2 * (y * r) + r * r := by omega
    simp [h, this]

theorem G1_end (y : Int) (hy : 0 < y) : G1 y y = false := by
  have := Int.mul_pos hy hy
  unfold G1
  exact decide_eq_false (by omega)

theorem e2y (y r : Int) : (2 * y + r) * (2 * y + r) = 4 * (y * y) + 4 * (y * r) + r * r := by
  rw [Int.add_mul, Int.mul_add, Int.mul_add]
  have a1 : 2 * y * (2 * y) = 4 * (y * y) := by rw [Int.mul_assoc, Int.mul_left_comm y 2 y, ← Int.mul_assoc]; rfl
  have a2 : 2 * y * r = 2 * (y * r) := Int.mul_assoc _ _ _
  have a3 : r * (2 * y) = 2 * (y * r) := by rw [Int.mul_comm, Int.mul_assoc]
  omega

theorem e2x (y r : Int) : (2 * y + r) * y = 2 * (y * y) + y * r := by
  rw [Int.add_mul, Int.mul_assoc, Int.mul_comm r y]

theorem G2_step (y r : Int) (hy : 0 < y) (h0 : 0 < r) : G2 (2 * y + r) y = !G2 y r := by
  have i := irr r.toNat y r (Nat.le_refl _) hy h0
  unfold G2
  rw [e2y, e2x]
  by_cases h : 2 * (y * r) + r * r < y * y
  · have : ¬ 2 * (2 * (y * y) + y * r) + y * y < 4 * (y * y) + 4 * (y * r) + r * r := by omega
    simp [h, this]
  · have : 2 * (2 * (y * y) + y * r) + y * y < 4 * (y * y) + 4 * (y * r) + r * r := by omega
    simp [h, this]

theorem G2_end (y : Int) (hy : 0 < y) : G2 (2 * y) y = false := by
  have := Int.mul_pos hy hy
  have e := e2y y 0
  have f := e2x y 0
  simp at e f
  unfold G2
  rw [e, f]
  exact decide_eq_false (by omega)

theorem G1_more (x y : Int) (hy : 0 < y) (h : 2 * y ≤ x) : G1 x y = true := by
  have a := Int.mul_le_mul_of_nonneg_left h (by omega : 0 ≤ x)
  have b := Int.mul_le_mul_of_nonneg_right h (by omega : 0 ≤ y)
  have e : x * (2 * y) = 2 * (x * y) := by rw [Int.mul_left_comm]
  have f : 2 * y * y = 2 * (y * y) := Int.mul_assoc _ _ _
  have p := Int.mul_pos hy hy
  unfold G1
  exact decide_eq_true (by omega)

theorem G1_less (x y : Int) (hx : 0 < x) (h : x < y) : G1 x y = false := by
  have a := Int.mul_le_mul_of_nonneg_left (Int.le_of_lt h) (Int.le_of_lt hx)
  have b := Int.mul_le_mul_of_nonneg_right (Int.le_of_lt h) (by omega : 0 ≤ y)
  have p := Int.mul_pos (by omega : 0 < y) (by omega : 0 < y)
  unfold G1
  exact decide_eq_false (by omega)

theorem G2_more (x y : Int) (hy : 0 < y) (h : 3 * y ≤ x) : G2 x y = true := by
  have a := Int.mul_le_mul_of_nonneg_left h (by omega : 0 ≤ x)
  have b := Int.mul_le_mul_of_nonneg_right h (by omega : 0 ≤ y)
  have e : x * (3 * y) = 3 * (x * y) := by rw [Int.mul_left_comm]
  have f : 3 * y * y = 3 * (y * y) := Int.mul_assoc _ _ _
  have p := Int.mul_pos hy hy
  unfold G2
  exact decide_eq_true (by omega)

theorem G2_less (x y : Int) (hx : 0 < x) (hy : 0 < y) (h : x < 2 * y) : G2 x y = false := by
  have a := Int.mul_le_mul_of_nonneg_left (Int.le_of_lt h) (Int.le_of_lt hx)
  have e : x * (2 * y) = 2 * (x * y) := by rw [Int.mul_left_comm]
  have p := Int.mul_pos hy hy
  unfold G2
  exact decide_eq_false (by omega)

end Go.Proofs.Ytoenkgenoloihab

/- Contract: which of both is greater, by the continued fraction, in the model. -/
namespace Go.Proofs.Ytoenkgenoloihab
open Go.ChangeShapes Go.WideShapes Go.ChangeAt Go.RowKit

def GRel (T : Bool) (wh x y : Int) (g : Bool) : Prop := (wh = 1 ∧ T = (G1 x y == g)) ∨ (wh = 2 ∧ T = (G2 x y == g))

theorem q_one {x y : Int} (hy : 0 < y) (h1 : y ≤ x) (h2 : x < 2 * y) : x / y = 1 := by
  have a : 1 ≤ x / y := (Int.le_ediv_iff_mul_le hy).2 (by omega)
  have b : x / y < 2 := (Int.ediv_lt_iff_lt_mul hy).2 (by omega)
  omega

theorem q_two {x y : Int} (hy : 0 < y) (h1 : 2 * y ≤ x) (h2 : x < 3 * y) : x / y = 2 := by
  have a : 2 ≤ x / y := (Int.le_ediv_iff_mul_le hy).2 (by omega)
  have b : x / y < 3 := (Int.ediv_lt_iff_lt_mul hy).2 (by omega)
  omega

theorem q_zero {x y : Int} (hx : 0 < x) (h1 : x < y) : x / y = 0 := Int.ediv_eq_zero_of_lt (by omega) h1

theorem q_ge2 {x y : Int} (hy : 0 < y) (h1 : 2 * y ≤ x) : 2 ≤ x / y := (Int.le_ediv_iff_mul_le hy).2 (by omega)

theorem q_ge3 {x y : Int} (hy : 0 < y) (h1 : 3 * y ≤ x) : 3 ≤ x / y := (Int.le_ediv_iff_mul_le hy).2 (by omega)

theorem q_le1 {x y : Int} (hx : 0 < x) (hy : 0 < y) (h1 : x < 2 * y) : 0 ≤ x / y ∧ x / y ≤ 1 := by
  have b : x / y < 2 := (Int.ediv_lt_iff_lt_mul hy).2 (by omega)
  have a : 0 ≤ x / y := Int.ediv_nonneg (by omega) (by omega)
  omega

theorem q_lex {x y : Int} (hx : 0 < x) : x / y ≤ x := Int.ediv_le_self _ (by omega)

set_option maxRecDepth 100000 in
set_option maxHeartbeats 3200000 in
theorem greater_any (X Y : Int) (hX : 0 < X) (hY : 0 < Y) (bX : X ≤ 9000000000000000) (bY : Y ≤ 9000000000000000) (w : World) :
    Calls Try.prog 90 #[.int .i64 X, .int .i64 Y] w fun e w' => e = .returned (.bool (G1 X Y)) ∧ w = w' := by
  go_enter Try.func90, Try.ntmps90
  go_wp2
  go_loop [0, 1, 5, 6] (fun v0 v1 v5 v6 => ∃ (x y wh : Int) (g : Bool), v0 = .int .i64 x ∧ v1 = .int .i64 y ∧ v5 = .bool g ∧ v6 = .int .i64 wh ∧ 0 < x ∧ 0 < y ∧ x ≤ 9000000000000000 ∧ y ≤ 9000000000000000 ∧ GRel (G1 X Y) wh x y g) (fun _ v1 _ _ => (intOf v1).toNat)
  case atStart => exact ⟨X, Y, 1, true, rfl, rfl, rfl, rfl, hX, hY, bX, bY, .inl ⟨rfl, by simp⟩⟩
  case round =>
    obtain ⟨x, y, wh, g, rfl, rfl, rfl, rfl, hx, hy, bx, bby, hrel⟩ := hrel
    rcases hrel with ⟨rfl, hT⟩ | ⟨rfl, hT⟩
    · by_cases c1 : x < y
      · have hq := q_zero hx c1
        rw [G1_less x y hx c1] at hT
        have HT := Lib.hid hT
        clear hT
        go_wp2
        go_ret
        exact ⟨by rw [HT.out]; first | (cases g <;> rfl) | (cases g <;> simp <;> omega), rfl⟩
      by_cases c2 : 2 * y ≤ x
      · have hq := q_ge2 hy c2
        have hq2 := q_lex (y := y) hx
        rw [G1_more x y hy c2] at hT
        have HT := Lib.hid hT
        clear hT
        obtain ⟨k, hk⟩ : ∃ k, x / y = k := ⟨_, rfl⟩
        rw [hk] at hq hq2
        go_wp2
        go_ret
        exact ⟨by rw [HT.out]; first | (cases g <;> rfl) | (cases g <;> simp <;> omega), rfl⟩
      · have hq := q_one (x := x) hy (by omega) (by omega)
        have HT := Lib.hid hT
        clear hT
        by_cases c3 : x = y
        · subst c3
          go_wp2
          go_ret
          exact ⟨by rw [HT.out, G1_end _ hy]; cases g <;> rfl, rfl⟩
        · obtain ⟨r, hr⟩ : ∃ r, x = y + r := ⟨x - y, by omega⟩
          subst hr
          have hr0 : 0 < r := by omega
          go_wp2
          go_round
          case rel => exact ⟨y, r, 2, !g, rfl, by go_num, rfl, rfl, hy, hr0, by omega, by omega, .inr ⟨rfl, by rw [HT.out, G1_step y r hy hr0]; cases G2 y r <;> cases g <;> rfl⟩⟩
          case measure => simp [intOf]; omega
    · by_cases c1 : x < 2 * y
      · have hq := q_le1 hx hy c1
        rw [G2_less x y hx hy c1] at hT
        have HT := Lib.hid hT
        clear hT
        obtain ⟨k, hk⟩ : ∃ k, x / y = k := ⟨_, rfl⟩
        rw [hk] at hq
        obtain ⟨hq0, hq1⟩ := hq
        go_wp2
        go_ret
        exact ⟨by rw [HT.out]; first | (cases g <;> rfl) | (cases g <;> simp <;> omega), rfl⟩
      by_cases c2 : 3 * y ≤ x
      · have hq := q_ge3 hy c2
        have hq2 := q_lex (y := y) hx
        rw [G2_more x y hy c2] at hT
        have HT := Lib.hid hT
        clear hT
        obtain ⟨k, hk⟩ : ∃ k, x / y = k := ⟨_, rfl⟩
        rw [hk] at hq hq2
        go_wp2
        go_ret
        exact ⟨by rw [HT.out]; first | (cases g <;> rfl) | (cases g <;> simp <;> omega), rfl⟩
      · have hq := q_two (x := x) hy (by omega) (by omega)
        have HT := Lib.hid hT
        clear hT
        by_cases c3 : x = 2 * y
        · subst c3
          go_wp2
          go_ret
          exact ⟨by rw [HT.out, G2_end _ hy]; cases g <;> rfl, rfl⟩
        · obtain ⟨r, hr⟩ : ∃ r, x = 2 * y + r := ⟨x - 2 * y, by omega⟩
          subst hr
          have hr0 : 0 < r := by omega
          go_wp2
          go_round
          case rel => exact ⟨y, r, 2, !g, rfl, by go_num, rfl, rfl, hy, hr0, by omega, by omega, .inr ⟨rfl, by rw [HT.out, G2_step y r hy hr0]; cases G2 y r <;> cases g <;> rfl⟩⟩
          case measure => simp [intOf]; omega

end Go.Proofs.Ytoenkgenoloihab

/- Contracts: which surds there are, sums and products of surds, in the model and in the program. -/
namespace Go.Proofs.Ytoenkgenoloihab
open Go.ChangeShapes Go.WideShapes Go.ChangeAt Go.RowKit

def surdB (n s0 s1 : Int) : Bool := inB s0 (-n) n && inB s1 (-n) n

end Go.Proofs.Ytoenkgenoloihab

/- Contracts: the sign of a surd, in the model. -/
namespace Go.Proofs.Ytoenkgenoloihab
open Go.ChangeShapes Go.WideShapes Go.ChangeAt Go.RowKit

def sg (n : Int) : Int := if 0 < n then 1 else if n < 0 then -1 else 0

def ab (n : Int) : Int := if n < 0 then -n else n

def sgn2 (s0 s1 : Int) : Int := cond (G1 s0 s1) (sg s0) (sg s1)

theorem sg_pos {n : Int} (h : 0 < n) : sg n = 1 := by simp [sg, h]

theorem sg_neg {n : Int} (h : n < 0) : sg n = -1 := by
  have h' : ¬ 0 < n := by omega
  simp [sg, h, h']

theorem sg_zero : sg 0 = 0 := rfl

theorem ab_pos {n : Int} (h : 0 < n) : ab n = n := by
  have h' : ¬ n < 0 := by omega
  simp [ab, h']

theorem ab_neg {n : Int} (h : n < 0) : ab n = -n := by simp [ab, h]

theorem G1_neg0 (x y : Int) : G1 (-x) y = G1 x y := by simp [G1, Int.neg_mul_neg]

theorem G1_neg1 (x y : Int) : G1 x (-y) = G1 x y := by simp [G1, Int.neg_mul_neg]

theorem G1_z0 (y : Int) : G1 0 y = false := by
  unfold G1
  have : 0 ≤ y * y := by
    rcases Int.le_total 0 y with h | h
    · exact Int.mul_nonneg h h
    · exact Int.mul_nonneg_of_nonpos_of_nonpos h h
  exact decide_eq_false (by omega)

theorem G1_z1 (x : Int) (h : x ≠ 0) : G1 x 0 = true := by
  unfold G1
  have : 0 < x * x := by
    rcases Int.lt_or_gt_of_ne h with h | h
    · exact Int.mul_pos_of_neg_of_neg h h
    · exact Int.mul_pos h h
  exact decide_eq_true (by omega)

set_option maxRecDepth 100000 in
theorem l1Sign_any (n : Int) (w : World) :
    Calls Try.prog 89 #[.int .i64 n] w fun e w' => e = .returned (.int .i64 (sg n)) ∧ w = w' := by
  rcases Int.lt_trichotomy n 0 with h | rfl | h
  · rw [sg_neg h]
    go_enter Try.func89, Try.ntmps89
    go_wp2
    go_ret
    exact ⟨rfl, rfl⟩
  · go_enter Try.func89, Try.ntmps89
    go_wp2
    go_ret
    exact ⟨rfl, rfl⟩
  · rw [sg_pos h]
    go_enter Try.func89, Try.ntmps89
    go_wp2
    go_ret
    exact ⟨rfl, rfl⟩

set_option maxRecDepth 100000 in
theorem l1Abs_any (n : Int) (h0 : n ≠ 0) (b0 : -9000000000000000 ≤ n) (b1 : n ≤ 9000000000000000) (w : World) :
    Calls Try.prog 91 #[.int .i64 n] w fun e w' => e = .returned (.int .i64 (ab n)) ∧ w = w' := by
  rcases Int.lt_or_gt_of_ne h0 with h | h
  · rw [ab_neg h]
    go_enter Try.func91, Try.ntmps91
    go_wp2
    all_goals go_ret
    all_goals exact ⟨rfl, rfl⟩
  · rw [ab_pos h]
    go_enter Try.func91, Try.ntmps91
    go_wp2
    all_goals go_ret
    all_goals exact ⟨rfl, rfl⟩

end Go.Proofs.Ytoenkgenoloihab

/- Contracts: SignOfSurd and its like, in the model. -/
namespace Go.Proofs.Ytoenkgenoloihab
open Go.ChangeShapes Go.WideShapes Go.ChangeAt Go.RowKit

/-- A call that leaves the world alone, in a region that draws behind another one. -/
theorem two_quiet {P : Program} {f : FuncId} {args : Array Value} {w : World} {a n : Nat} {v : Value} (h : Calls P f args (w.drewN (a + n)) fun e w' => e = .returned v ∧ w' = w.drewN (a + n)) :
    Calls P f args (w.drewN (a + n)) fun e w' => e = .returned v ∧ ∃ m, w' = w.drewN (a + m) := h.mono fun _ _ k => ⟨k.1, n, k.2⟩

theorem below_drewN {B : Nat} {a w : World} (h : Below B a w) (n : Nat) : Below B a (w.drewN n) := ⟨h.os, h.tape, h.output, h.size, h.block⟩

set_option maxRecDepth 100000 in
set_option maxHeartbeats 3200000 in
theorem ptSign_any (s0 s1 : Int) (b0 : -4000000000000000 ≤ s0) (c0 : s0 ≤ 4000000000000000) (b1 : -4000000000000000 ≤ s1) (c1 : s1 ≤ 4000000000000000) (w : World) :
    Calls Try.prog 80 #[.agg #[.int .i64 s0, .int .i64 s1]] w fun e w' => e = .returned (.int .i64 (sgn2 s0 s1)) ∧ Below w.heap.size w w' := by
  rcases Int.lt_trichotomy s0 0 with h0 | rfl | h0 <;> rcases Int.lt_trichotomy s1 0 with h1 | rfl | h1
  · have e0 := sg_neg h0
    have e1 := sg_neg h1
    have hs : sgn2 s0 s1 = -1 := by rw [sgn2]; cases G1 s0 s1 <;> simp [e0, e1]
    rw [hs]
    clear hs
    go_enter Try.func80, Try.ntmps80
    go_wp2_with fail
    go_quiet ((go_at_call 89; exact Calls.quiet_of_same (turned (l1Sign_any _ _))))
    go_wp2
    go_returns
    exact ⟨by first | rfl | (simp [*]; done), by first | (refine below_drewN ?_ _; go_grown; done) | (go_grown; done)⟩
  · have e0 := sg_neg h0
    have e1 := sg_zero
    have hs : sgn2 s0 0 = -1 := by rw [sgn2, G1_z1 _ (by omega)]; simp [e0]
    rw [hs]
    clear hs
    go_enter Try.func80, Try.ntmps80
    go_wp2_with fail
    go_quiet ((go_at_call 89; exact Calls.quiet_of_same (turned (l1Sign_any _ _))))
    go_wp2
    go_returns
    exact ⟨by first | rfl | (simp [*]; done), by first | (refine below_drewN ?_ _; go_grown; done) | (go_grown; done)⟩
  · have e0 := sg_neg h0
    have e1 := sg_pos h1
    have hG : G1 (ab s0) (ab s1) = G1 s0 s1 := by rw [ab_neg h0, ab_pos h1, G1_neg0]
    have pa : 0 < ab s0 := by rw [ab_neg h0]; omega
    have pb : 0 < ab s1 := by rw [ab_pos h1]; omega
    have qa : ab s0 ≤ 9000000000000000 := by rw [ab_neg h0]; omega
    have qb : ab s1 ≤ 9000000000000000 := by rw [ab_pos h1]; omega
    have hs : sgn2 s0 s1 = cond (G1 s0 s1) (-1) 1 := by simp [sgn2, e0, e1]
    rw [hs]
    have HG := Lib.hid hG
    clear hG hs
    cases hg : G1 s0 s1
    · have hg2 : G1 (ab s0) (ab s1) = false := by rw [HG.out, hg]
      go_enter Try.func80, Try.ntmps80
      go_wp2_with fail
      go_quiet ((go_at_call 89; exact Calls.quiet_of_same (turned (l1Sign_any _ _))))
      go_wp2
      go_quiet ((first | (go_at_call 91; exact two_quiet (turned (l1Abs_any _ (by omega) (by omega) (by omega) _))) | (go_at_call 90; exact two_quiet (turned (greater_any _ _ pa pb qa qb _)))))
      go_wp2
      all_goals go_returns
      all_goals first | (exfalso; simp_all; done) | exact ⟨by first | rfl | (simp [*]; done), by ((repeat refine below_drewN ?_ _); go_grown; done)⟩
    · have hg2 : G1 (ab s0) (ab s1) = true := by rw [HG.out, hg]
      go_enter Try.func80, Try.ntmps80
      go_wp2_with fail
      go_quiet ((go_at_call 89; exact Calls.quiet_of_same (turned (l1Sign_any _ _))))
      go_wp2
      go_quiet ((first | (go_at_call 91; exact two_quiet (turned (l1Abs_any _ (by omega) (by omega) (by omega) _))) | (go_at_call 90; exact two_quiet (turned (greater_any _ _ pa pb qa qb _)))))
      go_wp2
      all_goals go_returns
      all_goals first | (exfalso; simp_all; done) | exact ⟨by first | rfl | (simp [*]; done), by ((repeat refine below_drewN ?_ _); go_grown; done)⟩
  · have e0 := sg_zero
    have e1 := sg_neg h1
    have hs : sgn2 0 s1 = -1 := by rw [sgn2, G1_z0]; simp [e1]
    rw [hs]
    clear hs
    go_enter Try.func80, Try.ntmps80
    go_wp2_with fail
    go_quiet ((go_at_call 89; exact Calls.quiet_of_same (turned (l1Sign_any _ _))))
    go_wp2
    go_returns
    exact ⟨by first | rfl | (simp [*]; done), by first | (refine below_drewN ?_ _; go_grown; done) | (go_grown; done)⟩
  · have e0 := sg_zero
    have hs : sgn2 0 0 = 0 := by rw [sgn2, G1_z0]; simp [sg_zero]
    rw [hs]
    clear hs
    go_enter Try.func80, Try.ntmps80
    go_wp2_with fail
    go_quiet ((go_at_call 89; exact Calls.quiet_of_same (turned (l1Sign_any _ _))))
    go_wp2
    go_returns
    exact ⟨by first | rfl | (simp [*]; done), by first | (refine below_drewN ?_ _; go_grown; done) | (go_grown; done)⟩
  · have e0 := sg_zero
    have e1 := sg_pos h1
    have hs : sgn2 0 s1 = 1 := by rw [sgn2, G1_z0]; simp [e1]
    rw [hs]
    clear hs
    go_enter Try.func80, Try.ntmps80
    go_wp2_with fail
    go_quiet ((go_at_call 89; exact Calls.quiet_of_same (turned (l1Sign_any _ _))))
    go_wp2
    go_returns
    exact ⟨by first | rfl | (simp [*]; done), by first | (refine below_drewN ?_ _; go_grown; done) | (go_grown; done)⟩
  · have e0 := sg_pos h0
    have e1 := sg_neg h1
    have hG : G1 (ab s0) (ab s1) = G1 s0 s1 := by rw [ab_pos h0, ab_neg h1, G1_neg1]
    have pa : 0 < ab s0 := by rw [ab_pos h0]; omega
    have pb : 0 < ab s1 := by rw [ab_neg h1]; omega
    have qa : ab s0 ≤ 9000000000000000 := by rw [ab_pos h0]; omega
    have qb : ab s1 ≤ 9000000000000000 := by rw [ab_neg h1]; omega
    have hs : sgn2 s0 s1 = cond (G1 s0 s1) 1 (-1) := by simp [sgn2, e0, e1]
    rw [hs]
    have HG := Lib.hid hG
    clear hG hs
    cases hg : G1 s0 s1
    · have hg2 : G1 (ab s0) (ab s1) = false := by rw [HG.out, hg]
      go_enter Try.func80, Try.ntmps80
      go_wp2_with fail
      go_quiet ((go_at_call 89; exact Calls.quiet_of_same (turned (l1Sign_any _ _))))
      go_wp2
      go_quiet ((first | (go_at_call 91; exact two_quiet (turned (l1Abs_any _ (by omega) (by omega) (by omega) _))) | (go_at_call 90; exact two_quiet (turned (greater_any _ _ pa pb qa qb _)))))
      go_wp2
      all_goals go_returns
      all_goals first | (exfalso; simp_all; done) | exact ⟨by first | rfl | (simp [*]; done), by ((repeat refine below_drewN ?_ _); go_grown; done)⟩
    · have hg2 : G1 (ab s0) (ab s1) = true := by rw [HG.out, hg]
      go_enter Try.func80, Try.ntmps80
      go_wp2_with fail
      go_quiet ((go_at_call 89; exact Calls.quiet_of_same (turned (l1Sign_any _ _))))
      go_wp2
      go_quiet ((first | (go_at_call 91; exact two_quiet (turned (l1Abs_any _ (by omega) (by omega) (by omega) _))) | (go_at_call 90; exact two_quiet (turned (greater_any _ _ pa pb qa qb _)))))
      go_wp2
      all_goals go_returns
      all_goals first | (exfalso; simp_all; done) | exact ⟨by first | rfl | (simp [*]; done), by ((repeat refine below_drewN ?_ _); go_grown; done)⟩
  · have e0 := sg_pos h0
    have e1 := sg_zero
    have hs : sgn2 s0 0 = 1 := by rw [sgn2, G1_z1 _ (by omega)]; simp [e0]
    rw [hs]
    clear hs
    go_enter Try.func80, Try.ntmps80
    go_wp2_with fail
    go_quiet ((go_at_call 89; exact Calls.quiet_of_same (turned (l1Sign_any _ _))))
    go_wp2
    go_returns
    exact ⟨by first | rfl | (simp [*]; done), by first | (refine below_drewN ?_ _; go_grown; done) | (go_grown; done)⟩
  · have e0 := sg_pos h0
    have e1 := sg_pos h1
    have hs : sgn2 s0 s1 = 1 := by rw [sgn2]; cases G1 s0 s1 <;> simp [e0, e1]
    rw [hs]
    clear hs
    go_enter Try.func80, Try.ntmps80
    go_wp2_with fail
    go_quiet ((go_at_call 89; exact Calls.quiet_of_same (turned (l1Sign_any _ _))))
    go_wp2
    go_returns
    exact ⟨by first | rfl | (simp [*]; done), by first | (refine below_drewN ?_ _; go_grown; done) | (go_grown; done)⟩

end Go.Proofs.Ytoenkgenoloihab

/- Contracts: the sign of a surd, in the program. -/
namespace Go.Proofs.Ytoenkgenoloihab
open Go.ChangeShapes Go.WideShapes Go.ChangeAt Go.RowKit

def mh (x y : Nat) : Nat := x * y / 18446744073709551616

def ml (x y : Nat) : Nat := x * y % 18446744073709551616

theorem lex (a b : Nat) : (b / 18446744073709551616 < a / 18446744073709551616 ∨ a / 18446744073709551616 = b / 18446744073709551616 ∧ b % 18446744073709551616 < a % 18446744073709551616) ↔ b < a := by omega

end Go.Proofs.Ytoenkgenoloihab

/- Contracts: SignOfSurd and CompareSurds, in the model and in the program. -/
namespace Go.Proofs.Ytoenkgenoloihab
open Go.ChangeShapes Go.WideShapes Go.ChangeAt Go.RowKit

theorem G1_abs (s0 s1 : Int) : G1 s0 s1 = decide (2 * s1.natAbs * s1.natAbs < s0.natAbs * s0.natAbs) := by
  have e0 : ((s0.natAbs * s0.natAbs : Nat) : Int) = s0 * s0 := Int.natAbs_mul_self
  have e1 : ((s1.natAbs * s1.natAbs : Nat) : Int) = s1 * s1 := Int.natAbs_mul_self
  have e2 : 2 * s1.natAbs * s1.natAbs = 2 * (s1.natAbs * s1.natAbs) := Nat.mul_assoc _ _ _
  unfold G1
  rw [decide_eq_decide]
  rw [e2]
  omega

end Go.Proofs.Ytoenkgenoloihab

/- Contracts: SignOfSurd and CompareSurds, in the model and in the program. -/
namespace Go.Proofs.Ytoenkgenoloihab
open Go.ChangeShapes Go.WideShapes Go.ChangeAt Go.RowKit

theorem sd_bd {n s0 s1 : Int} (h : surdB n s0 s1 = true) : -n ≤ s0 ∧ s0 ≤ n ∧ -n ≤ s1 ∧ s1 ≤ n := by
  simp [surdB, inB] at h
  omega

set_option maxRecDepth 100000 in
theorem ptCompare_any (s0 s1 : Int) (t0 t1 : Int) (ps0 : -1900000000000000 ≤ s0) (qs0 : s0 ≤ 1900000000000000) (ps1 : -1900000000000000 ≤ s1) (qs1 : s1 ≤ 1900000000000000) (pt0 : -1900000000000000 ≤ t0) (qt0 : t0 ≤ 1900000000000000) (pt1 : -1900000000000000 ≤ t1) (qt1 : t1 ≤ 1900000000000000) (w : World) :
    Calls Try.prog 67 #[.agg #[.int .i64 s0, .int .i64 s1], .agg #[.int .i64 t0, .int .i64 t1]] w fun e w' => e = .returned (.int .i64 (sgn2 (s0 - t0) (s1 - t1))) ∧ Below w.heap.size w w' := by
  go_enter Try.func67, Try.ntmps67
  go_wp2_with (go_at_call 80; refine (ptSign_any _ _ (by omega) (by omega) (by omega) (by omega) _).mono ?_; rintro e w1 ⟨rfl, h1⟩; have hB : Below w.heap.size w w1 := ba (by go_grown) h1; obtain ⟨hc1, hf1⟩ := bcell h1; have hq := h1.size; (try simp at hq); have hz0 : w.heap.size < w1.heap.size := (by omega); have hz1 : w.heap.size + 1 < w1.heap.size := (by omega); clear h1 hq)
  go_returns
  exact ⟨rfl, by go_grown⟩

def csG (s0 s1 t0 t1 : Int) : Bool := surdB 1000000000000000 s0 s1 && surdB 1000000000000000 t0 t1

end Go.Proofs.Ytoenkgenoloihab

/- Norms of joints are small; the farthest joint. -/
namespace Go.Proofs.Ytoenkgenoloihab
open Go.ChangeShapes Go.WideShapes Go.ChangeAt Go.RowKit

theorem w64n (n : Int) (h0 : -9000000000000000000 ≤ n) (h1 : n ≤ 9000000000000000000) : wrap64 n = n := IntWalk.wrap64_in n ⟨by omega, by omega⟩

theorem nm_bd (a0 a1 a2 a3 : Int) (p0 : -999999 ≤ a0) (q0 : a0 ≤ 999999) (p1 : -999999 ≤ a1) (q1 : a1 ≤ 999999) (p2 : -999999 ≤ a2) (q2 : a2 ≤ 999999) (p3 : -999999 ≤ a3) (q3 : a3 ≤ 999999) : -4000000000000 ≤ nm0 a0 a1 a2 a3 ∧ nm0 a0 a1 a2 a3 ≤ 4000000000000 ∧ -4000000000000 ≤ nm1 a0 a1 a2 a3 ∧ nm1 a0 a1 a2 a3 ≤ 4000000000000 := by
  obtain ⟨l00, u00⟩ := mul_bd a0 a0 p0 q0 p0 q0
  obtain ⟨l11, u11⟩ := mul_bd a1 a1 p1 q1 p1 q1
  obtain ⟨l22, u22⟩ := mul_bd a2 a2 p2 q2 p2 q2
  obtain ⟨l33, u33⟩ := mul_bd a3 a3 p3 q3 p3 q3
  obtain ⟨l01, u01⟩ := mul_bd a0 a1 p0 q0 p1 q1
  obtain ⟨l12, u12⟩ := mul_bd a1 a2 p1 q1 p2 q2
  obtain ⟨l23, u23⟩ := mul_bd a2 a3 p2 q2 p3 q3
  obtain ⟨l03, u03⟩ := mul_bd a0 a3 p0 q0 p3 q3
  unfold nm0 nm1
  rw [w64n (a0 * a0) (by omega) (by omega), w64n (a1 * a1) (by omega) (by omega), w64n (a2 * a2) (by omega) (by omega), w64n (a3 * a3) (by omega) (by omega), w64n (a0 * a1) (by omega) (by omega), w64n (a1 * a2) (by omega) (by omega), w64n (a2 * a3) (by omega) (by omega), w64n (a0 * a3) (by omega) (by omega)]
  rw [w64n (a0 * a0 + a1 * a1) (by omega) (by omega), w64n (a0 * a1 + a1 * a2) (by omega) (by omega)]
  rw [w64n (a0 * a0 + a1 * a1 + a2 * a2) (by omega) (by omega), w64n (a0 * a1 + a1 * a2 + a2 * a3) (by omega) (by omega)]
  rw [w64n (a0 * a0 + a1 * a1 + a2 * a2 + a3 * a3) (by omega) (by omega), w64n (a0 * a1 + a1 * a2 + a2 * a3 - a0 * a3) (by omega) (by omega)]
  omega

def Sp.n0 (s : Sp) : Int := nm0 s.x0 s.x1 s.x2 s.x3

def Sp.n1 (s : Sp) : Int := nm1 s.x0 s.x1 s.x2 s.x3

/-- p lies farther than q. -/
def farB (p q : Sp) : Bool := decide (0 < sgn2 (p.n0 - q.n0) (p.n1 - q.n1))

/-- The farthest of the first k joints: the first one of them. -/
def farI (l : List Sp) : Nat → Nat
  | 0 => 0
  | k + 1 => match l[k]?, l[farI l k]? with
    | some p, some q => cond (farB p q) k (farI l k)
    | _, _ => farI l k

theorem farI_lt (l : List Sp) (hl : 0 < l.length) : ∀ k, k ≤ l.length → farI l k < l.length
  | 0, _ => hl
  | k + 1, hk => by
    have ih := farI_lt l hl k (by omega)
    simp only [farI]
    split
    · rename_i p q h1 h2
      cases farB p q
      · exact ih
      · simp; omega
    · exact ih

theorem farI_yes {l : List Sp} {k : Nat} {p q : Sp} (h1 : l[k]? = some p) (h2 : l[farI l k]? = some q) (h : farB p q = true) : farI l (k + 1) = k := by simp [farI, h1, h2, h]

theorem farI_no {l : List Sp} {k : Nat} {p q : Sp} (h1 : l[k]? = some p) (h2 : l[farI l k]? = some q) (h : farB p q = false) : farI l (k + 1) = farI l k := by simp [farI, h1, h2, h]

theorem lays_ok {a : Sp} {n : Int} (h : a.okB n) (l : List UInt8) : ∀ p ∈ lays a l, p.okB (n + 2 * l.length) := by
  induction l generalizing a n with
  | nil => intro p hp; simp [lays] at hp; subst hp; simpa using h
  | cons c l ih =>
    intro p hp
    simp only [lays, List.mem_cons] at hp
    rcases hp with rfl | hp
    · exact h.mono (by omega)
    · exact (ih (h.next c) p hp).mono (by simp only [List.length_cons]; omega)

end Go.Proofs.Ytoenkgenoloihab

/- Whatever n pieces lead back from lies no farther than n from the beginning. -/
namespace Go.Proofs.Ytoenkgenoloihab

abbrev cone (a b : Int) : Prop := 0 ≤ 5 * a + 7 * b ∧ 0 ≤ 2 * a + 3 * b

def R0 (s0 s1 s2 s3 t0 t1 t2 t3 : Int) : Int := 2 * (s0 * t0) + 2 * (s1 * t1) + 2 * (s2 * t2) + 2 * (s3 * t3)

def R1 (s0 s1 s2 s3 t0 t1 t2 t3 : Int) : Int := s0 * t1 + s1 * t0 + s1 * t2 + s2 * t1 + s2 * t3 + s3 * t2 - s0 * t3 - s3 * t0

def hd8 : List Int := [0, 1, 2, 3, 4, 5, 6, 7]

theorem hd8_mem {h : Int} (h0 : 0 ≤ h) (h7 : h ≤ 7) : h ∈ hd8 := by
  have e : h = 0 ∨ h = 1 ∨ h = 2 ∨ h = 3 ∨ h = 4 ∨ h = 5 ∨ h = 6 ∨ h = 7 := by omega
  rcases e with rfl | rfl | rfl | rfl | rfl | rfl | rfl | rfl <;> simp [hd8]

theorem ltr_mem {c : UInt8} (h : c ∈ ltr) : c = 76 ∨ c = 82 ∨ c = 83 := by simpa [ltr] using h

theorem pairs8 : ∀ c ∈ ltr, ∀ h ∈ hd8, ∀ c' ∈ ltr, ∀ h' ∈ hd8, cone (2 - R0 (dd0 c h) (dd1 c h) (dd2 c h) (dd3 c h) (dd0 c' h') (dd1 c' h') (dd2 c' h') (dd3 c' h')) (-(R1 (dd0 c h) (dd1 c h) (dd2 c h) (dd3 c h) (dd0 c' h') (dd1 c' h') (dd2 c' h') (dd3 c' h'))) := by decide +kernel

theorem ones8 : ∀ c ∈ ltr, ∀ h ∈ hd8, cone (1 - (dd0 c h * dd0 c h + dd1 c h * dd1 c h + dd2 c h * dd2 c h + dd3 c h * dd3 c h)) (-(dd0 c h * dd1 c h + dd1 c h * dd2 c h + dd2 c h * dd3 c h - dd0 c h * dd3 c h)) := by decide +kernel

def NearS (s : Sp) (m : Int) : Prop := ∀ c ∈ ltr, ∀ h ∈ hd8, cone (2 * m - R0 s.x0 s.x1 s.x2 s.x3 (dd0 c h) (dd1 c h) (dd2 c h) (dd3 c h)) (-(R1 s.x0 s.x1 s.x2 s.x3 (dd0 c h) (dd1 c h) (dd2 c h) (dd3 c h)))

def NormS (s : Sp) (m : Int) : Prop := cone (m * m - (s.x0 * s.x0 + s.x1 * s.x1 + s.x2 * s.x2 + s.x3 * s.x3)) (-(s.x0 * s.x1 + s.x1 * s.x2 + s.x2 * s.x3 - s.x0 * s.x3))

theorem near_next {s : Sp} {m : Int} (hN : NearS s m) (h0 : 0 ≤ s.h) (h7 : s.h ≤ 7) {c : UInt8} (hc : c ∈ ltr) : NearS (s.next c) (m + 1) := by
  intro c' hc' h' hh'
  have a := hN c' hc' h' hh'
  have b := pairs8 c hc s.h (hd8_mem h0 h7) c' hc' h' hh'
  simp only [Sp.next]
  generalize dd0 c s.h = u0 at *
  generalize dd1 c s.h = u1 at *
  generalize dd2 c s.h = u2 at *
  generalize dd3 c s.h = u3 at *
  generalize dd0 c' h' = t0 at *
  generalize dd1 c' h' = t1 at *
  generalize dd2 c' h' = t2 at *
  generalize dd3 c' h' = t3 at *
  simp only [cone, R0, R1, Int.add_mul] at a b ⊢
  omega

theorem norm_next {s : Sp} {m : Int} (hM : NormS s m) (hN : NearS s m) (h0 : 0 ≤ s.h) (h7 : s.h ≤ 7) {c : UInt8} (hc : c ∈ ltr) : NormS (s.next c) (m + 1) := by
  have a := hN c hc s.h (hd8_mem h0 h7)
  have b := ones8 c hc s.h (hd8_mem h0 h7)
  unfold NormS at hM ⊢
  simp only [Sp.next]
  generalize dd0 c s.h = t0 at *
  generalize dd1 c s.h = t1 at *
  generalize dd2 c s.h = t2 at *
  generalize dd3 c s.h = t3 at *
  obtain ⟨x0, x1, x2, x3, x4⟩ := s
  simp only [cone, R0, R1, Int.add_mul, Int.mul_add] at a b hM ⊢
  rw [Int.mul_comm t0 x0, Int.mul_comm t1 x1, Int.mul_comm t2 x2, Int.mul_comm t3 x3, Int.mul_comm t0 x1, Int.mul_comm t1 x2, Int.mul_comm t2 x3, Int.mul_comm t0 x3]
  omega

theorem near_all : ∀ (n : Nat) (h : Int), 0 ≤ h → h ≤ 7 → ∀ w ∈ words n, NearS (fin ⟨0, 0, 0, 0, h⟩ w) n ∧ NormS (fin ⟨0, 0, 0, 0, h⟩ w) n ∧ 0 ≤ (fin ⟨0, 0, 0, 0, h⟩ w).h ∧ (fin ⟨0, 0, 0, 0, h⟩ w).h ≤ 7
  | 0, h, h0, h7, w, hw => by
    simp only [words, List.mem_cons, List.not_mem_nil, or_false] at hw
    subst hw
    refine ⟨?_, ?_, h0, h7⟩
    · intro c hc h' hh'
      simp [fin, R0, R1, cone]
    · simp [fin, NormS, cone]
  | n + 1, h, h0, h7, w, hw => by
    simp only [words, List.mem_flatMap, List.mem_map] at hw
    obtain ⟨u, hu, c, hc, rfl⟩ := hw
    obtain ⟨a, b, d, e⟩ := near_all n h h0 h7 u hu
    rw [fin_snoc]
    have f := nh_bd c _ d e
    exact ⟨near_next a d e hc, norm_next b a d e hc, f.1, f.2⟩

theorem far_sgn {u v : Int} (h1 : 5 * u + 7 * v ≤ 0) (h2 : 2 * u + 3 * v ≤ 0) : sgn2 u v ≤ 0 := by
  have sg_le : ∀ n : Int, n ≤ 0 → sg n ≤ 0 := fun n hn => by unfold sg; split <;> (try split) <;> omega
  unfold sgn2
  cases hg : G1 u v
  · refine sg_le v ?_
    have hg' : ¬ (2 * (v * v) < u * u) := of_decide_eq_false hg
    refine Classical.byContradiction fun hv => ?_
    have e1 := Int.mul_nonneg (show (0 : Int) ≤ -2 * u - 3 * v by omega) (show (0 : Int) ≤ -2 * u + 3 * v by omega)
    have e2 := Int.mul_pos (show (0 : Int) < v by omega) (show (0 : Int) < v by omega)
    have e3 : (-2 * u - 3 * v) * (-2 * u + 3 * v) = 4 * (u * u) - 9 * (v * v) := by
      simp only [Int.mul_add, Int.sub_mul, Int.neg_mul, Int.mul_neg, Int.mul_assoc]
      rw [Int.mul_left_comm u 2 u, Int.mul_left_comm u 3 v, Int.mul_left_comm v 2 u, Int.mul_left_comm v 3 v, Int.mul_comm v u]
      omega
    omega
  · refine sg_le u ?_
    have hg' : 2 * (v * v) < u * u := of_decide_eq_true hg
    refine Classical.byContradiction fun hu => ?_
    have e1 := Int.mul_nonneg (show (0 : Int) ≤ -7 * v - 5 * u by omega) (show (0 : Int) ≤ -7 * v + 5 * u by omega)
    have e2 := Int.mul_pos (show (0 : Int) < u by omega) (show (0 : Int) < u by omega)
    have e3 : (-7 * v - 5 * u) * (-7 * v + 5 * u) = 49 * (v * v) - 25 * (u * u) := by
      simp only [Int.mul_add, Int.sub_mul, Int.neg_mul, Int.mul_neg, Int.mul_assoc]
      rw [Int.mul_left_comm v 7 v, Int.mul_left_comm v 5 u, Int.mul_left_comm u 7 v, Int.mul_left_comm u 5 u, Int.mul_comm u v]
      omega
    omega

theorem nm_plain (a0 a1 a2 a3 : Int) (p0 : -999999 ≤ a0) (q0 : a0 ≤ 999999) (p1 : -999999 ≤ a1) (q1 : a1 ≤ 999999) (p2 : -999999 ≤ a2) (q2 : a2 ≤ 999999) (p3 : -999999 ≤ a3) (q3 : a3 ≤ 999999) :
    nm0 a0 a1 a2 a3 = a0 * a0 + a1 * a1 + a2 * a2 + a3 * a3 ∧ nm1 a0 a1 a2 a3 = a0 * a1 + a1 * a2 + a2 * a3 - a0 * a3 := by
  obtain ⟨l00, u00⟩ := mul_bd a0 a0 p0 q0 p0 q0
  obtain ⟨l11, u11⟩ := mul_bd a1 a1 p1 q1 p1 q1
  obtain ⟨l22, u22⟩ := mul_bd a2 a2 p2 q2 p2 q2
  obtain ⟨l33, u33⟩ := mul_bd a3 a3 p3 q3 p3 q3
  obtain ⟨l01, u01⟩ := mul_bd a0 a1 p0 q0 p1 q1
  obtain ⟨l12, u12⟩ := mul_bd a1 a2 p1 q1 p2 q2
  obtain ⟨l23, u23⟩ := mul_bd a2 a3 p2 q2 p3 q3
  obtain ⟨l03, u03⟩ := mul_bd a0 a3 p0 q0 p3 q3
  unfold nm0 nm1
  rw [w64n (a0 * a0) (by omega) (by omega), w64n (a1 * a1) (by omega) (by omega), w64n (a2 * a2) (by omega) (by omega), w64n (a3 * a3) (by omega) (by omega), w64n (a0 * a1) (by omega) (by omega), w64n (a1 * a2) (by omega) (by omega), w64n (a2 * a3) (by omega) (by omega), w64n (a0 * a3) (by omega) (by omega)]
  rw [w64n (a0 * a0 + a1 * a1) (by omega) (by omega), w64n (a0 * a1 + a1 * a2) (by omega) (by omega)]
  rw [w64n (a0 * a0 + a1 * a1 + a2 * a2) (by omega) (by omega), w64n (a0 * a1 + a1 * a2 + a2 * a3) (by omega) (by omega)]
  rw [w64n (a0 * a0 + a1 * a1 + a2 * a2 + a3 * a3) (by omega) (by omega), w64n (a0 * a1 + a1 * a2 + a2 * a3 - a0 * a3) (by omega) (by omega)]
  exact ⟨rfl, rfl⟩

/-- What lies too far is led back by no text of n pieces. -/
theorem cls_far (a : Sp) (ha : a.okB 999999) (n : Nat) (h : 0 < sgn2 (nm0 a.x0 a.x1 a.x2 a.x3 - (n : Int) * n) (nm1 a.x0 a.x1 a.x2 a.x3)) : clsL a n = [] := by
  obtain ⟨⟨b0, b0'⟩, ⟨b1, b1'⟩, ⟨b2, b2'⟩, ⟨b3, b3'⟩, b4, b5⟩ := ha
  obtain ⟨e0, e1⟩ := nm_plain a.x0 a.x1 a.x2 a.x3 b0 b0' b1 b1' b2 b2' b3 b3'
  refine List.filter_eq_nil_iff.2 fun w hw hf => ?_
  rw [spE_iff, fin_rot a b4 b5] at hf
  obtain ⟨_, hM, _, _⟩ := near_all n a.h b4 b5 w hw
  rw [fin_rot ⟨0, 0, 0, 0, a.h⟩ b4 b5] at hM
  replace hf : rot a (fin sp0 w) = ⟨0, 0, 0, 0, 0⟩ := hf
  simp only [rot, Sp.mk.injEq, Int.zero_add, NormS] at hf hM
  obtain ⟨f0, f1, f2, f3, _⟩ := hf
  generalize tu0 a.h (fin sp0 w).x0 (fin sp0 w).x1 (fin sp0 w).x2 (fin sp0 w).x3 = t0 at f0 hM
  generalize tu1 a.h (fin sp0 w).x0 (fin sp0 w).x1 (fin sp0 w).x2 (fin sp0 w).x3 = t1 at f1 hM
  generalize tu2 a.h (fin sp0 w).x0 (fin sp0 w).x1 (fin sp0 w).x2 (fin sp0 w).x3 = t2 at f2 hM
  generalize tu3 a.h (fin sp0 w).x0 (fin sp0 w).x1 (fin sp0 w).x2 (fin sp0 w).x3 = t3 at f3 hM
  obtain rfl : t0 = -a.x0 := by omega
  obtain rfl : t1 = -a.x1 := by omega
  obtain rfl : t2 = -a.x2 := by omega
  obtain rfl : t3 = -a.x3 := by omega
  simp only [Int.neg_mul_neg] at hM
  rw [e0, e1] at h
  have := far_sgn (u := a.x0 * a.x0 + a.x1 * a.x1 + a.x2 * a.x2 + a.x3 * a.x3 - (n : Int) * n) (v := a.x0 * a.x1 + a.x1 * a.x2 + a.x2 * a.x3 - a.x0 * a.x3) (by have := hM.1; omega) (by have := hM.2; omega)
  omega

theorem cls_zero (a : Sp) : clsL a 0 = cond (spE a sp0) [[]] [] := by
  simp only [clsL, words, List.filter_cons, List.filter_nil, fin, List.foldl_nil]
  by_cases h : spE a sp0 = true <;> simp [h]

theorem cls_succ (a : Sp) (n : Nat) : clsL a (n + 1) = ltr.flatMap fun c => (clsL (a.next c) n).map fun w => c :: w := by
  simp only [clsL, words_cons, List.filter_flatMap, List.filter_map, Function.comp_def, fin_cons]

theorem cls_len (a : Sp) (n : Nat) : (clsL a n).length ≤ 3 ^ n := by
  rw [← words_count n]
  exact List.length_filter_le _ _

end Go.Proofs.Ytoenkgenoloihab

/- Contract: the model's 'clAll'. -/
namespace Go.Proofs.Ytoenkgenoloihab
open Go.ChangeShapes Go.WideShapes Go.ChangeAt Go.RowKit

set_option linter.unusedVariables false

theorem one_strC (c : UInt8) (B cap : Nat) (w : World) (h : w.cell? ⟨B, 0, none⟩ = some (.int .u8 ((c.toNat : Nat) : Int))) :
    (convert 77 9 (.slice (some ⟨B, 0, none⟩) 1 cap)).run Try.prog w = .ok (.string (ofL [c])) w := by
  refine run_convert_bytes_back w 77 9 5 ⟨B, 0, none⟩ cap [c] Try.underlying77 Try.underlying5 Try.underlying9 (fun j hj => ?_)
  obtain rfl : j = 0 := by simpa using hj
  have h3 : ((⟨B, 0, none⟩ : Addr).add 0) = ⟨B, 0, none⟩ := by simp [Addr.add]
  rw [h3, h]
  rfl

theorem bytes_at {W : World} {B : Nat} {fz : Nat × Nat} (h : W.heap[B]? = some (.cells #[.int .u8 76, .int .u8 82, .int .u8 83] 5 fz)) {i : Nat} {c : UInt8} (hc : ltr[i]? = some c) : W.cell? ⟨B, i, none⟩ = some (.int .u8 ((c.toNat : Nat) : Int)) := by
  match i, hc with
  | 0, hc => simp [ltr] at hc; subst hc; simp [World.cell?, h]
  | 1, hc => simp [ltr] at hc; subst hc; simp [World.cell?, h]
  | 2, hc => simp [ltr] at hc; subst hc; simp [World.cell?, h]

theorem news_at {W : World} {n : Nat} (hn : W.heap.size = n) (x : Value) (t : TypeId) : ∀ j u, [x][j]? = some u → (W.alloc (.cells #[x] t)).cell? ((⟨n, 0, none⟩ : Addr).add j) = some u := by
  subst hn
  exact cell_one_new W x t

theorem blk4 {W : World} {g : Nat} {t : TypeId} {a0 a1 a2 a3 : Value} (h : W.heap[g]? = some (.cells #[a0, a1, a2, a3] t (0, 0))) :
    W.cell? ⟨g, 0, none⟩ = some a0 ∧ W.cell? ⟨g, 1, none⟩ = some a1 ∧ W.cell? ⟨g, 2, none⟩ = some a2 ∧ W.cell? ⟨g, 3, none⟩ = some a3 := by
  simp [World.cell?, h]

def accA (s : Sp) (n c : Nat) : List (List UInt8) := (ltr.take c).flatMap fun ch => (clsL (s.next ch) n).map fun w => ch :: w

theorem accA_end (s : Sp) (n : Nat) : accA s n 3 = clsL s (n + 1) := by rw [cls_succ]; rfl

theorem accA_next {s : Sp} {n c : Nat} {ch : UInt8} (h : ltr.take (c + 1) = ltr.take c ++ [ch]) : accA s n (c + 1) = accA s n c ++ (clsL (s.next ch) n).map fun w => ch :: w := by
  simp [accA, h, List.flatMap_append]

theorem accA_le (s : Sp) (n : Nat) (c : Nat) (hc : c ≤ 3) : (accA s n c).length ≤ 3 * 3 ^ n := by
  match c, hc with
  | 0, _ => simp [accA]
  | 1, _ => have := cls_len (s.next 76) n; simp [accA, ltr]; omega
  | 2, _ => have := cls_len (s.next 76) n; have := cls_len (s.next 82) n; simp [accA, ltr]; omega
  | 3, _ => have := cls_len (s.next 76) n; have := cls_len (s.next 82) n; have := cls_len (s.next 83) n; simp [accA, ltr]; omega

theorem cls_mem {a : Sp} {n : Nat} {w : List UInt8} (h : w ∈ clsL a n) : w.length = n := words_len n w (List.mem_filter.1 h).1

end Go.Proofs.Ytoenkgenoloihab

/- Contract: whether a number lies in a range. -/
namespace Go.Proofs.Ytoenkgenoloihab
open Go.ChangeShapes Go.WideShapes Go.ChangeAt Go.RowKit

set_option maxRecDepth 100000 in
theorem isInRange_any (n lo hi : Int) (w : World) :
    Calls Try.prog 41 #[.int .i64 n, .int .i64 lo, .int .i64 hi] w fun e w' => e = .returned (.bool (inB n lo hi)) ∧ w = w' := by
  go_enter Try.func41, Try.ntmps41
  go_wp2
  · go_ret
    exact ⟨by simp [inB, *], rfl⟩
  · go_ret
    exact ⟨by simp [inB]; omega, rfl⟩

end Go.Proofs.Ytoenkgenoloihab

/- Contracts: keys counted in a sorted list; whether some pieces lead back; the first closed track of some pieces, in the model and in the program. -/
namespace Go.Proofs.Ytoenkgenoloihab
open Go.ChangeShapes Go.WideShapes Go.ChangeAt Go.RowKit

set_option linter.unusedVariables false

def keC (ys : List Int) (k : Int) : Nat := ys.countP fun z => decide (z = k)

theorem keC_split (k : Int) : ∀ ys : List Int, (ys.countP fun z => decide (z < k + 1)) = (ys.countP fun z => decide (z < k)) + keC ys k
  | [] => rfl
  | y :: ys => by
    have ih := keC_split k ys
    simp only [keC, List.countP_cons] at ih ⊢
    rw [ih]
    rcases Int.lt_trichotomy y k with h | h | h
    · have h1 : y < k + 1 := by omega
      have h3 : ¬ y = k := by omega
      simp only [h, h1, h3, decide_true, decide_false, if_true]
      simp; omega
    · subst h
      have h1 : y < y + 1 := by omega
      have h2 : ¬ y < y := by omega
      rw [decide_eq_true h1, decide_eq_false h2, decide_eq_true rfl]
      simp only [if_true]
      simp
      omega
    · have h1 : ¬ y < k + 1 := by omega
      have h2 : ¬ y < k := by omega
      have h3 : ¬ y = k := by omega
      simp only [h1, h2, h3, decide_false]
      simp

theorem keC_le (ys : List Int) (k : Int) : keC ys k ≤ ys.length := List.countP_le_length

set_option maxRecDepth 100000 in
set_option maxHeartbeats 800000 in
theorem clCount_any (ys : List Int) (hb : ys.length ≤ 5000) (hs : ys.Pairwise (· ≤ ·)) (v : Value) (p : Sp) (turn whole : Int) (t0 : -100 ≤ turn) (t1 : turn ≤ 100) (u0 : -100 ≤ whole) (u1 : whole ≤ 100) (hsm : smK p (turn - whole)) (w : World) (hv : IntV w v ys) :
    Calls Try.prog 40 #[v, .agg #[.int .i64 p.x0, .int .i64 p.x1, .int .i64 p.x2, .int .i64 p.x3], .int .i64 turn, .int .i64 whole] w fun e w' => e = .returned (.int .i64 (keC ys (keyI p (turn - whole)) : Nat)) ∧ Below w.heap.size w w' := by
  have CK := Lib.hid (clKey_any p (turn - whole) hsm)
  have hkb := keyI_bd hsm
  generalize keyI p (turn - whole) = k at *
  obtain ⟨k0, k1⟩ := hkb
  have B1 := Lib.hid (fun (W : World) (hW : Below w.heap.size w W) => clBelow_any ys hb hs v (k + 1) W (hv.below hW))
  have B2 := Lib.hid (fun (W : World) (hW : Below w.heap.size w W) => clBelow_any ys hb hs v k W (hv.below hW))
  have hsp := keC_split k ys
  have l1 := List.countP_le_length (p := fun z => decide (z < k + 1)) (l := ys)
  have l2 := List.countP_le_length (p := fun z => decide (z < k)) (l := ys)
  have l3 := keC_le ys k
  generalize (ys.countP fun z => decide (z < k + 1)) = a at *
  generalize (ys.countP fun z => decide (z < k)) = b at *
  generalize keC ys k = c at *
  clear hv hs hsm
  have hab : (a : Int) - (b : Int) = (c : Int) := by omega
  have ha5 : a ≤ 5000 := by omega
  have hb5 : b ≤ 5000 := by omega
  go_enter Try.func40, Try.ntmps40
  go_wp2_with fail
  refine (CK.out _).mono ?_
  rintro e w1 ⟨rfl, hb1⟩
  have HB := Lib.hid (ba (by go_grown) hb1 : Below w.heap.size w w1)
  clear hb1
  go_wp2_with (first | ((with_reducible refine (B1.out _ (by exact HB.out)).mono ?_); rintro e w' ⟨rfl, rfl⟩) | ((with_reducible refine (B2.out _ (by exact HB.out)).mono ?_); rintro e w' ⟨rfl, rfl⟩))
  go_ret
  exact ⟨by first | rfl | (simp; done) | (simp; omega), HB.out⟩

set_option maxRecDepth 100000 in
set_option maxHeartbeats 800000 in
theorem l1All_any (xs : List Int) (hb : xs.length ≤ 5000) (v : Value) (lo hi : Int) (w : World) (hv : IntV w v xs) (hall : ∀ x ∈ xs, inB x lo hi = true) :
    Calls Try.prog 45 #[v, .int .i64 lo, .int .i64 hi] w fun e w' => e = .returned (.bool true) ∧ w = w' := by
  obtain ⟨av, cap, rfl, hc1, hc2, hr⟩ := hv
  obtain ⟨n, hn⟩ : ∃ n, xs.length = n := ⟨_, rfl⟩
  rw [hn] at hb hc1 ⊢
  have HN := Lib.hid hn
  have HR := Lib.hid hr
  have HALL := Lib.hid hall
  clear hn hr hall
  go_enter Try.func45, Try.ntmps45
  go_wp2_with fail
  go_loop [11] (fun p => ∃ k : Nat, p = .int .i64 (k : Nat) ∧ k ≤ n) (fun p => n - (intOf p).toNat)
  case atStart => exact ⟨0, rfl, Nat.zero_le _⟩
  case round =>
    obtain ⟨k, rfl, hk⟩ := hrel
    by_cases hlt : k < n
    · obtain ⟨y, hy⟩ : ∃ y, xs[k]? = some y := ⟨_, List.getElem?_eq_getElem (by rw [HN.out]; omega)⟩
      obtain ⟨g, o, rfl, hg, hcell⟩ := HR.out.resolve_left (fun h => by have := HN.out; rw [h] at this; simp at this; omega)
      have c0 := hcell k y hy
      have L := Lib.hid (l1In_any y lo hi w)
      rw [HALL.out y (List.mem_of_getElem? hy)] at L
      have i1 : (0 : Int) ≤ (k : Int) := by omega
      have i2 : (k : Int) < (n : Int) := by omega
      clear hcell hy
      go_wp2_with (go_at_call 26; refine (L.out).mono ?_; rintro e w' ⟨rfl, rfl⟩)
      go_round
      case rel => exact ⟨k + 1, by go_num, by omega⟩
      case measure => simp [intOf]; omega
    · go_wp2_with fail
      go_ret
      exact ⟨rfl, rfl⟩

/-- A hit at one of the whole turns. -/
def hitB (ys : List Int) (p : Sp) (n : Nat) (whole : Int) : Bool := inB (whole - p.h) (-(n : Int)) n && decide (0 < keC ys (keyI p (0 - (whole - p.h))))

theorem hit_some {ys : List Int} {p : Sp} {n : Nat} (hn : n ≤ 7) (hp : ys.Perm (bkL n)) (h0 : 0 ≤ p.h) (h7 : p.h ≤ 7) {v : List UInt8} (hv : v ∈ words n) (hf : fin p v = sp0) : hitB ys p n 0 = true ∨ hitB ys p n 8 = true := by
  have hl := (words_iff n v).1 hv
  obtain ⟨⟨e0, e1, e2, e3⟩, e4⟩ := (leads_iff p h0 h7 hv).1 hf
  have hb := trW_bd v n (by rw [hl.1]; exact Nat.le_refl _)
  have hk : keyI p (0 - trW v) = bkI (back v) := by
    rw [bkI, trW_back v hl.2]
    unfold keyI
    rw [show (fin sp4 (back v)).x0 = p.x0 from e0, show (fin sp4 (back v)).x1 = p.x1 from e1, show (fin sp4 (back v)).x2 = p.x2 from e2, show (fin sp4 (back v)).x3 = p.x3 from e3]
    omega
  have hm : keyI p (0 - trW v) ∈ ys := by
    rw [hk]
    exact hp.mem_iff.2 (List.mem_map.2 ⟨back v, back_words hv, rfl⟩)
  have hc : 0 < keC ys (keyI p (0 - trW v)) := List.countP_pos_iff.2 ⟨_, hm, by simp⟩
  have hw : p.h + trW v = 0 ∨ p.h + trW v = 8 := by omega
  rcases hw with h | h
  · left
    have e : (0 : Int) - p.h = trW v := by omega
    simp only [hitB, e, inB, Bool.and_eq_true, decide_eq_true_eq]
    exact ⟨by omega, hc⟩
  · right
    have e : (8 : Int) - p.h = trW v := by omega
    simp only [hitB, e, inB, Bool.and_eq_true, decide_eq_true_eq]
    exact ⟨by omega, hc⟩

def LeadsPost (p : Sp) (n : Nat) (w : World) (e : Ending) (w' : World) : Prop :=
  ∃ b, e = .returned (.bool b) ∧ (b = false → ∀ v ∈ words n, fin p v ≠ sp0) ∧ Below w.heap.size w w'

theorem iv_four {W : World} {n : Nat} (hn : W.heap.size = n) (a b c d : Int) (t : TypeId) : IntV (W.alloc (.cells #[.int .i64 a, .int .i64 b, .int .i64 c, .int .i64 d] t)) (.slice (some ⟨n, 0, none⟩) 4 4) [a, b, c, d] := by
  subst hn
  refine ⟨_, 4, rfl, by simp, by decide, .inr ⟨W.heap.size, 0, rfl, by simp, fun j x hx => ?_⟩⟩
  have h := blk4 (heap_alloc_new W (.cells #[.int .i64 a, .int .i64 b, .int .i64 c, .int .i64 d] t))
  match j, hx with
  | 0, hx => simp at hx; subst hx; exact h.1
  | 1, hx => simp at hx; subst hx; exact h.2.1
  | 2, hx => simp at hx; subst hx; exact h.2.2.1
  | 3, hx => simp at hx; subst hx; exact h.2.2.2

def fsO (n : Nat) : Option (List UInt8) := (clsL sp0 n).head?

def innF (m : Nat) (q : Sp) : List (List UInt8) := (words m).filter fun v => spE (fin q v) sp0

def innW (m : Nat) (u : List UInt8) : List (List UInt8) := (innF m (fin sp0 u)).map fun v => u ++ v

theorem cls_inn (k m : Nat) : clsL sp0 (k + m) = (words k).flatMap (innW m) := by
  rw [clsL, words_add, List.filter_flatMap]
  congr 1
  funext u
  simp only [innW, innF, List.filter_map, Function.comp_def, fin_append]

theorem head_hit {α β : Type} {l : List α} {f : α → List β} {j : Nat} {a : α} {b : β} {r : List β} (h0 : (l.take j).flatMap f = []) (hj : l[j]? = some a) (hf : f a = b :: r) : (l.flatMap f).head? = some b := by
  rw [← List.take_append_drop j l, List.flatMap_append, h0, List.nil_append]
  have hd : l.drop j = a :: l.drop (j + 1) := by
    obtain ⟨h1, rfl⟩ := List.getElem?_eq_some_iff.1 hj
    exact List.drop_eq_getElem_cons h1
  rw [hd, List.flatMap_cons, hf]
  rfl

theorem filt_hit {α : Type} {l : List α} {f : α → Bool} {e : Nat} {a : α} (h0 : (l.take e).filter f = []) (he : l[e]? = some a) (hf : f a = true) : ∃ r, l.filter f = a :: r := by
  rw [← List.take_append_drop e l, List.filter_append, h0, List.nil_append]
  have hd : l.drop e = a :: l.drop (e + 1) := by
    obtain ⟨h1, rfl⟩ := List.getElem?_eq_some_iff.1 he
    exact List.drop_eq_getElem_cons h1
  rw [hd, List.filter_cons, if_pos hf]
  exact ⟨_, rfl⟩

theorem flat_next {α β : Type} {l : List α} {f : α → List β} {j : Nat} {a : α} (h0 : (l.take j).flatMap f = []) (hj : l[j]? = some a) (hf : f a = []) : (l.take (j + 1)).flatMap f = [] := by
  rw [List.take_add_one, hj, List.flatMap_append, h0]
  simp [hf]

theorem filt_next {α : Type} {l : List α} {f : α → Bool} {e : Nat} {a : α} (h0 : (l.take e).filter f = []) (he : l[e]? = some a) (hf : f a = false) : (l.take (e + 1)).filter f = [] := by
  rw [List.take_add_one, he, List.filter_append, h0]
  simp [hf]

theorem ret_fs {n : Nat} {x : ByteArray} {b : Bool} (h : (fsO n).isSome = b ∧ ofL ((fsO n).getD []) = x) : Ending.returned (.tuple #[.string x, .bool b]) = Ending.returned (.tuple #[.string (ofL ((fsO n).getD [])), .bool (fsO n).isSome]) := by rw [h.1, h.2]

theorem own_hdE {W : World} {B n g cap i : Nat} {e : TypeId} {l : List Sp} {s : Sp} (h : W.ownsRow B e 1 (.slice (some ⟨g, 0, none⟩) n cap) n (hdCells l)) (hn : l.length = n) (hs : l[i]? = some s) :
    W.cell? ⟨g, i, none⟩ = some (.int .i64 s.h) := by
  have hi : i < n := by rw [← hn]; exact (List.getElem?_eq_some_iff.1 hs).1
  rw [h.cellAt i (by omega)]
  simp [hdCells, hs]

/-- How a text is laid: the cells of its end. -/
theorem lay_end (l : List UInt8) (hp : l.all pcb = true) (n : Nat) (hn : l.length = n) (h14 : n ≤ 14) (a : Sp) (ha : a.okB 1000) (w : World) :
    Calls Try.prog 56 #[.string (ofL l), .agg #[.int .i64 a.x0, .int .i64 a.x1, .int .i64 a.x2, .int .i64 a.x3], .int .i64 a.h] w fun e w' => ∃ gj cj gh ch, e = .returned (.tuple #[.slice (some ⟨gj, 0, none⟩) (n + 1) cj, .slice (some ⟨gh, 0, none⟩) (n + 1) ch]) ∧ w.heap.size < gj ∧ gj < w'.heap.size ∧ w.heap.size < gh ∧ gh < w'.heap.size ∧
      w'.cell? ⟨gj, n * 4, none⟩ = some (.int .i64 (fin a l).x0) ∧ w'.cell? ⟨gj, n * 4 + 1, none⟩ = some (.int .i64 (fin a l).x1) ∧ w'.cell? ⟨gj, n * 4 + 2, none⟩ = some (.int .i64 (fin a l).x2) ∧ w'.cell? ⟨gj, n * 4 + 3, none⟩ = some (.int .i64 (fin a l).x3) ∧ w'.cell? ⟨gh, n, none⟩ = some (.int .i64 (fin a l).h) ∧ Below w.heap.size w w' := by
  have ht := tkB_ofE hp (by omega : l.length ≤ 40)
  refine (tkLay_any (ofL l) ht a (ha.mono (by decide)) w).mono ?_
  rintro e w' ⟨gj, cj, gh, ch, rfl, hJ, hH, hb⟩
  have hz : (ofL l).size = n := (ofL_size l).trans hn
  have hl2 := lays_last a l
  have hln := lays_length a l
  rw [hn] at hl2 hln
  rw [hz] at hJ hH ⊢
  obtain ⟨c0, c1, c2, c3⟩ := own_ptE hJ hln hl2
  exact ⟨gj, cj, gh, ch, rfl, (hJ.lt gj rfl).1, (hJ.lt gj rfl).2, (hH.lt gh rfl).1, (hH.lt gh rfl).2, c0, c1, c2, c3, own_hdE hH hln hl2, hb⟩

def fsR (n : Int) : Option (List UInt8) := cond (inB n 1 14) (fsO n.toNat) none

def fsS (n : Int) : ByteArray := ofL ((fsR n).getD [])

def fsB (n : Int) : Bool := (fsR n).isSome

theorem ret_fsn {n : Int} (h : fsR n = none) : Ending.returned (.tuple #[.string ⟨#[]⟩, .bool false]) = Ending.returned (.tuple #[.string (fsS n), .bool (fsB n)]) := by rw [fsS, fsB, h]; rfl

theorem ret_fss {n : Int} {x : List UInt8} (h : fsR n = some x) : Ending.returned (.tuple #[.string (ofL x), .bool true]) = Ending.returned (.tuple #[.string (fsS n), .bool (fsB n)]) := by rw [fsS, fsB, h]; rfl

theorem clNumber_any (n : Int) (w : World) : Calls Try.prog 36 #[.int .i64 n] w fun e w' => e = .returned (.bool (inB n 1 14)) ∧ w = w' := by
  go_enter Try.func36, Try.ntmps36
  go_wp2_with (go_at_call 26; refine (l1In_any _ _ _ _).mono ?_; rintro e w' ⟨rfl, rfl⟩)
  go_ret
  exact ⟨rfl, rfl⟩

end Go.Proofs.Ytoenkgenoloihab

/- Closed tracks told by their turns: as the model counts them, by keys of the halves laid backwards. Nothing of the program. -/
namespace Go.Proofs.Ytoenkgenoloihab

set_option linter.unusedVariables false

/-- What the model counts: over the first j of the texts of a pieces, how many of the texts of b pieces lead back with the whole turn W. -/
def bwn (l : List (List UInt8)) (b : Nat) (W : Int) : Nat := (l.map fun w => keC (bkL b) (keyI (fin sp0 w) (trW w - W))).sum

theorem bwn_next {l : List (List UInt8)} {b j : Nat} {W : Int} {u : List UInt8} (h : l[j]? = some u) : bwn (l.take (j + 1)) b W = bwn (l.take j) b W + keC (bkL b) (keyI (fin sp0 u) (trW u - W)) := by
  rw [bwn, List.take_add_one, h]
  simp [bwn, List.map_append]

theorem key_back (b : Nat) (K : Int) : keC (bkL b) K = (words b).countP fun v => decide (bkI (back v) = K) := by
  have h : (bkL b).Perm (((words b).map back).map bkI) := ((words_back b).map bkI).symm
  rw [keC, h.countP_eq, List.countP_map, List.countP_map]
  rfl

theorem bwn_eq {a b : Nat} (ha : a ≤ 7) (hb : b ≤ 7) {W : Int} (hW : W = -8 ∨ W = 0 ∨ W = 8) : bwn (words a) b W = cwn (a + b) W := by
  rw [cwn, clsL, List.countP_filter, words_add, List.countP_flatMap, bwn]
  congr 1
  refine List.map_congr_left fun u hu => ?_
  simp only [Function.comp_apply, key_back, List.countP_map]
  refine List.countP_congr fun v hv => ?_
  have hlu := (words_iff a u).1 hu
  have hlv := (words_iff b v).1 hv
  have hbd := fin_ok sp0_ok u
  simp only [Sp.okB] at hbd
  have hL := leads_iff (fin sp0 u) hbd.2.2.2.2.1 hbd.2.2.2.2.2 hv
  have hh := fin_h u sp0 hlu.2 (by decide) (by decide)
  have t1 := trW_bd u 7 (by omega)
  have t2 := trW_bd v 7 (by omega)
  have k1 : smK (fin sp0 u) (trW u - W) := fin_sm 0 (by decide) (by decide) u (by omega) _ (by omega) (by omega)
  have k2 : smK (fin sp4 (back v)) (trW (back v)) := bk_sm hb (back_words hv)
  have hbk := trW_back v hlv.2
  have h4 : sp4 = ⟨0, 0, 0, 0, 4⟩ := rfl
  have h0 : (sp0 : Sp).h = 0 := rfl
  rw [h0] at hh
  simp only [Function.comp_apply, decide_eq_true_eq, Bool.and_eq_true, spE_iff, fin_append, hL, trW_append, ← h4]
  constructor
  · intro e
    obtain ⟨⟨e0, e1, e2, e3⟩, e4⟩ := keyI_inj k2 k1 e
    rw [hbk] at e4
    exact ⟨by omega, ⟨e0, e1, e2, e3⟩, by rw [hh]; omega⟩
  · rintro ⟨e4, ⟨e0, e1, e2, e3⟩, e5⟩
    show keyI _ _ = keyI _ _
    unfold keyI
    rw [hbk]
    omega

end Go.Proofs.Ytoenkgenoloihab

/- A map from halves to numbers that a call has made: what it holds, how it is ranged over. -/
namespace Go.Proofs.Ytoenkgenoloihab
open Go Go.ChangeMaps Go.MapKept Go.ChangeShapes Go.WideShapes Go.RowKit
open Go.WideMaps (KeyLaw)
open Go.Maps (Keyed)

set_option linter.unusedVariables false

theorem hfRow : (93 : TypeId) < Try.prog.types.size := of_decide_eq_true (by kernel_rfl)

theorem hfDeep : Try.prog.keyTypeAt 4 93 = true := by kernel_rfl

theorem hfLaid : laidOutB Try.prog = true := by kernel_rfl

set_option maxRecDepth 100000 in
theorem hfLaw : KeyLaw Try.prog 93 := deep_law_laid hfLaid (m := 4) (by omega) hfRow hfDeep (by rw [Try.underlying93])

def hfV (h : Hf) : Value := .agg #[.int .i64 h.s.x0, .int .i64 h.s.x1, .int .i64 h.s.x2, .int .i64 h.s.x3, .int .i64 h.s.h, .int .i64 h.a, .int .i64 h.b, .int .i64 h.c]

def wfI (n : Int) : Prop := (Lit.int .i64 n).wf = true

def wfH (h : Hf) : Prop := wfI h.s.x0 ∧ wfI h.s.x1 ∧ wfI h.s.x2 ∧ wfI h.s.x3 ∧ wfI h.s.h ∧ wfI h.a ∧ wfI h.b ∧ wfI h.c

theorem kl_struct {P : Program} {d : Nat} {t : TypeId} {fs : Array Field} {cs : List Value} (h : P.underlying t = some (.struct fs)) :
    P.keyLits (d + 1) t cs = if cs.length = P.cellsOf t ∧ fs.all (·.name != "_") = true then (fs.toList.mapM fun f => P.keyLits d f.type ((cs.drop f.offset).take (P.cellsOf f.type))).map List.flatten else none := by
  simp only [Program.keyLits, h]

theorem kl_int {d : Nat} {v : Value} {ls : List Lit} (h : Try.prog.keyLits (d + 1) 3 [v] = some ls) : ∃ n, v = .int .i64 n ∧ wfI n := by
  cases v <;> simp [Program.keyLits, Try.underlying3] at h
  obtain ⟨⟨rfl, hw⟩, _⟩ := h
  exact ⟨_, rfl, hw⟩

theorem kl_int_mk {d : Nat} {n : Int} (h : wfI n) : Try.prog.keyLits (d + 1) 3 [.int .i64 n] = some [.int .i64 n] := by
  simp [Program.keyLits, Try.underlying3, show (Lit.int .i64 n).wf = true from h]

set_option maxRecDepth 100000 in
theorem hfKey {x : Hf} (h : wfH x) : ∃ l, keyOf Try.prog 93 (hfV x) = some l := by
  obtain ⟨h0, h1, h2, h3, h4, h5, h6, h7⟩ := h
  have hkt : Try.prog.keyType 93 = true := by kernel_rfl
  have hc8 : Try.prog.cellsOf 93 = 8 := by kernel_rfl
  have hc5 : Try.prog.cellsOf 69 = 5 := by kernel_rfl
  have hc3 : Try.prog.cellsOf 60 = 3 := by kernel_rfl
  have hc4 : Try.prog.cellsOf 44 = 4 := by kernel_rfl
  have hc1 : Try.prog.cellsOf 3 = 1 := by kernel_rfl
  obtain ⟨m, hm⟩ : ∃ m, Try.prog.types.size = m + 4 := ⟨Try.prog.types.size - 4, (Nat.sub_add_cancel (of_decide_eq_true (by kernel_rfl))).symm⟩
  have hP : ∀ d, Try.prog.keyLits (d + 2) 44 [.int .i64 x.s.x0, .int .i64 x.s.x1, .int .i64 x.s.x2, .int .i64 x.s.x3] = some [.int .i64 x.s.x0, .int .i64 x.s.x1, .int .i64 x.s.x2, .int .i64 x.s.x3] := fun d => by
    rw [kl_struct Try.underlying44]
    simp [hc4, hc1, kl_int_mk h0, kl_int_mk h1, kl_int_mk h2, kl_int_mk h3]
  have hS : ∀ d, Try.prog.keyLits (d + 3) 69 [.int .i64 x.s.x0, .int .i64 x.s.x1, .int .i64 x.s.x2, .int .i64 x.s.x3, .int .i64 x.s.h] = some [.int .i64 x.s.x0, .int .i64 x.s.x1, .int .i64 x.s.x2, .int .i64 x.s.x3, .int .i64 x.s.h] := fun d => by
    rw [kl_struct Try.underlying69]
    simp [hc5, hc4, hc1, hP, kl_int_mk h4]
  have hT : ∀ d, Try.prog.keyLits (d + 3) 60 [.int .i64 x.a, .int .i64 x.b, .int .i64 x.c] = some [.int .i64 x.a, .int .i64 x.b, .int .i64 x.c] := fun d => by
    rw [kl_struct Try.underlying60]
    simp [hc3, hc1, kl_int_mk h5, kl_int_mk h6, kl_int_mk h7]
  have hL : ∃ ls, Try.prog.keyLits (m + 5) 93 [.int .i64 x.s.x0, .int .i64 x.s.x1, .int .i64 x.s.x2, .int .i64 x.s.x3, .int .i64 x.s.h, .int .i64 x.a, .int .i64 x.b, .int .i64 x.c] = some ls := by
    rw [kl_struct Try.underlying93]
    simp [hc8, hc5, hc3, hS, hT]
  obtain ⟨ls, hls⟩ := hL
  have hfm : (hfV x).formed Try.prog 93 = true := by simp [Value.formed, hfV, Try.underlying93, hc8]
  unfold keyOf
  rw [Try.underlying93]
  simp only [hkt, hfm, Bool.and_self, if_true]
  rw [hm, show (hfV x).cells.toList = [.int .i64 x.s.x0, .int .i64 x.s.x1, .int .i64 x.s.x2, .int .i64 x.s.x3, .int .i64 x.s.h, .int .i64 x.a, .int .i64 x.b, .int .i64 x.c] from rfl, hls]
  exact ⟨_, rfl⟩

theorem eight_list {α : Type} {l : List α} (h : l.length = 8) : ∃ a b c d e f g i, l = [a, b, c, d, e, f, g, i] := by
  match l, h with
  | [a, b, c, d, e, f, g, i], _ => exact ⟨a, b, c, d, e, f, g, i, rfl⟩

theorem kl_point {d : Nat} {v0 v1 v2 v3 : Value} {ls : List Lit} (h : Try.prog.keyLits (d + 2) 44 [v0, v1, v2, v3] = some ls) : ∃ n0 n1 n2 n3, (v0 = .int .i64 n0 ∧ v1 = .int .i64 n1 ∧ v2 = .int .i64 n2 ∧ v3 = .int .i64 n3) ∧ wfI n0 ∧ wfI n1 ∧ wfI n2 ∧ wfI n3 := by
  have hc4 : Try.prog.cellsOf 44 = 4 := by kernel_rfl
  have hc1 : Try.prog.cellsOf 3 = 1 := by kernel_rfl
  rw [kl_struct Try.underlying44] at h
  simp [hc4, hc1, Option.bind_eq_some_iff] at h
  obtain ⟨a0, h0, _, ⟨a1, h1, _, ⟨a2, h2, _, ⟨a3, h3, _⟩, _⟩, _⟩, _⟩ := h
  obtain ⟨n0, e0, w0⟩ := kl_int h0
  obtain ⟨n1, e1, w1⟩ := kl_int h1
  obtain ⟨n2, e2, w2⟩ := kl_int h2
  obtain ⟨n3, e3, w3⟩ := kl_int h3
  exact ⟨n0, n1, n2, n3, ⟨e0, e1, e2, e3⟩, w0, w1, w2, w3⟩

theorem kl_step {d : Nat} {v0 v1 v2 v3 v4 : Value} {ls : List Lit} (h : Try.prog.keyLits (d + 3) 69 [v0, v1, v2, v3, v4] = some ls) : ∃ n0 n1 n2 n3 n4, (v0 = .int .i64 n0 ∧ v1 = .int .i64 n1 ∧ v2 = .int .i64 n2 ∧ v3 = .int .i64 n3 ∧ v4 = .int .i64 n4) ∧ wfI n0 ∧ wfI n1 ∧ wfI n2 ∧ wfI n3 ∧ wfI n4 := by
  have hc5 : Try.prog.cellsOf 69 = 5 := by kernel_rfl
  have hc4 : Try.prog.cellsOf 44 = 4 := by kernel_rfl
  have hc1 : Try.prog.cellsOf 3 = 1 := by kernel_rfl
  rw [kl_struct Try.underlying69] at h
  simp [hc5, hc4, hc1, Option.bind_eq_some_iff] at h
  obtain ⟨a0, h0, _, ⟨a1, h1, _⟩, _⟩ := h
  obtain ⟨n0, n1, n2, n3, ⟨e0, e1, e2, e3⟩, w0, w1, w2, w3⟩ := kl_point h0
  obtain ⟨n4, e4, w4⟩ := kl_int h1
  exact ⟨n0, n1, n2, n3, n4, ⟨e0, e1, e2, e3, e4⟩, w0, w1, w2, w3, w4⟩

theorem kl_tally {d : Nat} {v0 v1 v2 : Value} {ls : List Lit} (h : Try.prog.keyLits (d + 2) 60 [v0, v1, v2] = some ls) : ∃ n0 n1 n2, (v0 = .int .i64 n0 ∧ v1 = .int .i64 n1 ∧ v2 = .int .i64 n2) ∧ wfI n0 ∧ wfI n1 ∧ wfI n2 := by
  have hc3 : Try.prog.cellsOf 60 = 3 := by kernel_rfl
  have hc1 : Try.prog.cellsOf 3 = 1 := by kernel_rfl
  rw [kl_struct Try.underlying60] at h
  simp [hc3, hc1, Option.bind_eq_some_iff] at h
  obtain ⟨a0, h0, _, ⟨a1, h1, _, ⟨a2, h2, _⟩, _⟩, _⟩ := h
  obtain ⟨n0, e0, w0⟩ := kl_int h0
  obtain ⟨n1, e1, w1⟩ := kl_int h1
  obtain ⟨n2, e2, w2⟩ := kl_int h2
  exact ⟨n0, n1, n2, ⟨e0, e1, e2⟩, w0, w1, w2⟩

set_option maxRecDepth 100000 in
theorem hfKey_inv {v : Value} {l : Lit} (h : keyOf Try.prog 93 v = some l) : ∃ x, v = hfV x ∧ wfH x := by
  have hkt : Try.prog.keyType 93 = true := by kernel_rfl
  have hc8 : Try.prog.cellsOf 93 = 8 := by kernel_rfl
  have hc5 : Try.prog.cellsOf 69 = 5 := by kernel_rfl
  have hc3 : Try.prog.cellsOf 60 = 3 := by kernel_rfl
  obtain ⟨m, hm⟩ : ∃ m, Try.prog.types.size = m + 4 := ⟨Try.prog.types.size - 4, (Nat.sub_add_cancel (of_decide_eq_true (by kernel_rfl))).symm⟩
  unfold keyOf at h
  rw [Try.underlying93] at h
  simp only [hkt, Bool.true_and] at h
  split at h
  · rename_i hfm
    cases v <;> simp [Value.formed, Try.underlying93, hc8] at hfm
    rename_i cs
    obtain ⟨v0, v1, v2, v3, v4, v5, v6, v7, hv⟩ := eight_list (l := cs.toList) (by simpa using hfm)
    have hcs : (Value.agg cs).cells.toList = [v0, v1, v2, v3, v4, v5, v6, v7] := hv
    rw [hm, hcs, kl_struct Try.underlying93] at h
    simp [hc8, hc5, hc3, Option.bind_eq_some_iff] at h
    obtain ⟨a0, h0, _, ⟨a1, h1, _⟩, _⟩ := h
    obtain ⟨n0, n1, n2, n3, n4, ⟨rfl, rfl, rfl, rfl, rfl⟩, w0, w1, w2, w3, w4⟩ := kl_step h0
    obtain ⟨n5, n6, n7, ⟨rfl, rfl, rfl⟩, w5, w6, w7⟩ := kl_tally h1
    refine ⟨⟨⟨n0, n1, n2, n3, n4⟩, n5, n6, n7⟩, ?_, w0, w1, w2, w3, w4, w5, w6, w7⟩
    have : cs = #[.int .i64 n0, .int .i64 n1, .int .i64 n2, .int .i64 n3, .int .i64 n4, .int .i64 n5, .int .i64 n6, .int .i64 n7] := Array.ext' hv
    rw [this]
    rfl
  · simp at h

/-- The key that a half is. -/
noncomputable def klH (x : Hf) : Lit := (keyOf Try.prog 93 (hfV x)).getD (.string [])
theorem klH_of {x : Hf} {l : Lit} (h : keyOf Try.prog 93 (hfV x) = some l) : klH x = l := by simp [klH, h]

theorem klH_key {x : Hf} (h : wfH x) : keyOf Try.prog 93 (hfV x) = some (klH x) := by
  obtain ⟨l, hl⟩ := hfKey h
  simp [klH, hl]

theorem hfV_inj {x y : Hf} (h : hfV x = hfV y) : x = y := by
  obtain ⟨⟨a0, a1, a2, a3, a4⟩, a5, a6, a7⟩ := x
  obtain ⟨⟨b0, b1, b2, b3, b4⟩, b5, b6, b7⟩ := y
  simpa [hfV, and_assoc] using h

set_option maxRecDepth 100000 in
theorem klH_inj {x y : Hf} (h : wfH x) (h' : wfH y) (e : klH x = klH y) : x = y := by
  have a := klH_key h
  have b := klH_key h'
  rw [e] at a
  exact hfV_inj (hfLaw.inj a b)

set_option maxRecDepth 100000 in
theorem klH_lit {x : Hf} (h : wfH x) : WideAt.IsKeyLit (klH x) := (Keyed.of_law hfLaw).key (klH_key h)

set_option maxRecDepth 100000 in
theorem klH_same {x y : Hf} (h : wfH x) (h' : wfH y) : (klH x).sameKey (klH y) = hfE x y := by
  rw [Bool.eq_iff_iff, WideAt.sameKey_iff (klH_lit h'), hfE_iff]
  exact ⟨klH_inj h h', fun e => by rw [e]⟩

theorem wfI_of {n : Int} (h : -1000000 ≤ n) (h' : n ≤ 1000000) : wfI n := WalkArith.wf_i64 (by omega)

theorem wfH_of {x : Hf} (h : x.s.okB 1000000) (ha : -1000000 ≤ x.a ∧ x.a ≤ 1000000) (hb : -1000000 ≤ x.b ∧ x.b ≤ 1000000) (hc : -1000000 ≤ x.c ∧ x.c ≤ 1000000) : wfH x := by
  obtain ⟨⟨b0, b0'⟩, ⟨b1, b1'⟩, ⟨b2, b2'⟩, ⟨b3, b3'⟩, b4, b5⟩ := h
  exact ⟨wfI_of (by omega) (by omega), wfI_of (by omega) (by omega), wfI_of (by omega) (by omega), wfI_of (by omega) (by omega), wfI_of (by omega) (by omega), wfI_of ha.1 ha.2, wfI_of hb.1 hb.2, wfI_of hc.1 hc.2⟩

theorem Hf.ok.wf {x : Hf} (h : x.ok) : wfH x := wfH_of (h.1.mono (by decide)) (by have := h.2; omega) (by have := h.2; omega) (by have := h.2; omega)

/-- D reads as the numbers f. -/
def HvD (D : DataW Unit) (f : Hf → Nat) : Prop := ∀ x, wfH x → D.atKey (klH x) (.lit (.int .i64 0)) = .lit (.int .i64 (f x : Nat)) ∧ Maps.has D (klH x) = decide (f x ≠ 0)

/-- Block b is a map that holds the numbers f at the halves, and nothing else. -/
def HvAt (w : World) (b m : Nat) (f : Hf → Nat) : Prop := ∃ D : DataW Unit, w.ownsMap Try.prog 93 (plainElem Try.prog 3) b m D ∧ HvD D f

theorem HvD_nil : HvD (.map []) fun _ => 0 := fun x _ => by simp [DataW.atKey, Maps.has]

theorem HvAt.kept {w w' : World} {b m : Nat} {f : Hf → Nat} {row : Option Nat} (h : HvAt w b m f) (hg : w.grownBy w' row) (hb : some b ≠ row) : HvAt w' b m f := by
  obtain ⟨D, hM, hD⟩ := h
  exact ⟨D, hM.kept hg hb, hD⟩

theorem HvAt.lt {w : World} {b m : Nat} {f : Hf → Nat} (h : HvAt w b m f) : b < w.heap.size := by
  obtain ⟨D, hM, hD⟩ := h
  exact hM.lt

theorem HvAt.below {w w' : World} {b m : Nat} {f : Hf → Nat} (h : HvAt w b m f) (hb : Below w.heap.size w w') : HvAt w' b m f :=
  h.kept (row := none) ⟨hb.os, hb.tape, hb.output, hb.size, fun k hk _ => hb.block k hk⟩ (by simp)

theorem HvAt.congr {w : World} {b m : Nat} {f g : Hf → Nat} (h : HvAt w b m f) (e : ∀ x, wfH x → f x = g x) : HvAt w b m g := by
  obtain ⟨D, hM, hD⟩ := h
  exact ⟨D, hM, fun x hx => by rw [← e x hx]; exact hD x hx⟩

theorem HvAt.mono {w : World} {b m n : Nat} {f : Hf → Nat} (h : HvAt w b m f) (hn : m ≤ n) : HvAt w b n f := by
  obtain ⟨D, hM, hD⟩ := h
  exact ⟨D, hM.mono hn, hD⟩

theorem hvNat {n : Nat} (h : n ≤ 100000000) : (Lit.int .i64 (n : Int)).wf = true := WalkArith.wf_i64 (by omega)

set_option maxRecDepth 100000 in
theorem HvAt.look {w : World} {b m : Nat} {f : Hf → Nat} (h : HvAt w b m f) {x : Hf} (hx : wfH x) : (Instr.lookup 55 (.map (some b)) (hfV x) false).run Try.prog w = .ok (.int .i64 (f x : Nat)) w := by
  obtain ⟨D, hM, hD⟩ := h
  obtain ⟨c, hrun, hat, _⟩ := hM.lookup_int (Keyed.of_law hfLaw) Try.underlying55 Try.underlying3 (by kernel_rfl) (klH_key hx)
  rw [(hD x hx).1] at hat
  simp at hat
  rw [hrun, hat]

def hvSet (f : Hf → Nat) (x : Hf) (c : Nat) : Hf → Nat := fun y => if hfE y x then c else f y

set_option maxRecDepth 100000 in
theorem HvD.put {D : DataW Unit} {f : Hf → Nat} (h : HvD D f) (hm : Maps.IsMap D) {x : Hf} (hx : wfH x) {c : Nat} (hc : c ≠ 0) : HvD (D.put (klH x) (.lit (.int .i64 (c : Nat)))) (hvSet f x c) := fun y hy => by
  unfold hvSet
  by_cases e : y = x
  · subst e
    rw [hfE_self, if_pos rfl, Maps.atKey_put_same hm (klH_lit hy)]
    exact ⟨rfl, by rw [Maps.has_put_same hm (klH_lit hy), decide_eq_true hc]⟩
  · rw [hfE_no.2 e, Maps.atKey_put_other (fun h => e (klH_inj hy hx h))]
    rw [if_neg (by simp)]
    exact ⟨(h y hy).1, by rw [Maps.has_put_other (fun h => e (klH_inj hy hx h))]; exact (h y hy).2⟩

set_option maxRecDepth 100000 in
theorem HvD.del {D : DataW Unit} {f : Hf → Nat} (h : HvD D f) {x : Hf} (hx : wfH x) : HvD (D.del (klH x)) (hvSet f x 0) := fun y hy => by
  unfold hvSet
  by_cases e : y = x
  · subst e
    rw [hfE_self, if_pos rfl, Maps.atKey_del_same]
    exact ⟨rfl, by rw [Maps.has_del_same]; rfl⟩
  · rw [hfE_no.2 e, Maps.atKey_del_other (fun h => e (klH_inj hy hx h))]
    rw [if_neg (by simp)]
    exact ⟨(h y hy).1, by rw [Maps.has_del_other (fun h => e (klH_inj hy hx h))]; exact (h y hy).2⟩

theorem ok_pair {a b c d : Value} {W W' : World} (h : (Result.ok (.tuple #[a, b]) W : Result Value) = .ok (.tuple #[c, d]) W') : a = c ∧ W = W' := by
  injection h with h1 h2
  injection h1 with h1
  have := congrArg (fun x : Array Value => x[0]?) h1
  simp at this
  exact ⟨this, h2⟩

/-- An entry is met, looked up behind that or ahead of it, then stored. -/
theorem entry_same {P : Program} {k t e : TypeId} {R : Value → Option (DataW Unit × List MemPlace)} {w : World} {b n : Nat} {D : DataW Unit} (h : w.ownsMap P k R b n D) (K : KeyLaw P k) (ht : P.underlying t = some (.map k e)) (hn : n < maxLen) {z : Value} (hz : ∀ u : World, (zeroValue e).run P u = .ok z u) {zd : DataW Unit} {zp : List MemPlace} (hzd : R z = some (zd, zp))
    {key : Value} {kl : Lit} (hkey : keyOf P k key = some kl) :
    ∃ (v0 : Value) (st : Nat) (W1 : World), (Instr.mapEntry t (.map (some b)) key).run P w = .ok (.tuple #[v0, goInt st]) W1 ∧ w.grownBy W1 (some b) ∧ (∃ ps, R v0 = some (D.atKey kl zd, ps)) ∧
      (Instr.lookup t (.map (some b)) key false).run P W1 = .ok v0 W1 ∧
      ∀ (w2 : World) (val : Value) (d : DataW Unit) (ps : List MemPlace), w2.heap[b]? = W1.heap[b]? → R val = some (d, ps) →
        ∃ w3, (Instr.entryStore t (.map (some b)) (goInt st) val).run P w2 = .ok () w3 ∧ w3.ownsMap P k R b (n + 1) (D.put kl d) ∧ w2.grownBy w3 (some b) := by
  obtain ⟨v0, st, es1, c1, r1, g1, b1, ⟨ps, hv0⟩, hlt, hst⟩ := map_entry h K ht hn hz hzd hkey
  refine ⟨v0, st, _, r1, g1, ⟨ps, hv0⟩, ?_, fun w2 val d ps' hb hR => hst w2 val d ps' (hb.trans b1) hR⟩
  -- what mapEntry leaves is what a store of that same value would leave
  obtain ⟨w3, r3, m3, _⟩ := hst _ v0 (D.atKey kl zd) ps b1 hv0
  obtain ⟨es, clock, hb, F, hs, hD⟩ := h
  rcases K.find w hkey es.toList F.keys with ⟨f1, f2⟩ | ⟨j, e0, f1, f2, f3⟩
  · have hm : (Instr.mapEntry t (.map (some b)) key).run P w = .ok (.tuple #[z, goInt clock]) (setBlock w b (.map (es.push ⟨key, z, clock⟩) (clock + 1))) := by
      simp [Instr.mapEntry, run_underlying ht, MapKept.run_getObj_map hb, K.check w false hkey, f1, hz, MapKept.run_setObj_map _ hb, Result.andThen, setBlock]
    rw [r1] at hm
    obtain ⟨hv, hw⟩ := ok_pair hm
    subst hv
    rw [hw] at b1 ⊢
    rcases K.find (setBlock w b (.map (es.push ⟨key, v0, clock⟩) (clock + 1))) hkey (es.push ⟨key, v0, clock⟩).toList (by
        intro x hx
        simp only [Array.toList_push, List.mem_append, List.mem_singleton] at hx
        rcases hx with hx | rfl
        · exact F.keys x hx
        · exact ⟨kl, hkey⟩) with ⟨_, q2⟩ | ⟨j, e1, q1, q2, q3⟩
    · exact absurd rfl (q2 ⟨key, v0, clock⟩ (by simp))
    · have hv1 : e1.val = v0 := by
        have hm1 := List.mem_of_getElem? q2
        simp only [Array.toList_push, List.mem_append, List.mem_singleton] at hm1
        rcases hm1 with hx | rfl
        · exact absurd q3 (f2 e1 hx)
        · rfl
      have hbb := heap_setBlock_same hb (.map (es.push ⟨key, v0, clock⟩) (clock + 1))
      simp only [Array.toList_push] at q1
      simp [Instr.lookup, run_underlying ht, MapKept.run_getObj_map hbb, K.check _ _ hkey, q1, hv1, Result.andThen]
  · have hj : es[j]? = some e0 := by simpa using f2
    have hm : (Instr.mapEntry t (.map (some b)) key).run P w = .ok (.tuple #[e0.val, goInt e0.born]) (setBlock w b (.map (es.modify j fun e => { e with key := key }) clock)) := by
      simp [Instr.mapEntry, run_underlying ht, MapKept.run_getObj_map hb, K.check w false hkey, f1, hj, f3, K.stays w hkey, MapKept.run_setObj_map _ hb, Result.andThen, setBlock]
    have hsame : es.modify j (fun e => { e with key := key }) = es := by
      apply Array.ext'
      rw [Array.toList_modify]
      refine List.ext_getElem? fun i => ?_
      rw [List.getElem?_modify]
      by_cases hij : j = i
      · subst hij
        rw [f2]
        simp [← f3]
      · simp [hij]
    rw [hsame] at hm
    rw [r1] at hm
    obtain ⟨hv, hw⟩ := ok_pair hm
    subst hv
    rw [hw]
    have e : w.heap.setIfInBounds b (.map es clock) = w.heap := by
      apply Array.ext_getElem?
      intro i
      by_cases hi : i = b
      · subst hi
        exact (heap_setBlock_same hb _).trans hb.symm
      · exact heap_setBlock_other hb _ hi
    have hww : setBlock w b (.map es clock) = w := by
      unfold setBlock
      rw [e]
    rw [hww]
    simp [Instr.lookup, run_underlying ht, MapKept.run_getObj_map hb, K.check w _ hkey, f1, Result.andThen]

set_option maxRecDepth 100000 in
theorem HvAt.entry {w : World} {b m : Nat} {f : Hf → Nat} (h : HvAt w b m f) {x : Hf} (hx : wfH x) (hm : m < maxLen) :
    ∃ (st : Nat) (W1 : World), (Instr.mapEntry 55 (.map (some b)) (hfV x)).run Try.prog w = .ok (.tuple #[.int .i64 (f x : Nat), goInt st]) W1 ∧ w.grownBy W1 (some b) ∧
      (Instr.lookup 55 (.map (some b)) (hfV x) false).run Try.prog W1 = .ok (.int .i64 (f x : Nat)) W1 ∧
      ∀ (w2 : World) (c : Nat), w2.heap[b]? = W1.heap[b]? → c ≠ 0 → c ≤ 100000000 →
        ∃ w3, (Instr.entryStore 55 (.map (some b)) (goInt st) (.int .i64 (c : Nat))).run Try.prog w2 = .ok () w3 ∧ HvAt w3 b (m + 1) (hvSet f x c) ∧ w2.grownBy w3 (some b) := by
  obtain ⟨D, hM, hD⟩ := h
  obtain ⟨v0, st, W1, r1, g1, ⟨ps, hv0⟩, hl, hst⟩ := entry_same hM hfLaw Try.underlying55 hm (z := .int .i64 0) (zd := .lit (.int .i64 0)) (zp := []) (fun u => by kernel_rfl) (plainElem_int Try.underlying3 (by decide)) (klH_key hx)
  rw [(hD x hx).1] at hv0
  obtain ⟨c, hc, hc2, _⟩ := plainElem_int_inv Try.underlying3 hv0
  injection hc2 with hc2 _
  injection hc2 with hc2
  injection hc2 with _ hc2
  subst hc2
  subst hc
  refine ⟨st, W1, r1, g1, hl, fun w2 c hb h0 h1 => ?_⟩
  obtain ⟨w3, r3, m3, g3⟩ := hst w2 (.int .i64 (c : Nat)) _ _ hb (plainElem_int Try.underlying3 (hvNat h1))
  exact ⟨w3, r3, ⟨_, m3, hD.put hM.isMap hx h0⟩, g3⟩

/-- Ranging over a map of halves: 'left' tells what is still to come. -/
def HvRg (w : World) (b r m : Nat) (f : Hf → Nat) (left : Hf → Bool) (cnt : Nat) : Prop :=
  ∃ (D : DataW Unit) (lf : Lit → Bool), w.ranges Try.prog 93 (plainElem Try.prog 3) b r m D lf cnt ∧ HvD D f ∧ ∀ x, wfH x → lf (klH x) = left x

theorem HvRg.kept {w w' : World} {b r m : Nat} {f : Hf → Nat} {left : Hf → Bool} {cnt : Nat} {row : Option Nat} (h : HvRg w b r m f left cnt) (hg : w.grownBy w' row) (hb : some b ≠ row) (hr : some r ≠ row) : HvRg w' b r m f left cnt := by
  obtain ⟨D, lf, hM, hD, hl⟩ := h
  exact ⟨D, lf, hM.kept hg hb hr, hD, hl⟩

theorem HvRg.left {w : World} {b r m : Nat} {f : Hf → Nat} {left : Hf → Bool} {cnt : Nat} (h : HvRg w b r m f left cnt) : w.rangeLeft b r = cnt := by
  obtain ⟨D, lf, hM, _, _⟩ := h
  exact hM.left_eq

theorem HvRg.lt {w : World} {b r m : Nat} {f : Hf → Nat} {left : Hf → Bool} {cnt : Nat} (h : HvRg w b r m f left cnt) : r < w.heap.size ∧ b < w.heap.size ∧ r ≠ b := by
  obtain ⟨D, lf, hM, _, _⟩ := h
  exact ⟨hM.lt, hM.owns.lt, hM.ne⟩

theorem HvRg.at {w : World} {b r m : Nat} {f : Hf → Nat} {left : Hf → Bool} {cnt : Nat} (h : HvRg w b r m f left cnt) : HvAt w b m f := by
  obtain ⟨D, lf, hM, hD, _⟩ := h
  exact ⟨D, hM.owns, hD⟩

set_option maxRecDepth 100000 in
theorem HvAt.range {w : World} {b m : Nat} {f : Hf → Nat} (h : HvAt w b m f) :
    ∃ w' cnt, (Instr.range 55 (.map (some b))).run Try.prog w = .ok (.pointer (some ⟨w.heap.size, 0, none⟩)) w' ∧ HvRg w' b w.heap.size m f (fun x => decide (f x ≠ 0)) cnt ∧ cnt ≤ m ∧ w.grownBy w' none ∧ w'.heap.size = w.heap.size + 1 := by
  obtain ⟨D, hM, hD⟩ := h
  obtain ⟨w', r1, r2, r3, r4⟩ := hM.range (Keyed.of_law hfLaw) Try.underlying55
  exact ⟨w', _, r1, ⟨D, _, r2, hD, fun x hx => (hD x hx).2⟩, hM.size_le, r3, r4⟩

theorem wpList_range_half {w : World} {ops : Array Oper} {rest : List Oper} {o : Oper} {a : Act} {Q : Exit → Act → World → Prop} (hg : o.guard = none) (mo : Operand) (hop : o.op = Op.range 55 mo) {b m : Nat} {f : Hf → Nat} (hm : a.eval mo = .map (some b)) (h : HvAt w b m f)
    (hK : ∀ w' cnt, HvRg w' b w.heap.size m f (fun x => decide (f x ≠ 0)) cnt → cnt ≤ m → w.grownBy w' none → w'.heap.size = w.heap.size + 1 → wpList Try.prog ops Q rest (a.put o.dst (.pointer (some ⟨w.heap.size, 0, none⟩))) w') : wpList Try.prog ops Q (o :: rest) a w := by
  refine wpList_plain hg fun K' hK' => ?_
  obtain ⟨w', cnt, hrun, r1, r0, r2, r3⟩ := h.range
  unfold Oper.wp
  simp [execOp, hop, hm, hrun, Result.andThen]
  exact hK' _ _ (hK w' cnt r1 r0 r2 r3)

set_option maxRecDepth 100000 in
theorem wpList_next_half {w : World} {ops : Array Oper} {rest : List Oper} {o : Oper} {a : Act} {Q : Exit → Act → World → Prop} (hg : o.guard = none) (it : Operand) (hop : o.op = Op.next it false) {b r m : Nat} {f : Hf → Nat} {left : Hf → Bool} {cnt : Nat} (hit : a.eval it = .pointer (some ⟨r, 0, none⟩)) (h : HvRg w b r m f left cnt)
    (hDone : (∀ x, wfH x → left x = false) → wpList Try.prog ops Q rest (a.put o.dst (.tuple #[.bool false])) w)
    (hMore : ∀ (x : Hf) (c : Int) (w' : World) (cnt' : Nat), wfH x → left x = true → c = (f x : Nat) → HvRg w' b r m f (fun y => left y && !hfE y x) cnt' → cnt' < cnt → w.grownBy w' (some r) → w'.heap.size = w.heap.size →
      (Instr.entry (.pointer (some ⟨r, 0, none⟩))).run Try.prog w' = .ok (.tuple #[hfV x, .int .i64 c]) w' → wpList Try.prog ops Q rest (a.put o.dst (.tuple #[.bool true, hfV x, .int .i64 c])) w') :
    wpList Try.prog ops Q (o :: rest) a w := by
  obtain ⟨D, lf, hM, hD, hl⟩ := h
  refine wpList_next_ranges w hg it hop 93 (Keyed.of_law hfLaw) (plainElem Try.prog 3) hfV (Value.int .i64) (fun key kl hk => by obtain ⟨x, hx, _⟩ := hfKey_inv hk; exact ⟨x, hx⟩) (fun v y hv => by obtain ⟨c, rfl, _⟩ := plainElem_int_inv Try.underlying3 hv; exact ⟨c, rfl⟩) b r m D lf cnt hit hM ?_ ?_
  · intro _ hall
    exact hDone fun x hx => by rw [← hl x hx]; exact hall _
  · intro x c kl y w' cnt' hk hlk hv hat hrg hlt hgr hsz hen
    obtain ⟨x', hx', hw⟩ := hfKey_inv hk
    have := hfV_inj hx'
    subst this
    have hkl := klH_of hk
    subst hkl
    obtain ⟨c', hc', rfl, _⟩ := plainElem_int_inv Try.underlying3 hv
    injection hc' with _ hc'
    subst hc'
    have hca := hat (.lit (.int .i64 0))
    rw [(hD x hw).1] at hca
    injection hca with hca
    injection hca with _ hca
    refine hMore x c w' cnt' hw (by rw [← hl x hw]; exact hlk) hca.symm ⟨D, _, hrg, hD, fun y hy => ?_⟩ hlt hgr hsz hen
    rw [hl y hy, klH_same hy hw]

set_option maxRecDepth 100000 in
theorem wpList_delete_half {w : World} {ops : Array Oper} {rest : List Oper} {o : Oper} {a : Act} {Q : Exit → Act → World → Prop} (hg : o.guard = none) (mo xo : Operand) (hop : o.op = Op.call { callee := Callee.builtin Builtin.delete, args := #[mo, xo], argTypes := #[55, 93] }) {b r m : Nat} {f : Hf → Nat} {left : Hf → Bool} {cnt : Nat}
    (hm : a.eval mo = .map (some b)) {x : Hf} (hxe : a.eval xo = hfV x) (hx : wfH x) (h : HvRg w b r m f left cnt) (hlx : left x = false)
    (hK : ∀ w' cnt', HvRg w' b r m (hvSet f x 0) left cnt' → cnt' ≤ cnt → w.grownBy w' (some b) → wpList Try.prog ops Q rest (a.put o.dst (.tuple #[])) w') : wpList Try.prog ops Q (o :: rest) a w := by
  obtain ⟨D, lf, hM, hD, hl⟩ := h
  refine wpList_delete_ranges w hg mo xo 55 93 hop 3 (Keyed.of_law hfLaw) Try.underlying55 (plainElem Try.prog 3) b r m D lf cnt hm hM (hfV x) (klH x) hxe (klH_key hx) ?_
  intro w' cnt' hrg hle htu
  refine hK w' cnt' ⟨_, _, hrg, hD.del hx, fun y hy => ?_⟩ hle htu.grown
  rw [hl y hy, klH_same hy hx]
  by_cases e : y = x
  · subst e; rw [hlx]; rfl
  · rw [hfE_no.2 e]; simp

end Go.Proofs.Ytoenkgenoloihab

/- Contracts: tallies of pieces, added and taken away. -/
namespace Go.Proofs.Ytoenkgenoloihab
open Go.ChangeShapes Go.WideShapes Go.ChangeAt Go.RowKit

set_option linter.unusedVariables false

set_option maxRecDepth 100000 in
theorem tallyOf_any (c : UInt8) (x : ByteArray) (hx : x = ⟨#[c]⟩) (w : World) :
    Calls Try.prog 64 #[.string x] w fun e w' => e = .returned (.agg #[.int .i64 (cnt 83 [c] : Nat), .int .i64 (cnt 76 [c] : Nat), .int .i64 (cnt 82 [c] : Nat)]) ∧ Below w.heap.size w w' := by
  have HC := Lib.hid (fun (d : UInt8) w => (count_any x d w))
  rw [show x.data.toList = [c] by subst hx; rfl] at HC
  clear hx
  go_enter Try.func64, Try.ntmps64
  go_wp2_with (go_at_call 76; refine (HC.out _ _).mono ?_; rintro e w' ⟨rfl, rfl⟩)
  refine bodyPost_ret (by simp [results, Try.results64, go_sem, *]; try rfl) rfl ?_
  exact ⟨rfl, by go_grown⟩

set_option maxRecDepth 100000 in
theorem plus_any (a b c d e f : Int) (ha : -1000000 ≤ a ∧ a ≤ 1000000) (hb : -1000000 ≤ b ∧ b ≤ 1000000) (hc : -1000000 ≤ c ∧ c ≤ 1000000) (hd : -1000000 ≤ d ∧ d ≤ 1000000) (he : -1000000 ≤ e ∧ e ≤ 1000000) (hf : -1000000 ≤ f ∧ f ≤ 1000000) (w : World) :
    Calls Try.prog 63 #[.agg #[.int .i64 a, .int .i64 b, .int .i64 c], .agg #[.int .i64 d, .int .i64 e, .int .i64 f]] w fun e' w' => e' = .returned (.agg #[.int .i64 (a + d), .int .i64 (b + e), .int .i64 (c + f)]) ∧ Below w.heap.size w w' := by
  go_enter Try.func63, Try.ntmps63
  go_wp2_with fail
  refine bodyPost_ret (by simp [results, Try.results63, go_sem, *]; try rfl) rfl ?_
  exact ⟨rfl, by go_grown⟩

set_option maxRecDepth 100000 in
theorem less_any (a b c d e f : Int) (ha : -1000000 ≤ a ∧ a ≤ 1000000) (hb : -1000000 ≤ b ∧ b ≤ 1000000) (hc : -1000000 ≤ c ∧ c ≤ 1000000) (hd : -1000000 ≤ d ∧ d ≤ 1000000) (he : -1000000 ≤ e ∧ e ≤ 1000000) (hf : -1000000 ≤ f ∧ f ≤ 1000000) (w : World) :
    Calls Try.prog 66 #[.agg #[.int .i64 a, .int .i64 b, .int .i64 c], .agg #[.int .i64 d, .int .i64 e, .int .i64 f]] w fun e' w' => e' = .returned (.agg #[.int .i64 (a - d), .int .i64 (b - e), .int .i64 (c - f)]) ∧ Below w.heap.size w w' := by
  go_enter Try.func66, Try.ntmps66
  go_wp2_with fail
  refine bodyPost_ret (by simp [results, Try.results66, go_sem, *]; try rfl) rfl ?_
  exact ⟨rfl, by go_grown⟩

end Go.Proofs.Ytoenkgenoloihab

/- Contract of the program: a half laid on by each piece. -/
namespace Go.Proofs.Ytoenkgenoloihab
open Go.ChangeShapes Go.WideShapes Go.ChangeAt Go.RowKit

set_option linter.unusedVariables false

/-- What the map of the longer halves holds when a half of so many has been laid on by the first c pieces. -/
def lyF (f : Hf → Nat) (h : Hf) (q c : Nat) : Hf → Nat := fun y => f y + q * hcn ((ltr.take c).map (hfN h)) y

theorem lyF_zero (f : Hf → Nat) (h : Hf) (q : Nat) : lyF f h q 0 = f := by funext y; simp [lyF, hcn]

theorem lyF_next {f : Hf → Nat} {h : Hf} {q c : Nat} {ch : UInt8} (hta : ltr.take (c + 1) = ltr.take c ++ [ch]) : lyF f h q (c + 1) = hvSet (lyF f h q c) (hfN h ch) (lyF f h q c (hfN h ch) + q) := by
  funext y
  have e : ∀ y, hcn ((ltr.take (c + 1)).map (hfN h)) y = hcn ((ltr.take c).map (hfN h)) y + (if hfE (hfN h ch) y then 1 else 0) := fun y => by
    rw [hta, List.map_append, hcn, hcn, List.countP_append]
    simp [List.countP_cons]
  unfold hvSet
  by_cases he : y = hfN h ch
  · subst he
    rw [hfE_self, if_pos rfl]
    simp only [lyF, e, hfE_self, if_true, Nat.mul_add, Nat.mul_one]
    omega
  · rw [hfE_no.2 he, if_neg (by simp)]
    have hn : hfE (hfN h ch) y = false := hfE_no.2 fun e => he e.symm
    simp only [lyF, e, hn]
    simp

theorem lyF_le {f : Hf → Nat} {h : Hf} {q : Nat} (hf : ∀ y, f y ≤ 10000000) (hq : q ≤ 1000000) (c : Nat) (hc : c ≤ 3) (y : Hf) : lyF f h q c y ≤ 13000000 := by
  have h1 := hf y
  have h2 := hcn_le ((ltr.take c).map (hfN h)) y
  have h3 : ((ltr.take c).map (hfN h)).length ≤ 3 := by rw [List.length_map, List.length_take]; show min c 3 ≤ 3; omega
  have h4 := Nat.mul_le_mul_left q (Nat.le_trans h2 h3)
  unfold lyF
  omega

theorem hfN_ok {h : Hf} (hh : h.s.okB 900000) (ha : 0 ≤ h.a ∧ h.a ≤ 1000) (hb : 0 ≤ h.b ∧ h.b ≤ 1000) (hc : 0 ≤ h.c ∧ h.c ≤ 1000) (c : UInt8) : wfH (hfN h c) := by
  have c1 := cnt_le 83 [c]
  have c2 := cnt_le 76 [c]
  have c3 := cnt_le 82 [c]
  simp only [List.length_singleton] at c1 c2 c3
  exact wfH_of ((hh.next c).mono (by omega)) (by simp only [hfN]; omega) (by simp only [hfN]; omega) (by simp only [hfN]; omega)

theorem blk8 {W : World} {g : Nat} {t : TypeId} {a0 a1 a2 a3 a4 a5 a6 a7 : Value} (h : W.heap[g]? = some (.cells #[a0, a1, a2, a3, a4, a5, a6, a7] t (0, 0))) :
    W.cell? ⟨g, 0, none⟩ = some a0 ∧ W.cell? ⟨g, 1, none⟩ = some a1 ∧ W.cell? ⟨g, 2, none⟩ = some a2 ∧ W.cell? ⟨g, 3, none⟩ = some a3 ∧ W.cell? ⟨g, 4, none⟩ = some a4 ∧ W.cell? ⟨g, 5, none⟩ = some a5 ∧ W.cell? ⟨g, 6, none⟩ = some a6 ∧ W.cell? ⟨g, 7, none⟩ = some a7 := by
  simp [World.cell?, h]

theorem blk1 {W : World} {g : Nat} {t : TypeId} {a0 : Value} (h : W.heap[g]? = some (.cells #[a0] t (0, 0))) : W.cell? ⟨g, 0, none⟩ = some a0 ∧ W.frozen? ⟨g, 0, none⟩ = false := by
  simp [World.cell?, World.frozen?, h]

theorem s9_blk {B0 B1 : Nat} {v u0 u1 u2 u3 u4 u5 u6 u7 : Value} {W W' : World} (h : W.cell? ⟨B0, 0, none⟩ = some v ∧ W.cell? ⟨B1, 0, none⟩ = some u0 ∧ W.cell? ⟨B1, 1, none⟩ = some u1 ∧ W.cell? ⟨B1, 2, none⟩ = some u2 ∧ W.cell? ⟨B1, 3, none⟩ = some u3 ∧ W.cell? ⟨B1, 4, none⟩ = some u4 ∧ W.cell? ⟨B1, 5, none⟩ = some u5 ∧ W.cell? ⟨B1, 6, none⟩ = some u6 ∧ W.cell? ⟨B1, 7, none⟩ = some u7) (e0 : W'.heap[B0]? = W.heap[B0]?) (e1 : W'.heap[B1]? = W.heap[B1]?) :
    W'.cell? ⟨B0, 0, none⟩ = some v ∧ W'.cell? ⟨B1, 0, none⟩ = some u0 ∧ W'.cell? ⟨B1, 1, none⟩ = some u1 ∧ W'.cell? ⟨B1, 2, none⟩ = some u2 ∧ W'.cell? ⟨B1, 3, none⟩ = some u3 ∧ W'.cell? ⟨B1, 4, none⟩ = some u4 ∧ W'.cell? ⟨B1, 5, none⟩ = some u5 ∧ W'.cell? ⟨B1, 6, none⟩ = some u6 ∧ W'.cell? ⟨B1, 7, none⟩ = some u7 := by
  simp only [World.cell?] at h ⊢
  rw [e0, e1]
  exact h

def LyPost (w : World) (b m : Nat) (f : Hf → Nat) (e : Ending) (w' : World) : Prop := e = .returned (.tuple #[]) ∧ HvAt w' b m f ∧ w.grownBy w' (some b)

set_option maxRecDepth 100000 in
set_option maxHeartbeats 6400000 in
theorem lay_any (h : Hf) (hh : h.s.okB 900000) (ha : 0 ≤ h.a ∧ h.a ≤ 1000) (hb : 0 ≤ h.b ∧ h.b ≤ 1000) (hc : 0 ≤ h.c ∧ h.c ≤ 1000) (q : Nat) (hq0 : q ≠ 0) (hq : q ≤ 1000000) (cb b m : Nat) (hm : m ≤ 100000000) (f : Hf → Nat) (hf : ∀ y, f y ≤ 10000000) (w : World)
    (hM : HvAt w b m f) (hC : w.heap[cb]? = some (.cells #[.map (some b)] 55 (0, 0))) (hcb : cb ≠ b) :
    Calls Try.prog 61 #[hfV h, .int .i64 (q : Nat), .pointer (some ⟨cb, 0, none⟩)] w (LyPost w b (m + 3) (lyF f h q 3)) := by
  have hbl := hM.lt
  have hcl := blkLt hC
  have hB0 := Below.alloc (Below.refl w.heap.size w) (Nat.le_refl _) (.cells #[.int .i64 h.s.x0, .int .i64 h.s.x1, .int .i64 h.s.x2, .int .i64 h.s.x3, .int .i64 h.s.h, .int .i64 h.a, .int .i64 h.b, .int .i64 h.c] 93)
  have HM0 := Lib.hid (hM.below hB0)
  have HC0 := Lib.hid ((hB0.block cb hcl).trans hC)
  have HLE := Lib.hid (fun c (hc : c ≤ 3) y => lyF_le (h := h) hf hq c hc y)
  have HWF := Lib.hid (fun c => hfN_ok hh ha hb hc c)
  have HZ := Lib.hid (lyF_zero f h q)
  have HHB := Lib.hid (heap_alloc_new w (.cells #[.int .i64 h.s.x0, .int .i64 h.s.x1, .int .i64 h.s.x2, .int .i64 h.s.x3, .int .i64 h.s.h, .int .i64 h.a, .int .i64 h.b, .int .i64 h.c] 93))
  have HG0 := Lib.hid (below_grown hB0)
  have HHH := Lib.hid hh
  unfold hfV
  clear hM hC hB0 hf
  go_enter Try.func61, Try.ntmps61
  go_wp2_with fail
  go_loopw [7] (fun i wr => ∃ c : Nat, c ≤ 3 ∧ i = .int .i64 c ∧ HvAt wr b (m + c) (lyF f h q c) ∧ wr.heap[cb]? = some (.cells #[.map (some b)] 55 (0, 0)) ∧ wr.heap[w.heap.size]? = some (.cells #[.int .i64 h.s.x0, .int .i64 h.s.x1, .int .i64 h.s.x2, .int .i64 h.s.x3, .int .i64 h.s.h, .int .i64 h.a, .int .i64 h.b, .int .i64 h.c] 93 (0, 0)) ∧ w.grownBy wr (some b)) (fun i _ => 4 - (intOf i).toNat)
  case atStart => exact ⟨0, by omega, rfl, by rw [HZ.out]; exact HM0.out, HC0.out, HHB.out, HG0.out.but _⟩
  case round =>
    obtain ⟨c, hc3, rfl, hM, hC, hH, hG⟩ := hrel
    by_cases hlt : c < 3
    · obtain ⟨ch, hch, hpc, hx, hta⟩ := ltr_at hlt
      obtain ⟨F, hF, lay1, lay2⟩ := laying_any hpc
      have LAY1 := Lib.hid (fun w => lay1 _ w hx)
      have LAY2 := Lib.hid (lay2 h.s (HHH.out.mono (by decide)))
      have TL := Lib.hid (fun w => tallyOf_any ch _ hx w)
      have n1 := cnt_le 83 [ch]
      have n2 := cnt_le 76 [ch]
      have n3 := cnt_le 82 [ch]
      simp only [List.length_singleton] at n1 n2 n3
      have PL := Lib.hid (fun w => plus_any h.a h.b h.c (cnt 83 [ch] : Nat) (cnt 76 [ch] : Nat) (cnt 82 [ch] : Nat) (by omega) (by omega) (by omega) (by omega) (by omega) (by omega) w)
      have HLN := Lib.hid (lyF_next (f := f) (h := h) (q := q) hta)
      have hxb := HLE.out c hc3 (hfN h ch)
      obtain ⟨x, hxx⟩ : ∃ x, lyF f h q c (hfN h ch) = x := ⟨_, rfl⟩
      have HXE := Lib.hid hxx
      have HX1 := Lib.hid (show lyF f h q c (hfN h ch) + q ≠ 0 by omega)
      have HX2 := Lib.hid (show lyF f h q c (hfN h ch) + q ≤ 100000000 by omega)
      rw [hxx] at hxb HX1 HX2
      have HWR := Lib.hid (show IntKind.i64.wrap ((x : Int) + (q : Int)) = ((x + q : Nat) : Int) by rw [IntKind.wrap_i64]; omega)
      have HKE := Lib.hid (show hfV (hfN h ch) = .agg #[.int .i64 (h.s.next ch).x0, .int .i64 (h.s.next ch).x1, .int .i64 (h.s.next ch).x2, .int .i64 (h.s.next ch).x3, .int .i64 (h.s.next ch).h, .int .i64 (h.a + (cnt 83 [ch] : Nat)), .int .i64 (h.b + (cnt 76 [ch] : Nat)), .int .i64 (h.c + (cnt 82 [ch] : Nat))] from rfl)
      generalize cnt 83 [ch] = k1 at *
      generalize cnt 76 [ch] = k2 at *
      generalize cnt 82 [ch] = k3 at *
      obtain ⟨nx, hnx⟩ : ∃ nx, h.s.next ch = nx := ⟨_, rfl⟩
      rw [hnx] at HKE LAY2
      have hcl2 := blkLt hC
      have hHl := blkLt hH
      have hHb : w.heap.size ≠ b := by omega
      obtain ⟨d0, d1, d2, d3, d4, d5, d6, d7⟩ := blk8 hH
      have hS0 := And.intro (blk1 hC).1 (And.intro d0 (And.intro d1 (And.intro d2 (And.intro d3 (And.intro d4 (And.intro d5 (And.intro d6 d7)))))))
      have HM := Lib.hid hM
      have HCB := Lib.hid hC
      have HHB2 := Lib.hid hH
      have HG := Lib.hid hG
      obtain ⟨wi, rfl⟩ : ∃ wi : World, wi = wr := ⟨_, rfl⟩
      clear lay1 lay2 hx hta hxx hnx hM hC hH hG hch hpc d0 d1 d2 d3 d4 d5 d6 d7
      rcases hF with rfl | rfl | rfl
      all_goals
        go_wp2_with fail
        go_region_held3 (fun w' => w'.cell? ⟨cb, 0, none⟩ = some (.map (some b)) ∧ w'.cell? ⟨w.heap.size, 0, none⟩ = some (.int .i64 h.s.x0) ∧ w'.cell? ⟨w.heap.size, 1, none⟩ = some (.int .i64 h.s.x1) ∧ w'.cell? ⟨w.heap.size, 2, none⟩ = some (.int .i64 h.s.x2) ∧ w'.cell? ⟨w.heap.size, 3, none⟩ = some (.int .i64 h.s.x3) ∧ w'.cell? ⟨w.heap.size, 4, none⟩ = some (.int .i64 h.s.h) ∧ w'.cell? ⟨w.heap.size, 5, none⟩ = some (.int .i64 h.a) ∧ w'.cell? ⟨w.heap.size, 6, none⟩ = some (.int .i64 h.b) ∧ w'.cell? ⟨w.heap.size, 7, none⟩ = some (.int .i64 h.c))
          (first | (with_reducible exact hS3) | (with_reducible exact hS1) | (with_reducible exact hSC) | (with_reducible exact hSB) | (with_reducible exact hSA) | (with_reducible exact hS0) | (exact hS0))
          (first | (go_at_call 62; refine (LAY1.out _).mono ?_; rintro e w' ⟨rfl, rfl⟩) | ((with_reducible refine (LAY2.out _).mono ?_); rintro e wA ⟨rfl, hA⟩; (try with_reducible replace hA := undrew hA); have hSA := s9_blk hS0 (hA.block cb hcl2) (hA.block w.heap.size hHl)) | ((with_reducible refine (TL.out _).mono ?_); rintro e wB ⟨rfl, hB'⟩; have hB := ba hA hB'; have hSB := s9_blk hS0 (hB.block cb hcl2) (hB.block w.heap.size hHl)) | ((with_reducible refine (PL.out _).mono ?_); rintro e wC ⟨rfl, hC'⟩; have hC := ba hB hC'; have hSC := s9_blk hS0 (hC.block cb hcl2) (hC.block w.heap.size hHl); have hMC := HM.out.below hC; have rL := hMC.look (HWF.out ch); obtain ⟨st, W1, rE, gE, rL1, hst⟩ := hMC.entry (HWF.out ch) (by unfold maxLen; omega); obtain ⟨w3, r3, hM3, g3⟩ := hst W1 _ rfl HX1.out HX2.out; rw [HXE.out] at rL rE rL1; rw [← HWR.out] at r3; simp only [HKE.out, goInt] at rL rE rL1 r3; have hS1 := s9_blk hSC (gE.block cb (by have := hC.size; omega) (by simpa using hcb)) (gE.block w.heap.size (by have := hC.size; omega) (by simpa using hHb)); have hS3 := s9_blk hS1 (g3.block cb (by have := hC.size; have := gE.size; omega) (by simpa using hcb)) (g3.block w.heap.size (by have := hC.size; have := gE.size; omega) (by simpa using hHb))))
        all_goals
          have hz1 := hC.size
          have hz2 := gE.size
          have hGC := below_grown hC
          have HM3 := Lib.hid hM3
          have HC3 := Lib.hid ((g3.block cb (by omega) (by simpa using hcb)).trans ((gE.block cb (by omega) (by simpa using hcb)).trans ((hC.block cb hcl2).trans HCB.out)))
          have HH3 := Lib.hid ((g3.block w.heap.size (by omega) (by simpa using hHb)).trans ((gE.block w.heap.size (by omega) (by simpa using hHb)).trans ((hC.block w.heap.size hHl).trans HHB2.out)))
          have HG3 := Lib.hid (grown_row (grown_row (grown_row HG.out hGC (by simp)) gE (fun k hk => .inr hk)) g3 (fun k hk => .inr hk))
          clear hS0 hSA hSB hSC hS1 hS3 hA hB hC hB' hC' hMC hst rL rE rL1 r3 hM3 g3 gE hGC
          go_wp2_with fail
          go_roundw
          case rel => exact ⟨c + 1, by omega, by go_num, by rw [HLN.out, HXE.out]; exact HM3.out, HC3.out, HH3.out, HG3.out⟩
          case measure => simp [intOf]; omega
    · obtain rfl : c = 3 := by omega
      have HM := Lib.hid hM
      have HG := Lib.hid hG
      clear hM hC hH hG
      go_wp2_with fail
      go_returns
      exact ⟨rfl, HM.out, HG.out⟩

end Go.Proofs.Ytoenkgenoloihab
