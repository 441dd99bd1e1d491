/- Contracts and facts, put together (part 1). Conditions: each says its own. -/
import Derived.Test.YtoenkgenoloihabQ6
import Derived.Lib.SlBytesConst

/- Closed tracks of told pieces: by the first piece. Nothing of the program. -/
namespace Go.Proofs.Ytoenkgenoloihab

set_option linter.unusedVariables false

/-- Whether a text has so many straights, lefts and rights. -/
def tlB (a b c : Nat) (w : List UInt8) : Bool := decide (cnt 83 w = a ∧ cnt 76 w = b ∧ cnt 82 w = c)

/-- How many texts of so many straights, lefts and rights lead from p back to the beginning. -/
def cwA (p : Sp) (a b c : Nat) : Nat := (clsL p (a + b + c)).countP (tlB a b c)

theorem cwA_zero (p : Sp) : cwA p 0 0 0 = if spE p sp0 = true then 1 else 0 := by
  show (clsL p 0).countP _ = _
  rw [cls_zero]
  cases h : spE p sp0 <;> simp [tlB, cnt]

theorem cwA_le (p : Sp) (a b c : Nat) : cwA p a b c ≤ 3 ^ (a + b + c) := Nat.le_trans List.countP_le_length (cls_len p _)

theorem cwA_far {p : Sp} {a b c : Nat} (h : clsL p (a + b + c) = []) : cwA p a b c = 0 := by rw [cwA, h]; rfl

theorem tl_S (a b c : Nat) (w : List UInt8) : tlB a b c (83 :: w) = (decide (0 < a) && tlB (a - 1) b c w) := by
  have e : cnt 83 (83 :: w) = cnt 83 w + 1 ∧ cnt 76 (83 :: w) = cnt 76 w ∧ cnt 82 (83 :: w) = cnt 82 w := by simp [cnt]
  rw [Bool.eq_iff_iff]
  simp only [tlB, Bool.and_eq_true, decide_eq_true_eq, e.1, e.2.1, e.2.2]
  omega

theorem tl_L (a b c : Nat) (w : List UInt8) : tlB a b c (76 :: w) = (decide (0 < b) && tlB a (b - 1) c w) := by
  have e : cnt 83 (76 :: w) = cnt 83 w ∧ cnt 76 (76 :: w) = cnt 76 w + 1 ∧ cnt 82 (76 :: w) = cnt 82 w := by simp [cnt]
  rw [Bool.eq_iff_iff]
  simp only [tlB, Bool.and_eq_true, decide_eq_true_eq, e.1, e.2.1, e.2.2]
  omega

theorem tl_R (a b c : Nat) (w : List UInt8) : tlB a b c (82 :: w) = (decide (0 < c) && tlB a b (c - 1) w) := by
  have e : cnt 83 (82 :: w) = cnt 83 w ∧ cnt 76 (82 :: w) = cnt 76 w ∧ cnt 82 (82 :: w) = cnt 82 w + 1 := by simp [cnt]
  rw [Bool.eq_iff_iff]
  simp only [tlB, Bool.and_eq_true, decide_eq_true_eq, e.1, e.2.1, e.2.2]
  omega

/-- What begins with a straight, a left, a right. -/
def cwS (p : Sp) (a b c : Nat) : Nat := if 0 < a then cwA (p.next 83) (a - 1) b c else 0

def cwL (p : Sp) (a b c : Nat) : Nat := if 0 < b then cwA (p.next 76) a (b - 1) c else 0

def cwR (p : Sp) (a b c : Nat) : Nat := if 0 < c then cwA (p.next 82) a b (c - 1) else 0

theorem countP_no {α : Type} {q : α → Bool} : ∀ {l : List α}, (∀ x ∈ l, q x = false) → l.countP q = 0 := fun h => List.countP_eq_zero.2 (fun x hx => by rw [h x hx]; simp)

theorem cwA_succ (p : Sp) {a b c : Nat} (h : 0 < a + b + c) : cwA p a b c = cwS p a b c + cwL p a b c + cwR p a b c := by
  obtain ⟨n, hn⟩ : ∃ n, a + b + c = n + 1 := ⟨a + b + c - 1, by omega⟩
  have e0 : cwA p a b c = ((clsL (p.next 76) n).countP fun w => tlB a b c (76 :: w)) + (((clsL (p.next 82) n).countP fun w => tlB a b c (82 :: w)) + ((clsL (p.next 83) n).countP fun w => tlB a b c (83 :: w))) := by
    rw [cwA, hn, cls_succ]
    simp only [ltr, List.flatMap_cons, List.flatMap_nil, List.append_nil, List.countP_append, List.countP_map]
    rfl
  have eS : ((clsL (p.next 83) n).countP fun w => tlB a b c (83 :: w)) = cwS p a b c := by
    unfold cwS
    by_cases h0 : 0 < a
    · rw [if_pos h0, cwA, show a - 1 + b + c = n by omega]
      congr 1; funext w; rw [tl_S, decide_eq_true h0, Bool.true_and]
    · rw [if_neg h0]; exact countP_no (fun w _ => by rw [tl_S, decide_eq_false h0, Bool.false_and])
  have eL : ((clsL (p.next 76) n).countP fun w => tlB a b c (76 :: w)) = cwL p a b c := by
    unfold cwL
    by_cases h0 : 0 < b
    · rw [if_pos h0, cwA, show a + (b - 1) + c = n by omega]
      congr 1; funext w; rw [tl_L, decide_eq_true h0, Bool.true_and]
    · rw [if_neg h0]; exact countP_no (fun w _ => by rw [tl_L, decide_eq_false h0, Bool.false_and])
  have eR : ((clsL (p.next 82) n).countP fun w => tlB a b c (82 :: w)) = cwR p a b c := by
    unfold cwR
    by_cases h0 : 0 < c
    · rw [if_pos h0, cwA, show a + b + (c - 1) = n by omega]
      congr 1; funext w; rw [tl_R, decide_eq_true h0, Bool.true_and]
    · rw [if_neg h0]; exact countP_no (fun w _ => by rw [tl_R, decide_eq_false h0, Bool.false_and])
  rw [e0, eS, eL, eR]
  omega

theorem cwA_top (a b c : Nat) : cwA sp0 a b c = cwt (a + b + c) a b c := by
  rw [cwA, cwt]
  refine List.countP_congr fun w _ => ?_
  simp only [tlB, decide_eq_true_eq]
  omega

/-- A turn that is no multiple of eight leads nowhere back. -/
theorem cwt_odd {n a b c : Nat} (h : ((b : Int) - (c : Int)).tmod 8 ≠ 0) : cwt n a b c = 0 := by
  refine countP_no fun w hw => ?_
  rw [decide_eq_false_iff_not]
  rintro ⟨_, h1, h2⟩
  have hm := List.mem_filter.1 hw
  have hl := (words_iff n w).1 hm.1
  have hh := fin_h w sp0 hl.2 (by decide) (by decide)
  rw [spE_iff.1 hm.2] at hh
  have h0 : (sp0 : Sp).h = 0 := rfl
  rw [h0, trW, h1, h2] at hh
  refine h ?_
  have := Int.tmod_eq_emod (a := (b : Int) - (c : Int)) (b := 8)
  have hd : (8 : Int) ∣ (b : Int) - (c : Int) := by omega
  exact Int.tmod_eq_zero_of_dvd hd

end Go.Proofs.Ytoenkgenoloihab

/- Contract of the model: the search for closed tracks of told pieces. -/
namespace Go.Proofs.Ytoenkgenoloihab
open Go Go.ChangeMaps Go.MapKept Go.ChangeShapes Go.WideShapes Go.ChangeAt Go.RowKit

set_option linter.unusedVariables false

/-- Block F is the search, block Lb the numbers of pieces that are left. -/
def CwAt (w : World) (F Lb a b c cnt : Nat) : Prop :=
  w.heap[F]? = some (.cells #[.slice (some ⟨Lb, 0, none⟩) 3 3, .int .i64 (cnt : Nat)] 65 (0, 0)) ∧ w.heap[Lb]? = some (.cells #[.int .i64 ((a : Nat) : Int), .int .i64 ((b : Nat) : Int), .int .i64 ((c : Nat) : Int)] 3 (0, 0)) ∧ F ≠ Lb

theorem CwAt.cells {w : World} {F Lb a b c cnt : Nat} (h : CwAt w F Lb a b c cnt) : w.cell? ⟨F, 0, none⟩ = some (.slice (some ⟨Lb, 0, none⟩) 3 3) ∧ w.cell? ⟨F, 1, none⟩ = some (.int .i64 (cnt : Nat)) ∧ w.frozen? ⟨F, 1, none⟩ = false := by
  simp [World.cell?, World.frozen?, h.1]

theorem CwAt.left {w : World} {F Lb a b c cnt : Nat} (h : CwAt w F Lb a b c cnt) : w.cell? ⟨Lb, 0, none⟩ = some (.int .i64 (a : Nat)) ∧ w.cell? ⟨Lb, 1, none⟩ = some (.int .i64 (b : Nat)) ∧ w.cell? ⟨Lb, 2, none⟩ = some (.int .i64 (c : Nat)) ∧ ∀ i, w.frozen? ⟨Lb, i, none⟩ = false := by
  simp [World.cell?, World.frozen?, h.2.1]

theorem CwAt.ltF {w : World} {F Lb a b c cnt : Nat} (h : CwAt w F Lb a b c cnt) : F < w.heap.size := blkLt h.1

theorem CwAt.ltL {w : World} {F Lb a b c cnt : Nat} (h : CwAt w F Lb a b c cnt) : Lb < w.heap.size := blkLt h.2.1

theorem CwAt.ne {w : World} {F Lb a b c cnt : Nat} (h : CwAt w F Lb a b c cnt) : F ≠ Lb := h.2.2

theorem CwAt.below {w w' : World} {F Lb a b c cnt : Nat} (h : CwAt w F Lb a b c cnt) (hb : Below w.heap.size w w') : CwAt w' F Lb a b c cnt :=
  ⟨(hb.block F h.ltF).trans h.1, (hb.block Lb h.ltL).trans h.2.1, h.2.2⟩

theorem set_heap {w : World} {g i : Nat} {cs : Array Value} {t : TypeId} {v : Value} (h : w.heap[g]? = some (.cells cs t (0, 0))) : (w.setCell ⟨g, i, none⟩ v).heap[g]? = some (.cells (cs.setIfInBounds i v) t (0, 0)) := by
  simp [World.setCell, Array.getElem?_modify, h]

theorem set_heap_other {w : World} {g k i : Nat} {v : Value} (hne : g ≠ k) : (w.setCell ⟨g, i, none⟩ v).heap[k]? = w.heap[k]? := by
  simp [World.setCell, Array.getElem?_modify, hne]

theorem CwAt.set0 {w : World} {F Lb a b c cnt : Nat} (h : CwAt w F Lb a b c cnt) (h0 : 0 < a) : CwAt (w.setCell ⟨Lb, 0, none⟩ (.int .i64 (((a : Nat) : Int) - 1))) F Lb (a - 1) b c cnt :=
  ⟨(set_heap_other h.2.2.symm).trans h.1, by rw [set_heap h.2.1, show (((a : Nat) : Int) - 1) = ((a - 1 : Nat) : Int) by omega]; rfl, h.2.2⟩

theorem CwAt.set1 {w : World} {F Lb a b c cnt : Nat} (h : CwAt w F Lb a b c cnt) (h0 : 0 < b) : CwAt (w.setCell ⟨Lb, 1, none⟩ (.int .i64 (((b : Nat) : Int) - 1))) F Lb a (b - 1) c cnt :=
  ⟨(set_heap_other h.2.2.symm).trans h.1, by rw [set_heap h.2.1, show (((b : Nat) : Int) - 1) = ((b - 1 : Nat) : Int) by omega]; rfl, h.2.2⟩

theorem CwAt.set2 {w : World} {F Lb a b c cnt : Nat} (h : CwAt w F Lb a b c cnt) (h0 : 0 < c) : CwAt (w.setCell ⟨Lb, 2, none⟩ (.int .i64 (((c : Nat) : Int) - 1))) F Lb a b (c - 1) cnt :=
  ⟨(set_heap_other h.2.2.symm).trans h.1, by rw [set_heap h.2.1, show (((c : Nat) : Int) - 1) = ((c - 1 : Nat) : Int) by omega]; rfl, h.2.2⟩

theorem CwAt.inc0 {w : World} {F Lb a b c cnt : Nat} (h : CwAt w F Lb (a - 1) b c cnt) (h0 : 0 < a) : CwAt (w.setCell ⟨Lb, 0, none⟩ (.int .i64 ((a : Nat) : Int))) F Lb a b c cnt :=
  ⟨(set_heap_other h.2.2.symm).trans h.1, by rw [set_heap h.2.1]; rfl, h.2.2⟩

theorem CwAt.inc1 {w : World} {F Lb a b c cnt : Nat} (h : CwAt w F Lb a (b - 1) c cnt) (h0 : 0 < b) : CwAt (w.setCell ⟨Lb, 1, none⟩ (.int .i64 ((b : Nat) : Int))) F Lb a b c cnt :=
  ⟨(set_heap_other h.2.2.symm).trans h.1, by rw [set_heap h.2.1]; rfl, h.2.2⟩

theorem CwAt.inc2 {w : World} {F Lb a b c cnt : Nat} (h : CwAt w F Lb a b (c - 1) cnt) (h0 : 0 < c) : CwAt (w.setCell ⟨Lb, 2, none⟩ (.int .i64 ((c : Nat) : Int))) F Lb a b c cnt :=
  ⟨(set_heap_other h.2.2.symm).trans h.1, by rw [set_heap h.2.1]; rfl, h.2.2⟩

theorem CwAt.more {w : World} {F Lb a b c cnt : Nat} (h : CwAt w F Lb a b c cnt) : CwAt (w.setCell ⟨F, 1, none⟩ (.int .i64 ((cnt : Nat) + 1 : Int))) F Lb a b c (cnt + 1) :=
  ⟨by rw [set_heap h.1]; rfl, (set_heap_other h.2.2).trans h.2.1, h.2.2⟩

structure CwFr (w w' : World) (F Lb : Nat) : Prop where
  os : w'.os = w.os
  tape : w'.tape = w.tape
  output : w'.output = w.output
  size : w.heap.size ≤ w'.heap.size
  block : ∀ k, k < w.heap.size → k ≠ F → k ≠ Lb → w'.heap[k]? = w.heap[k]?

theorem CwFr.of_grown {w w' : World} {F Lb : Nat} {row : Option Nat} (h : w.grownBy w' row) (hr : row = none ∨ row = some F ∨ row = some Lb) : CwFr w w' F Lb := ⟨h.os, h.tape, h.output, h.size, fun k hk h1 h2 => h.block k hk (fun e => by
  rcases hr with rfl | rfl | rfl
  · cases e
  · injection e with e; exact h1 e
  · injection e with e; exact h2 e)⟩

theorem CwFr.trans {w w1 w2 : World} {F Lb : Nat} (h : CwFr w w1 F Lb) (g : CwFr w1 w2 F Lb) : CwFr w w2 F Lb :=
  ⟨g.os.trans h.os, g.tape.trans h.tape, g.output.trans h.output, Nat.le_trans h.size g.size, fun k hk h1 h2 => (g.block k (Nat.lt_of_lt_of_le hk h.size) h1 h2).trans (h.block k hk h1 h2)⟩

theorem CwFr.refl (w : World) (F Lb : Nat) : CwFr w w F Lb := ⟨rfl, rfl, rfl, Nat.le_refl _, fun _ _ _ _ => rfl⟩

def CwPost (w : World) (F Lb a b c cnt : Nat) (e : Ending) (w' : World) : Prop := e = .returned (.tuple #[]) ∧ CwAt w' F Lb a b c cnt ∧ CwFr w w' F Lb

/-- What has been counted behind k pieces. -/
def stP (k p0 p1 p2 : Nat) : Nat := (if 0 < k then p0 else 0) + (if 1 < k then p1 else 0) + (if 2 < k then p2 else 0)

/-- '!=' and '==' on points are told once (eqPt). A point's own block behind a draw. -/
theorem CwAt.drewN {w : World} {F Lb a b c cnt : Nat} (h : CwAt w F Lb a b c cnt) (q : Nat) : CwAt (w.drewN q) F Lb a b c cnt := h

set_option maxRecDepth 100000 in
set_option maxHeartbeats 3200000 in
theorem lookC_zero (F Lb cnt : Nat) (hc : cnt ≤ 10000000) (s : Sp) (w : World) (hA : CwAt w F Lb 0 0 0 cnt) :
    Calls Try.prog 46 #[.pointer (some ⟨F, 0, none⟩), .agg #[.int .i64 s.x0, .int .i64 s.x1, .int .i64 s.x2, .int .i64 s.x3], .int .i64 s.h] w (CwPost w F Lb 0 0 0 (cnt + cwA s 0 0 0)) := by
  rw [cwA_zero]
  obtain ⟨x0, x1, x2, x3, h⟩ := s
  have hE : spE ⟨x0, x1, x2, x3, h⟩ sp0 = ((x0 == 0 && (x1 == 0 && (x2 == 0 && x3 == 0))) && h == 0) := rfl
  rw [hE]
  have hB0 := Below.alloc (Below.refl w.heap.size w) (Nat.le_refl _) (.cells #[.int .i64 x0, .int .i64 x1, .int .i64 x2, .int .i64 x3] 44)
  have hA1 := hA.below hB0
  obtain ⟨c0, c1, cf⟩ := hA1.cells
  obtain ⟨d0, d1, d2, df⟩ := hA1.left
  have hfl := hA.ltF
  have hll := hA.ltL
  have HA1 := Lib.hid hA1
  have HB0 := Lib.hid hB0
  clear hA hA1 hB0
  cases hq : (x0 == 0 && (x1 == 0 && (x2 == 0 && x3 == 0)))
  · rw [show (false && h == 0) = false from rfl, if_neg (by decide)]
    go_enter Try.func46, Try.ntmps46
    go_wp2_with fail
    go_quiet (fail)
    go_wp2_with fail
    go_returns
    exact ⟨rfl, by simpa using HA1.out.drewN _, (CwFr.of_grown (below_grown HB0.out) (.inl rfl)).trans (CwFr.of_grown (below_grown (below_drawn _ _)) (.inl rfl))⟩
  · by_cases h0 : h = 0
    · subst h0
      rw [show (true && ((0 : Int) == 0)) = true from rfl, if_pos rfl]
      go_enter Try.func46, Try.ntmps46
      go_wp2_with fail
      go_quiet (fail)
      go_wp2_with fail
      go_returns
      exact ⟨rfl, (HA1.out.drewN _).more, ((CwFr.of_grown (below_grown HB0.out) (.inl rfl)).trans (CwFr.of_grown (below_grown (below_drawn _ _)) (.inl rfl))).trans (CwFr.of_grown (setCell_grown _ _ _ _) (.inr (.inl rfl)))⟩
    · have hb : (h == 0) = false := beq_eq_false_iff_ne.2 h0
      rw [hb, show (true && false) = false from rfl, if_neg (by decide)]
      go_enter Try.func46, Try.ntmps46
      go_wp2_with fail
      go_quiet (fail)
      go_wp2_with fail
      go_returns
      exact ⟨rfl, by simpa using HA1.out.drewN _, (CwFr.of_grown (below_grown HB0.out) (.inl rfl)).trans (CwFr.of_grown (below_grown (below_drawn _ _)) (.inl rfl))⟩

theorem blkB {W : World} {g : Nat} {fz : Nat × Nat} {t : TypeId} {a0 a1 a2 : Value} (h : W.heap[g]? = some (.cells #[a0, a1, a2] t fz)) : W.cell? ⟨g, 0, none⟩ = some a0 ∧ W.cell? ⟨g, 1, none⟩ = some a1 ∧ W.cell? ⟨g, 2, none⟩ = some a2 := by
  simp [World.cell?, h]

theorem cwA_parts (s : Sp) {a b c : Nat} (h : 0 < a + b + c) : cwA s a b c = cwS s a b c + cwL s a b c + cwR s a b c := cwA_succ s h

theorem cwS_le {s : Sp} {a b c m : Nat} (h : a + b + c = m + 1) : cwS s a b c ≤ 3 ^ m := by
  unfold cwS
  split
  · refine Nat.le_trans (cwA_le _ _ _ _) ?_
    rw [show a - 1 + b + c = m by omega]
    exact Nat.le_refl _
  · exact Nat.zero_le _

theorem cwL_le {s : Sp} {a b c m : Nat} (h : a + b + c = m + 1) : cwL s a b c ≤ 3 ^ m := by
  unfold cwL
  split
  · refine Nat.le_trans (cwA_le _ _ _ _) ?_
    rw [show a + (b - 1) + c = m by omega]
    exact Nat.le_refl _
  · exact Nat.zero_le _

theorem cwR_le {s : Sp} {a b c m : Nat} (h : a + b + c = m + 1) : cwR s a b c ≤ 3 ^ m := by
  unfold cwR
  split
  · refine Nat.le_trans (cwA_le _ _ _ _) ?_
    rw [show a + b + (c - 1) = m by omega]
    exact Nat.le_refl _
  · exact Nat.zero_le _

set_option maxRecDepth 100000 in
set_option maxHeartbeats 12800000 in
theorem lookC_step (F Lb m : Nat) (hm : m ≤ 11) (a b c : Nat) (hn : a + b + c = m + 1) (s : Sp) (hs : s.okB (999000 - 2 * ((m + 1 : Nat) : Int))) (cnt : Nat) (hc : cnt + 3 ^ (m + 1) ≤ 10000000) (w : World) (hA : CwAt w F Lb a b c cnt)
    (ih : ∀ (ch : UInt8), ch ∈ ltr → ∀ (a' b' c' : Nat), a' + b' + c' = m → ∀ (cnt' : Nat), cnt' + 3 ^ m ≤ 10000000 → ∀ (W : World), CwAt W F Lb a' b' c' cnt' →
      Calls Try.prog 46 #[.pointer (some ⟨F, 0, none⟩), .agg #[.int .i64 (s.next ch).x0, .int .i64 (s.next ch).x1, .int .i64 (s.next ch).x2, .int .i64 (s.next ch).x3], .int .i64 (s.next ch).h] W (CwPost W F Lb a' b' c' (cnt' + cwA (s.next ch) a' b' c'))) :
    Calls Try.prog 46 #[.pointer (some ⟨F, 0, none⟩), .agg #[.int .i64 s.x0, .int .i64 s.x1, .int .i64 s.x2, .int .i64 s.x3], .int .i64 s.h] w (CwPost w F Lb a b c (cnt + cwA s a b c)) := by
  have hsq : s.okB 999999 := hs.mono (by omega)
  obtain ⟨⟨b0, b0'⟩, ⟨b1, b1'⟩, ⟨b2, b2'⟩, ⟨b3, b3'⟩, b4, b5⟩ := hsq
  have NB := nm_bd s.x0 s.x1 s.x2 s.x3 b0 b0' b1 b1' b2 b2' b3 b3'
  obtain ⟨N, hN⟩ : ∃ N : Int, ((m + 1 : Nat) : Int) = N := ⟨_, rfl⟩
  have hsum : (a : Int) + (b : Int) + (c : Int) = N := by omega
  have N1 : 1 ≤ N := by omega
  have N12 : N ≤ 12 := by omega
  have Q0 : 0 ≤ N * N := Int.mul_nonneg (by omega) (by omega)
  have Q1 : N * N ≤ 144 := by have := Int.mul_le_mul N12 N12 (by omega) (by omega : (0 : Int) ≤ 12); omega
  have hfar := cls_far s (hs.mono (by omega)) (m + 1)
  have hfar2 := fun (h : clsL s (m + 1) = []) => cwA_far (p := s) (a := a) (b := b) (c := c) (by rw [hn]; exact h)
  have NZ : ¬ N = 0 := by omega
  rw [hN] at hfar
  have P1 := Lib.hid (spNorm_any s.x0 s.x1 s.x2 s.x3)
  obtain ⟨u, hu⟩ : ∃ u, nm0 s.x0 s.x1 s.x2 s.x3 = u := ⟨_, rfl⟩
  obtain ⟨v, hv⟩ : ∃ v, nm1 s.x0 s.x1 s.x2 s.x3 = v := ⟨_, rfl⟩
  rw [hu, hv] at NB hfar P1
  have P2 := Lib.hid (fun w => ptCompare_any u v (N * N) 0 (by omega) (by omega) (by omega) (by omega) (by omega) (by omega) (by omega) (by omega) w)
  rw [Int.sub_zero] at P2
  obtain ⟨sg, hsg⟩ : ∃ sg, sgn2 (u - N * N) v = sg := ⟨_, rfl⟩
  rw [hsg] at hfar P2
  have IH := Lib.hid ih
  have q0 := cwS_le (s := s) hn
  have q1 := cwL_le (s := s) hn
  have q2 := cwR_le (s := s) hn
  have HTOT := Lib.hid (cwA_parts s (show 0 < a + b + c by omega))
  obtain ⟨p0, hp0⟩ : ∃ p0, cwS s a b c = p0 := ⟨_, rfl⟩
  obtain ⟨p1, hp1⟩ : ∃ p1, cwL s a b c = p1 := ⟨_, rfl⟩
  obtain ⟨p2, hp2⟩ : ∃ p2, cwR s a b c = p2 := ⟨_, rfl⟩
  have HQ0 := Lib.hid hp0
  have HQ1' := Lib.hid hp1
  have HQ2 := Lib.hid hp2
  have HQ1 := HQ1'
  rw [hp0] at q0
  rw [hp1] at q1
  rw [hp2] at q2
  have HCNT := Lib.hid (show cnt + p0 + p1 + 3 ^ m ≤ 10000000 ∧ p0 ≤ 3 ^ m ∧ p1 ≤ 3 ^ m by rw [Nat.pow_succ] at hc; omega)
  have hB0 := Below.alloc (Below.refl w.heap.size w) (Nat.le_refl _) (.cells #[.int .i64 s.x0, .int .i64 s.x1, .int .i64 s.x2, .int .i64 s.x3] 44)
  have hA1 := hA.below hB0
  obtain ⟨c0, c1, cf⟩ := hA1.cells
  obtain ⟨d0, d1, d2, df⟩ := hA1.left
  have hfl := hA.ltF
  have hll := hA.ltL
  have HA1 := Lib.hid hA1
  have HB0 := Lib.hid hB0
  have HX0 := Lib.hid (heap_alloc_new w (.cells #[.int .i64 s.x0, .int .i64 s.x1, .int .i64 s.x2, .int .i64 s.x3] 44))
  clear hu hv ih hsg hN hA hA1 hB0 hp0 hp1 hp2 HQ1' hs
  by_cases hsp : 0 < sg
  · have HF := Lib.hid (hfar2 (hfar hsp))
    go_enter Try.func46, Try.ntmps46
    go_wp2_with fail
    go_quiet (fail)
    go_wp2_with fail
    refine (P1.out _).mono ?_
    rintro e wA ⟨rfl, hA1⟩
    go_wp2_with fail
    refine (P2.out _).mono ?_
    rintro e wC ⟨rfl, hC1⟩
    have HC := Lib.hid (((HA1.out.drewN _).below hA1).below hC1)
    have HFR := Lib.hid ((((CwFr.of_grown (Lb := Lb) (F := F) (below_grown HB0.out) (.inl rfl)).trans (CwFr.of_grown (below_grown (below_drawn _ _)) (.inl rfl))).trans (CwFr.of_grown (below_grown hA1) (.inl rfl))).trans (CwFr.of_grown (below_grown hC1) (.inl rfl)))
    clear hA1 hC1
    go_wp2_with fail
    go_returns
    exact ⟨rfl, by rw [HF.out]; exact HC.out, HFR.out⟩
  · go_enter Try.func46, Try.ntmps46
    go_wp2_with fail
    go_quiet (fail)
    go_wp2_with fail
    refine (P1.out _).mono ?_
    rintro e wA ⟨rfl, hA1⟩
    have HXA := Lib.hid ((hA1.block w.heap.size (by simp)).trans HX0.out)
    go_wp2_with fail
    refine (P2.out _).mono ?_
    rintro e wC ⟨rfl, hC1⟩
    have hzA := hA1.size
    have hzC := hC1.size
    simp at hzA
    have HXC := Lib.hid ((hC1.block w.heap.size (by omega)).trans HXA.out)
    have HC := Lib.hid (((HA1.out.drewN _).below hA1).below hC1)
    have HFR := Lib.hid ((((CwFr.of_grown (Lb := Lb) (F := F) (below_grown HB0.out) (.inl rfl)).trans (CwFr.of_grown (below_grown (below_drawn _ _)) (.inl rfl))).trans (CwFr.of_grown (below_grown hA1) (.inl rfl))).trans (CwFr.of_grown (below_grown hC1) (.inl rfl)))
    have hcv := Lib.run_convert_bytes_const wC 77 5 #[.int .u8 83, .int .u8 76, .int .u8 82] 3 3 Try.underlying77 Try.underlying5
    clear hA1 hC1 c0 c1 cf d0 d1 d2 df
    go_wp2_with fail
    obtain ⟨P, hP⟩ : ∃ P, w.heap.size = P := ⟨_, rfl⟩
    obtain ⟨BL, hBL⟩ : ∃ BL, wC.heap.size = BL := ⟨_, rfl⟩
    have HYC := Lib.hid (heap_alloc_new wC (.cells #[.int .u8 83, .int .u8 76, .int .u8 82] 5 (3, 4)))
    have HXY := Lib.hid ((Below.heap_alloc wC (.cells #[.int .u8 83, .int .u8 76, .int .u8 82] 5 (3, 4)) w.heap.size (by omega)).trans HXC.out)
    have HAY := Lib.hid (HC.out.below (Below.alloc (Below.refl _ _) (Nat.le_refl _) (.cells #[.int .u8 83, .int .u8 76, .int .u8 82] 5 (3, 4))))
    have HFY := Lib.hid (HFR.out.trans (CwFr.of_grown (World.grownBy_alloc wC (.cells #[.int .u8 83, .int .u8 76, .int .u8 82] 5 (3, 4)) none) (.inl rfl)))
    have HPL := Lib.hid (show P ≠ Lb by omega)
    have HPF := Lib.hid (show P ≠ F by omega)
    have HBLL := Lib.hid (show BL ≠ Lb by have := HC.out.ltL; omega)
    have HBLF := Lib.hid (show BL ≠ F by have := HC.out.ltF; omega)
    rw [hBL] at HYC
    rw [hP] at HXY
    rw [hP, hBL]
    clear hP hBL hcv
    go_loopw [58] (fun i wr => ∃ k : Nat, k ≤ 3 ∧ i = .int .i64 k ∧ CwAt wr F Lb a b c (cnt + stP k p0 p1 p2) ∧ wr.heap[P]? = some (.cells #[.int .i64 s.x0, .int .i64 s.x1, .int .i64 s.x2, .int .i64 s.x3] 44 (0, 0)) ∧ wr.heap[BL]? = some (.cells #[.int .u8 83, .int .u8 76, .int .u8 82] 5 (3, 4)) ∧ CwFr w wr F Lb) (fun i _ => 4 - (intOf i).toNat)
    case atStart => exact ⟨0, by omega, rfl, by simpa [stP] using HAY.out, HXY.out, HYC.out, HFY.out⟩
    case round =>
      obtain ⟨k, hk3, rfl, hA, hX, hY, hfr⟩ := hrel
      by_cases hlt : k < 3
      · have hk : k = 0 ∨ k = 1 ∨ k = 2 := by omega
        rcases hk with rfl | rfl | rfl
        · obtain ⟨c0, c1, cf⟩ := hA.cells
          obtain ⟨d0, d1, d2, df⟩ := hA.left
          have cY := (blkB hY).1
          by_cases hv : a = 0
          · have ha0 : ((a : Nat) : Int) = 0 := by omega
            have HP := Lib.hid (show p0 = 0 by rw [← HQ0.out]; simp [cwS, hv])
            have HA := Lib.hid hA
            have HX := Lib.hid hX
            have HY := Lib.hid hY
            have HF := Lib.hid hfr
            clear hA hX hY hfr
            go_wp2_with fail
            go_roundw
            case rel => exact ⟨0 + 1, by omega, by go_num, by rw [show stP (0 + 1) p0 p1 p2 = stP 0 p0 p1 p2 by simp [stP, HP.out]]; exact HA.out, HX.out, HY.out, HF.out⟩
            case measure => simp [intOf]
          · have ha0 : ¬ ((a : Nat) : Int) = 0 := by omega
            have HIH := Lib.hid (IH.out 83 (by decide) (a - 1) b c (by omega))
            have HQS := Lib.hid (show cwA (s.next 83) (a - 1) b c = p0 by rw [← HQ0.out, cwS, if_pos (by omega)])
            have P3 := Lib.hid (ptStep_any 83 (by decide) s.h b4 b5)
            rw [show (((83 : UInt8).toNat : Nat) : Int) = 83 from rfl] at P3
            have e0 := dd_bd0 83 s.h
            have e1 := dd_bd1 83 s.h
            have e2 := dd_bd2 83 s.h
            have e3 := dd_bd3 83 s.h
            have P4 := Lib.hid (spAddP s.x0 s.x1 s.x2 s.x3 (dd0 83 s.h) (dd1 83 s.h) (dd2 83 s.h) (dd3 83 s.h) (by omega) (by omega) (by omega) (by omega) (by omega) (by omega) (by omega) (by omega) (by omega) (by omega) (by omega) (by omega) (by omega) (by omega) (by omega) (by omega))
            have HIH2 := Lib.hid (show ∀ (cnt' : Nat), cnt' + 3 ^ m ≤ 10000000 → ∀ W, CwAt W F Lb (a - 1) b c cnt' → Calls Try.prog 46 #[.pointer (some ⟨F, 0, none⟩), .agg #[.int .i64 (s.x0 + dd0 83 s.h), .int .i64 (s.x1 + dd1 83 s.h), .int .i64 (s.x2 + dd2 83 s.h), .int .i64 (s.x3 + dd3 83 s.h)], .int .i64 (nh 83 s.h)] W (CwPost W F Lb (a - 1) b c (cnt' + p0)) by rw [← HQS.out]; exact HIH.out)
            generalize dd0 83 s.h = y0 at *
            generalize dd1 83 s.h = y1 at *
            generalize dd2 83 s.h = y2 at *
            generalize dd3 83 s.h = y3 at *
            generalize nh 83 s.h = y4 at *
            have hFl := hA.ltF
            have hLl := hA.ltL
            have hFL := hA.ne
            have hXl := blkLt hX
            have hYl := blkLt hY
            have HA := Lib.hid hA
            have HX := Lib.hid hX
            have HY := Lib.hid hY
            have HF := Lib.hid hfr
            obtain ⟨wi, rfl⟩ : ∃ wi : World, wi = wr := ⟨_, rfl⟩
            clear hA hX hY hfr
            go_wp2_with fail
            refine (P3.out _).mono ?_
            rintro e wp ⟨rfl, hp1⟩
            have hpz := hp1.size
            have hBx := hp1.alloc hpz (.cells #[.int .i64 y0, .int .i64 y1, .int .i64 y2, .int .i64 y3] 44)
            have hA2 := HA.out.below hBx
            obtain ⟨c0, c1, cf⟩ := hA2.cells
            obtain ⟨d0, d1, d2, df⟩ := hA2.left
            have df0 := df 0
            have xp0 := (setCell_grown (wp.alloc (.cells #[.int .i64 y0, .int .i64 y1, .int .i64 y2, .int .i64 y3] 44)) Lb 0 (.int .i64 (((a : Nat) : Int) - 1)))
            have HAs := Lib.hid (hA2.set0 (show 0 < a by omega))
            have HBX := Lib.hid hBx
            have HXP := Lib.hid ((xp0.block P (Nat.lt_of_lt_of_le hXl hBx.size) (by simpa using HPL.out)).trans ((hBx.block P hXl).trans HX.out))
            have HYP := Lib.hid ((xp0.block BL (Nat.lt_of_lt_of_le hYl hBx.size) (by simpa using HBLL.out)).trans ((hBx.block BL hYl).trans HY.out))
            have HSP := Lib.hid ((xp0.block wp.heap.size (by simp) (by simp; omega)).trans (heap_alloc_new wp (.cells #[.int .i64 y0, .int .i64 y1, .int .i64 y2, .int .i64 y3] 44)))
            obtain ⟨x0, x1, x2, x3⟩ := blk4 HXP.out
            obtain ⟨z0, z1, z2, z3⟩ := blk4 HSP.out
            have HXQ := Lib.hid xp0
            have hsz : ((wp.alloc (.cells #[.int .i64 y0, .int .i64 y1, .int .i64 y2, .int .i64 y3] 44)).setCell ⟨Lb, 0, none⟩ (.int .i64 (((a : Nat) : Int) - 1))).heap.size = wp.heap.size + 1 := by simp
            clear hp1 hA2 hBx xp0
            go_wp2_with fail
            refine (P4.out _).mono ?_
            rintro e wq ⟨rfl, hq1⟩
            have hqz := hq1.size
            rw [hsz] at hqz
            have HA3 := Lib.hid (HAs.out.below hq1)
            have HQ1 := Lib.hid hq1
            have HXW := Lib.hid ((hq1.block P (by rw [hsz]; omega)).trans HXP.out)
            have HYW := Lib.hid ((hq1.block BL (by rw [hsz]; omega)).trans HYP.out)
            clear hq1 c0 c1 cf d0 d1 d2 df df0 x0 x1 x2 x3 z0 z1 z2 z3
            go_wp2_with fail
            refine (HIH2.out _ (by have := HCNT.out; simp [stP]; omega) _ HA3.out).mono ?_
            rintro e wt ⟨rfl, hA4, hf4⟩
            obtain ⟨c0, c1, cf⟩ := hA4.cells
            obtain ⟨d0, d1, d2, df⟩ := hA4.left
            have df0 := df 0
            have HA5 := Lib.hid (hA4.inc0 (show 0 < a by omega))
            have HX5 := Lib.hid (((setCell_grown wt Lb 0 (.int .i64 ((a : Nat) : Int))).block P (by have := hf4.size; omega) (by simpa using HPL.out)).trans ((hf4.block P (by omega) HPF.out HPL.out).trans HXW.out))
            have HY5 := Lib.hid (((setCell_grown wt Lb 0 (.int .i64 ((a : Nat) : Int))).block BL (by have := hf4.size; omega) (by simpa using HBLL.out)).trans ((hf4.block BL (by omega) HBLF.out HBLL.out).trans HYW.out))
            have HF5 := Lib.hid ((((HF.out.trans (CwFr.of_grown (below_grown HBX.out) (.inl rfl))).trans (CwFr.of_grown HXQ.out (.inr (.inr rfl)))).trans (CwFr.of_grown (below_grown HQ1.out) (.inl rfl))).trans hf4 |>.trans (CwFr.of_grown (setCell_grown wt Lb 0 (.int .i64 ((a : Nat) : Int))) (.inr (.inr rfl))))
            have hcast : (((a - 1 : Nat) : Int)) + 1 = ((a : Nat) : Int) := by omega
            clear hA4 hf4
            go_wp2_with fail
            go_roundw
            case rel => exact ⟨0 + 1, by omega, by go_num, by rw [show cnt + stP (0 + 1) p0 p1 p2 = cnt + stP 0 p0 p1 p2 + p0 by simp [stP]; try omega]; exact HA5.out, HX5.out, HY5.out, HF5.out⟩
            case measure => simp [intOf]
        · obtain ⟨c0, c1, cf⟩ := hA.cells
          obtain ⟨d0, d1, d2, df⟩ := hA.left
          have cY := (blkB hY).2.1
          by_cases hv : b = 0
          · have hb0 : ((b : Nat) : Int) = 0 := by omega
            have HP := Lib.hid (show p1 = 0 by rw [← HQ1.out]; simp [cwL, hv])
            have HA := Lib.hid hA
            have HX := Lib.hid hX
            have HY := Lib.hid hY
            have HF := Lib.hid hfr
            clear hA hX hY hfr
            go_wp2_with fail
            go_roundw
            case rel => exact ⟨1 + 1, by omega, by go_num, by rw [show stP (1 + 1) p0 p1 p2 = stP 1 p0 p1 p2 by simp [stP, HP.out]]; exact HA.out, HX.out, HY.out, HF.out⟩
            case measure => simp [intOf]
          · have hb0 : ¬ ((b : Nat) : Int) = 0 := by omega
            have HIH := Lib.hid (IH.out 76 (by decide) a (b - 1) c (by omega))
            have HQS := Lib.hid (show cwA (s.next 76) a (b - 1) c = p1 by rw [← HQ1.out, cwL, if_pos (by omega)])
            have P3 := Lib.hid (ptStep_any 76 (by decide) s.h b4 b5)
            rw [show (((76 : UInt8).toNat : Nat) : Int) = 76 from rfl] at P3
            have e0 := dd_bd0 76 s.h
            have e1 := dd_bd1 76 s.h
            have e2 := dd_bd2 76 s.h
            have e3 := dd_bd3 76 s.h
            have P4 := Lib.hid (spAddP s.x0 s.x1 s.x2 s.x3 (dd0 76 s.h) (dd1 76 s.h) (dd2 76 s.h) (dd3 76 s.h) (by omega) (by omega) (by omega) (by omega) (by omega) (by omega) (by omega) (by omega) (by omega) (by omega) (by omega) (by omega) (by omega) (by omega) (by omega) (by omega))
            have HIH2 := Lib.hid (show ∀ (cnt' : Nat), cnt' + 3 ^ m ≤ 10000000 → ∀ W, CwAt W F Lb a (b - 1) c cnt' → Calls Try.prog 46 #[.pointer (some ⟨F, 0, none⟩), .agg #[.int .i64 (s.x0 + dd0 76 s.h), .int .i64 (s.x1 + dd1 76 s.h), .int .i64 (s.x2 + dd2 76 s.h), .int .i64 (s.x3 + dd3 76 s.h)], .int .i64 (nh 76 s.h)] W (CwPost W F Lb a (b - 1) c (cnt' + p1)) by rw [← HQS.out]; exact HIH.out)
            generalize dd0 76 s.h = y0 at *
            generalize dd1 76 s.h = y1 at *
            generalize dd2 76 s.h = y2 at *
            generalize dd3 76 s.h = y3 at *
            generalize nh 76 s.h = y4 at *
            have hFl := hA.ltF
            have hLl := hA.ltL
            have hFL := hA.ne
            have hXl := blkLt hX
            have hYl := blkLt hY
            have HA := Lib.hid hA
            have HX := Lib.hid hX
            have HY := Lib.hid hY
            have HF := Lib.hid hfr
            obtain ⟨wi, rfl⟩ : ∃ wi : World, wi = wr := ⟨_, rfl⟩
            clear hA hX hY hfr
            go_wp2_with fail
            refine (P3.out _).mono ?_
            rintro e wp ⟨rfl, hp1⟩
            have hpz := hp1.size
            have hBx := hp1.alloc hpz (.cells #[.int .i64 y0, .int .i64 y1, .int .i64 y2, .int .i64 y3] 44)
            have hA2 := HA.out.below hBx
            obtain ⟨c0, c1, cf⟩ := hA2.cells
            obtain ⟨d0, d1, d2, df⟩ := hA2.left
            have df1 := df 1
            have xp0 := (setCell_grown (wp.alloc (.cells #[.int .i64 y0, .int .i64 y1, .int .i64 y2, .int .i64 y3] 44)) Lb 1 (.int .i64 (((b : Nat) : Int) - 1)))
            have HAs := Lib.hid (hA2.set1 (show 0 < b by omega))
            have HBX := Lib.hid hBx
            have HXP := Lib.hid ((xp0.block P (Nat.lt_of_lt_of_le hXl hBx.size) (by simpa using HPL.out)).trans ((hBx.block P hXl).trans HX.out))
            have HYP := Lib.hid ((xp0.block BL (Nat.lt_of_lt_of_le hYl hBx.size) (by simpa using HBLL.out)).trans ((hBx.block BL hYl).trans HY.out))
            have HSP := Lib.hid ((xp0.block wp.heap.size (by simp) (by simp; omega)).trans (heap_alloc_new wp (.cells #[.int .i64 y0, .int .i64 y1, .int .i64 y2, .int .i64 y3] 44)))
            obtain ⟨x0, x1, x2, x3⟩ := blk4 HXP.out
            obtain ⟨z0, z1, z2, z3⟩ := blk4 HSP.out
            have HXQ := Lib.hid xp0
            have hsz : ((wp.alloc (.cells #[.int .i64 y0, .int .i64 y1, .int .i64 y2, .int .i64 y3] 44)).setCell ⟨Lb, 1, none⟩ (.int .i64 (((b : Nat) : Int) - 1))).heap.size = wp.heap.size + 1 := by simp
            clear hp1 hA2 hBx xp0
            go_wp2_with fail
            refine (P4.out _).mono ?_
            rintro e wq ⟨rfl, hq1⟩
            have hqz := hq1.size
            rw [hsz] at hqz
            have HA3 := Lib.hid (HAs.out.below hq1)
            have HQ1 := Lib.hid hq1
            have HXW := Lib.hid ((hq1.block P (by rw [hsz]; omega)).trans HXP.out)
            have HYW := Lib.hid ((hq1.block BL (by rw [hsz]; omega)).trans HYP.out)
            clear hq1 c0 c1 cf d0 d1 d2 df df1 x0 x1 x2 x3 z0 z1 z2 z3
            go_wp2_with fail
            refine (HIH2.out _ (by have := HCNT.out; simp [stP]; omega) _ HA3.out).mono ?_
            rintro e wt ⟨rfl, hA4, hf4⟩
            obtain ⟨c0, c1, cf⟩ := hA4.cells
            obtain ⟨d0, d1, d2, df⟩ := hA4.left
            have df1 := df 1
            have HA5 := Lib.hid (hA4.inc1 (show 0 < b by omega))
            have HX5 := Lib.hid (((setCell_grown wt Lb 1 (.int .i64 ((b : Nat) : Int))).block P (by have := hf4.size; omega) (by simpa using HPL.out)).trans ((hf4.block P (by omega) HPF.out HPL.out).trans HXW.out))
            have HY5 := Lib.hid (((setCell_grown wt Lb 1 (.int .i64 ((b : Nat) : Int))).block BL (by have := hf4.size; omega) (by simpa using HBLL.out)).trans ((hf4.block BL (by omega) HBLF.out HBLL.out).trans HYW.out))
            have HF5 := Lib.hid ((((HF.out.trans (CwFr.of_grown (below_grown HBX.out) (.inl rfl))).trans (CwFr.of_grown HXQ.out (.inr (.inr rfl)))).trans (CwFr.of_grown (below_grown HQ1.out) (.inl rfl))).trans hf4 |>.trans (CwFr.of_grown (setCell_grown wt Lb 1 (.int .i64 ((b : Nat) : Int))) (.inr (.inr rfl))))
            have hcast : (((b - 1 : Nat) : Int)) + 1 = ((b : Nat) : Int) := by omega
            clear hA4 hf4
            go_wp2_with fail
            go_roundw
            case rel => exact ⟨1 + 1, by omega, by go_num, by rw [show cnt + stP (1 + 1) p0 p1 p2 = cnt + stP 1 p0 p1 p2 + p1 by simp [stP]; try omega]; exact HA5.out, HX5.out, HY5.out, HF5.out⟩
            case measure => simp [intOf]
        · obtain ⟨c0, c1, cf⟩ := hA.cells
          obtain ⟨d0, d1, d2, df⟩ := hA.left
          have cY := (blkB hY).2.2
          by_cases hv : c = 0
          · have hc0 : ((c : Nat) : Int) = 0 := by omega
            have HP := Lib.hid (show p2 = 0 by rw [← HQ2.out]; simp [cwR, hv])
            have HA := Lib.hid hA
            have HX := Lib.hid hX
            have HY := Lib.hid hY
            have HF := Lib.hid hfr
            clear hA hX hY hfr
            go_wp2_with fail
            go_roundw
            case rel => exact ⟨2 + 1, by omega, by go_num, by rw [show stP (2 + 1) p0 p1 p2 = stP 2 p0 p1 p2 by simp [stP, HP.out]]; exact HA.out, HX.out, HY.out, HF.out⟩
            case measure => simp [intOf]
          · have hc0 : ¬ ((c : Nat) : Int) = 0 := by omega
            have HIH := Lib.hid (IH.out 82 (by decide) a b (c - 1) (by omega))
            have HQS := Lib.hid (show cwA (s.next 82) a b (c - 1) = p2 by rw [← HQ2.out, cwR, if_pos (by omega)])
            have P3 := Lib.hid (ptStep_any 82 (by decide) s.h b4 b5)
            rw [show (((82 : UInt8).toNat : Nat) : Int) = 82 from rfl] at P3
            have e0 := dd_bd0 82 s.h
            have e1 := dd_bd1 82 s.h
            have e2 := dd_bd2 82 s.h
            have e3 := dd_bd3 82 s.h
            have P4 := Lib.hid (spAddP s.x0 s.x1 s.x2 s.x3 (dd0 82 s.h) (dd1 82 s.h) (dd2 82 s.h) (dd3 82 s.h) (by omega) (by omega) (by omega) (by omega) (by omega) (by omega) (by omega) (by omega) (by omega) (by omega) (by omega) (by omega) (by omega) (by omega) (by omega) (by omega))
            have HIH2 := Lib.hid (show ∀ (cnt' : Nat), cnt' + 3 ^ m ≤ 10000000 → ∀ W, CwAt W F Lb a b (c - 1) cnt' → Calls Try.prog 46 #[.pointer (some ⟨F, 0, none⟩), .agg #[.int .i64 (s.x0 + dd0 82 s.h), .int .i64 (s.x1 + dd1 82 s.h), .int .i64 (s.x2 + dd2 82 s.h), .int .i64 (s.x3 + dd3 82 s.h)], .int .i64 (nh 82 s.h)] W (CwPost W F Lb a b (c - 1) (cnt' + p2)) by rw [← HQS.out]; exact HIH.out)
            generalize dd0 82 s.h = y0 at *
            generalize dd1 82 s.h = y1 at *
            generalize dd2 82 s.h = y2 at *
            generalize dd3 82 s.h = y3 at *
            generalize nh 82 s.h = y4 at *
            have hFl := hA.ltF
            have hLl := hA.ltL
            have hFL := hA.ne
            have hXl := blkLt hX
            have hYl := blkLt hY
            have HA := Lib.hid hA
            have HX := Lib.hid hX
            have HY := Lib.hid hY
            have HF := Lib.hid hfr
            obtain ⟨wi, rfl⟩ : ∃ wi : World, wi = wr := ⟨_, rfl⟩
            clear hA hX hY hfr
            go_wp2_with fail
            refine (P3.out _).mono ?_
            rintro e wp ⟨rfl, hp1⟩
            have hpz := hp1.size
            have hBx := hp1.alloc hpz (.cells #[.int .i64 y0, .int .i64 y1, .int .i64 y2, .int .i64 y3] 44)
            have hA2 := HA.out.below hBx
            obtain ⟨c0, c1, cf⟩ := hA2.cells
            obtain ⟨d0, d1, d2, df⟩ := hA2.left
            have df2 := df 2
            have xp0 := (setCell_grown (wp.alloc (.cells #[.int .i64 y0, .int .i64 y1, .int .i64 y2, .int .i64 y3] 44)) Lb 2 (.int .i64 (((c : Nat) : Int) - 1)))
            have HAs := Lib.hid (hA2.set2 (show 0 < c by omega))
            have HBX := Lib.hid hBx
            have HXP := Lib.hid ((xp0.block P (Nat.lt_of_lt_of_le hXl hBx.size) (by simpa using HPL.out)).trans ((hBx.block P hXl).trans HX.out))
            have HYP := Lib.hid ((xp0.block BL (Nat.lt_of_lt_of_le hYl hBx.size) (by simpa using HBLL.out)).trans ((hBx.block BL hYl).trans HY.out))
            have HSP := Lib.hid ((xp0.block wp.heap.size (by simp) (by simp; omega)).trans (heap_alloc_new wp (.cells #[.int .i64 y0, .int .i64 y1, .int .i64 y2, .int .i64 y3] 44)))
            obtain ⟨x0, x1, x2, x3⟩ := blk4 HXP.out
            obtain ⟨z0, z1, z2, z3⟩ := blk4 HSP.out
            have HXQ := Lib.hid xp0
            have hsz : ((wp.alloc (.cells #[.int .i64 y0, .int .i64 y1, .int .i64 y2, .int .i64 y3] 44)).setCell ⟨Lb, 2, none⟩ (.int .i64 (((c : Nat) : Int) - 1))).heap.size = wp.heap.size + 1 := by simp
            clear hp1 hA2 hBx xp0
            go_wp2_with fail
            refine (P4.out _).mono ?_
            rintro e wq ⟨rfl, hq1⟩
            have hqz := hq1.size
            rw [hsz] at hqz
            have HA3 := Lib.hid (HAs.out.below hq1)
            have HQ1 := Lib.hid hq1
            have HXW := Lib.hid ((hq1.block P (by rw [hsz]; omega)).trans HXP.out)
            have HYW := Lib.hid ((hq1.block BL (by rw [hsz]; omega)).trans HYP.out)
            clear hq1 c0 c1 cf d0 d1 d2 df df2 x0 x1 x2 x3 z0 z1 z2 z3
            go_wp2_with fail
            refine (HIH2.out _ (by have := HCNT.out; simp [stP]; omega) _ HA3.out).mono ?_
            rintro e wt ⟨rfl, hA4, hf4⟩
            obtain ⟨c0, c1, cf⟩ := hA4.cells
            obtain ⟨d0, d1, d2, df⟩ := hA4.left
            have df2 := df 2
            have HA5 := Lib.hid (hA4.inc2 (show 0 < c by omega))
            have HX5 := Lib.hid (((setCell_grown wt Lb 2 (.int .i64 ((c : Nat) : Int))).block P (by have := hf4.size; omega) (by simpa using HPL.out)).trans ((hf4.block P (by omega) HPF.out HPL.out).trans HXW.out))
            have HY5 := Lib.hid (((setCell_grown wt Lb 2 (.int .i64 ((c : Nat) : Int))).block BL (by have := hf4.size; omega) (by simpa using HBLL.out)).trans ((hf4.block BL (by omega) HBLF.out HBLL.out).trans HYW.out))
            have HF5 := Lib.hid ((((HF.out.trans (CwFr.of_grown (below_grown HBX.out) (.inl rfl))).trans (CwFr.of_grown HXQ.out (.inr (.inr rfl)))).trans (CwFr.of_grown (below_grown HQ1.out) (.inl rfl))).trans hf4 |>.trans (CwFr.of_grown (setCell_grown wt Lb 2 (.int .i64 ((c : Nat) : Int))) (.inr (.inr rfl))))
            have hcast : (((c - 1 : Nat) : Int)) + 1 = ((c : Nat) : Int) := by omega
            clear hA4 hf4
            go_wp2_with fail
            go_roundw
            case rel => exact ⟨2 + 1, by omega, by go_num, by rw [show cnt + stP (2 + 1) p0 p1 p2 = cnt + stP 2 p0 p1 p2 + p2 by simp [stP]; try omega]; exact HA5.out, HX5.out, HY5.out, HF5.out⟩
            case measure => simp [intOf]
      · obtain rfl : k = 3 := by omega
        have HA := Lib.hid hA
        have HF := Lib.hid hfr
        have HE := Lib.hid (show cnt + cwA s a b c = cnt + stP 3 p0 p1 p2 by rw [HTOT.out, HQ0.out, HQ1.out, HQ2.out]; simp [stP])
        clear hA hX hY hfr
        go_wp2_with fail
        go_returns
        exact ⟨rfl, by rw [HE.out]; exact HA.out, HF.out⟩

end Go.Proofs.Ytoenkgenoloihab

/- Contracts: closed tracks of told pieces, on both sides. -/
namespace Go.Proofs.Ytoenkgenoloihab
open Go Go.ChangeMaps Go.MapKept Go.ChangeShapes Go.WideShapes Go.ChangeAt Go.RowKit

set_option linter.unusedVariables false

set_option maxRecDepth 100000 in
theorem lookC_any (F Lb : Nat) : ∀ (m : Nat), m ≤ 12 → ∀ (a b c : Nat), a + b + c = m → ∀ (s : Sp), s.okB (999000 - 2 * (m : Int)) → ∀ (cnt : Nat), cnt + 3 ^ m ≤ 10000000 → ∀ (w : World), CwAt w F Lb a b c cnt →
    Calls Try.prog 46 #[.pointer (some ⟨F, 0, none⟩), .agg #[.int .i64 s.x0, .int .i64 s.x1, .int .i64 s.x2, .int .i64 s.x3], .int .i64 s.h] w (CwPost w F Lb a b c (cnt + cwA s a b c)) := by
  intro m
  induction m with
  | zero =>
    intro _ a b c hn s hs cnt hc w hA
    obtain ⟨rfl, rfl, rfl⟩ : a = 0 ∧ b = 0 ∧ c = 0 := by omega
    exact lookC_zero F Lb cnt (by omega) s w hA
  | succ m ih =>
    intro hm a b c hn s hs cnt hc w hA
    exact lookC_step F Lb m (by omega) a b c hn s hs cnt hc w hA fun ch hch a' b' c' hn' cnt' hc' W hA' =>
      ih (by omega) a' b' c' hn' (s.next ch) ((hs.next ch).mono (by omega)) cnt' hc' W hA'

theorem l1All3_any (a0 a1 a2 lo hi : Int) (b : Nat) (w : World) (c0 : w.cell? ⟨b, 0, none⟩ = some (.int .i64 a0)) (c1 : w.cell? ⟨b, 1, none⟩ = some (.int .i64 a1)) (c2 : w.cell? ⟨b, 2, none⟩ = some (.int .i64 a2)) :
    Calls Try.prog 45 #[.slice (some ⟨b, 0, none⟩) 3 3, .int .i64 lo, .int .i64 hi] w fun e w' => e = .returned (.bool (inB a0 lo hi && (inB a1 lo hi && inB a2 lo hi))) ∧ w = w' := by
  go_enter Try.func45, Try.ntmps45
  go_wp2_with fail
  refine wp_loop_rounds 4 ?_
  repeat any_goals (rw [rounds_succ]; go_wp2_with (go_at_call 26; refine (l1In_any _ _ _ _).mono ?_; rintro e w' ⟨rfl, rfl⟩))
  all_goals go_ret
  all_goals exact ⟨by simp_all, rfl⟩

def g3B (a b c : Int) : Bool := inB a 0 12 && (inB b 0 12 && inB c 0 12)

def cwB (a b c : Int) : Bool := g3B a b c && inB (a + b + c) 1 12

def cwI (a b c : Int) : Int := cond (cwB a b c) (cwt (a + b + c).toNat a b c : Nat) 0

theorem cw_no {a b c : Int} (h : cwB a b c = false) : cwI a b c = 0 := by simp [cwI, h]

theorem cw_yes {a b c : Int} (h : cwB a b c = true) : cwI a b c = (cwt (a + b + c).toNat a b c : Nat) := by simp [cwI, h]

theorem g3_num {a b c : Int} (h : g3B a b c = true) : ∃ x y z : Nat, a = x ∧ b = y ∧ c = z ∧ x ≤ 12 ∧ y ≤ 12 ∧ z ≤ 12 := by
  simp only [g3B, inB, Bool.and_eq_true, decide_eq_true_eq] at h
  exact ⟨a.toNat, b.toNat, c.toNat, by omega, by omega, by omega, by omega, by omega, by omega⟩

set_option maxRecDepth 100000 in
set_option maxHeartbeats 3200000 in
theorem spCountClosedWith (a b c : Int) (w : World) : Calls Try.prog 22 #[.int .i64 a, .int .i64 b, .int .i64 c] w fun e w' => e = .returned (.tuple #[.int .i64 (cwI a b c), .bool (cwB a b c)]) ∧ Below w.heap.size w w' := by
  have LA := Lib.hid (l1All3_any a b c 0 12)
  cases hg : g3B a b c
  · have hb : cwB a b c = false := by simp [cwB, hg]
    rw [cw_no hb, hb]
    have hg' : (inB a 0 12 && (inB b 0 12 && inB c 0 12)) = false := hg
    rw [hg'] at LA
    go_enter Try.func22, Try.ntmps22
    go_wp2_with (go_at_call 45; (with_reducible refine (LA.out _ _ (by go_simp) (by go_simp) (by go_simp)).mono ?_); rintro e w' ⟨rfl, rfl⟩)
    go_ret2
    exact ⟨rfl, by go_grown⟩
  · have hg' : (inB a 0 12 && (inB b 0 12 && inB c 0 12)) = true := hg
    rw [hg'] at LA
    obtain ⟨x, y, z, rfl, rfl, rfl, hx, hy, hz⟩ := g3_num hg
    have LI := Lib.hid (l1In_any ((x : Int) + (y : Int) + (z : Int)) 1 12)
    cases hi : inB ((x : Int) + (y : Int) + (z : Int)) 1 12
    · have hb : cwB (x : Int) (y : Int) (z : Int) = false := by simp [cwB, hi]
      rw [cw_no hb, hb]
      rw [hi] at LI
      go_enter Try.func22, Try.ntmps22
      go_wp2_with (first | (go_at_call 26; refine (LI.out _).mono ?_; rintro e w' ⟨rfl, rfl⟩) | (go_at_call 45; (with_reducible refine (LA.out _ _ (by go_simp) (by go_simp) (by go_simp)).mono ?_); rintro e w' ⟨rfl, rfl⟩))
      go_ret2
      exact ⟨rfl, by go_grown⟩
    · have hb : cwB (x : Int) (y : Int) (z : Int) = true := by simp [cwB, hg, hi]
      rw [cw_yes hb, hb, show ((x : Int) + (y : Int) + (z : Int)).toNat = x + y + z by omega]
      rw [hi] at LI
      have hn : x + y + z ≤ 12 := by simp only [inB, decide_eq_true_eq] at hi; omega
      have hodd := @cwt_odd (x + y + z) x y z
      by_cases ht : ((y : Int) - (z : Int)).tmod 8 = 0
      · have hp := Nat.pow_le_pow_right (show 0 < 3 by decide) hn
        have P := Lib.hid (fun F Lb w h => lookC_any F Lb (x + y + z) hn x y z rfl sp0 (sp0_ok.mono (by omega)) 0 (by omega) w h)
        rw [cwA_top, Nat.zero_add] at P
        have hcb := cwt_le (x + y + z) x y z
        have P2 := Lib.hid (show ∀ F Lb w, CwAt w F Lb x y z 0 → Calls Try.prog 46 #[.pointer (some ⟨F, 0, none⟩), .agg #[.int .i64 0, .int .i64 0, .int .i64 0, .int .i64 0], .int .i64 0] w (CwPost w F Lb x y z (cwt (x + y + z) x y z)) from P.out)
        generalize cwt (x + y + z) x y z = C at *
        clear P hodd
        have hsz : (w.alloc (.cells #[.int .i64 (x : Nat), .int .i64 (y : Nat), .int .i64 (z : Nat)] 3)).heap.size = w.heap.size + 1 := by simp
        have h1 := heap_alloc_new (w.alloc (.cells #[.int .i64 (x : Nat), .int .i64 (y : Nat), .int .i64 (z : Nat)] 3)) (.cells #[.slice (some ⟨w.heap.size, 0, none⟩) 3 3, .int .i64 ((0 : Nat) : Int)] 65)
        rw [hsz] at h1
        have HA := Lib.hid (show CwAt ((w.alloc (.cells #[.int .i64 (x : Nat), .int .i64 (y : Nat), .int .i64 (z : Nat)] 3)).alloc (.cells #[.slice (some ⟨w.heap.size, 0, none⟩) 3 3, .int .i64 ((0 : Nat) : Int)] 65)) (w.heap.size + 1) w.heap.size x y z 0 from ⟨h1, (Below.heap_alloc _ _ _ (by simp)).trans (heap_alloc_new _ _), by omega⟩)
        clear h1 hsz
        go_enter Try.func22, Try.ntmps22
        go_wp2_with (first | (go_at_call 26; refine (LI.out _).mono ?_; rintro e w' ⟨rfl, rfl⟩) | (go_at_call 45; (with_reducible refine (LA.out _ _ (by go_simp) (by go_simp) (by go_simp)).mono ?_); rintro e w' ⟨rfl, rfl⟩))
        refine (P2.out _ _ _ HA.out).mono ?_
        rintro e w1 ⟨rfl, hA1, hf1⟩
        obtain ⟨c0, c1, cf⟩ := hA1.cells
        have HB := Lib.hid (show Below w.heap.size w w1 from ((Below.alloc (Below.refl _ _) (Nat.le_refl _) (.cells #[.int .i64 (x : Nat), .int .i64 (y : Nat), .int .i64 (z : Nat)] 3)).alloc (by simp) (.cells #[.slice (some ⟨w.heap.size, 0, none⟩) 3 3, .int .i64 ((0 : Nat) : Int)] 65)).trans ⟨hf1.os, hf1.tape, hf1.output, hf1.size, fun k hk => hf1.block k (by simp; omega) (by omega) (by omega)⟩)
        clear hA1 hf1
        go_wp2_with fail
        go_ret2
        exact ⟨rfl, HB.out⟩
      · rw [hodd ht]
        go_enter Try.func22, Try.ntmps22
        go_wp2_with (first | (go_at_call 26; refine (LI.out _).mono ?_; rintro e w' ⟨rfl, rfl⟩) | (go_at_call 45; (with_reducible refine (LA.out _ _ (by go_simp) (by go_simp) (by go_simp)).mono ?_); rintro e w' ⟨rfl, rfl⟩))
        go_ret2
        exact ⟨rfl, by go_grown⟩

end Go.Proofs.Ytoenkgenoloihab
