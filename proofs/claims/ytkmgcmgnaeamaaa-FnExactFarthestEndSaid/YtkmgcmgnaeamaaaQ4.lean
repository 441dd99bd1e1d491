/- Contracts and facts, put together (part 4). Conditions: each says its own. -/
import Derived.Test.YtkmgcmgnaeamaaaQ3
import Derived.Test.YtkmgcmgnaeamaaaProg
import Derived.StillTail
import Derived.StillTailTactics
import Derived.Deep.QuietTactic
import Derived.Lib.QuietBelow
import Derived.WalkKit
import Derived.ProofKit
import Derived.Laws.AppendOwn
import Derived.ScopeJumps
import Derived.WalkMore

/- Contracts: the program's stepsOf at what is no track, endOf and EndOf. -/
namespace Go.Proofs.Ytkmgcmgnaeamaaa
open Go.ChangeShapes Go.WideShapes Go.ChangeAt Go.RowKit

/-- The end of a track, the step at 0 for what is none. -/
def enS (s : ByteArray) : Sp := cond (tkB s) (fin sp0 s.data.toList) sp0

theorem enS_yes {s : ByteArray} (h : tkB s = true) : enS s = fin sp0 s.data.toList := by simp [enS, h]

theorem enS_no {s : ByteArray} (h : tkB s = false) : enS s = sp0 := by simp [enS, h]

end Go.Proofs.Ytkmgcmgnaeamaaa

/- Contracts: the ends of tracks in the model, and ends compared. -/
namespace Go.Proofs.Ytkmgcmgnaeamaaa
open Go.ChangeShapes Go.WideShapes Go.ChangeAt Go.RowKit

theorem own_pt {W : World} {B n g cap i : Nat} {e : TypeId} {l : List Sp} {s : Sp} (h : W.ownsRow B e 4 (.slice (some ⟨g, 0, none⟩) n cap) n (ptCells l)) (hn : l.length = n) (hs : l[i]? = some s) :
    W.cell? ⟨g, i * 4, none⟩ = some (.int .i64 s.x0) ∧ W.cell? ⟨g, i * 4 + 1, none⟩ = some (.int .i64 s.x1) ∧ W.cell? ⟨g, i * 4 + 2, none⟩ = some (.int .i64 s.x2) ∧ W.cell? ⟨g, i * 4 + 3, none⟩ = some (.int .i64 s.x3) := by
  have hi : i < n := by rw [← hn]; exact (List.getElem?_eq_some_iff.1 hs).1
  have a := fun j (hj : j < 4) => (h.cellAt (i * 4 + j) (by omega)).trans ((by rw [Nat.mul_comm]) : _ = (ptCells l)[4 * i + j]?) |>.trans (ptCells_at l hs j hj)
  exact ⟨a 0 (by omega), a 1 (by omega), a 2 (by omega), a 3 (by omega)⟩

theorem own_hd {W : World} {B n g cap i : Nat} {e : TypeId} {l : List Sp} {s : Sp} (h : W.ownsRow B e 1 (.slice (some ⟨g, 0, none⟩) n cap) n (hdCells l)) (hn : l.length = n) (hs : l[i]? = some s) :
    W.cell? ⟨g, i, none⟩ = some (.int .i64 s.h) := by
  have hi : i < n := by rw [← hn]; exact (List.getElem?_eq_some_iff.1 hs).1
  rw [h.cellAt i (by omega)]
  simp [hdCells, hs]

theorem lays_lenA (a : Sp) (s : ByteArray) : (lays a s.data.toList).length = s.size + 1 := by rw [lays_length, size_list]

theorem lays_atA (a : Sp) (s : ByteArray) : (lays a s.data.toList)[s.size]? = some (fin a s.data.toList) := by
  have h := lays_last a s.data.toList
  rwa [size_list] at h

set_option maxRecDepth 100000 in
set_option maxHeartbeats 800000 in
theorem tkEnd_yes (s : ByteArray) (ht : tkB s = true) (w : World) :
    Calls Try.prog 75 #[.string s] w fun e w' => e = .returned (.tuple #[.agg #[.int .i64 (enS s).x0, .int .i64 (enS s).x1, .int .i64 (enS s).x2, .int .i64 (enS s).x3], .int .i64 (enS s).h]) ∧ Below w.heap.size w w' := by
  have h40 := tkB_size ht
  have hL := lays_atA sp0 s
  have HN := Lib.hid (lays_lenA sp0 s)
  have HE := Lib.hid (enS_yes ht)
  generalize hf : fin sp0 s.data.toList = p at HE hL
  have HL := Lib.hid hL
  clear hf hL
  obtain ⟨x0, x1, x2, x3, h⟩ := p
  have hc := tkLay_any s ht sp0 (sp0_ok.mono (by decide))
  have HC := Lib.hid hc
  clear hc
  go_enter Try.func75, Try.ntmps75
  go_wp2_with fail
  refine (HC.out _).mono ?_
  rintro e w1 ⟨gj, cj, gh, ch, rfl, hJ, hH, hb1⟩
  obtain ⟨c0, c1, c2, c3⟩ := own_pt hJ HN.out HL.out
  have c4 := own_hd hH HN.out HL.out
  have HB := Lib.hid (ba (by go_grown) hb1 : Below w.heap.size w w1)
  obtain ⟨hc1, hf1⟩ := bcell hb1
  have hz := hb1.size
  simp at hz
  have hz0 : w.heap.size < w1.heap.size := by omega
  have g1 := (hJ.lt gj rfl).1
  have g2 := (hH.lt gh rfl).1
  simp at g1 g2
  have n1 : ¬ gj = w.heap.size := by omega
  have n2 : ¬ gh = w.heap.size := by omega
  have n3 : ¬ w.heap.size = gj := by omega
  have n4 : ¬ w.heap.size = gh := by omega
  clear hJ hH hb1
  go_wp2_with fail
  go_region
  all_goals
    go_wp2_with fail
    refine bodyPost_ret (by simp [results, Try.results75, go_sem, *]; try rfl) rfl ?_
    have hB := HB.out
    exact ⟨by rw [HE.out], by go_grown⟩

/-- '==' on two steps. -/
@[go_sem high] theorem eqSt (a0 a1 a2 a3 a4 b0 b1 b2 b3 b4 : Int) (w : World) : (binOp .eql 81 (.agg #[.int .i64 a0, .int .i64 a1, .int .i64 a2, .int .i64 a3, .int .i64 a4]) (.agg #[.int .i64 b0, .int .i64 b1, .int .i64 b2, .int .i64 b3, .int .i64 b4])).run Try.prog w = .ok (.bool ((a0 == b0 && (a1 == b1 && (a2 == b2 && a3 == b3))) && a4 == b4)) w := by
  have hS : Try.prog.underlying 81 = some (.struct (Try.prog.fieldsOf 81)) := by kernel_rfl
  have hp : Try.prog.stoodInHeld 81 = false := by kernel_rfl
  rw [run_eql_struct, show (10000 : Nat) = 9999 + 1 from rfl, run_equalIn_agg w 9999 81 _ _ hS hp]
  simp only [Program.fieldsOf, Try.underlying81]
  go_simp
  by_cases h0 : a0 = b0 <;> by_cases h1 : a1 = b1 <;> by_cases h2 : a2 = b2 <;> by_cases h3 : a3 = b3 <;> by_cases h4 : a4 = b4 <;> simp [h0, h1, h2, h3, h4]

end Go.Proofs.Ytkmgcmgnaeamaaa

/- Contracts: whether two tracks have the same end. -/
namespace Go.Proofs.Ytkmgcmgnaeamaaa
open Go.ChangeShapes Go.WideShapes Go.ChangeAt Go.RowKit

def saG (a b : ByteArray) : Bool := tkB a && tkB b

def saR (a b : ByteArray) : Bool := saG a b && (((enS a).x0 == (enS b).x0 && ((enS a).x1 == (enS b).x1 && ((enS a).x2 == (enS b).x2 && (enS a).x3 == (enS b).x3))) && (enS a).h == (enS b).h)

theorem ret_sa {a b : ByteArray} {r g : Bool} (hg : saG a b = g) (hr : saR a b = r) : Ending.returned (.tuple #[.bool r, .bool g]) = Ending.returned (.tuple #[.bool (saR a b), .bool (saG a b)]) := by rw [hg, hr]

end Go.Proofs.Ytkmgcmgnaeamaaa

/- Contracts: whether a track is closed. -/
namespace Go.Proofs.Ytkmgcmgnaeamaaa
open Go.ChangeShapes Go.WideShapes Go.ChangeAt Go.RowKit

def zP (s : ByteArray) : Bool := (enS s).x0 == 0 && ((enS s).x1 == 0 && ((enS s).x2 == 0 && (enS s).x3 == 0))

def zS (s : ByteArray) : Bool := zP s && (enS s).h == 0

def clB (s : ByteArray) : Bool := tkB s && (decide (0 < s.size) && zS s)

theorem clB_tk {s : ByteArray} (h : clB s = true) : tkB s = true := by
  simp only [clB, Bool.and_eq_true] at h
  exact h.1

theorem clB_no {s : ByteArray} (h : tkB s = false) : clB s = false := by simp [clB, h]

theorem clB_yes {s : ByteArray} (h : tkB s = true) : clB s = (decide (0 < s.size) && zS s) := by simp [clB, h]

end Go.Proofs.Ytkmgcmgnaeamaaa

/- Contracts: whether a text is a ring. -/
namespace Go.Proofs.Ytkmgcmgnaeamaaa
open Go.ChangeShapes Go.WideShapes Go.ChangeAt Go.RowKit

set_option maxRecDepth 100000 in
set_option maxHeartbeats 800000 in
theorem csRing_any (s : ByteArray) (hs : s.size ≤ 1048576) (w : World) :
    Calls Try.prog 66 #[.string s] w fun e w' => e = .returned (.bool (clB s)) ∧ Below w.heap.size w w' := by
  cases ht : tkB s
  · have R := Lib.hid (clB_no ht)
    go_enter Try.func66, Try.ntmps66
    go_wp2_with (go_at_call 53; refine (tkGood_any s hs _).mono ?_; rintro e w' ⟨rfl, rfl⟩)
    go_ret
    exact ⟨by rw [R.out]; rfl, by go_grown⟩
  · have hc := tkEnd_yes s ht
    have hR := clB_yes ht
    unfold zS zP at hR
    generalize enS s = p at hR hc
    obtain ⟨x0, x1, x2, x3, x4⟩ := p
    simp only at hR
    have HC := Lib.hid hc
    clear hc
    by_cases h0 : s.size = 0
    · have R := Lib.hid hR
      have he : s.toList = [] := by rw [ByteArray.toList_eq]; exact List.eq_nil_of_length_eq_zero (by rw [size_list]; exact h0)
      clear hR
      go_enter Try.func66, Try.ntmps66
      go_wp2_with (go_at_call 53; refine (tkGood_any s hs _).mono ?_; rintro e w' ⟨rfl, rfl⟩)
      go_ret
      exact ⟨by rw [R.out]; simp [h0], by go_grown⟩
    · have hp : 0 < s.size := by omega
      have he : ¬ s.toList = [] := fun h => h0 (by rw [ByteArray.toList_eq] at h; rw [← size_list, h]; rfl)
      have hi : s.toList.isEmpty = false := by cases hl : s.toList with
        | nil => exact absurd hl he
        | cons a l => rfl
      cases hq : (x0 == 0 && (x1 == 0 && (x2 == 0 && x3 == 0)))
      all_goals
        rw [hq] at hR
        have R := Lib.hid hR
        clear hR
        go_enter Try.func66, Try.ntmps66
        go_wp2_with (first | (go_at_call 53; refine (tkGood_any s hs _).mono ?_; rintro e w' ⟨rfl, rfl⟩) | (go_at_call 75; (with_reducible refine (HC.out _).mono ?_); rintro e wA ⟨rfl, h1⟩; (try with_reducible replace h1 := undrew h1); have hB : Below w.heap.size w wA := ba (by go_grown) h1; obtain ⟨hcwA, hfwA⟩ := bcell h1; have hqwA := h1.size; (try simp at hqwA); ))
        go_ret
        exact ⟨by rw [R.out]; simp [hp], by go_grown⟩

end Go.Proofs.Ytkmgcmgnaeamaaa

/- A region that draws its order: loads and calls that leave what was there as it was, walked once in the order of the text; behind them operations that wait for all (a store of the result, an alloc), one after another. -/
namespace Go.Proofs.Ytkmgcmgnaeamaaa
open Go.ChangeShapes Go.WideShapes Go.ChangeAt Go.RowKit Go.Sort

section
variable {P : Program} {ops : Array Oper} {md : Region.Mode} {C : World → Prop}

/-- Of the head's operations f are still to come, in whatever order; behind them L. -/
def headQ (P : Program) (md : Region.Mode) (ops : Array Oper) (C : World → Prop) (n : Nat) (L : Array Bool → Act → Prop) : Nat → Array Bool → Act → Prop
  | 0, listed, a => L listed a
  | f + 1, listed, a => Region.ready md ops listed ≠ [] ∧ ∀ i ∈ Region.ready md ops listed, i < n ∧ qOp P ops C i (headQ P md ops C n L f (listed.setIfInBounds i true)) a

theorem any_of_headQ {n g : Nat} {L : Array Bool → Act → Prop} {Q' : Exit → Act → World → Prop} (hL : ∀ listed a w, C w → L listed a → wpAny P md ops Q' g listed a w) (f : Nat) :
    ∀ (listed : Array Bool) (a : Act) (w : World), C w → headQ P md ops C n L f listed a → wpAny P md ops Q' (f + g) listed a w := by
  induction f with
  | zero => intro listed a w hw h; rw [Nat.zero_add]; exact hL _ _ _ hw h
  | succ f ih =>
    intro listed a w hw h
    rw [Nat.add_right_comm]
    exact ⟨fun h0 => absurd h0 h.1, fun i hi => wpOp_of_qOp hw (fun a' w' hw' h' => ih _ a' w' hw' h') (h.2 i hi).2⟩

theorem headQ_first {n i : Nat} {oi : Oper} {v : Value} {L : Array Bool → Act → Prop} (hi : ops[i]? = some oi) (hsel : ∀ (j : Nat) (o : Oper) cs b, ops[j]? = some o → o.op ≠ .select cs b)
    (hs : Region.sinkB md ops n = true) (hc : Region.chainB md ops n = true) (hn : n < ops.size) (hin : i < n)
    (hdone : ∀ listed a, L listed a → ∀ j ∈ Region.ready md ops listed, n ≤ j) (f : Nat) :
    ∀ (listed : Array Bool) (a : Act), HeadInv md ops n listed →
      (∀ j oj, ops[j]? = some oj → j ≠ i → listed.getD j true = false → (∀ e ∈ oj.after, Region.binds md e = true → e.on ≠ i) → oi.apart ops oj = true) →
      i ∈ Region.ready md ops listed → YieldsIn P ops C oi v a →
      headQ P md ops C n L f (listed.setIfInBounds i true) (a.put oi.dst v) → headQ P md ops C n L (f + 1) listed a := by
  induction f with
  | zero =>
    intro listed a inv _ hr hy H
    have hun := (mem_ready.1 hr).1
    refine ⟨List.ne_nil_of_mem hr, fun j hj => ?_⟩
    have hjn : j < n := by
      by_cases h : j < n
      · exact h
      · exact absurd hj (tail_waits hs hc hn inv _ i rfl hin hun j (Nat.le_of_not_lt h))
    by_cases hji : j = i
    · subst hji; exact ⟨hjn, hy.qOp hi H⟩
    · have := hdone _ _ H j (ready_mono hj hji)
      omega
  | succ f ih =>
    intro listed a inv hfree hr hy H
    have hun := (mem_ready.1 hr).1
    refine ⟨List.ne_nil_of_mem hr, fun j hj => ?_⟩
    have hjn : j < n := by
      by_cases h : j < n
      · exact h
      · exact absurd hj (tail_waits hs hc hn inv _ i rfl hin hun j (Nat.le_of_not_lt h))
    by_cases hji : j = i
    · subst hji; exact ⟨hjn, hy.qOp hi H⟩
    · obtain ⟨hjun, oj, hoj, hall⟩ := mem_ready.1 hj
      have hnot : ∀ e ∈ oj.after, Region.binds md e = true → e.on ≠ i := fun e he hb heq => by
        have h1 := hall e he hb
        rw [heq, getD_both hun] at h1
        cases h1
      have h2 := qOp_put hoj (hfree j oj hoj hji hjun hnot) (fun cs b => hsel i oi cs b hi) (fun cs b => hsel j oj cs b hoj) hy (H.2 j (ready_mono hj hji)).2
      refine ⟨hjn, qOp_mono (fun a' h3 => ih (listed.setIfInBounds j true) a' (inv.set hj hjn) (fun k ok hk hki hunk hno => ?_) (ready_mono hr (Ne.symm hji)) h3.1 ?_) h2⟩
      · refine hfree k ok hk hki ?_ hno
        by_cases hjk : j = k
        · subst hjk; exact hjun
        · rw [getD_set_ne true hjk] at hunk; exact hunk
      · rw [Array.setIfInBounds_comm _ _ hji]
        exact h3.2

theorem headQ_lex {n g : Nat} {Lq : Act → Prop} (hsel : Region.noSelect ops = true) (hs : Region.sinkB md ops n = true) (hc : Region.chainB md ops n = true) (hn : n < ops.size) (l : List Oper) :
    ∀ (k : Nat) (listed : Array Bool) (a : Act), (∀ j, j < l.length → l[j]? = ops[k + j]?) → k + l.length = n → HeadInv md ops n listed →
    Region.lexHead md ops g l.length k listed = true → wpQuiet P ops C Lq l a →
    headQ P md ops C n (fun listed' a' => Region.seqB md ops g n listed' = true ∧ Lq a') l.length listed a := by
  induction l with
  | nil =>
    intro k listed a _ hk _ hB h
    have : k = n := by simpa using hk
    subst this
    exact ⟨by simpa [Region.lexHead] using hB, h⟩
  | cons o l ih =>
    intro k listed a hl hk inv hB h
    simp only [List.length_cons] at hk
    have h0 : ops[k]? = some o := by simpa using (hl 0 (by simp)).symm
    simp only [List.length_cons, Region.lexHead, Bool.and_eq_true] at hB
    obtain ⟨⟨hr, hf⟩, hB'⟩ := hB
    have hr' : k ∈ Region.ready md ops listed := by simpa using hr
    have hq : qOp P ops C k (wpQuiet P ops C Lq l) a := by unfold qOp; simp only [h0]; exact h
    obtain ⟨v, hy, hK⟩ := yieldsIn_of_qOp h0 hq
    refine headQ_first h0 (Region.noSelect_spec hsel) hs hc hn (by omega) (fun _ _ hL => seqB_ready hL.1) l.length listed a inv (Region.free_spec h0 hf) hr' hy (ih (k + 1) _ _ (fun j hj => ?_) (by omega) (inv.set hr' (by omega)) hB' hK)
    have := hl (j + 1) (by simp; omega)
    simpa [Nat.add_assoc, Nat.add_comm 1 j] using this

/-- The head once, in the order of the text, every operation quiet in the class; behind it the tail, from every world of the class. -/
theorem region_quiet_tail {id : Nat} {Q : Exit → Act → World → Prop} {a : Act} {w : World} {l : List Oper} (n : Nat) (hm : P.follows .mixedOrders = true) (hB : Region.lexTailB .any l.toArray n = true) (hC : C w.drew)
    (h : wpQuiet P l.toArray C (fun a' => ∀ w', C w' → wpList P l.toArray Q (l.drop n) a' w') (l.take n) a) : (Code.region id l.toArray true).wp P Q a w := by
  simp only [Region.lexTailB, Bool.and_eq_true, decide_eq_true_eq] at hB
  obtain ⟨⟨⟨⟨hsel, hn⟩, hs⟩, hc⟩, hlex⟩ := hB
  have hn' : n < l.length := by simpa using hn
  have htl : (l.take n).length = n := by simp; omega
  have hdl : (l.drop n).length = l.toArray.size - n := by simp
  have H := headQ_lex (C := C) (md := .any) (g := l.toArray.size - n) hsel hs hc hn (l.take n) 0 (Array.replicate l.toArray.size false) a (fun j hj => by
    rw [htl] at hj; simp [hj]) (by simpa using htl)
    ⟨by simp, fun j oj _ hl => (by rw [getD_replicate_false] at hl; cases hl), fun t _ ht => getD_in (by simpa using ht) (getD_replicate_false _ _)⟩ (by rw [htl]; exact hlex) h
  refine wp_region_any hm ?_
  have := any_of_headQ (Q' := Q) (g := l.toArray.size - n) (fun listed a' w' hw' hL => by
    have := wpAny_of_seq (md := .any) (Q' := Q) (l.drop n) n listed a' w' (fun j => by simp [List.getElem?_drop]) (by rw [hdl]; exact hL.1) (hL.2 w' hw')
    rwa [hdl] at this) _ _ _ _ hC H
  rw [htl, show n + (l.toArray.size - n) = l.toArray.size by omega] at this
  exact this
end

/-- The class: what was there is as it was; how often the tape was asked, and what was made behind, is left open. -/
theorem region_below_tail {P : Program} {id : Nat} {Q : Exit → Act → World → Prop} {a : Act} {w : World} {l : List Oper} (n : Nat) (hm : P.follows .mixedOrders = true) (hB : Region.lexTailB .any l.toArray n = true)
    (h : wpQuiet P l.toArray (fun w' => ∃ p : Regrown, w' = grow (redrawn w p.d) p.os) (fun a' => ∀ w', (∃ p : Regrown, w' = grow (redrawn w p.d) p.os) → wpList P l.toArray Q (l.drop n) a' w') (l.take n) a) : (Code.region id l.toArray true).wp P Q a w :=
  region_quiet_tail n hm hB ⟨⟨w.drawn + 1, #[]⟩, by rw [grow_empty]; rfl⟩ h

end Go.Proofs.Ytkmgcmgnaeamaaa

/- The world at hand behind a letter; calls that leave the world alone, in regions that draw. -/
namespace Go.Proofs.Ytkmgcmgnaeamaaa
open Go.ChangeShapes Go.WideShapes Go.ChangeAt Go.RowKit Go.Sort

theorem absWB {F : World → Prop} {P : Program} {c : Code} {Q : Exit → Act → World → Prop} {a : Act} {W : World} (hF : F W) (h : ∀ W, F W → c.wp P Q a W) : c.wp P Q a W := h W hF

theorem absEB {F : World → Prop} {K : Act → World → Prop} {Q : Exit → Act → World → Prop} {a : Act} {W : World} (hF : F W) (h : ∀ W, F W → Exit.then K Q .normal a W) : Exit.then K Q .normal a W := h W hF

theorem same_regrownB {P : Program} {f : FuncId} {args : Array Value} {w : World} {d : Nat} {os : Array Obj} {v : Value}
    (h : Calls P f args (grow (redrawn w d) os) fun e w' => e = .returned v ∧ grow (redrawn w d) os = w') : Calls P f args (grow (redrawn w d) os) fun e w'' => e = .returned v ∧ ∃ p : Regrown, w'' = grow (redrawn w p.d) p.os :=
  h.mono fun _ _ ⟨he, hb⟩ => ⟨he, ⟨d, os⟩, hb.symm⟩

end Go.Proofs.Ytkmgcmgnaeamaaa

/- Contracts: what is laid from a box, what is missing, sums and prices of boxes, in the model and in the program. -/
namespace Go.Proofs.Ytkmgcmgnaeamaaa
open Go.ChangeShapes Go.WideShapes Go.ChangeAt Go.RowKit Go.Sort

set_option linter.unusedVariables false
set_option linter.unusedSimpArgs false

def boxOfX (s : ByteArray) : Int := cond (tkB s) (stN s : Int) 0

def boxOfR (s : ByteArray) : Int := cond (tkB s) (cvN s : Int) 0

theorem spBoxOf (s : ByteArray) (hs : s.size ≤ 1048576) (w : World) : Calls Try.prog 19 #[.string s] w fun e w' => e = .returned (.tuple #[.agg #[.int .i64 (boxOfX s), .int .i64 (boxOfR s)], .bool (tkB s)]) ∧ Below w.heap.size w w' := by
  unfold boxOfX boxOfR
  cases ht : tkB s
  · go_enter Try.func19, Try.ntmps19
    go_wp2_with (go_at_call 53; refine (tkGood_any s hs _).mono ?_; rintro e w' ⟨rfl, rfl⟩)
    refine bodyPost_ret (by simp [results, Try.results19, go_sem, *]; try rfl) rfl ?_
    exact ⟨rfl, by go_grown⟩
  · have P := Lib.hid (spOf_any s ht)
    generalize stN s = a at *
    generalize cvN s = c at *
    go_enter Try.func19, Try.ntmps19
    go_wp2_with (first | (go_at_call 53; refine (tkGood_any s hs _).mono ?_; rintro e w' ⟨rfl, rfl⟩) | (go_at_call 54; refine (P.out _).mono ?_; rintro e w1 ⟨rfl, h1⟩; have hB : Below w.heap.size w w1 := ba (by go_grown) h1; obtain ⟨hc1, hf1⟩ := bcell h1; have hq := h1.size; (try simp at hq); have hz0 : w.heap.size < w1.heap.size := (by omega); have HK1 := Lib.hid h1; clear h1 hq))
    refine bodyPost_ret (by simp [results, Try.results19, go_sem, *]; try rfl) rfl ?_
    exact ⟨rfl, by go_grown⟩

theorem imBoxOf (s : ByteArray) (hs : s.size ≤ 1048576) (w : World) : Calls Try.prog 20 #[.string s] w fun e w' => e = .returned (.tuple #[.agg #[.int .i64 (boxOfX s), .int .i64 (boxOfR s)], .bool (tkB s)]) ∧ Below w.heap.size w w' := by
  unfold boxOfX boxOfR
  cases ht : tkB s
  · go_enter Try.func20, Try.ntmps20
    go_wp2_with (go_at_call 55; refine (imIsTrack_any s hs _).mono ?_; rintro e w' ⟨rfl, rfl⟩)
    refine bodyPost_ret (by simp [results, Try.results20, go_sem, *]; try rfl) rfl ?_
    exact ⟨rfl, by go_grown⟩
  · have P := Lib.hid (needsOf_any s ht)
    generalize stN s = a at *
    generalize cvN s = c at *
    have SB := Lib.hid (supplyBox_any ⟨(a : Int), (c : Int)⟩)
    go_enter Try.func20, Try.ntmps20
    go_wp2_with (go_at_call 55; refine (imIsTrack_any s hs _).mono ?_; rintro e w' ⟨rfl, rfl⟩)
    (go_at_call 56; (with_reducible refine (P.out _).mono ?_); rintro e wA ⟨rfl, h1⟩; (try with_reducible replace h1 := undrew h1); have hB : Below w.heap.size w wA := ba (by go_grown) h1; obtain ⟨hcwA, hfwA⟩ := bcell h1; have hqwA := h1.size; (try simp at hqwA); (try have hz0wA : w.heap.size < wA.heap.size := (by omega)); (try have he0wA : w.heap.size ≤ wA.heap.size := (by omega)))
    go_wp2_with fail
    (go_at_call 57; (with_reducible refine (SB.out _).mono ?_); rintro e wB ⟨rfl, h1⟩; (try with_reducible replace h1 := undrew h1); have hB : Below w.heap.size w wB := ba (by go_grown) h1; obtain ⟨hcwB, hfwB⟩ := bcell h1; have hqwB := h1.size; (try simp at hqwB); (try have hz0wB : w.heap.size < wB.heap.size := (by omega)); (try have he0wB : w.heap.size ≤ wB.heap.size := (by omega)))
    go_wp2_with fail
    refine bodyPost_ret (by simp [results, Try.results20, go_sem, *]; try rfl) rfl ?_
    exact ⟨rfl, by go_grown⟩

/-- A box and a track, both good. -/
def btG (b : Bq) (s : ByteArray) : Bool := bxB 40 b && tkB s

def clR (b : Bq) (s : ByteArray) : Bool := btG b s && (decide ((stN s : Int) ≤ b.x) && decide ((cvN s : Int) ≤ b.r))

def msR (b : Bq) (s : ByteArray) : Bq := cond (btG b s) ⟨max 0 ((stN s : Int) - b.x), max 0 ((cvN s : Int) - b.r)⟩ ⟨0, 0⟩

theorem btG_no1 {b : Bq} (h : bxB 40 b = false) (s : ByteArray) : btG b s = false := by simp [btG, h]

theorem btG_no2 (b : Bq) {s : ByteArray} (h : tkB s = false) : btG b s = false := by simp [btG, h]

theorem btG_yes {b : Bq} {s : ByteArray} (h : bxB 40 b = true) (k : tkB s = true) : btG b s = true := by simp [btG, h, k]

theorem most_le {a b c d : Int} : ((max a c == a) && (max b d == b)) = (decide (c ≤ a) && decide (d ≤ b)) := by
  rw [Bool.eq_iff_iff]; simp; omega

set_option maxRecDepth 100000 in
theorem l1Most_any (a b : Int) (w : World) : Calls Try.prog 60 #[.int .i64 a, .int .i64 b] w fun e w' => e = .returned (.int .i64 (max a b)) ∧ w = w' := by
  by_cases h : b < a
  · rw [show max a b = a by omega]
    go_enter Try.func60, Try.ntmps60
    go_wp2_with fail
    all_goals go_ret
    all_goals exact ⟨by first | rfl | (congr 2; omega), rfl⟩
  · rw [show max a b = b by omega]
    go_enter Try.func60, Try.ntmps60
    go_wp2_with fail
    all_goals go_ret
    all_goals exact ⟨by first | rfl | (congr 2; omega), rfl⟩

set_option maxRecDepth 100000 in
theorem covers_any (a b : Bq) (w : World) : Calls Try.prog 59 #[bv a, bv b] w fun e w' => e = .returned (.bool (decide (b.x ≤ a.x) && decide (b.r ≤ a.r))) ∧ Below w.heap.size w w' := by
  have P := Lib.hid (most_any a b)
  rw [← most_le]
  generalize max a.x b.x = m at *
  generalize max a.r b.r = n at *
  go_enter Try.func59, Try.ntmps59
  go_wp2_with fail
  refine absWB (F := fun W => (W.cell? ⟨w.heap.size, 0, none⟩ = some (.int .i64 (a).x) ∧ W.cell? ⟨w.heap.size, 1, none⟩ = some (.int .i64 (a).r)) ∧ (W.cell? ⟨w.heap.size + 1, 0, none⟩ = some (.int .i64 (b).x) ∧ W.cell? ⟨w.heap.size + 1, 1, none⟩ = some (.int .i64 (b).r)) ∧ Below w.heap.size w W ∧ W.heap.size = w.heap.size + 1 + 1) ⟨⟨by go_simp, by go_simp⟩, ⟨by go_simp, by go_simp⟩, by go_grown, by first | (simp; done) | (simp; omega)⟩ ?_
  rintro W ⟨⟨c0_0, c0_1⟩, ⟨c1_0, c1_1⟩, HB, hz⟩
  have k0_0 := fun d os => cell_regrown c0_0 d os
  have k0_1 := fun d os => cell_regrown c0_1 d os
  have k1_0 := fun d os => cell_regrown c1_0 d os
  have k1_1 := fun d os => cell_regrown c1_1 d os
  refine wp_region_quiet_below (by kernel_rfl) (by kernel_rfl) ?_
  repeat (quiet_step (first | (go_at_call 61; with_reducible exact Calls.regrown_of (P.out _))))
  refine wpQuiet_nil ?_
  rintro _ ⟨⟨dq, osq⟩, rfl⟩
  have hbw1 := below_regrown W dq osq
  generalize grow (redrawn W dq) osq = w1 at hbw1 ⊢
  obtain ⟨hcw1, hfw1⟩ := bcell hbw1
  have hlw1 := hbw1.size
  replace HB := ba HB hbw1
  go_wp2_with fail
  go_returns
  exact ⟨rfl, by go_grown⟩

set_option maxRecDepth 100000 in
theorem spCanLay (b : Bq) (s : ByteArray) (hs : s.size ≤ 1048576) (w : World) : Calls Try.prog 22 #[bv b, .string s] w fun e w' => e = .returned (.tuple #[.bool (clR b s), .bool (btG b s)]) ∧ Below w.heap.size w w' := by
  have PB := Lib.hid (spBox_any b)
  unfold clR
  cases hb : bxB 40 b
  · rw [btG_no1 hb s]
    rw [hb] at PB
    clear hb
    go_enter Try.func22, Try.ntmps22
    go_wp2_with (first | (go_at_call 51; refine (PB.out _).mono ?_; rintro e w1 ⟨rfl, h1⟩; have hB : Below w.heap.size w w1 := ba (by go_grown) h1; obtain ⟨hc1, hf1⟩ := bcell h1; have hq := h1.size; (try simp at hq); have hz0 : w.heap.size < w1.heap.size := (by omega); have HK1 := Lib.hid h1; clear h1 hq))
    go_returns
    exact ⟨rfl, by go_grown⟩
  · cases ht : tkB s
    · rw [btG_no2 b ht]
      rw [hb] at PB
      clear hb
      go_enter Try.func22, Try.ntmps22
      go_wp2_with (first | (go_at_call 51; refine (PB.out _).mono ?_; rintro e w1 ⟨rfl, h1⟩; have hB : Below w.heap.size w w1 := ba (by go_grown) h1; obtain ⟨hc1, hf1⟩ := bcell h1; have hq := h1.size; (try simp at hq); have hz0 : w.heap.size < w1.heap.size := (by omega); have HK1 := Lib.hid h1; clear h1 hq) | (go_at_call 53; refine (tkGood_any s hs _).mono ?_; rintro e w' ⟨rfl, rfl⟩))
      go_returns
      exact ⟨rfl, by go_grown⟩
    · rw [btG_yes hb ht]
      rw [hb] at PB
      have P := Lib.hid (spOf_any s ht)
      generalize stN s = a at *
      generalize cvN s = c at *
      obtain ⟨x, r⟩ := b
      simp only at PB ⊢
      cases h0 : decide ((a : Int) ≤ x)
      all_goals
        clear hb
        go_enter Try.func22, Try.ntmps22
        go_wp2_with (first | (go_at_call 51; (with_reducible refine (PB.out _).mono ?_); rintro e wA ⟨rfl, h1⟩; (try with_reducible replace h1 := undrew h1); have hB : Below w.heap.size w wA := ba (by go_grown) h1; obtain ⟨hcwA, hfwA⟩ := bcell h1; have hqwA := h1.size; (try simp at hqwA); (try have hz0wA : w.heap.size < wA.heap.size := (by omega)); (try have he0wA : w.heap.size ≤ wA.heap.size := (by omega))) | (go_at_call 53; refine (tkGood_any s hs _).mono ?_; rintro e w' ⟨rfl, rfl⟩) | (go_at_call 54; (with_reducible refine (P.out _).mono ?_); rintro e wB ⟨rfl, h1⟩; (try with_reducible replace h1 := undrew h1); have hB : Below w.heap.size w wB := ba (by go_grown) h1; obtain ⟨hcwB, hfwB⟩ := bcell h1; have hqwB := h1.size; (try simp at hqwB); (try have hz0wB : w.heap.size < wB.heap.size := (by omega)); (try have he0wB : w.heap.size ≤ wB.heap.size := (by omega)); (try have hz1wB : wA.heap.size < wB.heap.size := (by omega)); (try have he1wB : wA.heap.size ≤ wB.heap.size := (by omega))))
        go_returns
        exact ⟨rfl, by go_grown⟩

set_option maxRecDepth 100000 in
theorem imCanLay (b : Bq) (s : ByteArray) (hs : s.size ≤ 1048576) (w : World) : Calls Try.prog 23 #[bv b, .string s] w fun e w' => e = .returned (.tuple #[.bool (clR b s), .bool (btG b s)]) ∧ Below w.heap.size w w' := by
  have PB := Lib.hid (imIsBox b)
  unfold clR
  cases hb : bxB 40 b
  · rw [btG_no1 hb s]
    rw [hb] at PB
    clear hb
    go_enter Try.func23, Try.ntmps23
    go_wp2_with (first | (go_at_call 18; refine (PB.out _).mono ?_; rintro e w1 ⟨rfl, h1⟩; have hB : Below w.heap.size w w1 := ba (by go_grown) h1; obtain ⟨hc1, hf1⟩ := bcell h1; have hq := h1.size; (try simp at hq); have hz0 : w.heap.size < w1.heap.size := (by omega); have HK1 := Lib.hid h1; clear h1 hq))
    go_returns
    exact ⟨rfl, by go_grown⟩
  · cases ht : tkB s
    · rw [btG_no2 b ht]
      rw [hb] at PB
      clear hb
      go_enter Try.func23, Try.ntmps23
      go_wp2_with (first | (go_at_call 18; refine (PB.out _).mono ?_; rintro e w1 ⟨rfl, h1⟩; have hB : Below w.heap.size w w1 := ba (by go_grown) h1; obtain ⟨hc1, hf1⟩ := bcell h1; have hq := h1.size; (try simp at hq); have hz0 : w.heap.size < w1.heap.size := (by omega); have HK1 := Lib.hid h1; clear h1 hq) | (go_at_call 55; refine (imIsTrack_any s hs _).mono ?_; rintro e w' ⟨rfl, rfl⟩))
      go_returns
      exact ⟨rfl, by go_grown⟩
    · rw [btG_yes hb ht]
      rw [hb] at PB
      have P := Lib.hid (needsOf_any s ht)
      have PC := Lib.hid (covers_any b ⟨(stN s : Int), (cvN s : Int)⟩)
      have PS := Lib.hid (boxSupply_any b)
      generalize stN s = a at *
      generalize cvN s = c at *
      clear hb
      go_enter Try.func23, Try.ntmps23
      go_wp2_with (first | (go_at_call 18; (with_reducible refine (PB.out _).mono ?_); rintro e wA ⟨rfl, h1⟩; (try with_reducible replace h1 := undrew h1); have hB : Below w.heap.size w wA := ba (by go_grown) h1; obtain ⟨hcwA, hfwA⟩ := bcell h1; have hqwA := h1.size; (try simp at hqwA); (try have hz0wA : w.heap.size < wA.heap.size := (by omega)); (try have he0wA : w.heap.size ≤ wA.heap.size := (by omega))) | (go_at_call 55; refine (imIsTrack_any s hs _).mono ?_; rintro e w' ⟨rfl, rfl⟩) | (go_at_call 58; (with_reducible refine (PS.out _).mono ?_); rintro e wB ⟨rfl, h1⟩; (try with_reducible replace h1 := undrew h1); have hB : Below w.heap.size w wB := ba (by go_grown) h1; obtain ⟨hcwB, hfwB⟩ := bcell h1; have hqwB := h1.size; (try simp at hqwB); (try have hz0wB : w.heap.size < wB.heap.size := (by omega)); (try have he0wB : w.heap.size ≤ wB.heap.size := (by omega)); (try have hz1wB : wA.heap.size < wB.heap.size := (by omega)); (try have he1wB : wA.heap.size ≤ wB.heap.size := (by omega))) | (go_at_call 56; (with_reducible refine (P.out _).mono ?_); rintro e wC ⟨rfl, h1⟩; (try with_reducible replace h1 := undrew h1); have hB : Below w.heap.size w wC := ba (by go_grown) h1; obtain ⟨hcwC, hfwC⟩ := bcell h1; have hqwC := h1.size; (try simp at hqwC); (try have hz0wC : w.heap.size < wC.heap.size := (by omega)); (try have he0wC : w.heap.size ≤ wC.heap.size := (by omega)); (try have hz1wC : wA.heap.size < wC.heap.size := (by omega)); (try have he1wC : wA.heap.size ≤ wC.heap.size := (by omega))) | (go_at_call 59; (with_reducible refine (PC.out _).mono ?_); rintro e wD ⟨rfl, h1⟩; (try with_reducible replace h1 := undrew h1); have hB : Below w.heap.size w wD := ba (by go_grown) h1; obtain ⟨hcwD, hfwD⟩ := bcell h1; have hqwD := h1.size; (try simp at hqwD); (try have hz0wD : w.heap.size < wD.heap.size := (by omega)); (try have he0wD : w.heap.size ≤ wD.heap.size := (by omega)); (try have hz1wD : wA.heap.size < wD.heap.size := (by omega)); (try have he1wD : wA.heap.size ≤ wD.heap.size := (by omega))))
      go_returns
      exact ⟨rfl, by go_grown⟩

/-- The boxes' sum, if there is one. -/
def adG (a b : Bq) : Bool := bxB 40 a && bxB 40 b && bxB 40 ⟨a.x + b.x, a.r + b.r⟩

def adR (a b : Bq) : Bq := cond (adG a b) ⟨a.x + b.x, a.r + b.r⟩ ⟨0, 0⟩

theorem wrSum {a b : Int} (h : 0 ≤ a ∧ a ≤ 1000) (k : 0 ≤ b ∧ b ≤ 1000) : wrap64 (a + b) = a + b := IntWalk.wrap64_in _ ⟨by omega, by omega⟩

set_option maxRecDepth 100000 in
theorem onlyBox_any (b : Bq) (w : World) : Calls Try.prog 63 #[bv b] w fun e w' => e = .returned (.tuple #[.agg #[.int .i64 (cond (bxB 40 b) b.x 0), .int .i64 (cond (bxB 40 b) b.r 0)], .bool (bxB 40 b)]) ∧ Below w.heap.size w w' := by
  have P := Lib.hid (imIsBox b)
  obtain ⟨x, r⟩ := b
  simp only at P ⊢
  cases hb : bxB 40 ⟨x, r⟩
  all_goals
    rw [hb] at P
    clear hb
    go_enter Try.func63, Try.ntmps63
    go_wp2_with (go_at_call 18; refine (P.out _).mono ?_; rintro e w1 ⟨rfl, h1⟩; have hB : Below w.heap.size w w1 := ba (by go_grown) h1; obtain ⟨hc1, hf1⟩ := bcell h1; have hq := h1.size; (try simp at hq); have hz0 : w.heap.size < w1.heap.size := (by omega); have hz1 : w.heap.size + 1 < w1.heap.size := (by omega); have HK1 := Lib.hid h1; clear h1 hq)
    refine bodyPost_ret (by simp [results, Try.results63, go_sem, *]; try rfl) rfl ?_
    exact ⟨rfl, by go_grown⟩

set_option maxRecDepth 100000 in
set_option maxHeartbeats 800000 in
theorem spAddBoxes (a b : Bq) (w : World) : Calls Try.prog 45 #[bv a, bv b] w fun e w' => e = .returned (.tuple #[bv (adR a b), .bool (adG a b)]) ∧ Below w.heap.size w w' := by
  have PA := Lib.hid (spBox_any a)
  have PB := Lib.hid (spBox_any b)
  unfold adR adG
  cases ha : bxB 40 a
  · rw [ha] at PA
    clear ha
    go_enter Try.func45, Try.ntmps45
    go_wp2_with (first | (go_at_call 51; (with_reducible refine (PA.out _).mono ?_); rintro e wA ⟨rfl, h1⟩; (try with_reducible replace h1 := undrew h1); have hB : Below w.heap.size w wA := ba (by go_grown) h1; obtain ⟨hcwA, hfwA⟩ := bcell h1; have hqwA := h1.size; (try simp at hqwA); (try have hz0wA : w.heap.size < wA.heap.size := (by omega)); (try have he0wA : w.heap.size ≤ wA.heap.size := (by omega)); (try have hz1wA : w.heap.size + 1 < wA.heap.size := (by omega)); (try have he1wA : w.heap.size + 1 ≤ wA.heap.size := (by omega)); (try have hz2wA : w.heap.size + 1 + 1 < wA.heap.size := (by omega)); (try have he2wA : w.heap.size + 1 + 1 ≤ wA.heap.size := (by omega))))
    refine bodyPost_ret (by simp [results, Try.results45, go_sem, *]; try rfl) rfl ?_
    exact ⟨rfl, by go_grown⟩
  · cases hb : bxB 40 b
    · rw [ha] at PA
      rw [hb] at PB
      clear ha hb
      obtain ⟨ax, ar⟩ := a
      obtain ⟨bx, br⟩ := b
      go_enter Try.func45, Try.ntmps45
      go_wp2_with fail
      (go_at_call 51; (with_reducible refine (PA.out _).mono ?_); rintro e wA ⟨rfl, h1⟩; (try with_reducible replace h1 := undrew h1); have hB : Below w.heap.size w wA := ba (by go_grown) h1; obtain ⟨hcwA, hfwA⟩ := bcell h1; have hqwA := h1.size; (try simp at hqwA); (try have hz0wA : w.heap.size < wA.heap.size := (by omega)); (try have he0wA : w.heap.size ≤ wA.heap.size := (by omega)); (try have hz1wA : w.heap.size + 1 < wA.heap.size := (by omega)); (try have he1wA : w.heap.size + 1 ≤ wA.heap.size := (by omega)); (try have hz2wA : w.heap.size + 1 + 1 < wA.heap.size := (by omega)); (try have he2wA : w.heap.size + 1 + 1 ≤ wA.heap.size := (by omega)))
      go_wp2_with fail
      (go_at_call 51; (with_reducible refine (PB.out _).mono ?_); rintro e wB ⟨rfl, h1⟩; (try with_reducible replace h1 := undrew h1); have hB : Below w.heap.size w wB := ba (by go_grown) h1; obtain ⟨hcwB, hfwB⟩ := bcell h1; have hqwB := h1.size; (try simp at hqwB); (try have hz0wB : w.heap.size < wB.heap.size := (by omega)); (try have he0wB : w.heap.size ≤ wB.heap.size := (by omega)); (try have hz1wB : w.heap.size + 1 < wB.heap.size := (by omega)); (try have he1wB : w.heap.size + 1 ≤ wB.heap.size := (by omega)); (try have hz2wB : w.heap.size + 1 + 1 < wB.heap.size := (by omega)); (try have he2wB : w.heap.size + 1 + 1 ≤ wB.heap.size := (by omega)))
      go_wp2_with fail
      refine bodyPost_ret (by simp [results, Try.results45, go_sem, *]; try rfl) rfl ?_
      exact ⟨rfl, by go_grown⟩
    · obtain ⟨a0, a1, a2⟩ := bxB_yes ha
      obtain ⟨b0, b1, b2⟩ := bxB_yes hb
      rw [ha] at PA
      rw [hb] at PB
      clear ha hb
      obtain ⟨ax, ar⟩ := a
      obtain ⟨bx, br⟩ := b
      simp only at a0 a1 a2 b0 b1 b2
      have e0 := wrSum (a := ax) (b := bx) (by omega) (by omega)
      have e1 := wrSum (a := ar) (b := br) (by omega) (by omega)
      have PC := Lib.hid (spBox_any ⟨ax + bx, ar + br⟩)
      cases hc : bxB 40 ⟨ax + bx, ar + br⟩
      all_goals
        rw [hc] at PC
        clear hc
        go_enter Try.func45, Try.ntmps45
        go_wp2_with fail
        (go_at_call 51; (with_reducible refine (PA.out _).mono ?_); rintro e wA ⟨rfl, h1⟩; (try with_reducible replace h1 := undrew h1); have hB : Below w.heap.size w wA := ba (by go_grown) h1; obtain ⟨hcwA, hfwA⟩ := bcell h1; have hqwA := h1.size; (try simp at hqwA); (try have hz0wA : w.heap.size < wA.heap.size := (by omega)); (try have he0wA : w.heap.size ≤ wA.heap.size := (by omega)); (try have hz1wA : w.heap.size + 1 < wA.heap.size := (by omega)); (try have he1wA : w.heap.size + 1 ≤ wA.heap.size := (by omega)); (try have hz2wA : w.heap.size + 1 + 1 < wA.heap.size := (by omega)); (try have he2wA : w.heap.size + 1 + 1 ≤ wA.heap.size := (by omega)))
        go_wp2_with fail
        (go_at_call 51; (with_reducible refine (PB.out _).mono ?_); rintro e wB ⟨rfl, h1⟩; (try with_reducible replace h1 := undrew h1); have hB : Below w.heap.size w wB := ba (by go_grown) h1; obtain ⟨hcwB, hfwB⟩ := bcell h1; have hqwB := h1.size; (try simp at hqwB); (try have hz0wB : w.heap.size < wB.heap.size := (by omega)); (try have he0wB : w.heap.size ≤ wB.heap.size := (by omega)); (try have hz1wB : w.heap.size + 1 < wB.heap.size := (by omega)); (try have he1wB : w.heap.size + 1 ≤ wB.heap.size := (by omega)); (try have hz2wB : w.heap.size + 1 + 1 < wB.heap.size := (by omega)); (try have he2wB : w.heap.size + 1 + 1 ≤ wB.heap.size := (by omega)))
        go_wp2_with fail
        (go_at_call 51; (with_reducible refine (PC.out _).mono ?_); rintro e wC ⟨rfl, h1⟩; (try with_reducible replace h1 := undrew h1); have hB : Below w.heap.size w wC := ba (by go_grown) h1; obtain ⟨hcwC, hfwC⟩ := bcell h1; have hqwC := h1.size; (try simp at hqwC); (try have hz0wC : w.heap.size < wC.heap.size := (by omega)); (try have he0wC : w.heap.size ≤ wC.heap.size := (by omega)); (try have hz1wC : w.heap.size + 1 < wC.heap.size := (by omega)); (try have he1wC : w.heap.size + 1 ≤ wC.heap.size := (by omega)); (try have hz2wC : w.heap.size + 1 + 1 < wC.heap.size := (by omega)); (try have he2wC : w.heap.size + 1 + 1 ≤ wC.heap.size := (by omega)); (try have hz3wC : wB.heap.size < wC.heap.size := (by omega)); (try have he3wC : wB.heap.size ≤ wC.heap.size := (by omega)))
        go_wp2_with fail
        refine bodyPost_ret (by simp [results, Try.results45, go_sem, *]; try rfl) rfl ?_
        exact ⟨rfl, by go_grown⟩

set_option maxRecDepth 100000 in
set_option maxHeartbeats 800000 in
theorem imAddBoxes (a b : Bq) (w : World) : Calls Try.prog 46 #[bv a, bv b] w fun e w' => e = .returned (.tuple #[bv (adR a b), .bool (adG a b)]) ∧ Below w.heap.size w w' := by
  have PA := Lib.hid (imIsBox a)
  have PB := Lib.hid (imIsBox b)
  unfold adR adG
  cases ha : bxB 40 a
  · rw [ha] at PA
    clear ha
    go_enter Try.func46, Try.ntmps46
    go_wp2_with (first | (go_at_call 18; (with_reducible refine (PA.out _).mono ?_); rintro e wA ⟨rfl, h1⟩; (try with_reducible replace h1 := undrew h1); have hB : Below w.heap.size w wA := ba (by go_grown) h1; obtain ⟨hcwA, hfwA⟩ := bcell h1; have hqwA := h1.size; (try simp at hqwA); (try have hz0wA : w.heap.size < wA.heap.size := (by omega)); (try have he0wA : w.heap.size ≤ wA.heap.size := (by omega)); (try have hz1wA : w.heap.size + 1 < wA.heap.size := (by omega)); (try have he1wA : w.heap.size + 1 ≤ wA.heap.size := (by omega)); (try have hz2wA : w.heap.size + 1 + 1 < wA.heap.size := (by omega)); (try have he2wA : w.heap.size + 1 + 1 ≤ wA.heap.size := (by omega))))
    refine bodyPost_ret (by simp [results, Try.results46, go_sem, *]; try rfl) rfl ?_
    exact ⟨rfl, by go_grown⟩
  · cases hb : bxB 40 b
    · rw [ha] at PA
      rw [hb] at PB
      clear ha hb
      obtain ⟨ax, ar⟩ := a
      obtain ⟨bx, br⟩ := b
      go_enter Try.func46, Try.ntmps46
      go_wp2_with fail
      (go_at_call 18; (with_reducible refine (PA.out _).mono ?_); rintro e wA ⟨rfl, h1⟩; (try with_reducible replace h1 := undrew h1); have hB : Below w.heap.size w wA := ba (by go_grown) h1; obtain ⟨hcwA, hfwA⟩ := bcell h1; have hqwA := h1.size; (try simp at hqwA); (try have hz0wA : w.heap.size < wA.heap.size := (by omega)); (try have he0wA : w.heap.size ≤ wA.heap.size := (by omega)); (try have hz1wA : w.heap.size + 1 < wA.heap.size := (by omega)); (try have he1wA : w.heap.size + 1 ≤ wA.heap.size := (by omega)); (try have hz2wA : w.heap.size + 1 + 1 < wA.heap.size := (by omega)); (try have he2wA : w.heap.size + 1 + 1 ≤ wA.heap.size := (by omega)))
      go_wp2_with fail
      (go_at_call 18; (with_reducible refine (PB.out _).mono ?_); rintro e wB ⟨rfl, h1⟩; (try with_reducible replace h1 := undrew h1); have hB : Below w.heap.size w wB := ba (by go_grown) h1; obtain ⟨hcwB, hfwB⟩ := bcell h1; have hqwB := h1.size; (try simp at hqwB); (try have hz0wB : w.heap.size < wB.heap.size := (by omega)); (try have he0wB : w.heap.size ≤ wB.heap.size := (by omega)); (try have hz1wB : w.heap.size + 1 < wB.heap.size := (by omega)); (try have he1wB : w.heap.size + 1 ≤ wB.heap.size := (by omega)); (try have hz2wB : w.heap.size + 1 + 1 < wB.heap.size := (by omega)); (try have he2wB : w.heap.size + 1 + 1 ≤ wB.heap.size := (by omega)))
      go_wp2_with fail
      refine bodyPost_ret (by simp [results, Try.results46, go_sem, *]; try rfl) rfl ?_
      exact ⟨rfl, by go_grown⟩
    · obtain ⟨a0, a1, a2⟩ := bxB_yes ha
      obtain ⟨b0, b1, b2⟩ := bxB_yes hb
      rw [ha] at PA
      rw [hb] at PB
      clear ha hb
      have SA := Lib.hid (boxSupply_any a)
      have SB := Lib.hid (boxSupply_any b)
      have PL := plus_any a b
      obtain ⟨ax, ar⟩ := a
      obtain ⟨bx, br⟩ := b
      simp only at a0 a1 a2 b0 b1 b2 PL
      rw [wrSum (a := ax) (b := bx) (by omega) (by omega), wrSum (a := ar) (b := br) (by omega) (by omega)] at PL
      have PLH := Lib.hid PL
      have BX := Lib.hid (supplyBox_any ⟨ax + bx, ar + br⟩)
      have OB := Lib.hid (onlyBox_any ⟨ax + bx, ar + br⟩)
      clear PL
      generalize ax + bx = x at *
      generalize ar + br = r at *
      have OB2 : ∀ w, Calls Try.prog 63 #[.agg #[.int .i64 x, .int .i64 r]] w fun e w' => e = .returned (.tuple #[bv (cond (bxB 40 ⟨x, r⟩) ⟨x, r⟩ ⟨0, 0⟩), .bool (bxB 40 ⟨x, r⟩)]) ∧ Below w.heap.size w w' := fun w => by
        have := OB.out w
        cases h : bxB 40 ⟨x, r⟩ <;> (rw [h] at this; exact this)
      have OBH := Lib.hid OB2
      clear OB OB2
      simp only [Bool.true_and]
      generalize cond (bxB 40 ⟨x, r⟩) (⟨x, r⟩ : Bq) ⟨0, 0⟩ = q at *
      obtain ⟨qx, qr⟩ := q
      generalize bxB 40 ⟨x, r⟩ = g at *
      go_enter Try.func46, Try.ntmps46
      go_wp2_with fail
      (go_at_call 18; (with_reducible refine (PA.out _).mono ?_); rintro e wA ⟨rfl, h1⟩; (try with_reducible replace h1 := undrew h1); have hB : Below w.heap.size w wA := ba (by go_grown) h1; obtain ⟨hcwA, hfwA⟩ := bcell h1; have hqwA := h1.size; (try simp at hqwA); (try have hz0wA : w.heap.size < wA.heap.size := (by omega)); (try have he0wA : w.heap.size ≤ wA.heap.size := (by omega)); (try have hz1wA : w.heap.size + 1 < wA.heap.size := (by omega)); (try have he1wA : w.heap.size + 1 ≤ wA.heap.size := (by omega)); (try have hz2wA : w.heap.size + 1 + 1 < wA.heap.size := (by omega)); (try have he2wA : w.heap.size + 1 + 1 ≤ wA.heap.size := (by omega)))
      go_wp2_with fail
      (go_at_call 18; (with_reducible refine (PB.out _).mono ?_); rintro e wB ⟨rfl, h1⟩; (try with_reducible replace h1 := undrew h1); have hB : Below w.heap.size w wB := ba (by go_grown) h1; obtain ⟨hcwB, hfwB⟩ := bcell h1; have hqwB := h1.size; (try simp at hqwB); (try have hz0wB : w.heap.size < wB.heap.size := (by omega)); (try have he0wB : w.heap.size ≤ wB.heap.size := (by omega)); (try have hz1wB : w.heap.size + 1 < wB.heap.size := (by omega)); (try have he1wB : w.heap.size + 1 ≤ wB.heap.size := (by omega)); (try have hz2wB : w.heap.size + 1 + 1 < wB.heap.size := (by omega)); (try have he2wB : w.heap.size + 1 + 1 ≤ wB.heap.size := (by omega)))
      go_wp2_with fail
      refine absWB (F := fun W => (W.cell? ⟨w.heap.size, 0, none⟩ = some (.int .i64 ax)) ∧ (W.cell? ⟨w.heap.size, 1, none⟩ = some (.int .i64 ar)) ∧ (W.cell? ⟨w.heap.size + 1, 0, none⟩ = some (.int .i64 bx)) ∧ (W.cell? ⟨w.heap.size + 1, 1, none⟩ = some (.int .i64 br)) ∧ (∀ i, W.frozen? ⟨w.heap.size + 1 + 1, i, none⟩ = false) ∧ (W.cell? ⟨w.heap.size + 1 + 1, 0, none⟩ = some (.int .i64 0) ∧ W.cell? ⟨w.heap.size + 1 + 1, 1, none⟩ = some (.int .i64 0)) ∧ (w.heap.size + 1 + 1 < W.heap.size) ∧ Below w.heap.size w W) ⟨by go_simp, by go_simp, by go_simp, by go_simp, fun i => by go_simp, ⟨by go_simp, by go_simp⟩, by first | omega | (simp; omega), by go_grown⟩ ?_
      rintro W ⟨ca0_0, ca1_1, cb0_0, cb1_1, fr9, ⟨z90, z91⟩, hzW, HB⟩
      have ka0_0 := fun d os => cell_regrown ca0_0 d os
      have ka1_1 := fun d os => cell_regrown ca1_1 d os
      have kb0_0 := fun d os => cell_regrown cb0_0 d os
      have kb1_1 := fun d os => cell_regrown cb1_1 d os
      refine region_below_tail 9 (by kernel_rfl) (by kernel_rfl) ?_
      simp only [List.take_succ_cons, List.take_zero, List.drop_succ_cons, List.drop_zero]
      repeat (quiet_step (first | (go_at_call 58; with_reducible exact Calls.regrown_of (SA.out _)) | (go_at_call 58; with_reducible exact Calls.regrown_of (SB.out _)) | (go_at_call 83; with_reducible exact Calls.regrown_of (PLH.out _)) | (go_at_call 57; with_reducible exact Calls.regrown_of (BX.out _)) | (go_at_call 63; with_reducible exact Calls.regrown_of (OBH.out _))))
      refine wpQuiet_nil ?_
      rintro _ ⟨⟨dq, osq⟩, rfl⟩
      have hbw1 := below_regrown W dq osq
      generalize grow (redrawn W dq) osq = w1 at hbw1 ⊢
      obtain ⟨hcw1, hfw1⟩ := bcell hbw1
      have hlw1 := hbw1.size
      replace HB := ba HB hbw1
      go_wp2_with fail
      refine bodyPost_ret (by simp [results, Try.results46, go_sem, *]; try rfl) rfl ?_
      exact ⟨rfl, by go_grown⟩

def prG (b : Bq) (s c : Int) : Bool := bxB 40 b && (inB s 0 1000 && inB c 0 1000)

def prR (b : Bq) (s c : Int) : Int := cond (prG b s c) (b.x * s + b.r * c) 0

theorem pr_bd {x s : Int} (hx : 0 ≤ x) (hx2 : x ≤ 40) (hs : 0 ≤ s) (hs2 : s ≤ 1000) : 0 ≤ x * s ∧ x * s ≤ 40000 :=
  ⟨Int.mul_nonneg hx hs, Int.le_trans (Int.mul_le_mul hx2 hs2 hs (by decide)) (by decide)⟩

theorem price_any (b : Bq) (s c : Int) (hb : bxB 40 b = true) (hs : inB s 0 1000 = true) (hc : inB c 0 1000 = true) (w : World) : Calls Try.prog 86 #[bv b, .int .i64 s, .int .i64 c] w fun e w' => e = .returned (.int .i64 (b.x * s + b.r * c)) ∧ Below w.heap.size w w' := by
  obtain ⟨b0, b1, b2⟩ := bxB_yes hb
  have hs' : 0 ≤ s ∧ s ≤ 1000 := by simpa [inB] using hs
  have hc' : 0 ≤ c ∧ c ≤ 1000 := by simpa [inB] using hc
  obtain ⟨x, r⟩ := b
  simp only at b0 b1 b2 ⊢
  obtain ⟨p0, p1⟩ := pr_bd b0 (by omega) hs'.1 hs'.2
  obtain ⟨q0, q1⟩ := pr_bd b1 (by omega) hc'.1 hc'.2
  have e0 : wrap64 (x * s) = x * s := IntWalk.wrap64_in _ ⟨by omega, by omega⟩
  have e1 : wrap64 (r * c) = r * c := IntWalk.wrap64_in _ ⟨by omega, by omega⟩
  have e2 : wrap64 (x * s + r * c) = x * s + r * c := IntWalk.wrap64_in _ ⟨by omega, by omega⟩
  clear hb hs hc
  go_enter Try.func86, Try.ntmps86
  go_wp2_with fail
  go_returns
  exact ⟨rfl, by go_grown⟩

theorem spPrices_any (s c : Int) (w : World) : Calls Try.prog 84 #[.int .i64 s, .int .i64 c] w fun e w' => e = .returned (.bool (inB s 0 1000 && inB c 0 1000)) ∧ w = w' := by
  cases h0 : inB s 0 1000
  all_goals
    go_enter Try.func84, Try.ntmps84
    go_wp2_with (go_at_call 72; refine (l1In_any _ _ _ _).mono ?_; rintro e w' ⟨rfl, rfl⟩)
    go_ret
    exact ⟨rfl, rfl⟩

theorem arePrices_any (s c : Int) (w : World) : Calls Try.prog 85 #[.int .i64 s, .int .i64 c] w fun e w' => e = .returned (.bool (inB s 0 1000 && inB c 0 1000)) ∧ w = w' := by
  cases h0 : inB s 0 1000
  all_goals
    go_enter Try.func85, Try.ntmps85
    go_wp2_with (go_at_call 74; refine (isInRange_any _ _ _ _).mono ?_; rintro e w' ⟨rfl, rfl⟩)
    go_ret
    exact ⟨rfl, rfl⟩

end Go.Proofs.Ytkmgcmgnaeamaaa

/- Contracts: how many tracks are laid whole from a box, in the model and in the program. -/
namespace Go.Proofs.Ytkmgcmgnaeamaaa
open Go.ChangeShapes Go.WideShapes Go.ChangeAt Go.RowKit

set_option linter.unusedVariables false
set_option linter.unusedSimpArgs false

def ctG (b : Bq) : Bool := bxB 12 b

def ctR (b : Bq) : Int := cond (ctG b) ((ctP b.x.toNat b.r.toNat b.r.toNat : Nat) : Int) 0

theorem w64N (n : Nat) (h : n ≤ 1000000000) : wrap64 (n : Int) = (n : Int) := IntWalk.wrap64_in _ ⟨by omega, by omega⟩

theorem tdivN (P K : Nat) : (P : Int).tdiv (K : Int) = ((P / K : Nat) : Int) := by rw [Int.tdiv_eq_ediv_of_nonneg (by omega), Int.natCast_ediv]

theorem ctM_succ (s c k : Nat) : ctM s c (k + 1) = ctM s c k * (c + (k + 1)) / (k + 1) := rfl

theorem ctP_succ (s c k : Nat) : ctP s c (k + 1) = 2 * ctP s c k * (s + (k + 1)) / (k + 1) := rfl

set_option maxRecDepth 100000 in
theorem spSmB_any (b : Bq) (m : Int) (hm : m ≤ 40) (w : World) : Calls Try.prog 64 #[bv b, .int .i64 m] w fun e w' => e = .returned (.bool (bxB m b)) ∧ Below w.heap.size w w' := by
  have PB := Lib.hid (spBox_any b)
  cases hb : bxB 40 b
  · have e : bxB m b = false := by
      rw [← Bool.not_eq_true] at hb ⊢
      intro h
      apply hb
      simp [bxB, inB] at h ⊢
      omega
    rw [hb] at PB
    rw [e]
    clear hb e
    go_enter Try.func64, Try.ntmps64
    go_wp2_with (go_at_call 51; refine (PB.out _).mono ?_; rintro e w1 ⟨rfl, h1⟩; have hB : Below w.heap.size w w1 := ba (by go_grown) h1; obtain ⟨hc1, hf1⟩ := bcell h1; have hq := h1.size; (try simp at hq); have hz0 : w.heap.size < w1.heap.size := (by omega); have HK1 := Lib.hid h1; clear h1 hq)
    go_returns
    exact ⟨rfl, by go_grown⟩
  · obtain ⟨b0, b1, b2⟩ := bxB_yes hb
    have e : bxB m b = decide (b.x + b.r ≤ m) := by
      rw [Bool.eq_iff_iff]
      simp [bxB, inB]
      omega
    rw [hb] at PB
    rw [e]
    obtain ⟨x, r⟩ := b
    simp only at b0 b1 b2 ⊢
    have e0 := wrSum (a := x) (b := r) (by omega) (by omega)
    clear hb e
    cases hc : decide (x + r ≤ m)
    all_goals
      go_enter Try.func64, Try.ntmps64
      go_wp2_with (go_at_call 51; (with_reducible refine (PB.out _).mono ?_); rintro e wA ⟨rfl, h1⟩; (try with_reducible replace h1 := undrew h1); have hB : Below w.heap.size w wA := ba (by go_grown) h1; obtain ⟨hcwA, hfwA⟩ := bcell h1; have hqwA := h1.size; (try simp at hqwA); (try have hz0wA : w.heap.size < wA.heap.size := (by omega)); (try have he0wA : w.heap.size ≤ wA.heap.size := (by omega)))
      go_returns
      exact ⟨by first | rfl | simp_all | (simp; omega), by go_grown⟩

set_option maxRecDepth 100000 in
set_option maxHeartbeats 800000 in
theorem spCountTracks (b : Bq) (w : World) : Calls Try.prog 31 #[bv b] w fun e w' => e = .returned (.tuple #[.int .i64 (ctR b), .bool (ctG b)]) ∧ Below w.heap.size w w' := by
  have PS := Lib.hid (spSmB_any b 12 (by decide))
  unfold ctR ctG
  cases hb : bxB 12 b
  · rw [hb] at PS
    clear hb
    go_enter Try.func31, Try.ntmps31
    go_wp2_with (go_at_call 64; refine (PS.out _).mono ?_; rintro e w1 ⟨rfl, h1⟩; have hB : Below w.heap.size w w1 := ba (by go_grown) h1; obtain ⟨hc1, hf1⟩ := bcell h1; have hq := h1.size; (try simp at hq); have hz0 : w.heap.size < w1.heap.size := (by omega); have HK1 := Lib.hid h1; clear h1 hq)
    go_returns
    exact ⟨rfl, by go_grown⟩
  · rw [hb] at PS
    obtain ⟨s, c, rfl, hsc⟩ := bxB_nat (m := 12) hb
    simp only [Int.toNat_natCast, cond_true]
    rw [← ct_same hsc]
    have HM := Lib.hid (fun k (hk : k ≤ s) => ctM_le hsc hk)
    have hC : 2 ^ c ≤ 4096 := Nat.pow_le_pow_right (show 0 < 2 by decide) (show c ≤ 12 by omega)
    have hT : ((2 ^ c : Nat) : Int) = (2 : Int) ^ c := by push_cast; rfl
    have HSH := Lib.hid (fun (M : Nat) (h : M ≤ 1000) => show wrap64 ((M : Int) * 2 ^ c) = ((M * 2 ^ c : Nat) : Int) by
      have h1 : M * 2 ^ c ≤ 1000 * 4096 := Nat.mul_le_mul h hC
      have h2 : ((M * 2 ^ c : Nat) : Int) = (M : Int) * 2 ^ c := by push_cast; rfl
      rw [← h2]
      generalize M * 2 ^ c = V at *
      exact IntWalk.wrap64_in _ ⟨by omega, by omega⟩)
    have HF := Lib.hid (rfl : ctM s c s * 2 ^ c = ctM s c s * 2 ^ c)
    obtain ⟨Z, hZ⟩ : ∃ Z : Nat, ctM s c s * 2 ^ c = Z := ⟨_, rfl⟩
    have HZ := Lib.hid hZ
    rw [hZ]
    clear hC hT hZ HF
    clear hb
    go_enter Try.func31, Try.ntmps31
    go_wp2_with fail
    (go_at_call 64; (with_reducible refine (PS.out _).mono ?_); rintro e wA ⟨rfl, h1⟩; (try with_reducible replace h1 := undrew h1); have hB : Below w.heap.size w wA := ba (by go_grown) h1; obtain ⟨hcwA, hfwA⟩ := bcell h1; have hqwA := h1.size; (try simp at hqwA); (try have hz0wA : w.heap.size < wA.heap.size := (by omega)); (try have he0wA : w.heap.size ≤ wA.heap.size := (by omega)))
    go_wp2_with fail
    have c0 : wA.cell? ⟨w.heap.size, 0, none⟩ = some (.int .i64 (s : Int)) := by go_simp
    have c1 : wA.cell? ⟨w.heap.size, 1, none⟩ = some (.int .i64 (c : Int)) := by go_simp
    have HB := Lib.hid hB
    clear hcwA hfwA hB
    go_loop [4, 5] (fun t i => ∃ k : Nat, k ≤ s ∧ i = .int .i64 ((k + 1 : Nat) : Int) ∧ t = .int .i64 (ctM s c k : Nat)) (fun _ i => s + 1 - (intOf i).toNat)
    case atStart => exact ⟨0, Nat.zero_le _, rfl, rfl⟩
    case round =>
      obtain ⟨k, hk, rfl, rfl⟩ := hrel
      have hmk := HM.out k hk
      obtain ⟨K, hK⟩ : ∃ K : Nat, k + 1 = K := ⟨_, rfl⟩
      obtain ⟨M, hM⟩ : ∃ M : Nat, ctM s c k = M := ⟨_, rfl⟩
      rw [hK]
      rw [hM] at hmk ⊢
      by_cases hlt : k < s
      · have hK0 : ¬ (K : Int) = 0 := by omega
        have hKs : (K : Int) ≤ (s : Int) := by omega
        have hKsN : K ≤ s := by omega
        have hcK : wrap64 ((c : Int) + (K : Int)) = (c : Int) + (K : Int) := IntWalk.wrap64_in _ ⟨by omega, by omega⟩
        obtain ⟨P, hP⟩ : ∃ P : Nat, M * (c + K) = P := ⟨_, rfl⟩
        have hle : P ≤ 1000 * 100 := by rw [← hP]; exact Nat.mul_le_mul (by omega) (by omega)
        have hPI : (M : Int) * ((c : Int) + (K : Int)) = (P : Int) := by rw [← hP, Int.natCast_mul, Int.natCast_add]
        have hmul := w64N P (Nat.le_trans hle (by decide))
        have hq := tdivN P K
        obtain ⟨Q, hQ⟩ : ∃ Q : Nat, P / K = Q := ⟨_, rfl⟩
        rw [hQ] at hq
        have HST := Lib.hid (show ctM s c (k + 1) = Q by rw [ctM_succ, hK, hM, hP, hQ])
        have hQ2 : Q ≤ P := by rw [← hQ]; exact Nat.div_le_self _ _
        have hwq := w64N Q (Nat.le_trans hQ2 (Nat.le_trans hle (by decide)))
        have HKS := Lib.hid hK
        have HQ2 := Lib.hid (Nat.le_trans hQ2 hle)
        clear hK hM hP hQ hQ2 hle
        go_wp2_with fail
        go_round
        case rel => exact ⟨k + 1, by omega, by have := HKS.out; rw [this]; go_num, by rw [HST.out, hwq]⟩
        case measure => have := HKS.out; simp [intOf]; omega
      · obtain rfl : k = s := by omega
        have hKs : ¬ (K : Int) ≤ (k : Int) := by omega
        have hKsN : ¬ K ≤ k := by omega
        have hsh := HSH.out M hmk
        have hz := HZ.out
        rw [hM] at hz
        rw [hz] at hsh
        clear hz
        go_wp2_with fail
        go_ret2
        exact ⟨rfl, HB.out⟩

set_option maxRecDepth 100000 in
set_option maxHeartbeats 800000 in
theorem imCountTracks (b : Bq) (w : World) : Calls Try.prog 32 #[bv b] w fun e w' => e = .returned (.tuple #[.int .i64 (ctR b), .bool (ctG b)]) ∧ Below w.heap.size w w' := by
  have PS := Lib.hid (isWithinB_any b 12 (by decide) (by decide))
  unfold ctR ctG
  cases hb : bxB 12 b
  · rw [hb] at PS
    clear hb
    go_enter Try.func32, Try.ntmps32
    go_wp2_with (go_at_call 52; refine (PS.out _).mono ?_; rintro e w1 ⟨rfl, h1⟩; have hB : Below w.heap.size w w1 := ba (by go_grown) h1; obtain ⟨hc1, hf1⟩ := bcell h1; have hq := h1.size; (try simp at hq); have hz0 : w.heap.size < w1.heap.size := (by omega); have HK1 := Lib.hid h1; clear h1 hq)
    go_returns
    exact ⟨rfl, by go_grown⟩
  · rw [hb] at PS
    obtain ⟨s, c, rfl, hsc⟩ := bxB_nat (m := 12) hb
    simp only [Int.toNat_natCast, cond_true]
    have HM := Lib.hid (fun k (hk : k ≤ c) => ctP_le hsc hk)
    have HZ := Lib.hid (rfl : ctP s c c = ctP s c c)
    obtain ⟨Z, hZ⟩ : ∃ Z : Nat, ctP s c c = Z := ⟨_, rfl⟩
    have HZ := Lib.hid hZ
    rw [hZ]
    clear hb hZ
    go_enter Try.func32, Try.ntmps32
    go_wp2_with fail
    (go_at_call 52; (with_reducible refine (PS.out _).mono ?_); rintro e wA ⟨rfl, h1⟩; (try with_reducible replace h1 := undrew h1); have hB : Below w.heap.size w wA := ba (by go_grown) h1; obtain ⟨hcwA, hfwA⟩ := bcell h1; have hqwA := h1.size; (try simp at hqwA); (try have hz0wA : w.heap.size < wA.heap.size := (by omega)); (try have he0wA : w.heap.size ≤ wA.heap.size := (by omega)))
    go_wp2_with fail
    have c0 : wA.cell? ⟨w.heap.size, 0, none⟩ = some (.int .i64 (s : Int)) := by go_simp
    have c1 : wA.cell? ⟨w.heap.size, 1, none⟩ = some (.int .i64 (c : Int)) := by go_simp
    have HB := Lib.hid hB
    clear hcwA hfwA hB
    go_wp2_with fail
    go_loop [4, 12] (fun t i => ∃ k : Nat, k ≤ c ∧ i = .int .i64 k ∧ t = .int .i64 (ctP s c k : Nat)) (fun _ i => c - (intOf i).toNat)
    case atStart => exact ⟨0, Nat.zero_le _, rfl, rfl⟩
    case round =>
      obtain ⟨k, hk, rfl, rfl⟩ := hrel
      have hmk := HM.out k hk
      obtain ⟨K, hK⟩ : ∃ K : Nat, k + 1 = K := ⟨_, rfl⟩
      obtain ⟨M, hM⟩ : ∃ M : Nat, ctP s c k = M := ⟨_, rfl⟩
      rw [hM] at hmk ⊢
      by_cases hlt : k < c
      · have hK0 : ¬ (K : Int) = 0 := by omega
        have hkK : (k : Int) + 1 = (K : Int) := by omega
        have hKw : wrap64 (K : Int) = (K : Int) := w64N K (by omega)
        have hcK : wrap64 ((s : Int) + (K : Int)) = (s : Int) + (K : Int) := IntWalk.wrap64_in _ ⟨by omega, by omega⟩
        obtain ⟨P, hP⟩ : ∃ P : Nat, 2 * M * (s + K) = P := ⟨_, rfl⟩
        have hle : P ≤ 2000000 * 100 := by rw [← hP]; exact Nat.mul_le_mul (by omega) (by omega)
        have h2M : wrap64 (2 * (M : Int)) = 2 * (M : Int) := IntWalk.wrap64_in _ ⟨by omega, by omega⟩
        have hPI : 2 * (M : Int) * ((s : Int) + (K : Int)) = (P : Int) := by rw [← hP, Int.natCast_mul, Int.natCast_mul, Int.natCast_add]; rfl
        have hmul := w64N P (Nat.le_trans hle (by decide))
        have hq := tdivN P K
        obtain ⟨Q, hQ⟩ : ∃ Q : Nat, P / K = Q := ⟨_, rfl⟩
        rw [hQ] at hq
        have HST := Lib.hid (show ctP s c (k + 1) = Q by rw [ctP_succ, hK, hM, hP, hQ])
        have hQ2 : Q ≤ P := by rw [← hQ]; exact Nat.div_le_self _ _
        have hwq := w64N Q (Nat.le_trans hQ2 (Nat.le_trans hle (by decide)))
        have HKS := Lib.hid hK
        clear hK hM hP hQ hQ2 hle
        go_wp2_with fail
        go_round
        case rel => exact ⟨k + 1, by omega, by first | rfl | go_num, by rw [HST.out, hwq]⟩
        case measure => have := HKS.out; simp [intOf]; omega
      · obtain rfl : k = c := by omega
        have hz := HZ.out
        rw [hM] at hz
        subst hz
        clear hK
        go_wp2_with fail
        go_ret2
        exact ⟨rfl, HB.out⟩

end Go.Proofs.Ytkmgcmgnaeamaaa

/- Contracts of the model: how many rings are laid whole from a box, and the boxes of n pieces that have one. -/
namespace Go.Proofs.Ytkmgcmgnaeamaaa
open Go.ChangeShapes Go.WideShapes Go.ChangeAt Go.RowKit

set_option linter.unusedVariables false
set_option linter.unusedSimpArgs false

theorem ltr_pcb {c : UInt8} (h : c ∈ ltr) : pcb c = true := by
  simp only [ltr, List.mem_cons, List.not_mem_nil, or_false] at h
  rcases h with rfl | rfl | rfl <;> rfl

theorem tkB_ltr {l : List UInt8} (h1 : l.length ≤ 40) (h2 : ∀ c ∈ l, c ∈ ltr) : tkB (ofL l) = true := by
  have e : (ofL l).data.toList = l := by simp [ofL]
  simp only [tkB, Bool.and_eq_true, decide_eq_true_eq, ofL_size, e]
  exact ⟨h1, List.all_eq_true.2 fun c hc => ltr_pcb (h2 c hc)⟩

theorem clB_rgb {w : List UInt8} (h1 : w.length ≤ 40) (h2 : ∀ c ∈ w, c ∈ ltr) : clB (ofL w) = rgb w := by
  have ht := tkB_ltr h1 h2
  have e : (ofL w).data.toList = w := by simp [ofL]
  rw [clB_yes ht, rgb, ofL_size]
  congr 1
  unfold zS zP
  rw [enS_yes ht, e]
  simp only [spE, sp0]

theorem bxW_tk {s c : Nat} (h : s + c ≤ 40) {w : List UInt8} (hw : w ∈ bxW s c) : tkB (ofL w) = true ∧ clB (ofL w) = rgb w ∧ w.length = s + c := by
  have h1 := bxW_iff.1 hw
  exact ⟨tkB_ltr (by omega) h1.1.2, clB_rgb (by omega) h1.1.2, h1.1.1⟩

/-- The first j of them that are rings. -/
def rgU (R : List (List UInt8)) (j : Nat) : List (List UInt8) := (R.take j).filter rgb

theorem rgU_end (R : List (List UInt8)) : rgU R R.length = R.filter rgb := by rw [rgU, List.take_length]

theorem rgU_next {R : List (List UInt8)} {j : Nat} {r : List UInt8} (h : R[j]? = some r) : rgU R (j + 1) = if rgb r then rgU R j ++ [r] else rgU R j := by
  simp only [rgU, List.take_add_one, h, Option.toList_some, List.filter_append, List.filter_cons, List.filter_nil]
  split <;> simp

theorem rgU_le (R : List (List UInt8)) (j : Nat) : (rgU R j).length ≤ j := Nat.le_trans (List.length_filter_le _ _) (List.length_take_le _ _)

set_option maxRecDepth 100000 in
set_option maxHeartbeats 800000 in
theorem spRings_any (s c : Nat) (h : s + c ≤ 12) (w : World) : Calls Try.prog 97 #[bv ⟨(s : Int), (c : Int)⟩] w fun e w' => e = .returned (.int .i64 ((bxR s c).length : Nat)) ∧ Below w.heap.size w w' := by
  have P := Lib.hid (spAll_any s c h)
  have hlen : (bxW s c).length ≤ 531441 := Nat.le_trans (bxW_le s c) (Nat.pow_le_pow_right (by decide) h)
  have hE : (rgU (bxW s c) (bxW s c).length).length = (bxR s c).length := by rw [rgU_end]; rfl
  have htk : ∀ r ∈ bxW s c, tkB (ofL r) = true ∧ clB (ofL r) = rgb r ∧ r.length = s + c := fun r hr => bxW_tk (by omega) hr
  unfold AllPost at P
  generalize bxW s c = R at *
  generalize bxR s c = RR at *
  obtain ⟨N, hN⟩ : ∃ N, R.length = N := ⟨_, rfl⟩
  have HN := Lib.hid hN
  have HTK := Lib.hid htk
  rw [hN] at hlen hE
  have HE := Lib.hid hE
  clear hN hE htk
  go_enter Try.func97, Try.ntmps97
  go_wp2_with fail
  (with_reducible refine Calls.mono (P.out _) ?_)
  rintro e w1 ⟨v, rfl, hO, hb1⟩
  rw [HN.out] at hO
  obtain ⟨av, cv, rfl⟩ := own_formC hO
  have HO := Lib.hid hO
  have HB1 := Lib.hid (ba (by go_grown) hb1 : Below w.heap.size w w1)
  clear hb1 hO
  go_wp2_with fail
  go_loopw [3, 9] (fun t i wr => ∃ j : Nat, j ≤ N ∧ i = .int .i64 j ∧ t = .int .i64 ((rgU R j).length : Nat) ∧ Below w1.heap.size w1 wr) (fun _ i _ => N - (intOf i).toNat)
  case atStart => exact ⟨0, Nat.zero_le _, rfl, by simp [rgU], Below.refl _ _⟩
  case round =>
    obtain ⟨j, hj, rfl, rfl, hb⟩ := hrel
    have hle := rgU_le R j
    have HB := Lib.hid hb
    by_cases hlt : j < N
    · obtain ⟨r, hr⟩ : ∃ r, R[j]? = some r := ⟨_, List.getElem?_eq_getElem (by rw [HN.out]; exact hlt)⟩
      obtain ⟨h1, h2, h3⟩ := HTK.out r (List.mem_of_getElem? hr)
      obtain ⟨g, rfl⟩ : ∃ g, av = some ⟨g, 0, none⟩ := by
        rcases HO.out.2 with ⟨h, h0⟩ | ⟨g, cap, _, h, _⟩
        · omega
        · injection h with h; exact ⟨g, h⟩
      have c0 := (str_of HO.out HN.out).below (HO.out.lt g rfl).2 hb j r hr
      have CR := Lib.hid (csRing_any (ofL r) (by rw [ofL_size]; omega))
      rw [h2] at CR
      have HNX := Lib.hid (rgU_next hr)
      cases hq : rgb r
      all_goals
        rw [hq] at CR HNX
        have HQ := Lib.hid hq
        have hBw : Below w.heap.size w wr := HB1.out.trans (hb.mono HB1.out.size)
        clear hb hr h1 h2 hq
        go_wp2_with fail
        (go_at_call 66; (with_reducible refine (CR.out _).mono ?_); rintro e wA ⟨rfl, h1⟩; (try with_reducible replace h1 := undrew h1); have hB : Below w.heap.size w wA := ba (by go_grown) h1; obtain ⟨hcwA, hfwA⟩ := bcell h1; have hqwA := h1.size; (try simp at hqwA); )
        have HB2 := Lib.hid (HB.out.trans (h1.mono HB.out.size))
        clear h1 hcwA hfwA c0 hBw hB
        go_wp2_with fail
        go_roundw
        case rel => exact ⟨j + 1, by omega, by go_num, by rw [HNX.out]; first | rfl | (simp; done) | (simp; go_num), HB2.out⟩
        case measure => simp [intOf]; omega
    · obtain rfl : j = N := by omega
      rw [HE.out]
      have HB2 := Lib.hid (HB1.out.trans (hb.mono HB1.out.size))
      clear hb
      go_wp2_with fail
      go_ret
      exact ⟨rfl, HB2.out⟩

/-- Boxes, one behind the other. -/
def bxC (b : Bq) : List Value := [.int .i64 b.x, .int .i64 b.r]

def bxCells (l : List Bq) : List Value := l.flatMap bxC

theorem bxCells_append (l m : List Bq) : bxCells (l ++ m) = bxCells l ++ bxCells m := by simp [bxCells]

def BoxAt (w : World) (g : Nat) (l : List Bq) : Prop := ∀ (j : Nat) (b : Bq), l[j]? = some b → w.cell? ⟨g, j * 2, none⟩ = some (.int .i64 b.x) ∧ w.cell? ⟨g, j * 2 + 1, none⟩ = some (.int .i64 b.r)

theorem BoxAt.below {w w' : World} {g m : Nat} {l : List Bq} (h : BoxAt w g l) (hg : g < m) (hb : Below m w w') : BoxAt w' g l := fun j b hj => by
  obtain ⟨a, c⟩ := h j b hj
  rw [hb.cell (p := ⟨g, j * 2, none⟩) hg, hb.cell (p := ⟨g, j * 2 + 1, none⟩) hg]
  exact ⟨a, c⟩

theorem box_of {W : World} {B n g cap : Nat} {e : TypeId} {l : List Bq} (h : W.ownsRow B e 2 (.slice (some ⟨g, 0, none⟩) n cap) n (bxCells l)) (hn : l.length = n) : BoxAt W g l := by
  intro i p hp
  have hi : i < n := by rw [← hn]; exact (List.getElem?_eq_some_iff.1 hp).1
  have a := fun j (hj : j < 2) => (h.cellAt (i * 2 + j) (by omega)).trans ((by rw [Nat.mul_comm]) : _ = (bxCells l)[2 * i + j]?) |>.trans (flat_at bxC 2 (fun _ => rfl) l i p hp j hj)
  exact ⟨a 0 (by omega), a 1 (by omega)⟩

theorem bxInfo : (Try.prog.info? 25).map (fun i => (i.zero, i.size, i.bytes)) = some (some (.agg #[.int .i64 0, .int .i64 0]), 2, 16) := by kernel_rfl

/-- The boxes of n pieces from which a ring is laid whole, of fewer than k straights. -/
def rbQ (n k : Nat) : List Bq := (rbL n k).map fun (s : Nat) => ⟨(s : Int), ((n - s : Nat) : Int)⟩

theorem rbQ_zero (n : Nat) : rbQ n 0 = [] := rfl

theorem rbQ_succ (n k : Nat) : rbQ n (k + 1) = if hasR n k then rbQ n k ++ [⟨(k : Int), ((n - k : Nat) : Int)⟩] else rbQ n k := by
  rw [rbQ, rbL_succ]
  split <;> simp [rbQ]

theorem rbQ_le (n k : Nat) : (rbQ n k).length ≤ k := by rw [rbQ, List.length_map]; exact rbL_le n k

def BoxPost (l : List Bq) (w : World) (e : Ending) (w' : World) : Prop :=
  ∃ v, e = .returned v ∧ w'.ownsRow w.heap.size 25 2 v l.length (bxCells l) ∧ Below w.heap.size w w'

set_option maxRecDepth 100000 in
set_option maxHeartbeats 800000 in
theorem spRingBoxes_any (n : Nat) (hn : n ≤ 12) (w : World) : Calls Try.prog 73 #[.int .i64 (n : Nat)] w (BoxPost (rbQ n (n + 1)) w) := by
  obtain ⟨i0, hi, iz0, iz1, iz2⟩ := info_parts bxInfo
  go_enter Try.func73, Try.ntmps73
  go_wp2_with fail
  go_loopw [3, 4] (fun t i wr => ∃ (j : Nat) (v : Value), j ≤ n + 1 ∧ i = .int .i64 j ∧ v = t ∧ wr.ownsRow w.heap.size 25 2 v (rbQ n j).length (bxCells (rbQ n j)) ∧ Below w.heap.size w wr) (fun _ i _ => n + 1 - (intOf i).toNat)
  case atStart => exact ⟨0, _, Nat.zero_le _, rfl, rfl, World.ownsRow_nil _ _ _ _, Below.refl _ _⟩
  case round =>
    obtain ⟨j, v, hj, rfl, rfl, hO, hb⟩ := hrel
    have hz : w.heap.size ≤ wr.heap.size := hb.size
    have hle := rbQ_le n j
    have HO := Lib.hid hO
    have HB := Lib.hid hb
    obtain ⟨wi, rfl⟩ : ∃ wi : World, wi = wr := ⟨_, rfl⟩
    by_cases hlt : j < n + 1
    · have hjn : j ≤ n := by omega
      have hji : (j : Int) ≤ (n : Int) := by omega
      obtain ⟨d, hd⟩ : ∃ d : Nat, n - j = d := ⟨_, rfl⟩
      have hnj : (n : Int) - (j : Int) = (d : Int) := by omega
      have hwd : wrap64 (d : Int) = (d : Int) := w64N d (by omega)
      have hS := rbQ_succ n j
      have PR := Lib.hid (spRings_any j d (by omega))
      have hq : hasR n j = decide (0 < (bxR j d).length) := by rw [hasR, hd]
      have hrl := Nat.le_trans (bxR_le j d) (Nat.pow_le_pow_right (show 0 < 3 by decide) (show j + d ≤ 12 by omega))
      rw [hd] at hS
      generalize (bxR j d).length = L at *
      generalize hA : rbQ n j = A at *
      have HA := Lib.hid hA
      by_cases h0 : 0 < L
      · rw [hq, decide_eq_true h0] at hS
        have HS := Lib.hid hS
        have h0i : (0 : Int) < (L : Int) := by omega
        clear hO hS hA hq hrl hd
        go_wp2_with fail
        (go_at_call 97; (with_reducible refine (PR.out _).mono ?_); rintro e wA ⟨rfl, h1⟩; (try with_reducible replace h1 := undrew h1); have hB : Below w.heap.size w wA := ba (by go_grown) h1; obtain ⟨hcwA, hfwA⟩ := bcell h1; have hqwA := h1.size; (try simp at hqwA); (try have hz0wA : wi.heap.size < wA.heap.size := (by omega)); (try have he0wA : wi.heap.size ≤ wA.heap.size := (by omega)))
        have hbA : Below w.heap.size w wA := (HB.out.alloc hz (.cells #[.int .i64 (j : Int), .int .i64 (d : Int)] 25)).trans (h1.mono (by simp; omega))
        have HOA := Lib.hid (((HO.out.alloc (.cells #[.int .i64 (j : Int), .int .i64 (d : Int)] 25)).kept (below_grown h1) (by cases v.ownBlock <;> simp)).alloc (.cells #[.int .i64 (j : Int), .int .i64 (d : Int)] 25))
        have hzA := hbA.size
        have HBA := Lib.hid (hbA.alloc hzA (.cells #[.int .i64 (j : Int), .int .i64 (d : Int)] 25))
        have hnews := World.news_of_block (heap_alloc_new wA (.cells #[.int .i64 (j : Int), .int .i64 (d : Int)] 25))
        clear h1 hbA hb hB
        go_wp2_with (at_builtin; refine wpList_append_own_at _ rfl _ _ 46 rfl w.heap.size 25 i0 (.agg #[.int .i64 0, .int .i64 0]) 2 16 Try.underlying46 hi iz0 iz1 iz2 rfl (by decide) v _ _ rfl HOA.out ⟨wA.heap.size, 0, none⟩ 1 1 [.int .i64 (j : Int), .int .i64 (d : Int)] rfl rfl hnews (by intro u hu; simp at hu; rcases hu with rfl | rfl <;> rfl) (by unfold maxLen; omega) (by omega) (by simp; omega) ?_; intro v' w4 hown' hgrow hnil hloc)
        have hlt' := HOA.out.lt
        have HB8 := Lib.hid (HBA.out.grown hgrow (by simp; omega) (fun k hk => (hlt' k hk).1))
        have HO8 := Lib.hid hown'
        clear hlt' hgrow hown' hnil hloc hnews
        go_roundw
        case rel => exact ⟨j + 1, v', by omega, by go_num, rfl, by rw [HS.out]; simp only [if_true, bxCells_append, List.length_append]; exact HO8.out, HB8.out⟩
        case measure => simp [intOf]; omega
      · rw [hq, decide_eq_false h0] at hS
        have HS := Lib.hid hS
        obtain rfl : L = 0 := by omega
        clear hO hS hA hq hrl hd
        go_wp2_with fail
        (go_at_call 97; (with_reducible refine (PR.out _).mono ?_); rintro e wA ⟨rfl, h1⟩; (try with_reducible replace h1 := undrew h1); have hB : Below w.heap.size w wA := ba (by go_grown) h1; obtain ⟨hcwA, hfwA⟩ := bcell h1; have hqwA := h1.size; (try simp at hqwA); (try have hz0wA : wi.heap.size < wA.heap.size := (by omega)); (try have he0wA : wi.heap.size ≤ wA.heap.size := (by omega)))
        have HBA := Lib.hid ((HB.out.alloc hz (.cells #[.int .i64 (j : Int), .int .i64 (d : Int)] 25)).trans (h1.mono (by simp; omega)))
        have HOA := Lib.hid ((HO.out.alloc (.cells #[.int .i64 (j : Int), .int .i64 (d : Int)] 25)).kept (below_grown h1) (by cases v.ownBlock <;> simp))
        clear h1 hb hB
        go_wp2_with fail
        go_roundw
        case rel => exact ⟨j + 1, v, by omega, by go_num, rfl, by rw [HS.out]; exact HOA.out, HBA.out⟩
        case measure => simp [intOf]; omega
    · obtain rfl : j = n + 1 := by omega
      have hji : ¬ ((n + 1 : Nat) : Int) ≤ (n : Int) := by omega
      clear hO hb
      go_wp2_with fail
      go_ret
      exact ⟨_, rfl, HO.out, HB.out⟩

end Go.Proofs.Ytkmgcmgnaeamaaa

/- A label to which the run jumps ahead: a scope at whose end the label stands. -/
namespace Go.Proofs.Ytkmgcmgnaeamaaa

section
variable {P : Program} {a : Act} {w : World} {Q : Exit → Act → World → Prop} {l : Nat} {J : Act → World → Prop}
@[go_sem] theorem jump_normal : Exit.jump l J Q .normal a w = Q .normal a w := rfl

@[go_sem] theorem jump_exit (id : Nat) : Exit.jump l J Q (.exit id) a w = Q (.exit id) a w := rfl

@[go_sem] theorem jump_ret : Exit.jump l J Q .ret a w = Q .ret a w := rfl

@[go_sem] theorem jump_goto (l' : Nat) : Exit.jump l J Q (.goto l') a w = (l' = l ∧ J a w) := rfl

/-- The label stands at the scope's end: who jumps to it, goes on behind the scope. -/
theorem wp_scope_ahead {c : Code} (l : Nat) (hf : findLabel c l = some Code.skip) (first : c.wp P (Exit.jump l (fun a w => Q .normal a w) Q) a w) : (Code.scope c).wp P Q a w :=
  wp_scope_jumps l (fun a w => Q .normal a w) (fun _ _ => 0) hf first fun _ _ h => wp_skip h
end

end Go.Proofs.Ytkmgcmgnaeamaaa

/- Contracts: boxes of n pieces from which a ring is laid whole, in the model and in the program. -/
namespace Go.Proofs.Ytkmgcmgnaeamaaa
open Go.ChangeShapes Go.WideShapes Go.ChangeAt Go.RowKit Go.Sort

set_option linter.unusedVariables false
set_option linter.unusedSimpArgs false

/-- A list of boxes, perhaps none, and whether there is one. -/
def BXPost (l : List Bq) (b : Bool) (w : World) (e : Ending) (w' : World) : Prop :=
  ∃ v, e = .returned (.tuple #[v, .bool b]) ∧ w'.ownsRow w.heap.size 25 2 v l.length (bxCells l) ∧ Below w.heap.size w w'

theorem bxNo {w w' : World} (h : Below w.heap.size w w') : BXPost [] false w (.returned (.tuple #[.slice none 0 0, .bool false])) w' := ⟨_, rfl, World.ownsRow_nil _ _ _ _, h⟩

def rbG (n : Int) : Bool := inB n 1 12

def rbR (n : Int) : List Bq := cond (rbG n) (rbQ n.toNat (n.toNat + 1)) []

theorem rb_num {n : Int} (h : rbG n = true) : ∃ m : Nat, n = m ∧ 0 < m ∧ m ≤ 12 := by
  have g1 : 1 ≤ n ∧ n ≤ 12 := by simpa [rbG, inB] using h
  exact ⟨n.toNat, by omega, by omega, by omega⟩

theorem rbR_le (n : Int) : (rbR n).length ≤ 13 := by
  cases h : rbG n
  · simp [rbR, h]
  · obtain ⟨m, rfl, _, hm⟩ := rb_num h
    rw [rbR, h, Int.toNat_natCast]
    exact Nat.le_trans (rbQ_le m (m + 1)) (by omega)

theorem cls_ok {n : Nat} (hn : n ≤ 40) {r : List UInt8} (h : r ∈ clsL sp0 n) : tkB (ofL r) = true ∧ stN (ofL r) = cnt 83 r ∧ cvN (ofL r) = n - cnt 83 r ∧ cnt 83 r ≤ n := by
  have h1 := cls_iffB.1 h
  have e : (ofL r).data.toList = r := by simp [ofL]
  have := cnt_le 83 r
  refine ⟨tkB_ltr (by omega) h1.1.2, by rw [stN, e], by rw [cvN, e, ofL_size, h1.1.1], by omega⟩

theorem clsB_le {n : Nat} (hn : n ≤ 12) : (clsL sp0 n).length ≤ 531441 := by
  refine Nat.le_trans (List.length_filter_le _ _) ?_
  rw [words_count]
  exact Nat.pow_le_pow_right (by decide) hn

theorem fits_iff {n a k : Nat} (ha : a ≤ n) (hk : k ≤ n) : (((a : Int) == (k : Int)) && (((n - a : Nat) : Int) == ((n - k : Nat) : Int))) = decide (a = k) := by
  rw [Bool.eq_iff_iff]
  simp
  omega

set_option maxRecDepth 100000 in
theorem spRingBoxes (n : Int) (w : World) : Calls Try.prog 35 #[.int .i64 n] w (BXPost (rbR n) (rbG n) w) := by
  unfold rbR
  cases h : rbG n
  · have h1 : inB n 1 12 = false := h
    go_enter Try.func35, Try.ntmps35
    go_wp2_with (go_at_call 72; refine (l1In_any _ _ _ _).mono ?_; rintro e w' ⟨rfl, rfl⟩)
    go_ret2
    exact bxNo (by go_grown)
  · have h1 : inB n 1 12 = true := h
    obtain ⟨m, rfl, h0, hm⟩ := rb_num h
    rw [Int.toNat_natCast, cond_true]
    have P := Lib.hid (spRingBoxes_any m hm)
    unfold BoxPost at P
    generalize rbQ m (m + 1) = R at *
    go_enter Try.func35, Try.ntmps35
    go_wp2_with (go_at_call 72; refine (l1In_any _ _ _ _).mono ?_; rintro e w' ⟨rfl, rfl⟩)
    (with_reducible refine Calls.mono (P.out _) ?_)
    rintro e w1 ⟨v, rfl, hO, hb⟩
    have HO := Lib.hid hO
    have HB := Lib.hid hb
    obtain ⟨av, cv, rfl⟩ := own_formC hO
    clear hO hb
    go_wp2_with fail
    go_ret2
    exact ⟨_, rfl, HO.out, HB.out⟩

set_option maxRecDepth 100000 in
set_option maxHeartbeats 3200000 in
theorem imRingBoxes_any (n : Nat) (h0 : 0 < n) (hn : n ≤ 12) (w : World) : Calls Try.prog 36 #[.int .i64 (n : Nat)] w (BXPost (rbQ n (n + 1)) true w) := by
  obtain ⟨i0, hi, iz0, iz1, iz2⟩ := info_parts bxInfo
  have h1 : inB (n : Int) 1 12 = true := by simp [inB]; omega
  have CL := Lib.hid (fun w => (closings_any sp0 (sp0_ok.mono (by omega)) n (by omega) w : Calls Try.prog 68 #[.agg #[.int .i64 0, .int .i64 0, .int .i64 0, .int .i64 0, .int .i64 0], .int .i64 (n : Nat)] w (StrPost (clsL sp0 n) w)))
  have HR := Lib.hid (fun k (hk : k ≤ n) => hasR_iff h0 hk)
  have HOK := Lib.hid (fun r (hr : r ∈ clsL sp0 n) => cls_ok (by omega) hr)
  have hlen := clsB_le hn
  generalize clsL sp0 n = R at *
  obtain ⟨N, hN⟩ : ∃ N, R.length = N := ⟨_, rfl⟩
  have HN := Lib.hid hN
  rw [hN] at hlen
  clear hN
  go_enter Try.func36, Try.ntmps36
  go_wp2_with (go_at_call 74; refine (isInRange_any _ _ _ _).mono ?_; rintro e w' ⟨rfl, rfl⟩)
  refine (CL.out _).mono ?_
  rintro e w1 ⟨vR, rfl, oR, hb1⟩
  rw [HN.out] at oR
  obtain ⟨av, cv, rfl⟩ := own_formC oR
  have HB1 := Lib.hid hb1
  have HOR := Lib.hid oR
  clear hb1 oR
  go_wp2_with fail
  go_loopw [5, 18] (fun t i wr => ∃ (j : Nat) (v : Value), j ≤ n + 1 ∧ i = .int .i64 j ∧ v = t ∧ wr.ownsRow w1.heap.size 25 2 v (rbQ n j).length (bxCells (rbQ n j)) ∧ Below w1.heap.size w1 wr) (fun _ i _ => n + 1 - (intOf i).toNat)
  case atStart => exact ⟨0, _, Nat.zero_le _, rfl, rfl, World.ownsRow_nil _ _ _ _, Below.refl _ _⟩
  case round =>
    obtain ⟨j, v, hj, rfl, rfl, hO, hb⟩ := hrel
    have hz : w1.heap.size ≤ wr.heap.size := hb.size
    have hle := rbQ_le n j
    have HO := Lib.hid hO
    have HB := Lib.hid hb
    obtain ⟨wi, rfl⟩ : ∃ wi : World, wi = wr := ⟨_, rfl⟩
    clear hO hb
    by_cases hlt : j < n + 1
    · have hjn : j ≤ n := by omega
      have hdj : decide ((j : Int) < (n : Int) + 1) = true := by simp; omega
      obtain ⟨d, hd⟩ : ∃ d : Nat, n - j = d := ⟨_, rfl⟩
      have hnj : (n : Int) - (j : Int) = (d : Int) := by omega
      have hwd : wrap64 (d : Int) = (d : Int) := w64N d (by omega)
      have HS := Lib.hid (rbQ_succ n j)
      have HRJ := Lib.hid (HR.out j hjn)
      have HD := Lib.hid hd
      have hnb : v.ownBlock ≠ some wi.heap.size := own_nb HO.out
      have HNB := Lib.hid hnb
      have HO0 := Lib.hid (HO.out.alloc (.cells #[.int .i64 (j : Int), .int .i64 (d : Int)] 25))
      have HB0 := Lib.hid (HB.out.alloc hz (.cells #[.int .i64 (j : Int), .int .i64 (d : Int)] 25))
      have b0 := heap_alloc_new wi (.cells #[.int .i64 (j : Int), .int .i64 (d : Int)] 25)
      have HBK := Lib.hid b0
      clear hd hnb b0
      go_wp2_with fail
      refine wp_scope_ahead 0 (by rfl) ?_
      go_wp2_with fail
      generalize hW0 : wi.alloc (.cells #[.int .i64 (j : Int), .int .i64 (d : Int)] 25) = W0 at *
      have hzW : W0.heap.size = wi.heap.size + 1 := by rw [← hW0]; simp
      obtain ⟨B, hB⟩ : ∃ B, wi.heap.size = B := ⟨_, rfl⟩
      rw [hB] at HBK HNB hzW ⊢
      have hBW : B < W0.heap.size := by omega
      have hzB : w1.heap.size ≤ B := by omega
      clear hW0 hzW hB
      go_loopw [5, 28] (fun u i wr => ∃ q : Nat, q ≤ N ∧ i = .int .i64 q ∧ v = u ∧ (∀ t r, t < q → R[t]? = some r → cnt 83 r ≠ j) ∧ Below W0.heap.size W0 wr) (fun _ i _ => N - (intOf i).toNat)
      case atStart => exact ⟨0, Nat.zero_le _, rfl, rfl, fun t r ht => absurd ht (by omega), Below.refl _ _⟩
      case round =>
        obtain ⟨q, hq, rfl, rfl, hno, hbq⟩ := hrel
        have HNO := Lib.hid hno
        have HBQ := Lib.hid hbq
        have hzq := hbq.size
        obtain ⟨c0, c1⟩ := blk2 ((hbq.block B hBW).trans HBK.out)
        by_cases hql : q < N
        · obtain ⟨r, hr⟩ : ∃ r, R[q]? = some r := ⟨_, List.getElem?_eq_getElem (by rw [HN.out]; exact hql)⟩
          obtain ⟨t1, t2, t3, t4⟩ := HOK.out r (List.mem_of_getElem? hr)
          obtain ⟨g, rfl⟩ : ∃ g, av = some ⟨g, 0, none⟩ := by
            rcases HOR.out.2 with ⟨h, h0⟩ | ⟨g, cap, _, h, _⟩
            · omega
            · injection h with h; exact ⟨g, h⟩
          have hgl := (HOR.out.lt g rfl).2
          have cr := ((str_of HOR.out HN.out).below (HOR.out.lt g rfl).2 (HB0.out.trans (hbq.mono HB0.out.size)) q r hr)
          have NO := needsOf_any (ofL r) t1
          rw [t2, t3] at NO
          have NOH := Lib.hid NO
          have SU := Lib.hid (boxSupply_any ⟨(j : Int), (d : Int)⟩)
          have hfit := fits_iff t4 hjn
          rw [HD.out] at hfit
          have HRR := Lib.hid hr
          have HMM := Lib.hid (List.mem_of_getElem? hr)
          obtain ⟨wq, rfl⟩ : ∃ wq : World, wq = wr := ⟨_, rfl⟩
          have hBq : B < wq.heap.size := by omega
          have hBw : Below w.heap.size w wq := HB1.out.trans ((HB0.out.trans (hbq.mono HB0.out.size)).mono HB1.out.size)
          have HOq := Lib.hid (HO0.out.kept (below_grown hbq) (by cases v.ownBlock <;> simp))
          have HBq := Lib.hid (HB0.out.trans (hbq.mono HB0.out.size))
          have hzq1 : w1.heap.size ≤ wq.heap.size := HBq.out.size
          by_cases hc : cnt 83 r = j
          · have NO2 : ∀ w, Calls Try.prog 56 #[.string (ofL r)] w fun e w' => e = .returned (bv ⟨(j : Int), (d : Int)⟩) ∧ Below w.heap.size w w' := fun w => by
              have := NOH.out w
              rw [hc, HD.out] at this
              exact this
            have HC := Lib.hid hc
            have NOH := Lib.hid NO2
            clear hno hbq hr NO NO2 t1 t2 t3 t4 hc hfit
            go_wp2_with fail
            refine absWB (F := fun X => (X.cell? ⟨B, 0, none⟩ = some (.int .i64 (j : Int))) ∧ (X.cell? ⟨B, 1, none⟩ = some (.int .i64 (d : Int))) ∧ (Below wq.heap.size wq X) ∧ Below w.heap.size w X) ⟨by go_simp, by go_simp, Below.refl _ _, by go_grown⟩ ?_
            rintro X ⟨cb0_0, cb1_1, hqX, HB⟩
            have kb0_0 := fun d os => cell_regrown cb0_0 d os
            have kb1_1 := fun d os => cell_regrown cb1_1 d os
            refine wp_region_quiet_below (by kernel_rfl) (by kernel_rfl) ?_
            repeat (quiet_step (first | (go_at_call 56; with_reducible exact Calls.regrown_of (NOH.out _)) | (go_at_call 58; with_reducible exact Calls.regrown_of (SU.out _))))
            refine wpQuiet_nil ?_
            rintro _ ⟨⟨dq, osq⟩, rfl⟩
            have hbwz := below_regrown X dq osq
            generalize grow (redrawn X dq) osq = wz at hbwz ⊢
            obtain ⟨hcwz, hfwz⟩ := bcell hbwz
            have hlwz := hbwz.size
            replace HB := ba HB hbwz
            have hqz := ba hqX hbwz
            have hzz := hqz.size
            have HOA := Lib.hid ((HOq.out.kept (below_grown hqz) (by cases v.ownBlock <;> simp)).alloc (.cells #[.int .i64 (j : Int), .int .i64 (d : Int)] 25))
            have HBA := Lib.hid ((HBq.out.trans (hqz.mono hzq1)).alloc (by omega) (.cells #[.int .i64 (j : Int), .int .i64 (d : Int)] 25))
            have hnews := World.news_of_block (heap_alloc_new wz (.cells #[.int .i64 (j : Int), .int .i64 (d : Int)] 25))
            have e0 : wz.cell? ⟨B, 0, none⟩ = some (.int .i64 (j : Int)) := by rw [hqz.cell (p := ⟨B, 0, none⟩) hBq]; exact c0
            have e1 : wz.cell? ⟨B, 1, none⟩ = some (.int .i64 (d : Int)) := by rw [hqz.cell (p := ⟨B, 1, none⟩) hBq]; exact c1
            clear hcwz hfwz hqX hqz hbwz hBw HB kb0_0 kb1_1 cb0_0 cb1_1
            go_wp2_with (at_builtin; refine wpList_append_own_at _ rfl _ _ 46 rfl w1.heap.size 25 i0 (.agg #[.int .i64 0, .int .i64 0]) 2 16 Try.underlying46 hi iz0 iz1 iz2 rfl (by decide) v _ _ rfl HOA.out ⟨wz.heap.size, 0, none⟩ 1 1 [.int .i64 (j : Int), .int .i64 (d : Int)] rfl rfl hnews (by intro u hu; simp at hu; rcases hu with rfl | rfl <;> rfl) (by unfold maxLen; omega) (by omega) (by simp; omega) ?_; intro v' w4 hown' hgrow hnil hloc)
            have hlt' := HOA.out.lt
            have HB8 := Lib.hid (HBA.out.grown hgrow (by simp; omega) (fun k hk => (hlt' k hk).1))
            have HO8 := Lib.hid hown'
            have HSY := Lib.hid (show rbQ n (j + 1) = rbQ n j ++ [⟨(j : Int), (d : Int)⟩] by
              rw [HS.out, HRJ.out.2 ⟨r, HMM.out, HC.out⟩, HD.out]; rfl)
            clear hlt' hgrow hown' hnil hloc hnews
            go_step3
            go_wp2_with fail
            rw [jump_goto]
            refine ⟨rfl, ?_⟩
            go_wp2_with fail
            go_roundw
            case rel => exact ⟨j + 1, v', by omega, by go_num, rfl, by rw [HSY.out, bxCells_append, List.length_append]; exact HO8.out, HB8.out⟩
            case measure => simp [intOf]; omega
          · have HC := Lib.hid hc
            have hab : ((cnt 83 r : Int) == (j : Int)) = false := by simp; omega
            have hab2 : ¬ cnt 83 r = j := hc
            clear hfit
            generalize hca : cnt 83 r = a at *
            have HCA := Lib.hid hca
            generalize n - a = e at *
            clear hno hbq hr NO t1 t2 t3 t4 hc hca
            go_wp2_with fail
            refine absWB (F := fun X => (X.cell? ⟨B, 0, none⟩ = some (.int .i64 (j : Int))) ∧ (X.cell? ⟨B, 1, none⟩ = some (.int .i64 (d : Int))) ∧ (Below wq.heap.size wq X) ∧ Below w.heap.size w X) ⟨by go_simp, by go_simp, Below.refl _ _, by go_grown⟩ ?_
            rintro X ⟨cb0_0, cb1_1, hqX, HB⟩
            have kb0_0 := fun d os => cell_regrown cb0_0 d os
            have kb1_1 := fun d os => cell_regrown cb1_1 d os
            refine wp_region_quiet_below (by kernel_rfl) (by kernel_rfl) ?_
            repeat (quiet_step (first | (go_at_call 56; with_reducible exact Calls.regrown_of (NOH.out _)) | (go_at_call 58; with_reducible exact Calls.regrown_of (SU.out _))))
            refine wpQuiet_nil ?_
            rintro _ ⟨⟨dq, osq⟩, rfl⟩
            have hbwz := below_regrown X dq osq
            generalize grow (redrawn X dq) osq = wz at hbwz ⊢
            obtain ⟨hcwz, hfwz⟩ := bcell hbwz
            have hlwz := hbwz.size
            replace HB := ba HB hbwz
            have hqz := Lib.hid (HBQ.out.trans ((ba hqX hbwz).mono hzq))
            clear hcwz hfwz hqX hbwz hBw HB kb0_0 kb1_1 cb0_0 cb1_1
            go_wp2_with fail
            go_roundw
            case rel =>
              refine ⟨q + 1, by omega, ?_, rfl, fun t x ht hx => ?_, hqz.out⟩
              · go_num
              · by_cases hq2 : t = q
                · subst hq2
                  rw [HRR.out] at hx
                  injection hx with hx
                  subst hx
                  rw [HCA.out]; exact HC.out
                · exact HNO.out t x (by omega) hx
            case measure => simp [intOf]; omega
        · obtain rfl : q = N := by omega
          have hf : hasR n j = false := by
            cases hh : hasR n j
            · rfl
            · obtain ⟨x, hx, hxc⟩ := HRJ.out.1 hh
              obtain ⟨t, ht⟩ := List.mem_iff_getElem?.1 hx
              exact absurd hxc (HNO.out t x (by have := (List.getElem?_eq_some_iff.1 ht).1; rw [HN.out] at this; exact this) ht)
          have HSF := Lib.hid (show rbQ n (j + 1) = rbQ n j by rw [HS.out, hf]; rfl)
          have HO8 := Lib.hid (HO0.out.kept (below_grown hbq) (by cases v.ownBlock <;> simp))
          have HB8 := Lib.hid (HB0.out.trans (hbq.mono HB0.out.size))
          clear hno hbq hf c0 c1
          go_wp2_with fail
          go_step3
          go_wp2_with fail
          rw [jump_normal]
          go_wp2_with fail
          go_roundw
          case rel => exact ⟨j + 1, v, by omega, by go_num, rfl, by rw [HSF.out]; exact HO8.out, HB8.out⟩
          case measure => simp [intOf]; omega
    · obtain rfl : j = n + 1 := by omega
      have HO2 := Lib.hid (own_lessP HO.out HB1.out.size)
      have HBF := Lib.hid (HB1.out.trans (HB.out.mono HB1.out.size))
      obtain ⟨av', cv', rfl⟩ := own_formC HO.out
      go_wp2_with fail
      go_ret2
      exact ⟨_, rfl, HO2.out, HBF.out⟩

theorem imRingBoxes (n : Int) (w : World) : Calls Try.prog 36 #[.int .i64 n] w (BXPost (rbR n) (rbG n) w) := by
  unfold rbR
  cases h : rbG n
  · have h1 : inB n 1 12 = false := h
    go_enter Try.func36, Try.ntmps36
    go_wp2_with (go_at_call 74; refine (isInRange_any _ _ _ _).mono ?_; rintro e w' ⟨rfl, rfl⟩)
    go_ret2
    exact bxNo (by go_grown)
  · obtain ⟨m, rfl, h0, hm⟩ := rb_num h
    rw [Int.toNat_natCast, cond_true]
    exact imRingBoxes_any m h0 hm w

end Go.Proofs.Ytkmgcmgnaeamaaa

/- Contracts: lists of boxes compared, marked and looked at again, in the laws. -/
namespace Go.Proofs.Ytkmgcmgnaeamaaa
open Go.ChangeShapes Go.WideShapes Go.ChangeAt Go.RowKit Go.Sort

set_option linter.unusedVariables false
set_option linter.unusedSimpArgs false

set_option maxRecDepth 100000 in
set_option maxHeartbeats 1600000 in
theorem eqBoxS_same (g c g' c' n : Nat) (l : List Bq) (hn : l.length = n) (hb : n ≤ 2000000) (w : World) (hg : g < w.heap.size) (hg' : g' < w.heap.size) (h1 : BoxAt w g l) (h2 : BoxAt w g' l) :
    Calls Try.prog 37 #[.slice (some ⟨g, 0, none⟩) n c, .slice (some ⟨g', 0, none⟩) n c'] w fun e w' => e = .returned (.bool true) ∧ Below w.heap.size w w' := by
  have HN := Lib.hid hn
  have H1 := Lib.hid h1
  have H2 := Lib.hid h2
  clear hn h1 h2
  go_enter Try.func37, Try.ntmps37
  go_wp2_with fail
  go_loopw [5] (fun i wr => ∃ k : Nat, k ≤ n ∧ i = .int .i64 k ∧ Below w.heap.size w wr) (fun i _ => n - (intOf i).toNat)
  case atStart => exact ⟨0, Nat.zero_le _, rfl, Below.refl _ _⟩
  case round =>
    obtain ⟨k, hk, rfl, hB⟩ := hrel
    by_cases hlt : k < n
    · obtain ⟨p, hp⟩ : ∃ p, l[k]? = some p := ⟨_, List.getElem?_eq_getElem (by rw [HN.out]; exact hlt)⟩
      obtain ⟨c0, c1⟩ := (H1.out.below hg hB) k p hp
      obtain ⟨d0, d1⟩ := (H2.out.below hg' hB) k p hp
      obtain ⟨x0, x1⟩ := p
      simp only at c0 c1 d0 d1
      have hS0 : wr.cell? ⟨g, k * 2, none⟩ = some (.int .i64 x0) ∧ wr.cell? ⟨g, k * 2 + 1, none⟩ = some (.int .i64 x1) ∧ wr.cell? ⟨g', k * 2, none⟩ = some (.int .i64 x0) ∧ wr.cell? ⟨g', k * 2 + 1, none⟩ = some (.int .i64 x1) := ⟨c0, c1, d0, d1⟩
      have hz := hB.size
      have hgr : g < wr.heap.size := by omega
      have hgr' : g' < wr.heap.size := by omega
      have j1 : (0 : Int) ≤ (k : Int) := by omega
      have j2 : (k : Int) < (n : Int) := by omega
      clear hp c0 c1 d0 d1
      have j3 : k < n := hlt
      go_wp2_with fail
      refine absWB (F := fun X => ((X.cell? ⟨g, k * 2, none⟩ = some (.int .i64 x0) ∧ X.cell? ⟨g, k * 2 + 1, none⟩ = some (.int .i64 x1)) ∧ (X.cell? ⟨g', k * 2, none⟩ = some (.int .i64 x0) ∧ X.cell? ⟨g', k * 2 + 1, none⟩ = some (.int .i64 x1))) ∧ Below w.heap.size w X) ⟨⟨⟨hS0.1, hS0.2.1⟩, ⟨hS0.2.2.1, hS0.2.2.2⟩⟩, hB⟩ ?_
      rintro X ⟨⟨⟨c0, c1⟩, ⟨d0, d1⟩⟩, HB⟩
      have k0 := fun d os => cell_regrown c0 d os
      have k1 := fun d os => cell_regrown c1 d os
      have k2 := fun d os => cell_regrown d0 d os
      have k3 := fun d os => cell_regrown d1 d os
      refine wp_region_quiet_below (by kernel_rfl) (by kernel_rfl) ?_
      repeat (quiet_step (first | (go_at_call 21; with_reducible exact Calls.regrown_of (eqBox_same x0 x1 _))))
      refine wpQuiet_nil ?_
      rintro _ ⟨⟨dq, osq⟩, rfl⟩
      have hbwz := below_regrown X dq osq
      generalize grow (redrawn X dq) osq = wz at hbwz ⊢
      obtain ⟨hcwz, hfwz⟩ := bcell hbwz
      have hlwz := hbwz.size
      replace HB := ba HB hbwz
      clear k0 k1 k2 k3 c0 c1 d0 d1 hcwz hfwz hB hS0
      have hB := HB
      clear HB
      go_wp2_with fail
      go_roundw
      case rel => exact ⟨k + 1, by omega, by go_num, hB⟩
      case measure => simp [intOf]; omega
    · go_wp2_with fail
      go_ret
      exact ⟨rfl, hB⟩

theorem eqBoxS_nil (w : World) : Calls Try.prog 37 #[.slice none 0 0, .slice none 0 0] w fun e w' => e = .returned (.bool true) ∧ w = w' := by
  go_enter Try.func37, Try.ntmps37
  go_wp2_with fail
  refine wp_loop_rounds 1 ?_
  rw [rounds_succ]
  go_wp2_with fail
  go_ret
  exact ⟨rfl, rfl⟩

theorem markBoxS_nil (w : World) : Calls Try.prog 38 #[.slice none 0 0, .int .i64 1] w fun e w' => e = .returned (.int .i64 1) ∧ w = w' := by
  go_enter Try.func38, Try.ntmps38
  go_wp2_with fail
  refine wp_loop_rounds 1 ?_
  rw [rounds_succ]
  go_wp2_with fail
  go_ret
  exact ⟨rfl, rfl⟩

theorem heldBoxS_nil (w : World) : Calls Try.prog 39 #[.slice none 0 0, .int .i64 1] w fun e w' => e = .returned (.int .i64 1) ∧ w = w' := by
  go_enter Try.func39, Try.ntmps39
  go_wp2_with fail
  refine wp_loop_rounds 1 ?_
  rw [rounds_succ]
  go_wp2_with fail
  go_ret
  exact ⟨rfl, rfl⟩

theorem rowK_set {wr : World} {g m : Nat} (h : RowK wr g m 1) {v : Value} (hv : wr.cell? ⟨g, m, none⟩ = some v) : RowK (wr.setCell ⟨g, m, none⟩ (.int .i64 (1 + (m : Int)))) g (m + 1) 1 := fun j hj => by
  by_cases e : m = j
  · subst e
    rw [World.cell?_setCell_same (h := hv)]
  · rw [World.cell?_setCell_other (h := fun h => e (by injection h))]
    exact h j (by omega)

theorem cell_set {wr : World} {g m j : Nat} {v u : Value} (h : wr.cell? ⟨g, j, none⟩ = some v) (hne : m ≠ j) : (wr.setCell ⟨g, m, none⟩ u).cell? ⟨g, j, none⟩ = some v := by
  rw [World.cell?_setCell_other (h := fun h => hne (by injection h))]; exact h

theorem rowK_set2 {wr : World} {g k : Nat} (h : RowK wr g (k * 2) 1) {v0 v1 : Value} (h0 : wr.cell? ⟨g, k * 2, none⟩ = some v0) (h1 : wr.cell? ⟨g, k * 2 + 1, none⟩ = some v1)
    {a b : Int} (ea : a = 1 + 2 * (k : Int)) (eb : b = 1 + 2 * (k : Int) + 1) :
    RowK ((wr.setCell ⟨g, k * 2, none⟩ (.int .i64 a)).setCell ⟨g, k * 2 + 1, none⟩ (.int .i64 b)) g ((k + 1) * 2) 1 := by
  obtain rfl : a = 1 + ((k * 2 : Nat) : Int) := by omega
  obtain rfl : b = 1 + ((k * 2 + 1 : Nat) : Int) := by omega
  have r0 := rowK_set h h0
  have r1 := rowK_set r0 (cell_set h1 (by omega))
  rw [show (k + 1) * 2 = k * 2 + 1 + 1 by omega]
  exact r1

theorem jt_cells {w : World} {g : Nat} {l : List Bq} (h : BoxAt w g l) {k : Nat} (hk : k < l.length) : ∃ v0 v1, w.cell? ⟨g, k * 2, none⟩ = some v0 ∧ w.cell? ⟨g, k * 2 + 1, none⟩ = some v1 := by
  obtain ⟨a, b⟩ := h k _ (List.getElem?_eq_getElem hk)
  exact ⟨_, _, a, b⟩

set_option maxRecDepth 100000 in
set_option maxHeartbeats 1600000 in
theorem markBoxS_any (g c n : Nat) (l : List Bq) (hn : l.length = n) (hb : n ≤ 2000000) (w : World) (h1 : BoxAt w g l) (hf : FreeR w g (n * 2)) :
    Calls Try.prog 38 #[.slice (some ⟨g, 0, none⟩) n c, .int .i64 1] w fun e w' => e = .returned (.int .i64 (1 + 2 * (n : Int))) ∧ RowK w' g (n * 2) 1 ∧ w.grownBy w' (some g) := by
  have HN := Lib.hid hn
  have H1 := Lib.hid h1
  have HF := Lib.hid hf
  clear hn h1 hf
  go_enter Try.func38, Try.ntmps38
  go_wp2_with fail
  go_loopw [1, 5] (fun t i wr => ∃ k : Nat, k ≤ n ∧ i = .int .i64 k ∧ t = .int .i64 (1 + 2 * (k : Int)) ∧ RowK wr g (k * 2) 1 ∧ (∀ j : Nat, k * 2 ≤ j → wr.cell? ⟨g, j, none⟩ = w.cell? ⟨g, j, none⟩) ∧ FreeR wr g (n * 2) ∧ w.grownBy wr (some g)) (fun _ i _ => n - (intOf i).toNat)
  case atStart => exact ⟨0, Nat.zero_le _, rfl, rfl, fun j hj => absurd hj (by omega), fun _ _ => rfl, HF.out, World.grownBy.refl _ _⟩
  case round =>
    obtain ⟨k, hk, rfl, rfl, r1, r2, r3, hG⟩ := hrel
    have R1 := Lib.hid r1
    have R2 := Lib.hid r2
    have R3 := Lib.hid r3
    have HG := Lib.hid hG
    clear r1 r2 r3 hG
    by_cases hlt : k < n
    · obtain ⟨v0, v1, e0, e1⟩ := jt_cells H1.out (k := k) (by rw [HN.out]; exact hlt)
      have c0 := (R2.out (k * 2) (by omega)).trans e0
      have c1 := (R2.out (k * 2 + 1) (by omega)).trans e1
      have f0 := R3.out (k * 2) (by omega)
      have f1 := R3.out (k * 2 + 1) (by omega)
      have C := Lib.hid (And.intro c0 c1)
      clear e0 e1
      go_wp2_with fail
      go_roundw
      case rel =>
        refine ⟨k + 1, by omega, by go_num, by congr 1, rowK_set2 R1.out C.out.1 C.out.2 rfl rfl, fun j hj => ?_, fun j hj => ?_, set_grown (set_grown HG.out _ _) _ _⟩
        · rw [World.cell?_setCell_other (h := fun h => absurd (by injection h) (show ¬ k * 2 + 1 = j by omega)), World.cell?_setCell_other (h := fun h => absurd (by injection h) (show ¬ k * 2 = j by omega))]
          exact R2.out j (by omega)
        · rw [World.frozen?_setCell, World.frozen?_setCell]
          exact R3.out j hj
      case measure => simp [intOf]; omega
    · obtain rfl : k = n := by omega
      go_wp2_with fail
      go_ret
      exact ⟨rfl, R1.out, HG.out⟩

set_option maxRecDepth 100000 in
set_option maxHeartbeats 800000 in
theorem heldBoxS_any (g c n : Nat) (hb : n ≤ 2000000) (w : World) (h1 : RowK w g (n * 2) 1) :
    Calls Try.prog 39 #[.slice (some ⟨g, 0, none⟩) n c, .int .i64 1] w fun e w' => e = .returned (.int .i64 (1 + 2 * (n : Int))) ∧ w = w' := by
  have H1 := Lib.hid h1
  clear h1
  go_enter Try.func39, Try.ntmps39
  go_wp2_with fail
  go_loop [1, 5] (fun t i => ∃ k : Nat, k ≤ n ∧ i = .int .i64 k ∧ t = .int .i64 (1 + 2 * (k : Int))) (fun _ i => n - (intOf i).toNat)
  case atStart => exact ⟨0, Nat.zero_le _, rfl, rfl⟩
  case round =>
    obtain ⟨k, hk, rfl, rfl⟩ := hrel
    by_cases hlt : k < n
    · have c0 : w.cell? ⟨g, k * 2, none⟩ = some (.int .i64 (1 + 2 * (k : Int))) := by rw [H1.out (k * 2) (by omega)]; congr 2; omega
      have c1 : w.cell? ⟨g, k * 2 + 1, none⟩ = some (.int .i64 (1 + 2 * (k : Int) + 1)) := by rw [H1.out (k * 2 + 1) (by omega)]; congr 2; omega
      go_wp2_with fail
      go_round
      case rel => exact ⟨k + 1, by omega, by go_num, by congr 1⟩
      case measure => simp [intOf]; omega
    · obtain rfl : k = n := by omega
      go_wp2_with fail
      go_ret
      exact ⟨rfl, rfl⟩

end Go.Proofs.Ytkmgcmgnaeamaaa

/- Contracts: lists of boxes that a call has handed back, perhaps empty: compared, marked and looked at again. -/
namespace Go.Proofs.Ytkmgcmgnaeamaaa
open Go.ChangeShapes Go.WideShapes Go.ChangeAt Go.RowKit Go.Sort

set_option linter.unusedVariables false
set_option linter.unusedSimpArgs false

/-- A list of boxes that a call has handed back. -/
def BoxV (w : World) (v : Value) (l : List Bq) : Prop := ∃ av cap, v = .slice av l.length cap ∧ (l = [] ∨ ∃ g, av = some ⟨g, 0, none⟩ ∧ g < w.heap.size ∧ BoxAt w g l)

theorem boxV_own {W : World} {B : Nat} {v : Value} {l : List Bq} (h : W.ownsRow B 25 2 v l.length (bxCells l)) : BoxV W v l := by
  have h0 := h
  rcases h.2 with ⟨rfl, h2⟩ | ⟨g, cap, cur, rfl, _⟩
  · exact ⟨none, 0, by rw [h2], .inl (List.eq_nil_of_length_eq_zero h2)⟩
  · exact ⟨_, cap, rfl, .inr ⟨g, rfl, (h0.lt g rfl).2, box_of h0 rfl⟩⟩

theorem BoxV.below {w w' : World} {v : Value} {l : List Bq} (h : BoxV w v l) (hb : Below w.heap.size w w') : BoxV w' v l := by
  obtain ⟨av, cap, rfl, h⟩ := h
  refine ⟨av, cap, rfl, h.imp id ?_⟩
  rintro ⟨g, rfl, hg, hs⟩
  exact ⟨g, rfl, Nat.lt_of_lt_of_le hg hb.size, hs.below hg hb⟩

theorem BoxV.grown {w w' : World} {v : Value} {l : List Bq} {row : Option Nat} (h : BoxV w v l) (hg : w.grownBy w' row) (hne : v.ownBlock = none ∨ v.ownBlock ≠ row) : BoxV w' v l := by
  obtain ⟨av, cap, rfl, h⟩ := h
  refine ⟨av, cap, rfl, h.imp id ?_⟩
  rintro ⟨g, rfl, hlt, hs⟩
  have hne' : some g ≠ row := by
    rcases hne with h | h
    · cases h
    · exact h
  exact ⟨g, rfl, Nat.lt_of_lt_of_le hlt hg.size, fun i u hu => ⟨hg.cell (hs i u hu).1 hne', hg.cell (hs i u hu).2 hne'⟩⟩

theorem freeB_own {W : World} {B : Nat} {v : Value} {l : List Bq} (h : W.ownsRow B 25 2 v l.length (bxCells l)) : ∀ g, v.ownBlock = some g → FreeR W g (l.length * 2) := by
  intro g hg j hj
  rcases h.2 with ⟨rfl, _⟩ | ⟨g', cap, cur, rfl, _⟩
  · cases hg
  · simp only [Value.ownBlock, Option.some.injEq] at hg
    subst hg
    exact h.frozenAt j

set_option maxRecDepth 100000 in
theorem eqBoxV_same (v v' : Value) (l : List Bq) (hb : l.length ≤ 1000000) (w : World) (h1 : BoxV w v l) (h2 : BoxV w v' l) :
    Calls Try.prog 37 #[v, v'] w fun e w' => e = .returned (.bool true) ∧ Below w.heap.size w w' := by
  obtain ⟨av, cap, rfl, h1⟩ := h1
  obtain ⟨av', cap', rfl, h2⟩ := h2
  obtain ⟨n, hn⟩ : ∃ n, l.length = n := ⟨_, rfl⟩
  rw [hn] at hb ⊢
  by_cases h0 : n = 0
  · subst h0
    go_enter Try.func37, Try.ntmps37
    go_wp2_with fail
    refine wp_loop_rounds 1 ?_
    rw [rounds_succ]
    go_wp2_with fail
    go_ret
    exact ⟨rfl, Below.refl _ _⟩
  · have hne : l ≠ [] := fun h => h0 (by rw [← hn, h]; rfl)
    obtain ⟨g, rfl, hg, s1⟩ := h1.resolve_left hne
    obtain ⟨g', rfl, hg', s2⟩ := h2.resolve_left hne
    exact eqBoxS_same g cap g' cap' n l hn (by omega) w hg hg' s1 s2

set_option maxRecDepth 100000 in
theorem markBoxV (v : Value) (l : List Bq) (hb : l.length ≤ 900000) (w : World) (h1 : BoxV w v l) (hf : ∀ g, v.ownBlock = some g → FreeR w g (l.length * 2)) :
    Calls Try.prog 38 #[v, .int .i64 1] w fun e w' => e = .returned (.int .i64 (1 + 2 * (l.length : Int))) ∧ (∀ g, v.ownBlock = some g → RowK w' g (l.length * 2) 1) ∧ w.grownBy w' v.ownBlock := by
  obtain ⟨av, cap, rfl, h1⟩ := h1
  obtain ⟨n, hn⟩ : ∃ n, l.length = n := ⟨_, rfl⟩
  rw [hn] at hb hf ⊢
  by_cases h0 : n = 0
  · subst h0
    go_enter Try.func38, Try.ntmps38
    go_wp2_with fail
    refine wp_loop_rounds 1 ?_
    rw [rounds_succ]
    go_wp2_with fail
    go_ret
    exact ⟨rfl, fun _ _ j hj => absurd hj (by omega), World.grownBy.refl _ _⟩
  · have hne : l ≠ [] := fun h => h0 (by rw [← hn, h]; rfl)
    obtain ⟨g, rfl, hg, s1⟩ := h1.resolve_left hne
    refine (markBoxS_any g cap n l hn (by omega) w s1 (hf g rfl)).mono ?_
    rintro e w' ⟨he, hk, hg2⟩
    exact ⟨he, fun g' h => by simp only [Value.ownBlock, Option.some.injEq] at h; subst h; exact hk, hg2⟩

set_option maxRecDepth 100000 in
theorem heldBoxV (av : Option Addr) (n cap : Nat) (hb : n ≤ 900000) (w : World) (h1 : n = 0 ∨ ∃ g, av = some ⟨g, 0, none⟩ ∧ g < w.heap.size ∧ RowK w g (n * 2) 1) :
    Calls Try.prog 39 #[.slice av n cap, .int .i64 1] w fun e w' => e = .returned (.int .i64 (1 + 2 * (n : Int))) ∧ Below w.heap.size w w' := by
  by_cases h0 : n = 0
  · subst h0
    go_enter Try.func39, Try.ntmps39
    go_wp2_with fail
    refine wp_loop_rounds 1 ?_
    rw [rounds_succ]
    go_wp2_with fail
    go_ret
    exact ⟨rfl, Below.refl _ _⟩
  · obtain ⟨g, rfl, hg, s1⟩ := h1.resolve_left h0
    refine (heldBoxS_any g cap n (by omega) w s1).mono ?_
    rintro e w' ⟨he, rfl⟩
    exact ⟨he, Below.refl _ _⟩

end Go.Proofs.Ytkmgcmgnaeamaaa

/- Contracts: prices, missing pieces and counts of tracks, in the model and in the program. -/
namespace Go.Proofs.Ytkmgcmgnaeamaaa
open Go.ChangeShapes Go.WideShapes Go.ChangeAt Go.RowKit Go.Sort

set_option linter.unusedVariables false
set_option linter.unusedSimpArgs false

set_option maxRecDepth 100000 in
theorem spPriceOf (b : Bq) (s c : Int) (w : World) : Calls Try.prog 47 #[bv b, .int .i64 s, .int .i64 c] w fun e w' => e = .returned (.tuple #[.int .i64 (prR b s c), .bool (prG b s c)]) ∧ Below w.heap.size w w' := by
  have PB := Lib.hid (spBox_any b)
  have PR := Lib.hid (spPrices_any s c)
  unfold prR prG
  cases hb : bxB 40 b
  · rw [hb] at PB
    clear hb
    go_enter Try.func47, Try.ntmps47
    go_wp2_with (go_at_call 51; refine (PB.out _).mono ?_; rintro e w1 ⟨rfl, h1⟩; have hB : Below w.heap.size w w1 := ba (by go_grown) h1; obtain ⟨hc1, hf1⟩ := bcell h1; have hq := h1.size; (try simp at hq); have hz0 : w.heap.size < w1.heap.size := (by omega); have HK1 := Lib.hid h1; clear h1 hq)
    go_returns
    exact ⟨rfl, by go_grown⟩
  · cases hp : (inB s 0 1000 && inB c 0 1000)
    · rw [hb] at PB
      rw [hp] at PR
      clear hb hp
      go_enter Try.func47, Try.ntmps47
      go_wp2_with (first | (go_at_call 51; refine (PB.out _).mono ?_; rintro e w1 ⟨rfl, h1⟩; have hB : Below w.heap.size w w1 := ba (by go_grown) h1; obtain ⟨hc1, hf1⟩ := bcell h1; have hq := h1.size; (try simp at hq); have hz0 : w.heap.size < w1.heap.size := (by omega); have HK1 := Lib.hid h1; clear h1 hq) | (go_at_call 84; refine (PR.out _).mono ?_; rintro e w' ⟨rfl, rfl⟩))
      go_returns
      exact ⟨rfl, by go_grown⟩
    · obtain ⟨b0, b1, b2⟩ := bxB_yes hb
      have hs' : (0 ≤ s ∧ s ≤ 1000) ∧ (0 ≤ c ∧ c ≤ 1000) := by simpa [inB] using hp
      rw [hb] at PB
      rw [hp] at PR
      obtain ⟨x, r⟩ := b
      simp only at b0 b1 b2
      obtain ⟨p0, p1⟩ := pr_bd b0 (by omega) hs'.1.1 hs'.1.2
      obtain ⟨q0, q1⟩ := pr_bd b1 (by omega) hs'.2.1 hs'.2.2
      have e0 : wrap64 (x * s) = x * s := IntWalk.wrap64_in _ ⟨by omega, by omega⟩
      have e1 : wrap64 (r * c) = r * c := IntWalk.wrap64_in _ ⟨by omega, by omega⟩
      have e2 : wrap64 (x * s + r * c) = x * s + r * c := IntWalk.wrap64_in _ ⟨by omega, by omega⟩
      clear hb hp
      go_enter Try.func47, Try.ntmps47
      go_wp2_with fail
      (go_at_call 51; (with_reducible refine (PB.out _).mono ?_); rintro e wA ⟨rfl, h1⟩; (try with_reducible replace h1 := undrew h1); have hB : Below w.heap.size w wA := ba (by go_grown) h1; obtain ⟨hcwA, hfwA⟩ := bcell h1; have hqwA := h1.size; (try simp at hqwA); (try have hz0wA : w.heap.size < wA.heap.size := (by omega)); (try have he0wA : w.heap.size ≤ wA.heap.size := (by omega)))
      go_wp2_with (go_at_call 84; refine (PR.out _).mono ?_; rintro e w' ⟨rfl, rfl⟩)
      go_returns
      exact ⟨rfl, by go_grown⟩

set_option maxRecDepth 100000 in
theorem imPriceOf (b : Bq) (s c : Int) (w : World) : Calls Try.prog 48 #[bv b, .int .i64 s, .int .i64 c] w fun e w' => e = .returned (.tuple #[.int .i64 (prR b s c), .bool (prG b s c)]) ∧ Below w.heap.size w w' := by
  have PB := Lib.hid (imIsBox b)
  have PR := Lib.hid (arePrices_any s c)
  unfold prR prG
  cases hb : bxB 40 b
  · rw [hb] at PB
    clear hb
    go_enter Try.func48, Try.ntmps48
    go_wp2_with (go_at_call 18; refine (PB.out _).mono ?_; rintro e w1 ⟨rfl, h1⟩; have hB : Below w.heap.size w w1 := ba (by go_grown) h1; obtain ⟨hc1, hf1⟩ := bcell h1; have hq := h1.size; (try simp at hq); have hz0 : w.heap.size < w1.heap.size := (by omega); have HK1 := Lib.hid h1; clear h1 hq)
    go_returns
    exact ⟨rfl, by go_grown⟩
  · cases hp : (inB s 0 1000 && inB c 0 1000)
    · rw [hb] at PB
      rw [hp] at PR
      clear hb hp
      go_enter Try.func48, Try.ntmps48
      go_wp2_with (first | (go_at_call 18; refine (PB.out _).mono ?_; rintro e w1 ⟨rfl, h1⟩; have hB : Below w.heap.size w w1 := ba (by go_grown) h1; obtain ⟨hc1, hf1⟩ := bcell h1; have hq := h1.size; (try simp at hq); have hz0 : w.heap.size < w1.heap.size := (by omega); have HK1 := Lib.hid h1; clear h1 hq) | (go_at_call 85; refine (PR.out _).mono ?_; rintro e w' ⟨rfl, rfl⟩))
      go_returns
      exact ⟨rfl, by go_grown⟩
    · have hs' : inB s 0 1000 = true ∧ inB c 0 1000 = true := by simpa using hp
      have PP := Lib.hid (price_any b s c hb hs'.1 hs'.2)
      rw [hb] at PB
      rw [hp] at PR
      simp only [Bool.true_and, cond_true]
      generalize b.x * s + b.r * c = R at *
      clear hb hp
      go_enter Try.func48, Try.ntmps48
      go_wp2_with fail
      (go_at_call 18; (with_reducible refine (PB.out _).mono ?_); rintro e wA ⟨rfl, h1⟩; (try with_reducible replace h1 := undrew h1); have hB : Below w.heap.size w wA := ba (by go_grown) h1; obtain ⟨hcwA, hfwA⟩ := bcell h1; have hqwA := h1.size; (try simp at hqwA); (try have hz0wA : w.heap.size < wA.heap.size := (by omega)); (try have he0wA : w.heap.size ≤ wA.heap.size := (by omega)))
      go_wp2_with (go_at_call 85; refine (PR.out _).mono ?_; rintro e w' ⟨rfl, rfl⟩)
      (go_at_call 86; (with_reducible refine (PP.out _).mono ?_); rintro e wB ⟨rfl, h1⟩; (try with_reducible replace h1 := undrew h1); have hB : Below w.heap.size w wB := ba (by go_grown) h1; obtain ⟨hcwB, hfwB⟩ := bcell h1; have hqwB := h1.size; (try simp at hqwB); (try have hz0wB : w.heap.size < wB.heap.size := (by omega)); (try have he0wB : w.heap.size ≤ wB.heap.size := (by omega)))
      go_wp2_with fail
      go_returns
      exact ⟨rfl, by go_grown⟩

set_option maxRecDepth 100000 in
set_option maxHeartbeats 800000 in
theorem spMissingFor (b : Bq) (s : ByteArray) (hs : s.size ≤ 1048576) (w : World) : Calls Try.prog 24 #[bv b, .string s] w fun e w' => e = .returned (.tuple #[bv (msR b s), .bool (btG b s)]) ∧ Below w.heap.size w w' := by
  have PB := Lib.hid (spBox_any b)
  unfold msR
  cases hb : bxB 40 b
  · rw [btG_no1 hb s]
    rw [hb] at PB
    clear hb
    go_enter Try.func24, Try.ntmps24
    go_wp2_with (first | (go_at_call 51; refine (PB.out _).mono ?_; rintro e w1 ⟨rfl, h1⟩; have hB : Below w.heap.size w w1 := ba (by go_grown) h1; obtain ⟨hc1, hf1⟩ := bcell h1; have hq := h1.size; (try simp at hq); have hz0 : w.heap.size < w1.heap.size := (by omega); have hz1 : w.heap.size + 1 < w1.heap.size := (by omega); have HK1 := Lib.hid h1; clear h1 hq))
    refine bodyPost_ret (by simp [results, Try.results24, go_sem, *]; try rfl) rfl ?_
    exact ⟨rfl, by go_grown⟩
  · cases ht : tkB s
    · rw [btG_no2 b ht]
      rw [hb] at PB
      clear hb
      go_enter Try.func24, Try.ntmps24
      go_wp2_with (first | (go_at_call 51; refine (PB.out _).mono ?_; rintro e w1 ⟨rfl, h1⟩; have hB : Below w.heap.size w w1 := ba (by go_grown) h1; obtain ⟨hc1, hf1⟩ := bcell h1; have hq := h1.size; (try simp at hq); have hz0 : w.heap.size < w1.heap.size := (by omega); have hz1 : w.heap.size + 1 < w1.heap.size := (by omega); have HK1 := Lib.hid h1; clear h1 hq) | (go_at_call 53; refine (tkGood_any s hs _).mono ?_; rintro e w' ⟨rfl, rfl⟩))
      refine bodyPost_ret (by simp [results, Try.results24, go_sem, *]; try rfl) rfl ?_
      exact ⟨rfl, by go_grown⟩
    · obtain ⟨b0, b1, b2⟩ := bxB_yes hb
      have h40 := tkB_size ht
      have hsc := st_cv s
      rw [btG_yes hb ht]
      rw [hb] at PB
      have P := Lib.hid (spOf_any s ht)
      generalize stN s = a at *
      generalize cvN s = c at *
      obtain ⟨x, r⟩ := b
      simp only at b0 b1 b2
      have e0 : wrap64 ((a : Int) - x) = (a : Int) - x := IntWalk.wrap64_in _ ⟨by omega, by omega⟩
      have e1 : wrap64 ((c : Int) - r) = (c : Int) - r := IntWalk.wrap64_in _ ⟨by omega, by omega⟩
      have e2 : IntKind.i64.wrap ((a : Int) - x) = (a : Int) - x := by rw [IntKind.wrap_i64]; omega
      have e3 : IntKind.i64.wrap ((c : Int) - r) = (c : Int) - r := by rw [IntKind.wrap_i64]; omega
      have M0 := Lib.hid (l1Most_any 0 ((a : Int) - x))
      have M1 := Lib.hid (l1Most_any 0 ((c : Int) - r))
      simp only [cond_true]
      generalize max 0 ((a : Int) - x) = m0 at *
      generalize max 0 ((c : Int) - r) = m1 at *
      clear hb
      go_enter Try.func24, Try.ntmps24
      go_wp2_with fail
      (go_at_call 51; (with_reducible refine (PB.out _).mono ?_); rintro e wA ⟨rfl, h1⟩; (try with_reducible replace h1 := undrew h1); have hB : Below w.heap.size w wA := ba (by go_grown) h1; obtain ⟨hcwA, hfwA⟩ := bcell h1; have hqwA := h1.size; (try simp at hqwA); (try have hz0wA : w.heap.size < wA.heap.size := (by omega)); (try have he0wA : w.heap.size ≤ wA.heap.size := (by omega)); (try have hz1wA : w.heap.size + 1 < wA.heap.size := (by omega)); (try have he1wA : w.heap.size + 1 ≤ wA.heap.size := (by omega)))
      go_wp2_with (go_at_call 53; refine (tkGood_any s hs _).mono ?_; rintro e w' ⟨rfl, rfl⟩)
      (go_at_call 54; (with_reducible refine (P.out _).mono ?_); rintro e wB ⟨rfl, h1⟩; (try with_reducible replace h1 := undrew h1); have hB : Below w.heap.size w wB := ba (by go_grown) h1; obtain ⟨hcwB, hfwB⟩ := bcell h1; have hqwB := h1.size; (try simp at hqwB); (try have hz0wB : w.heap.size < wB.heap.size := (by omega)); (try have he0wB : w.heap.size ≤ wB.heap.size := (by omega)); (try have hz1wB : w.heap.size + 1 < wB.heap.size := (by omega)); (try have he1wB : w.heap.size + 1 ≤ wB.heap.size := (by omega)); (try have hz2wB : wA.heap.size < wB.heap.size := (by omega)); (try have he2wB : wA.heap.size ≤ wB.heap.size := (by omega)))
      go_wp2_with fail
      refine absWB (F := fun W => (W.cell? ⟨w.heap.size, 0, none⟩ = some (.int .i64 x)) ∧ (W.cell? ⟨w.heap.size, 1, none⟩ = some (.int .i64 r)) ∧ (W.cell? ⟨wB.heap.size, 0, none⟩ = some (.int .i64 (a : Int))) ∧ (W.cell? ⟨wB.heap.size, 1, none⟩ = some (.int .i64 (c : Int))) ∧ (∀ i, W.frozen? ⟨w.heap.size + 1, i, none⟩ = false) ∧ (W.cell? ⟨w.heap.size + 1, 0, none⟩ = some (.int .i64 0) ∧ W.cell? ⟨w.heap.size + 1, 1, none⟩ = some (.int .i64 0)) ∧ (w.heap.size + 1 < W.heap.size) ∧ Below w.heap.size w W) ⟨by go_simp, by go_simp, by go_simp, by go_simp, fun i => by go_simp, ⟨by go_simp, by go_simp⟩, by first | omega | (simp; omega), by go_grown⟩ ?_
      rintro W ⟨ca0_0, ca1_1, cb0_0, cb1_1, fr9, ⟨z90, z91⟩, hzW, HB⟩
      have ka0_0 := fun d os => cell_regrown ca0_0 d os
      have ka1_1 := fun d os => cell_regrown ca1_1 d os
      have kb0_0 := fun d os => cell_regrown cb0_0 d os
      have kb1_1 := fun d os => cell_regrown cb1_1 d os
      refine region_below_tail 13 (by kernel_rfl) (by kernel_rfl) ?_
      simp only [List.take_succ_cons, List.take_zero, List.drop_succ_cons, List.drop_zero]
      repeat (quiet_step (first | (go_at_call 60; with_reducible exact same_regrownB (M0.out _)) | (go_at_call 60; with_reducible exact same_regrownB (M1.out _))))
      refine wpQuiet_nil ?_
      rintro _ ⟨⟨dq, osq⟩, rfl⟩
      have hbw1 := below_regrown W dq osq
      generalize grow (redrawn W dq) osq = w1 at hbw1 ⊢
      obtain ⟨hcw1, hfw1⟩ := bcell hbw1
      have hlw1 := hbw1.size
      replace HB := ba HB hbw1
      go_wp2_with fail
      refine bodyPost_ret (by simp [results, Try.results24, go_sem, *]; try rfl) rfl ?_
      exact ⟨rfl, by go_grown⟩

set_option maxRecDepth 100000 in
set_option maxHeartbeats 800000 in
theorem imMissingFor (b : Bq) (s : ByteArray) (hs : s.size ≤ 1048576) (w : World) : Calls Try.prog 25 #[bv b, .string s] w fun e w' => e = .returned (.tuple #[bv (msR b s), .bool (btG b s)]) ∧ Below w.heap.size w w' := by
  have PB := Lib.hid (imIsBox b)
  unfold msR
  cases hb : bxB 40 b
  · rw [btG_no1 hb s]
    rw [hb] at PB
    clear hb
    go_enter Try.func25, Try.ntmps25
    go_wp2_with (first | (go_at_call 18; refine (PB.out _).mono ?_; rintro e w1 ⟨rfl, h1⟩; have hB : Below w.heap.size w w1 := ba (by go_grown) h1; obtain ⟨hc1, hf1⟩ := bcell h1; have hq := h1.size; (try simp at hq); have hz0 : w.heap.size < w1.heap.size := (by omega); have hz1 : w.heap.size + 1 < w1.heap.size := (by omega); have HK1 := Lib.hid h1; clear h1 hq))
    refine bodyPost_ret (by simp [results, Try.results25, go_sem, *]; try rfl) rfl ?_
    exact ⟨rfl, by go_grown⟩
  · cases ht : tkB s
    · rw [btG_no2 b ht]
      rw [hb] at PB
      clear hb
      go_enter Try.func25, Try.ntmps25
      go_wp2_with (first | (go_at_call 18; refine (PB.out _).mono ?_; rintro e w1 ⟨rfl, h1⟩; have hB : Below w.heap.size w w1 := ba (by go_grown) h1; obtain ⟨hc1, hf1⟩ := bcell h1; have hq := h1.size; (try simp at hq); have hz0 : w.heap.size < w1.heap.size := (by omega); have hz1 : w.heap.size + 1 < w1.heap.size := (by omega); have HK1 := Lib.hid h1; clear h1 hq) | (go_at_call 55; refine (imIsTrack_any s hs _).mono ?_; rintro e w' ⟨rfl, rfl⟩))
      refine bodyPost_ret (by simp [results, Try.results25, go_sem, *]; try rfl) rfl ?_
      exact ⟨rfl, by go_grown⟩
    · obtain ⟨b0, b1, b2⟩ := bxB_yes hb
      have h40 := tkB_size ht
      have hsc := st_cv s
      rw [btG_yes hb ht]
      rw [hb] at PB
      have PS := Lib.hid (boxSupply_any b)
      have P := Lib.hid (needsOf_any s ht)
      have PM := Lib.hid (most_any b ⟨(stN s : Int), (cvN s : Int)⟩)
      have PL := less_any ⟨max b.x (stN s : Int), max b.r (cvN s : Int)⟩ b
      rw [show wrap64 ((⟨max b.x (stN s : Int), max b.r (cvN s : Int)⟩ : Bq).x - b.x) = max 0 ((stN s : Int) - b.x) by show wrap64 (max b.x (stN s : Int) - b.x) = _; rw [IntWalk.wrap64_in _ ⟨by omega, by omega⟩]; omega,
        show wrap64 ((⟨max b.x (stN s : Int), max b.r (cvN s : Int)⟩ : Bq).r - b.r) = max 0 ((cvN s : Int) - b.r) by show wrap64 (max b.r (cvN s : Int) - b.r) = _; rw [IntWalk.wrap64_in _ ⟨by omega, by omega⟩]; omega] at PL
      have PLH := Lib.hid PL
      have BX := Lib.hid (supplyBox_any ⟨max 0 ((stN s : Int) - b.x), max 0 ((cvN s : Int) - b.r)⟩)
      clear PL
      simp only [cond_true]
      generalize (⟨max 0 ((stN s : Int) - b.x), max 0 ((cvN s : Int) - b.r)⟩ : Bq) = q at *
      generalize (⟨max b.x (stN s : Int), max b.r (cvN s : Int)⟩ : Bq) = m at *
      generalize (⟨(stN s : Int), (cvN s : Int)⟩ : Bq) = n at *
      obtain ⟨qx, qr⟩ := q
      clear hb hsc b0 b1 b2
      go_enter Try.func25, Try.ntmps25
      go_wp2_with fail
      (go_at_call 18; (with_reducible refine (PB.out _).mono ?_); rintro e wA ⟨rfl, h1⟩; (try with_reducible replace h1 := undrew h1); have hB : Below w.heap.size w wA := ba (by go_grown) h1; obtain ⟨hcwA, hfwA⟩ := bcell h1; have hqwA := h1.size; (try simp at hqwA); (try have hz0wA : w.heap.size < wA.heap.size := (by omega)); (try have he0wA : w.heap.size ≤ wA.heap.size := (by omega)); (try have hz1wA : w.heap.size + 1 < wA.heap.size := (by omega)); (try have he1wA : w.heap.size + 1 ≤ wA.heap.size := (by omega)))
      go_wp2_with (go_at_call 55; refine (imIsTrack_any s hs _).mono ?_; rintro e w' ⟨rfl, rfl⟩)
      (go_at_call 58; (with_reducible refine (PS.out _).mono ?_); rintro e wB ⟨rfl, h1⟩; (try with_reducible replace h1 := undrew h1); have hB : Below w.heap.size w wB := ba (by go_grown) h1; obtain ⟨hcwB, hfwB⟩ := bcell h1; have hqwB := h1.size; (try simp at hqwB); (try have hz0wB : w.heap.size < wB.heap.size := (by omega)); (try have he0wB : w.heap.size ≤ wB.heap.size := (by omega)); (try have hz1wB : w.heap.size + 1 < wB.heap.size := (by omega)); (try have he1wB : w.heap.size + 1 ≤ wB.heap.size := (by omega)); (try have hz2wB : wA.heap.size < wB.heap.size := (by omega)); (try have he2wB : wA.heap.size ≤ wB.heap.size := (by omega)))
      go_wp2_with fail
      refine absWB (F := fun W => (W.cell? ⟨wB.heap.size, 0, none⟩ = some (.int .i64 b.x)) ∧ (W.cell? ⟨wB.heap.size, 1, none⟩ = some (.int .i64 b.r)) ∧ (∀ i, W.frozen? ⟨w.heap.size + 1, i, none⟩ = false) ∧ (W.cell? ⟨w.heap.size + 1, 0, none⟩ = some (.int .i64 0) ∧ W.cell? ⟨w.heap.size + 1, 1, none⟩ = some (.int .i64 0)) ∧ (w.heap.size + 1 < W.heap.size) ∧ Below w.heap.size w W) ⟨by go_simp, by go_simp, fun i => by go_simp, ⟨by go_simp, by go_simp⟩, by first | omega | (simp; omega), by go_grown⟩ ?_
      rintro W ⟨cb0_0, cb1_1, fr9, ⟨z90, z91⟩, hzW, HB⟩
      have kb0_0 := fun d os => cell_regrown cb0_0 d os
      have kb1_1 := fun d os => cell_regrown cb1_1 d os
      refine region_below_tail 7 (by kernel_rfl) (by kernel_rfl) ?_
      simp only [List.take_succ_cons, List.take_zero, List.drop_succ_cons, List.drop_zero]
      repeat (quiet_step (first | (go_at_call 56; with_reducible exact Calls.regrown_of (P.out _)) | (go_at_call 61; with_reducible exact Calls.regrown_of (PM.out _)) | (go_at_call 62; with_reducible exact Calls.regrown_of (PLH.out _)) | (go_at_call 57; with_reducible exact Calls.regrown_of (BX.out _))))
      refine wpQuiet_nil ?_
      rintro _ ⟨⟨dq, osq⟩, rfl⟩
      have hbw1 := below_regrown W dq osq
      generalize grow (redrawn W dq) osq = w1 at hbw1 ⊢
      obtain ⟨hcw1, hfw1⟩ := bcell hbw1
      have hlw1 := hbw1.size
      replace HB := ba HB hbw1
      go_wp2_with fail
      refine bodyPost_ret (by simp [results, Try.results25, go_sem, *]; try rfl) rfl ?_
      exact ⟨rfl, by go_grown⟩

end Go.Proofs.Ytkmgcmgnaeamaaa

/- Contracts: the first one of the boxes of rings with the least price, in the model and in the program. -/
namespace Go.Proofs.Ytkmgcmgnaeamaaa
open Go.ChangeShapes Go.WideShapes Go.ChangeAt Go.RowKit Go.Sort

set_option linter.unusedVariables false
set_option linter.unusedSimpArgs false

def cmpI (a b : Int) : Int := if a < b then -1 else if b < a then 1 else 0

set_option maxRecDepth 100000 in
theorem cmpInt_any (a b : Int) (w : World) : Calls Try.prog 71 #[.int .i64 a, .int .i64 b] w fun e w' => e = .returned (.int .i64 (cmpI a b)) ∧ w = w' := by
  unfold cmpI
  by_cases h1 : a < b
  · rw [if_pos h1]
    go_enter Try.func71, Try.ntmps71
    go_wp2
    all_goals go_ret
    all_goals exact ⟨rfl, rfl⟩
  · rw [if_neg h1]
    by_cases h2 : b < a
    · rw [if_pos h2]
      go_enter Try.func71, Try.ntmps71
      go_wp2
      all_goals go_ret
      all_goals exact ⟨rfl, rfl⟩
    · rw [if_neg h2]
      go_enter Try.func71, Try.ntmps71
      go_wp2
      all_goals go_ret
      all_goals exact ⟨rfl, rfl⟩

/-- Two numbers in a block, neither of them frozen. -/
structure TwoAt (w : World) (B : Nat) (b : Bq) : Prop where
  c0 : w.cell? ⟨B, 0, none⟩ = some (.int .i64 b.x)
  c1 : w.cell? ⟨B, 1, none⟩ = some (.int .i64 b.r)
  f0 : w.frozen? ⟨B, 0, none⟩ = false
  f1 : w.frozen? ⟨B, 1, none⟩ = false

theorem TwoAt.below {w w' : World} {B m : Nat} {b : Bq} (h : TwoAt w B b) (hB : B < m) (hb : Below m w w') : TwoAt w' B b :=
  ⟨by rw [hb.cell (p := ⟨B, 0, none⟩) hB]; exact h.c0, by rw [hb.cell (p := ⟨B, 1, none⟩) hB]; exact h.c1, by rw [hb.frozen (p := ⟨B, 0, none⟩) hB]; exact h.f0, by rw [hb.frozen (p := ⟨B, 1, none⟩) hB]; exact h.f1⟩

theorem TwoAt.put {w : World} {B : Nat} {b : Bq} (h : TwoAt w B b) (d : Bq) : TwoAt ((w.setCell ⟨B, 0, none⟩ (.int .i64 d.x)).setCell ⟨B, 1, none⟩ (.int .i64 d.r)) B d := by
  have n01 : (⟨B, 1, none⟩ : Addr) ≠ ⟨B, 0, none⟩ := by simp
  refine ⟨?_, ?_, by simp [h.f0], by simp [h.f1]⟩
  · rw [World.cell?_setCell_other (h := n01), World.cell?_setCell_same (h := h.c0)]
  · have h1 : (w.setCell ⟨B, 0, none⟩ (.int .i64 d.x)).cell? ⟨B, 1, none⟩ = some (.int .i64 b.r) := by rw [World.cell?_setCell_other (h := fun e => n01 e.symm)]; exact h.c1
    rw [World.cell?_setCell_same (h := h1)]

theorem TwoAt.other {w : World} {B : Nat} {b : Bq} (h : TwoAt w B b) {a : Addr} (ha : B ≠ a.block) (v : Value) : TwoAt (w.setCell a v) B b :=
  ⟨by rw [World.cell?_setCell_other (h := fun q => ha (by rw [q]))]; exact h.c0, by rw [World.cell?_setCell_other (h := fun q => ha (by rw [q]))]; exact h.c1, by rw [World.frozen?_setCell]; exact h.f0, by rw [World.frozen?_setCell]; exact h.f1⟩

theorem TwoAt.new (w : World) (b : Bq) (t : TypeId) : TwoAt (w.alloc (.cells #[.int .i64 b.x, .int .i64 b.r] t)) w.heap.size b := by
  have h := heap_alloc_new w (.cells #[.int .i64 b.x, .int .i64 b.r] t)
  exact ⟨by rw [Lib.cell_of_heap h 0]; rfl, by rw [Lib.cell_of_heap h 1]; rfl, by simp only [World.frozen?, h]; rfl, by simp only [World.frozen?, h]; rfl⟩

def prI (s c : Int) (b : Bq) : Int := b.x * s + b.r * c

/-- Cheaper. -/
def chp (s c : Int) (x g : Bq) : Bool := decide (prI s c x < prI s c g)

def o2 (o : Option Bq) : Bq := o.getD ⟨0, 0⟩

theorem cmp_chp (s c : Int) (x g : Bq) : decide (0 < cmpI (prI s c g) (prI s c x)) = chp s c x g := by
  unfold cmpI chp
  by_cases h1 : prI s c g < prI s c x
  · rw [if_pos h1]; simp; omega
  · rw [if_neg h1]
    by_cases h2 : prI s c x < prI s c g
    · rw [if_pos h2]; simp [h2]
    · rw [if_neg h2]; simp [h2]

set_option maxRecDepth 100000 in
theorem priceCmp_any (a b : Bq) (s c : Int) (ha : bxB 40 a = true) (hb : bxB 40 b = true) (hs : inB s 0 1000 = true) (hc : inB c 0 1000 = true) (p q : Nat) (w : World) (hp : p < w.heap.size) (hq : q < w.heap.size)
    (k0 : w.cell? ⟨p, 0, none⟩ = some (.int .i64 s)) (k1 : w.cell? ⟨q, 0, none⟩ = some (.int .i64 c)) :
    Calls Try.prog 88 #[bv a, bv b, .pointer (some ⟨p, 0, none⟩), .pointer (some ⟨q, 0, none⟩)] w fun e w' => e = .returned (.int .i64 (cmpI (prI s c b) (prI s c a))) ∧ Below w.heap.size w w' := by
  have PA0 : ∀ w, Calls Try.prog 86 #[bv a, .int .i64 s, .int .i64 c] w fun e w' => e = .returned (.int .i64 (prI s c a)) ∧ Below w.heap.size w w' := fun w => price_any a s c ha hs hc w
  have PA := Lib.hid PA0
  clear PA0
  have PB0 : ∀ w, Calls Try.prog 86 #[bv b, .int .i64 s, .int .i64 c] w fun e w' => e = .returned (.int .i64 (prI s c b)) ∧ Below w.heap.size w w' := fun w => price_any b s c hb hs hc w
  have PB := Lib.hid PB0
  clear PB0
  have PC := Lib.hid (cmpInt_any (prI s c b) (prI s c a))
  generalize prI s c a = x at *
  generalize prI s c b = y at *
  clear ha hb hs hc
  go_enter Try.func88, Try.ntmps88
  go_wp2_with fail
  refine absWB (F := fun W => (W.cell? ⟨w.heap.size, 0, none⟩ = some (.int .i64 (a).x) ∧ W.cell? ⟨w.heap.size, 1, none⟩ = some (.int .i64 (a).r)) ∧ (W.cell? ⟨w.heap.size + 1, 0, none⟩ = some (.int .i64 (b).x) ∧ W.cell? ⟨w.heap.size + 1, 1, none⟩ = some (.int .i64 (b).r)) ∧ (W.cell? ⟨p, 0, none⟩ = some (.int .i64 s)) ∧ (W.cell? ⟨q, 0, none⟩ = some (.int .i64 c)) ∧ Below w.heap.size w W ∧ W.heap.size = w.heap.size + 1 + 1) ⟨⟨by go_simp, by go_simp⟩, ⟨by go_simp, by go_simp⟩, by go_simp, by go_simp, by go_grown, by first | (simp; done) | (simp; omega)⟩ ?_
  rintro W ⟨⟨c0_0, c0_1⟩, ⟨c1_0, c1_1⟩, cp_0, cq_0, HB, hz⟩
  have k0_0 := fun d os => cell_regrown c0_0 d os
  have k0_1 := fun d os => cell_regrown c0_1 d os
  have k1_0 := fun d os => cell_regrown c1_0 d os
  have k1_1 := fun d os => cell_regrown c1_1 d os
  have kp_0 := fun d os => cell_regrown cp_0 d os
  have kq_0 := fun d os => cell_regrown cq_0 d os
  refine wp_region_quiet_below (by kernel_rfl) (by kernel_rfl) ?_
  repeat (quiet_step (first | (go_at_call 86; with_reducible exact Calls.regrown_of (PA.out _)) | (go_at_call 86; with_reducible exact Calls.regrown_of (PB.out _)) | (go_at_call 71; with_reducible exact same_regrownB (PC.out _))))
  refine wpQuiet_nil ?_
  rintro _ ⟨⟨dq, osq⟩, rfl⟩
  have hbw1 := below_regrown W dq osq
  generalize grow (redrawn W dq) osq = w1 at hbw1 ⊢
  obtain ⟨hcw1, hfw1⟩ := bcell hbw1
  have hlw1 := hbw1.size
  replace HB := ba HB hbw1
  go_wp2_with fail
  go_returns
  exact ⟨rfl, by go_grown⟩

/-- The first j boxes: the first cheapest one of them. -/
def chO (s c : Int) (l : List Bq) (j : Nat) : Option Bq := fgO (chp s c) (l.take j)

theorem chO_next {s c : Int} {l : List Bq} {j : Nat} {b : Bq} (h : l[j]? = some b) : chO s c l (j + 1) = fgS (chp s c) (chO s c l j) b := by
  rw [chO, List.take_add_one, h]
  exact fgO_snoc _ _ _

theorem chO_zero (s c : Int) (l : List Bq) : chO s c l 0 = none := rfl

theorem chO_some {s c : Int} {l : List Bq} {j : Nat} (h0 : 0 < j) (h : j ≤ l.length) : ∃ g, chO s c l j = some g ∧ g ∈ l := by
  obtain ⟨g, hg⟩ := fgO_some (chp s c) (l.take j) (fun e => by
    have h1 := congrArg List.length e
    rw [List.length_take] at h1
    have h2 : min j l.length = 0 := h1
    omega)
  exact ⟨g, hg, List.mem_of_mem_take (fgO_mem _ _ _ hg)⟩

def FbPost (l : List Bq) (o : Option Bq) (w : World) (e : Ending) (w' : World) : Prop :=
  e = .returned (.tuple #[bv (o2 o), .bool (decide (0 < l.length))]) ∧ Below w.heap.size w w'

set_option maxRecDepth 100000 in
set_option maxHeartbeats 1600000 in
theorem fgBox_any (v : Value) (l : List Bq) (hl : l.length ≤ 1000) (hok : ∀ b ∈ l, bxB 40 b = true) (s c : Int) (hs : inB s 0 1000 = true) (hc : inB c 0 1000 = true) (p q : Nat) (w : World) (hp : p < w.heap.size) (hq : q < w.heap.size)
    (k0 : w.cell? ⟨p, 0, none⟩ = some (.int .i64 s)) (k1 : w.cell? ⟨q, 0, none⟩ = some (.int .i64 c)) (hv : ∃ av cap, v = .slice av l.length cap ∧ (l = [] ∨ ∃ g, av = some ⟨g, 0, none⟩ ∧ g < w.heap.size ∧ BoxAt w g l)) :
    Calls Try.prog 87 #[v, .func (.func 88) #[] #[.pointer (some ⟨p, 0, none⟩), .pointer (some ⟨q, 0, none⟩)]] w (FbPost l (chO s c l l.length) w) := by
  obtain ⟨av, cap, rfl, hv⟩ := hv
  unfold FbPost
  obtain ⟨N, hN⟩ : ∃ N, l.length = N := ⟨_, rfl⟩
  have HN := Lib.hid hN
  have HV := Lib.hid hv
  have HOK := Lib.hid hok
  have HS := Lib.hid (And.intro hs hc)
  have HK := Lib.hid (And.intro k0 k1)
  rw [hN] at hl ⊢
  have T0 := Lib.hid (TwoAt.new w ⟨0, 0⟩ 25)
  have T1 := Lib.hid (TwoAt.new (w.alloc (.cells #[.int .i64 0, .int .i64 0] 25)) ⟨0, 0⟩ 25)
  clear hN hv hok hs hc k0 k1
  go_enter Try.func87, Try.ntmps87
  go_wp2_with fail
  go_loopw [11] (fun i wr => ∃ j : Nat, j ≤ N ∧ i = .int .i64 j ∧ TwoAt wr w.heap.size ⟨0, 0⟩ ∧ TwoAt wr (w.heap.size + 1) (o2 (chO s c l j)) ∧ w.heap.size + 1 < wr.heap.size ∧ Below w.heap.size w wr) (fun i _ => N - (intOf i).toNat)
  case atStart =>
    refine ⟨0, Nat.zero_le _, rfl, ?_, ?_, by simp, by go_grown⟩
    · exact T0.out.below (by simp) (Below.alloc (Below.refl _ _) (Nat.le_refl _) _)
    · have := T1.out
      rw [show (w.alloc (.cells #[.int .i64 0, .int .i64 0] 25)).heap.size = w.heap.size + 1 by simp] at this
      exact this
  case round =>
    obtain ⟨j, hj, rfl, t0, t1, hz, hb⟩ := hrel
    have A0 := Lib.hid t0
    have A1 := Lib.hid t1
    have HB := Lib.hid hb
    obtain ⟨wi, rfl⟩ : ∃ wi : World, wi = wr := ⟨_, rfl⟩
    have hzw : w.heap.size ≤ wi.heap.size := hb.size
    by_cases hlt : j < N
    · obtain ⟨b, hb1⟩ : ∃ b, l[j]? = some b := ⟨_, List.getElem?_eq_getElem (by rw [HN.out]; exact hlt)⟩
      have hbok := HOK.out b (List.mem_of_getElem? hb1)
      have HNX := Lib.hid (chO_next (s := s) (c := c) hb1)
      obtain ⟨g, rfl, hg, hBA⟩ := HV.out.resolve_left (fun e => by have := HN.out; rw [e] at this; simp at this; omega)
      obtain ⟨d0, d1⟩ := (hBA.below hg hb) j b hb1
      by_cases hj0 : j = 0
      · subst hj0
        have HP := Lib.hid ((A1.out.put b).below (by simp; omega) (Below.alloc (Below.refl _ _) (Nat.le_refl _) (.cells #[.int .i64 b.x, .int .i64 b.r] 25)))
        have H0 := Lib.hid (((A0.out.other (a := ⟨w.heap.size + 1, 0, none⟩) (by simp) (.int .i64 b.x)).other (a := ⟨w.heap.size + 1, 1, none⟩) (by simp) (.int .i64 b.r)).below (by simp; omega) (Below.alloc (Below.refl _ _) (Nat.le_refl _) (.cells #[.int .i64 b.x, .int .i64 b.r] 25)))
        obtain ⟨x0, x1, x2, x3⟩ := A1.out
        clear t0 t1 hb1 hBA
        go_wp2_with fail
        go_roundw
        case rel => exact ⟨1, by omega, by go_num, H0.out, by rw [HNX.out]; exact HP.out, by simp; omega, by go_grown⟩
        case measure => simp [intOf]; omega
      · obtain ⟨r, hr, hrm⟩ := chO_some (s := s) (c := c) (Nat.pos_of_ne_zero hj0) (show j ≤ l.length by rw [HN.out]; exact hj)
        have hrok := HOK.out r hrm
        rw [hr] at HNX
        have hnx : chO s c l (j + 1) = some (if chp s c b r then b else r) := HNX.out
        have A1' := A1.out
        rw [hr] at A1'
        have HA1 := Lib.hid A1'
        obtain ⟨x0, x1, x2, x3⟩ := A1'
        have CP := Lib.hid (fun (W : World) (h : Below w.heap.size w W) => priceCmp_any b r s c hbok hrok HS.out.1 HS.out.2 p q W (Nat.lt_of_lt_of_le hp h.size) (Nat.lt_of_lt_of_le hq h.size) (by rw [h.cell (p := ⟨p, 0, none⟩) hp]; exact HK.out.1) (by rw [h.cell (p := ⟨q, 0, none⟩) hq]; exact HK.out.2))
        have hcg := cmp_chp s c b r
        have hz1 : w.heap.size + 1 < wi.heap.size := hz
        simp only [o2, Option.getD_some] at x0 x1 x2 x3
        have hji : ((j : Int) == 0) = false := by simp; omega
        have hjn : ¬ (j : Int) = 0 := by omega
        generalize cmpI (prI s c r) (prI s c b) = z at *
        clear t0 t1 hb1 hBA hr hrm hbok hrok A1
        cases hqc : chp s c b r
        · rw [hqc] at hcg hnx
          have hz0 : ¬ 0 < z := by simpa using hcg
          have HNX2 := Lib.hid (show chO s c l (j + 1) = some r from hnx)
          clear hcg hqc hnx
          go_wp2_with fail
          have hBA : Below w.heap.size w (wi.alloc (.cells #[.int .i64 b.x, .int .i64 b.r] 25)) := by go_grown
          (with_reducible refine Calls.mono (CP.out _ hBA) ?_)
          rintro e w1 ⟨rfl, h1⟩
          have hz2 := h1.size
          simp only [World.size_alloc] at hz2
          have hbw := Below.alloc (Below.refl wi.heap.size wi) (Nat.le_refl _) (.cells #[.int .i64 b.x, .int .i64 b.r] 25)
          have F1 := Lib.hid ((HA1.out.below hz1 hbw).below (by simp; omega) h1)
          have F0 := Lib.hid ((A0.out.below (by omega) hbw).below (by simp; omega) h1)
          have FB := Lib.hid (ba hBA h1)
          clear h1 hbw hBA
          go_wp2_with fail
          go_roundw
          case rel => exact ⟨j + 1, by omega, by go_num, F0.out, by rw [HNX2.out]; exact F1.out, by omega, FB.out⟩
          case measure => simp [intOf]; omega
        · rw [hqc] at hcg hnx
          have hz0 : 0 < z := by simpa using hcg
          have HNX2 := Lib.hid (show chO s c l (j + 1) = some b from hnx)
          clear hcg hqc hnx
          go_wp2_with fail
          have hBA : Below w.heap.size w (wi.alloc (.cells #[.int .i64 b.x, .int .i64 b.r] 25)) := by go_grown
          (with_reducible refine Calls.mono (CP.out _ hBA) ?_)
          rintro e w1 ⟨rfl, h1⟩
          have hz2 := h1.size
          simp only [World.size_alloc] at hz2
          have hbw := Below.alloc (Below.refl wi.heap.size wi) (Nat.le_refl _) (.cells #[.int .i64 b.x, .int .i64 b.r] 25)
          have fa1 := (HA1.out.below hz1 hbw).below (by simp; omega) h1
          have F1 := Lib.hid (fa1.put b)
          have F0 := Lib.hid ((((A0.out.below (by omega) hbw).below (by simp; omega) h1).other (a := ⟨w.heap.size + 1, 0, none⟩) (by simp) (.int .i64 b.x)).other (a := ⟨w.heap.size + 1, 1, none⟩) (by simp) (.int .i64 b.r))
          have FB := Lib.hid (ba hBA h1)
          have s0 : w1.cell? ⟨wi.heap.size, 0, none⟩ = some (.int .i64 b.x) := by rw [h1.cell (p := ⟨wi.heap.size, 0, none⟩) (by simp)]; go_simp
          have s1 : w1.cell? ⟨wi.heap.size, 1, none⟩ = some (.int .i64 b.r) := by rw [h1.cell (p := ⟨wi.heap.size, 1, none⟩) (by simp)]; go_simp
          obtain ⟨z0, z1, z2, z3⟩ := fa1
          clear h1 hbw hBA x0 x1 x2 x3
          go_wp2_with fail
          go_roundw
          case rel => exact ⟨j + 1, by omega, by go_num, F0.out, by rw [HNX2.out]; exact F1.out, by simp; omega, (FB.out.setCell (by show _ ≤ w.heap.size + 1; omega) _).setCell (by show _ ≤ w.heap.size + 1; omega) _⟩
          case measure => simp [intOf]; omega
    · obtain rfl : j = N := by omega
      obtain ⟨x0, x1, x2, x3⟩ := A1.out
      obtain ⟨y0, y1, y2, y3⟩ := A0.out
      clear t0 t1
      go_wp2_with fail
      refine bodyPost_ret (by simp [results, Try.results87, go_sem, *]; try rfl) rfl ?_
      exact ⟨by first | rfl | (congr 3; simp), by go_grown⟩

end Go.Proofs.Ytkmgcmgnaeamaaa

/- Contracts: CheapestRing, in the model and in the program. -/
namespace Go.Proofs.Ytkmgcmgnaeamaaa
open Go.ChangeShapes Go.WideShapes Go.ChangeAt Go.RowKit Go.Sort

set_option linter.unusedVariables false
set_option linter.unusedSimpArgs false

section
variable {B0 B1 B2 : Nat} {v00 v01 v10 v20 : Value} {W w1 : World}
theorem cz_below (h : W.cell? ⟨B0, 0, none⟩ = some v00 ∧ W.cell? ⟨B0, 1, none⟩ = some v01 ∧ W.cell? ⟨B1, 0, none⟩ = some v10 ∧ W.cell? ⟨B2, 0, none⟩ = some v20) (h0 : B0 < W.heap.size) (h1 : B1 < W.heap.size) (h2 : B2 < W.heap.size) (hb : Below W.heap.size W w1) : w1.cell? ⟨B0, 0, none⟩ = some v00 ∧ w1.cell? ⟨B0, 1, none⟩ = some v01 ∧ w1.cell? ⟨B1, 0, none⟩ = some v10 ∧ w1.cell? ⟨B2, 0, none⟩ = some v20 :=
  let ⟨k0, k1, k2, k3⟩ := h
  ⟨cl_below k0 h0 hb, cl_below k1 h0 hb, cl_below k2 h1 hb, cl_below k3 h2 hb⟩

theorem cz_alloc (h : W.cell? ⟨B0, 0, none⟩ = some v00 ∧ W.cell? ⟨B0, 1, none⟩ = some v01 ∧ W.cell? ⟨B1, 0, none⟩ = some v10 ∧ W.cell? ⟨B2, 0, none⟩ = some v20) (o : Obj) : (W.alloc o).cell? ⟨B0, 0, none⟩ = some v00 ∧ (W.alloc o).cell? ⟨B0, 1, none⟩ = some v01 ∧ (W.alloc o).cell? ⟨B1, 0, none⟩ = some v10 ∧ (W.alloc o).cell? ⟨B2, 0, none⟩ = some v20 :=
  let ⟨k0, k1, k2, k3⟩ := h
  ⟨cl_alloc k0 o, cl_alloc k1 o, cl_alloc k2 o, cl_alloc k3 o⟩

theorem cz_re {o : Obj} (h : (W.alloc o).cell? ⟨B0, 0, none⟩ = some v00 ∧ (W.alloc o).cell? ⟨B0, 1, none⟩ = some v01 ∧ (W.alloc o).cell? ⟨B1, 0, none⟩ = some v10 ∧ (W.alloc o).cell? ⟨B2, 0, none⟩ = some v20) (h0 : B0 < W.heap.size) (h1 : B1 < W.heap.size) (h2 : B2 < W.heap.size) (o2 : Obj) : (W.alloc o2).cell? ⟨B0, 0, none⟩ = some v00 ∧ (W.alloc o2).cell? ⟨B0, 1, none⟩ = some v01 ∧ (W.alloc o2).cell? ⟨B1, 0, none⟩ = some v10 ∧ (W.alloc o2).cell? ⟨B2, 0, none⟩ = some v20 :=
  let ⟨k0, k1, k2, k3⟩ := h
  ⟨cl_re k0 h0 o2, cl_re k1 h0 o2, cl_re k2 h1 o2, cl_re k3 h2 o2⟩

theorem cz_drew (h : W.cell? ⟨B0, 0, none⟩ = some v00 ∧ W.cell? ⟨B0, 1, none⟩ = some v01 ∧ W.cell? ⟨B1, 0, none⟩ = some v10 ∧ W.cell? ⟨B2, 0, none⟩ = some v20) : W.drew.cell? ⟨B0, 0, none⟩ = some v00 ∧ W.drew.cell? ⟨B0, 1, none⟩ = some v01 ∧ W.drew.cell? ⟨B1, 0, none⟩ = some v10 ∧ W.drew.cell? ⟨B2, 0, none⟩ = some v20 := h

theorem cz_undrew (h : W.drew.cell? ⟨B0, 0, none⟩ = some v00 ∧ W.drew.cell? ⟨B0, 1, none⟩ = some v01 ∧ W.drew.cell? ⟨B1, 0, none⟩ = some v10 ∧ W.drew.cell? ⟨B2, 0, none⟩ = some v20) : W.cell? ⟨B0, 0, none⟩ = some v00 ∧ W.cell? ⟨B0, 1, none⟩ = some v01 ∧ W.cell? ⟨B1, 0, none⟩ = some v10 ∧ W.cell? ⟨B2, 0, none⟩ = some v20 := h

theorem cz_set (h : W.cell? ⟨B0, 0, none⟩ = some v00 ∧ W.cell? ⟨B0, 1, none⟩ = some v01 ∧ W.cell? ⟨B1, 0, none⟩ = some v10 ∧ W.cell? ⟨B2, 0, none⟩ = some v20) (p : Addr) (u : Value) (h0 : p.block ≠ B0) (h1 : p.block ≠ B1) (h2 : p.block ≠ B2) : (W.setCell p u).cell? ⟨B0, 0, none⟩ = some v00 ∧ (W.setCell p u).cell? ⟨B0, 1, none⟩ = some v01 ∧ (W.setCell p u).cell? ⟨B1, 0, none⟩ = some v10 ∧ (W.setCell p u).cell? ⟨B2, 0, none⟩ = some v20 :=
  let ⟨k0, k1, k2, k3⟩ := h
  ⟨cl_set k0 p u h0, cl_set k1 p u h0, cl_set k2 p u h1, cl_set k3 p u h2⟩

theorem cz_far {row : Option Nat} (h : W.cell? ⟨B0, 0, none⟩ = some v00 ∧ W.cell? ⟨B0, 1, none⟩ = some v01 ∧ W.cell? ⟨B1, 0, none⟩ = some v10 ∧ W.cell? ⟨B2, 0, none⟩ = some v20) (h0 : some B0 ≠ row) (h1 : some B1 ≠ row) (h2 : some B2 ≠ row) (hg : W.grownBy w1 row) : w1.cell? ⟨B0, 0, none⟩ = some v00 ∧ w1.cell? ⟨B0, 1, none⟩ = some v01 ∧ w1.cell? ⟨B1, 0, none⟩ = some v10 ∧ w1.cell? ⟨B2, 0, none⟩ = some v20 :=
  let ⟨k0, k1, k2, k3⟩ := h
  ⟨hg.cell k0 h0, hg.cell k1 h0, hg.cell k2 h1, hg.cell k3 h2⟩
end

def czO (n s c : Int) : Option Bq := cond (rbG n && (inB s 0 1000 && inB c 0 1000)) (chO s c (rbR n) (rbR n).length) none

theorem rbQ_ok {m k : Nat} (hk : k ≤ m + 1) (hm : m ≤ 12) {b : Bq} (h : b ∈ rbQ m k) : bxB 40 b = true := by
  rw [rbQ, List.mem_map] at h
  obtain ⟨s, hs, rfl⟩ := h
  have := List.mem_range.1 (List.mem_filter.1 hs).1
  exact bxB_of (m := 40) (by omega)

theorem rbR_ok {n : Int} {b : Bq} (h : b ∈ rbR n) : bxB 40 b = true := by
  cases hg : rbG n
  · simp [rbR, hg] at h
  · obtain ⟨m, rfl, _, hm⟩ := rb_num hg
    rw [rbR, hg, Int.toNat_natCast] at h
    exact rbQ_ok (Nat.le_refl _) hm h

theorem o2_ok {s c : Int} {l : List Bq} (h : ∀ b ∈ l, bxB 40 b = true) : bxB 40 (o2 (chO s c l l.length)) = true := by
  by_cases h0 : 0 < l.length
  · obtain ⟨g, hg, hm⟩ := chO_some (s := s) (c := c) h0 (Nat.le_refl _)
    rw [hg]; exact h g hm
  · have : l = [] := List.eq_nil_of_length_eq_zero (by omega)
    subst this
    rfl

theorem czO_prog {n s c : Int} (h : (inB s 0 1000 && inB c 0 1000) = true) : czO n s c = chO s c (rbR n) (rbR n).length := by
  unfold czO
  cases hg : rbG n
  · simp [rbR, hg, chO, fgO]
  · rw [h]; rfl

theorem chO_isSome (s c : Int) (l : List Bq) : (chO s c l l.length).isSome = decide (0 < l.length) := by
  rw [chO, List.take_length, fgO_isSome]

set_option maxRecDepth 100000 in
set_option maxHeartbeats 1600000 in
theorem imCheapestRing (n s c : Int) (w : World) : Calls Try.prog 50 #[.int .i64 n, .int .i64 s, .int .i64 c] w fun e w' =>
    e = .returned (.tuple #[.agg #[.int .i64 (o2 (czO n s c)).x, .int .i64 (o2 (czO n s c)).r], .int .i64 (prI s c (o2 (czO n s c))), .bool (czO n s c).isSome]) ∧ Below w.heap.size w w' := by
  have PR := Lib.hid (arePrices_any s c)
  cases hp : (inB s 0 1000 && inB c 0 1000)
  · have hz : czO n s c = none := by unfold czO; rw [hp, Bool.and_false]; rfl
    have h0 : prI s c (o2 none) = 0 := by simp [prI, o2]
    rw [hz, h0]
    rw [hp] at PR
    clear hp hz h0
    go_enter Try.func50, Try.ntmps50
    go_wp2_with (go_at_call 85; refine (PR.out _).mono ?_; rintro e w' ⟨rfl, rfl⟩)
    refine bodyPost_ret (by simp [results, Try.results50, go_sem, *]; try rfl) rfl ?_
    exact ⟨rfl, by go_grown⟩
  · have hs' : inB s 0 1000 = true ∧ inB c 0 1000 = true := by simpa using hp
    rw [czO_prog hp, chO_isSome]
    rw [hp] at PR
    have RB := Lib.hid (imRingBoxes n)
    unfold BXPost at RB
    have hle := rbR_le n
    have hok : ∀ b ∈ rbR n, bxB 40 b = true := fun b hb => rbR_ok hb
    have hoo := o2_ok (s := s) (c := c) hok
    have PP0 : ∀ w, Calls Try.prog 86 #[bv (o2 (chO s c (rbR n) (rbR n).length)), .int .i64 s, .int .i64 c] w fun e w' => e = .returned (.int .i64 (prI s c (o2 (chO s c (rbR n) (rbR n).length)))) ∧ Below w.heap.size w w' := fun w => price_any _ s c hoo hs'.1 hs'.2 w
    have PP := Lib.hid PP0
    have FB := Lib.hid (fun (v : Value) (p q : Nat) => fgBox_any v (rbR n) (by omega) hok s c hs'.1 hs'.2 p q)
    unfold FbPost at FB
    generalize chO s c (rbR n) (rbR n).length = O at *
    generalize rbR n = l at *
    generalize rbG n = G at *
    generalize prI s c (o2 O) = R at *
    generalize o2 O = D at *
    clear hp hok hoo PP0 hs'
    obtain ⟨dx, dr⟩ := D
    go_enter Try.func50, Try.ntmps50
    go_wp2_with (go_at_call 85; refine (PR.out _).mono ?_; rintro e w' ⟨rfl, rfl⟩)
    (with_reducible refine Calls.mono (RB.out _) ?_)
    rintro e w1 ⟨v, rfl, hO, hb⟩
    have hz1 := hb.size
    simp at hz1
    have k0 : w1.cell? ⟨w.heap.size, 0, none⟩ = some (.int .i64 s) := by rw [hb.cell (p := ⟨w.heap.size, 0, none⟩) (by simp; omega)]; go_simp
    have k1 : w1.cell? ⟨w.heap.size + 1, 0, none⟩ = some (.int .i64 c) := by rw [hb.cell (p := ⟨w.heap.size + 1, 0, none⟩) (by simp)]; go_simp
    have r0 : w1.frozen? ⟨w.heap.size + 1 + 1, 0, none⟩ = false := by rw [hb.frozen (p := ⟨w.heap.size + 1 + 1, 0, none⟩) (by simp)]; go_simp
    have r1 : w1.frozen? ⟨w.heap.size + 1 + 1, 1, none⟩ = false := by rw [hb.frozen (p := ⟨w.heap.size + 1 + 1, 1, none⟩) (by simp)]; go_simp
    have r2 : w1.cell? ⟨w.heap.size + 1 + 1, 0, none⟩ = some (.int .i64 0) := by rw [hb.cell (p := ⟨w.heap.size + 1 + 1, 0, none⟩) (by simp)]; go_simp
    have r3 : w1.cell? ⟨w.heap.size + 1 + 1, 1, none⟩ = some (.int .i64 0) := by rw [hb.cell (p := ⟨w.heap.size + 1 + 1, 1, none⟩) (by simp)]; go_simp
    have hB : Below w.heap.size w w1 := ba (by go_grown) hb
    have hbv : ∃ av cap, v = .slice av l.length cap ∧ (l = [] ∨ ∃ g, av = some ⟨g, 0, none⟩ ∧ g < w1.heap.size ∧ BoxAt w1 g l) := by
      have h0 := hO
      rcases hO.2 with ⟨rfl, h2⟩ | ⟨g, cap, cur, rfl, _⟩
      · exact ⟨none, 0, by rw [h2], .inl (List.eq_nil_of_length_eq_zero h2)⟩
      · exact ⟨_, cap, rfl, .inr ⟨g, rfl, (h0.lt g rfl).2, box_of h0 rfl⟩⟩
    have FB1 := Lib.hid (FB.out v w.heap.size (w.heap.size + 1) w1 (by omega) (by omega) k0 k1 hbv)
    clear hO hb hbv
    go_wp2_with fail
    (with_reducible refine Calls.mono FB1.out ?_)
    rintro e w2 ⟨rfl, h2⟩
    have hB2 : Below w.heap.size w w2 := hB.trans (h2.mono hB.size)
    obtain ⟨hc2, hf2⟩ := bcell h2
    have hz2 := h2.size
    have y0 : w.heap.size < w1.heap.size := by omega
    have y1 : w.heap.size + 1 < w1.heap.size := by omega
    have y2 : w.heap.size + 1 + 1 < w1.heap.size := by omega
    have y3 : w.heap.size < w2.heap.size := by omega
    have y4 : w.heap.size + 1 < w2.heap.size := by omega
    have y5 : w.heap.size + 1 + 1 < w2.heap.size := by omega
    clear hB h2
    have hB := hB2
    clear hB2
    go_wp2_with fail
    have hS0 : (w2.alloc (.cells #[.int .i64 dx, .int .i64 dr] 25)).cell? ⟨w2.heap.size, 0, none⟩ = some (.int .i64 dx) ∧ (w2.alloc (.cells #[.int .i64 dx, .int .i64 dr] 25)).cell? ⟨w2.heap.size, 1, none⟩ = some (.int .i64 dr) ∧ (w2.alloc (.cells #[.int .i64 dx, .int .i64 dr] 25)).cell? ⟨w.heap.size, 0, none⟩ = some (.int .i64 s) ∧ (w2.alloc (.cells #[.int .i64 dx, .int .i64 dr] 25)).cell? ⟨w.heap.size + 1, 0, none⟩ = some (.int .i64 c) := ⟨by go_simp, by go_simp, by go_simp, by go_simp⟩
    have hE0 : (w2.alloc (.cells #[.int .i64 dx, .int .i64 dr] 25)).frozen? ⟨w.heap.size + 1 + 1, 0, none⟩ = false := by go_simp
    go_region_held3 (fun w' => w'.cell? ⟨w2.heap.size, 0, none⟩ = some (.int .i64 dx) ∧ w'.cell? ⟨w2.heap.size, 1, none⟩ = some (.int .i64 dr) ∧ w'.cell? ⟨w.heap.size, 0, none⟩ = some (.int .i64 s) ∧ w'.cell? ⟨w.heap.size + 1, 0, none⟩ = some (.int .i64 c))
      (first | (with_reducible assumption) | (with_reducible exact cz_drew hS0) | (with_reducible exact cz_drew (cz_alloc hS0 _)) | (with_reducible exact cz_alloc (cz_drew hS0) _) | (with_reducible refine cz_drew ?_; with_reducible assumption) | (with_reducible refine cz_alloc ?_ _; with_reducible assumption) | (with_reducible refine cz_re (by with_reducible assumption) ?_ ?_ ?_ _; (focus first | (with_reducible assumption) | omega | (simp; done) | (simp; omega)); (focus first | (with_reducible assumption) | omega | (simp; done) | (simp; omega)); (focus first | (with_reducible assumption) | omega | (simp; done) | (simp; omega))) | (with_reducible refine cz_below ?_ ?_ ?_ ?_ h1; (focus first | (with_reducible assumption) | (with_reducible refine cz_undrew ?_; with_reducible assumption)); (focus first | (with_reducible assumption) | omega | (simp; done) | (simp; omega)); (focus first | (with_reducible assumption) | omega | (simp; done) | (simp; omega)); (focus first | (with_reducible assumption) | omega | (simp; done) | (simp; omega))) | ((repeat (with_reducible refine cz_set ?_ _ _ ?_ ?_ ?_; rotate_left 1; (focus first | (with_reducible assumption) | omega | (simp; done) | (simp; omega)); (focus first | (with_reducible assumption) | omega | (simp; done) | (simp; omega)); (focus first | (with_reducible assumption) | omega | (simp; done) | (simp; omega)))); with_reducible assumption))
      ((go_at_call 86; (with_reducible refine (PP.out _).mono ?_); rintro e w3 ⟨rfl, h1⟩; (try with_reducible replace h1 := undrew h1); have hB : Below w.heap.size w w3 := ba (by go_grown) h1; obtain ⟨hcw3, hfw3⟩ := bcell h1; have hqw3 := h1.size; (try simp at hqw3); (try have hz0w3 : w.heap.size < w3.heap.size := (by omega)); (try have he0w3 : w.heap.size ≤ w3.heap.size := (by omega)); (try have hz1w3 : w.heap.size + 1 < w3.heap.size := (by omega)); (try have he1w3 : w.heap.size + 1 ≤ w3.heap.size := (by omega)); (try have hz2w3 : w.heap.size + 1 + 1 < w3.heap.size := (by omega)); (try have he2w3 : w.heap.size + 1 + 1 ≤ w3.heap.size := (by omega)); (try have hz3w3 : w2.heap.size < w3.heap.size := (by omega)); (try have he3w3 : w2.heap.size ≤ w3.heap.size := (by omega))))
    all_goals
      go_wp2_with fail
      refine bodyPost_ret (by simp [results, Try.results50, go_sem, *]; try rfl) rfl ?_
      exact ⟨rfl, by go_grown⟩

theorem frB {wi w1 : World} {G : Nat} (h : ∀ k, k < w1.heap.size → k ≠ G → wi.heap[k]? = w1.heap[k]?) (hz : w1.heap.size ≤ wi.heap.size) (x y : Value) (o : Obj) :
    ∀ k, k < w1.heap.size → k ≠ G → (((wi.setCell ⟨G, 0, none⟩ x).setCell ⟨G, 1, none⟩ y).alloc o).heap[k]? = w1.heap[k]? := fun k hk hne => by
  rw [Below.heap_alloc _ _ _ (by simp; omega)]
  have hne' : ¬ G = k := fun e => hne e.symm
  simp only [World.setCell, Array.getElem?_modify, hne', if_false]
  exact h k hk hne

theorem frA {wi w1 : World} {G : Nat} (h : ∀ k, k < w1.heap.size → k ≠ G → wi.heap[k]? = w1.heap[k]?) (hz : w1.heap.size ≤ wi.heap.size) (o : Obj) :
    ∀ k, k < w1.heap.size → k ≠ G → (wi.alloc o).heap[k]? = w1.heap[k]? := fun k hk hne => by
  rw [Below.heap_alloc _ _ _ (by omega)]
  exact h k hk hne

def lsI (s c : Int) (o : Option Bq) : Int := match o with | none => -1 | some g => prI s c g

theorem czO_mod {n s c : Int} (h : rbG n = true) (hp : (inB s 0 1000 && inB c 0 1000) = true) : czO n s c = chO s c (rbR n) (rbR n).length := by unfold czO; rw [h, hp]; rfl

set_option maxRecDepth 100000 in
set_option maxHeartbeats 1600000 in
theorem spCheapestRing (n s c : Int) (w : World) : Calls Try.prog 49 #[.int .i64 n, .int .i64 s, .int .i64 c] w fun e w' =>
    e = .returned (.tuple #[.agg #[.int .i64 (o2 (czO n s c)).x, .int .i64 (o2 (czO n s c)).r], .int .i64 (prI s c (o2 (czO n s c))), .bool (czO n s c).isSome]) ∧ Below w.heap.size w w' := by
  have PR := Lib.hid (spPrices_any s c)
  have h0 : prI s c (o2 none) = 0 := by simp [prI, o2]
  cases hg : rbG n
  · have hz : czO n s c = none := by unfold czO; rw [hg]; rfl
    have h1 : inB n 1 12 = false := hg
    rw [hz, h0]
    clear hz h0 hg
    go_enter Try.func49, Try.ntmps49
    go_wp2_with (go_at_call 72; refine (l1In_any _ _ _ _).mono ?_; rintro e w' ⟨rfl, rfl⟩)
    refine bodyPost_ret (by simp [results, Try.results49, go_sem, *]; try rfl) rfl ?_
    exact ⟨rfl, by go_grown⟩
  · have h1 : inB n 1 12 = true := hg
    cases hp : (inB s 0 1000 && inB c 0 1000)
    · have hz : czO n s c = none := by unfold czO; rw [hp, Bool.and_false]; rfl
      rw [hz, h0]
      rw [hp] at PR
      clear hz h0 hg hp
      go_enter Try.func49, Try.ntmps49
      go_wp2_with (first | (go_at_call 72; refine (l1In_any _ _ _ _).mono ?_; rintro e w' ⟨rfl, rfl⟩) | (go_at_call 84; refine (PR.out _).mono ?_; rintro e w' ⟨rfl, rfl⟩))
      refine bodyPost_ret (by simp [results, Try.results49, go_sem, *]; try rfl) rfl ?_
      exact ⟨rfl, by go_grown⟩
    · have hs' : (0 ≤ s ∧ s ≤ 1000) ∧ (0 ≤ c ∧ c ≤ 1000) := by simpa [inB] using hp
      rw [czO_mod hg hp]
      rw [hp] at PR
      obtain ⟨m, rfl, m0, hm⟩ := rb_num hg
      have hRR : rbR (m : Int) = rbQ m (m + 1) := by rw [rbR, hg, Int.toNat_natCast]; rfl
      rw [hRR]
      have RB := Lib.hid (spRingBoxes_any m hm)
      unfold BoxPost at RB
      have hle : (rbQ m (m + 1)).length ≤ 13 := Nat.le_trans (rbQ_le m (m + 1)) (by omega)
      have hok : ∀ b ∈ rbQ m (m + 1), bxB 40 b = true := fun b hb => rbQ_ok (Nat.le_refl _) hm hb
      generalize rbQ m (m + 1) = l at *
      obtain ⟨N, hN⟩ : ∃ N, l.length = N := ⟨_, rfl⟩
      have HN := Lib.hid hN
      have HOK := Lib.hid hok
      have HS := Lib.hid hs'
      have HNN := Lib.hid (chO_isSome s c l)
      rw [hN] at hle ⊢
      have H00 := Lib.hid h0
      clear hok hp hRR hN h0 hg hs'
      go_enter Try.func49, Try.ntmps49
      go_wp2_with (first | (go_at_call 72; refine (l1In_any _ _ _ _).mono ?_; rintro e w' ⟨rfl, rfl⟩) | (go_at_call 84; refine (PR.out _).mono ?_; rintro e w' ⟨rfl, rfl⟩))
      (with_reducible refine Calls.mono (RB.out _) ?_)
      rintro e w1 ⟨v, rfl, hO, hb⟩
      rw [HN.out] at hO
      have hz1 := hb.size
      simp at hz1
      have T0 := Lib.hid (((TwoAt.new w ⟨0, 0⟩ 25).below (by simp) (Below.alloc (Below.refl _ _) (Nat.le_refl _) (.cells #[.int .i64 0, .int .i64 0] 25))).below (by simp; omega) hb)
      have T1 := Lib.hid ((TwoAt.new (w.alloc (.cells #[.int .i64 0, .int .i64 0] 25)) ⟨0, 0⟩ 25).below (by simp) hb)
      have HB1 := Lib.hid (ba (by go_grown) hb : Below w.heap.size w w1)
      obtain ⟨av, cv, rfl⟩ := own_formC hO
      have HO := Lib.hid hO
      clear hb hO
      go_wp2_with fail
      go_loopw [10, 28] (fun t i wr => ∃ j : Nat, j ≤ N ∧ i = .int .i64 j ∧ t = .int .i64 (lsI s c (chO s c l j)) ∧ TwoAt wr w.heap.size ⟨0, 0⟩ ∧ TwoAt wr (w.heap.size + 1) (o2 (chO s c l j)) ∧ w1.heap.size ≤ wr.heap.size ∧ (∀ k, k < w1.heap.size → k ≠ w.heap.size + 1 → wr.heap[k]? = w1.heap[k]?) ∧ Below w.heap.size w wr) (fun _ i _ => N - (intOf i).toNat)
      case atStart =>
        refine ⟨0, Nat.zero_le _, rfl, rfl, T0.out, ?_, Nat.le_refl _, fun _ _ _ => rfl, HB1.out⟩
        have := T1.out
        rw [show (w.alloc (.cells #[.int .i64 0, .int .i64 0] 25)).heap.size = w.heap.size + 1 by simp] at this
        exact this
      case round =>
        obtain ⟨j, hj, rfl, rfl, t0, t1, hz, hk, hb⟩ := hrel
        have A0 := Lib.hid t0
        have A1 := Lib.hid t1
        have HB := Lib.hid hb
        have HKK := Lib.hid hk
        obtain ⟨wi, rfl⟩ : ∃ wi : World, wi = wr := ⟨_, rfl⟩
        by_cases hlt : j < N
        · obtain ⟨b, hb1⟩ : ∃ b, l[j]? = some b := ⟨_, List.getElem?_eq_getElem (by rw [HN.out]; exact hlt)⟩
          have hbok := HOK.out b (List.mem_of_getElem? hb1)
          have HNX := Lib.hid (chO_next (s := s) (c := c) hb1)
          obtain ⟨g, rfl⟩ : ∃ g, av = some ⟨g, 0, none⟩ := by
            rcases HO.out.2 with ⟨h, h0⟩ | ⟨g, cap, _, h, _⟩
            · omega
            · injection h with h; exact ⟨g, h⟩
          have hgl := HO.out.lt g rfl
          simp at hgl
          obtain ⟨d0, d1⟩ := (box_of HO.out HN.out) j b hb1
          have hgb : wi.heap[g]? = w1.heap[g]? := hk g (by omega) (by omega)
          have d0' : wi.cell? ⟨g, j * 2, none⟩ = some (.int .i64 b.x) := by rw [World.cell?_of_block (w := w1) (a := ⟨g, j * 2, none⟩) hgb]; exact d0
          have d1' : wi.cell? ⟨g, j * 2 + 1, none⟩ = some (.int .i64 b.r) := by rw [World.cell?_of_block (w := w1) (a := ⟨g, j * 2 + 1, none⟩) hgb]; exact d1
          obtain ⟨q0, q1, q2⟩ := bxB_yes hbok
          obtain ⟨bx, br⟩ := b
          simp only at q0 q1 q2 d0' d1'
          obtain ⟨⟨s0, s1⟩, ⟨c0, c1⟩⟩ := HS.out
          obtain ⟨p0, p1⟩ := pr_bd q0 (by omega) s0 s1
          obtain ⟨u0, u1⟩ := pr_bd q1 (by omega) c0 c1
          have HPR := Lib.hid (show prI s c ⟨bx, br⟩ = bx * s + br * c from rfl)
          have hpr : prI s c ⟨bx, br⟩ = bx * s + br * c := rfl
          have e0 : wrap64 (bx * s) = bx * s := IntWalk.wrap64_in _ ⟨by omega, by omega⟩
          have e1 : wrap64 (br * c) = br * c := IntWalk.wrap64_in _ ⟨by omega, by omega⟩
          have e2 : wrap64 (bx * s + br * c) = bx * s + br * c := IntWalk.wrap64_in _ ⟨by omega, by omega⟩
          have HE2 := Lib.hid e2
          have hw1 : w.heap.size + 1 < wi.heap.size := by omega
          have F1 := Lib.hid ((A1.out.put ⟨bx, br⟩).below (by simp; omega) (Below.alloc (Below.refl _ _) (Nat.le_refl _) (.cells #[.int .i64 bx, .int .i64 br] 25)))
          have F0 := Lib.hid (((A0.out.other (a := ⟨w.heap.size + 1, 0, none⟩) (by simp) (.int .i64 bx)).other (a := ⟨w.heap.size + 1, 1, none⟩) (by simp) (.int .i64 br)).below (by simp; omega) (Below.alloc (Below.refl _ _) (Nat.le_refl _) (.cells #[.int .i64 bx, .int .i64 br] 25)))
          have FK := Lib.hid (frB hk hz (.int .i64 bx) (.int .i64 br) (.cells #[.int .i64 bx, .int .i64 br] 25))
          have FKA := Lib.hid (frA hk hz (.cells #[.int .i64 bx, .int .i64 br] 25))
          have hww : w.heap.size ≤ wi.heap.size := by omega
          have fb : Below w.heap.size w (((wi.setCell ⟨w.heap.size + 1, 0, none⟩ (.int .i64 bx)).setCell ⟨w.heap.size + 1, 1, none⟩ (.int .i64 br)).alloc (.cells #[.int .i64 bx, .int .i64 br] 25)) := ((HB.out.setCell (by show w.heap.size ≤ w.heap.size + 1; omega) _).setCell (by show w.heap.size ≤ w.heap.size + 1; omega) _).alloc (by simp; omega) _
          have FB := Lib.hid fb
          clear fb
          have FBA := Lib.hid (HB.out.alloc hww (.cells #[.int .i64 bx, .int .i64 br] 25))
          have G1 := Lib.hid (A1.out.below (by omega) (Below.alloc (Below.refl _ wi) (Nat.le_refl _) (.cells #[.int .i64 bx, .int .i64 br] 25)))
          have G0 := Lib.hid (A0.out.below (by omega) (Below.alloc (Below.refl _ wi) (Nat.le_refl _) (.cells #[.int .i64 bx, .int .i64 br] 25)))
          obtain ⟨x0, x1, x2, x3⟩ := A1.out
          by_cases hj0 : j = 0
          · subst hj0
            have hls : lsI s c (chO s c l 0) = -1 := rfl
            have HN2 := Lib.hid (show chO s c l (0 + 1) = some ⟨bx, br⟩ from HNX.out)
            rw [hls]
            clear t0 t1 hb1 hk hb d0 d1 hgb hbok hls p0 p1 u0 u1 hpr
            go_wp2_with fail
            go_roundw
            case rel => exact ⟨1, by omega, by go_num, by rw [HN2.out]; exact congrArg _ (HE2.out.trans HPR.out.symm), F0.out, by rw [HN2.out]; exact F1.out, by simp; omega, FK.out, FB.out⟩
            case measure => simp [intOf]; omega
          · obtain ⟨r, hr, hrm⟩ := chO_some (s := s) (c := c) (Nat.pos_of_ne_zero hj0) (show j ≤ l.length by rw [HN.out]; exact hj)
            obtain ⟨r0, r1, r2⟩ := bxB_yes (HOK.out r hrm)
            obtain ⟨v0, v1⟩ := pr_bd r0 (by omega) s0 s1
            obtain ⟨v2, v3⟩ := pr_bd r1 (by omega) c0 c1
            have hls : lsI s c (chO s c l j) = prI s c r := by rw [hr]; rfl
            have hpn : 0 ≤ prI s c r := by unfold prI; omega
            have hcc : chp s c ⟨bx, br⟩ r = decide (bx * s + br * c < prI s c r) := rfl
            have hnx : chO s c l (j + 1) = some (if chp s c ⟨bx, br⟩ r then ⟨bx, br⟩ else r) := by have := HNX.out; rw [hr] at this; exact this
            have hpl : ¬ prI s c r < 0 := by omega
            have HR := Lib.hid hr
            rw [hls]
            rw [hcc] at hnx
            generalize prI s c r = S at *
            clear t0 t1 hb1 hk hb d0 d1 hgb hbok p0 p1 u0 u1 hpr hcc hr hrm v0 v1 v2 v3 r0 r1 r2
            by_cases hlS : bx * s + br * c < S
            · have HN2 := Lib.hid (show chO s c l (j + 1) = some ⟨bx, br⟩ by rw [hnx, decide_eq_true hlS]; rfl)
              clear hnx hls
              go_wp2_with fail
              go_roundw
              case rel => exact ⟨j + 1, by omega, by go_num, by rw [HN2.out]; exact congrArg _ (HE2.out.trans HPR.out.symm), F0.out, by rw [HN2.out]; exact F1.out, by simp; omega, FK.out, FB.out⟩
              case measure => simp [intOf]; omega
            · have HN2 := Lib.hid (show chO s c l (j + 1) = chO s c l j by rw [hnx, decide_eq_false hlS, HR.out]; rfl)
              have HLS := Lib.hid hls
              clear hnx hls
              go_wp2_with fail
              go_roundw
              case rel => exact ⟨j + 1, by omega, by go_num, by rw [HN2.out, HLS.out], G0.out, by rw [HN2.out]; exact G1.out, by simp; omega, FKA.out, FBA.out⟩
              case measure => simp [intOf]; omega
        · obtain rfl : j = N := by omega
          obtain ⟨x0, x1, x2, x3⟩ := A1.out
          obtain ⟨y0, y1, y2, y3⟩ := A0.out
          have hw1 : w.heap.size + 1 < wi.heap.size := by omega
          clear t0 t1 hk
          cases hO2 : chO s c l j
          · have hl1 : lsI s c (none : Option Bq) = -1 := rfl
            have HZ := Lib.hid (And.intro hO2 H00.out)
            rw [hl1]
            clear hl1 x0 x1 x2 x3
            go_wp2_with fail
            refine bodyPost_ret (by simp [results, Try.results49, go_sem, *]; try rfl) rfl ?_
            exact ⟨by rw [H00.out]; rfl, by go_grown⟩
          · rename_i r
            have hrm : r ∈ l := by
              have := fgO_mem _ _ _ hO2
              exact List.mem_of_mem_take this
            obtain ⟨r0, r1, r2⟩ := bxB_yes (HOK.out r hrm)
            obtain ⟨⟨s0, s1⟩, ⟨c0, c1⟩⟩ := HS.out
            obtain ⟨v0, v1⟩ := pr_bd r0 (by omega) s0 s1
            obtain ⟨v2, v3⟩ := pr_bd r1 (by omega) c0 c1
            have hpn : ¬ prI s c r < 0 := by unfold prI; omega
            have hl1 : lsI s c (some r) = prI s c r := rfl
            have HZ := Lib.hid hO2
            rw [hl1]
            rw [hO2] at x0 x1
            simp only [o2, Option.getD_some] at x0 x1
            generalize hS : prI s c r = S at *
            have HSS := Lib.hid hS
            clear hl1 hrm r0 r1 r2 v0 v1 v2 v3 hS hO2
            go_wp2_with fail
            refine bodyPost_ret (by simp [results, Try.results49, go_sem, *]; try rfl) rfl ?_
            exact ⟨by rw [HZ.out]; simp only [o2, Option.getD_some, HSS.out]; rfl, by go_grown⟩

end Go.Proofs.Ytkmgcmgnaeamaaa
