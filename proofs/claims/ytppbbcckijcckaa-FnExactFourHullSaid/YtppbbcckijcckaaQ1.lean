/- Contracts and facts, put together (part 1). Conditions: each says its own. -/
import Derived.Test.YtppbbcckijcckaaRows
import Derived.WalkKit
import Derived.ProofKit
import Derived.Lib.SmallJoins
import Derived.JoinedOf
import Derived.Test.YtppbbcckijcckaaProg
import Derived.Handy
import Derived.Lib.Hide
import Derived.Lib.MinMax
import Derived.Laws.StructEq
import Derived.Deep.QuietTactic
import Derived.BigQuiet
import Derived.WalkLawsBesides
import Derived.WalkSpells
import Derived.Outline
import Derived.StillTailTactics
import Derived.Deep.RegionHeld3
import Derived.StillTail
import Derived.Lib.QuietBelow
import Derived.LoopTactic

/- What every law's row shares: the arguments read as they did, since below the heap's old size nothing has turned; an argument is opened to its numbers. -/
namespace Go.Proofs.Ytppbbcckijcckaa
open Go.ChangeShapes Go.WideShapes Go.ChangeAt Go.RowKit Go.Joins

theorem Try.own : ownKnob Try.prog.godebug = none := by kernel_rfl

theorem Try.laidOut : laidOutB Try.prog = true := by kernel_rfl

theorem trodAll_below {H : Type} {enc : TypeId × Value → H} {P : Program} (hl : laidOutB P = true) {W W' : World} (hb : Below W.heap.size W W') :
    ∀ {ts : List TypeId} {vs : List Value} {ds : List (DataW H)} {ps : List MemPlace}, ts.all (fun t => P.readableRec t && decide (t < P.types.size)) = true → (∀ x ∈ ps, x.block < W.heap.size) →
      DataW.TrodAll enc P W 0 (fun _ => true) true ts vs ds ps → DataW.TrodAll enc P W' 0 (fun b => decide (b < W.heap.size)) true ts vs ds ps
  | [], [], [], _, _, _, h => h
  | t :: ts, v :: vs, d :: ds, ps, ht, hp, h => by
    obtain ⟨p, q, h1, h2, rfl⟩ := h
    simp only [List.all_cons, Bool.and_eq_true, decide_eq_true_eq] at ht
    exact ⟨p, q, Below.trod hl ht.1.1 ht.1.2 h1 hb (fun x hx => hp x (by simp [hx])), trodAll_below hl hb ht.2 (fun x hx => hp x (by simp [hx])) h2, rfl⟩
  | [], [], _ :: _, _, _, _, h => h.elim
  | [], _ :: _, _, _, _, _, h => h.elim
  | _ :: _, [], _, _, _, _, h => h.elim
  | _ :: _, _ :: _, [], _, _, _, h => h.elim

/-- The row's last step of a law: it returned true, and nothing that was there has turned. -/
theorem law_post {H : Type} {enc : TypeId × Value → H} {P : Program} {f : Func} {s : ChangeSpec} {apart : Bool} {W W' : World} {args : Array Value} {ds gs : List (DataW H)} {before : List MemPlace} {tb : TypeId}
    (hl : laidOutB P = true) (hts : f.params.toList.all (fun t => P.readableRec t && decide (t < P.types.size)) = true) (hr : f.resultTypes = #[tb]) (htb : P.underlying tb = some .bool)
    (hv : s.vars = []) (hfn : s.fn H ds = { results := [.lit (.bool true)], args := ds })
    (hW : DataW.Whole enc P f.params.toList s.vars apart W args.toList ds gs before) (hB : Below W.heap.size W W') :
    s.post enc P f apart true false false W args (.bool true) W' := by
  have hlt : ∀ x ∈ before, x.block < W.heap.size := fun x hx => hW.lt x hx
  have hW0 := hW
  obtain ⟨p, q, hA, hV, rfl, _, _⟩ := hW
  rw [hv] at hV
  obtain ⟨rfl, rfl⟩ := trodVars_none hV
  refine ⟨ds, [], _, [], p, [], hW0, ?_, ?_, ?_, hB.frame _, fun h => by cases h⟩
  · rw [List.append_nil, hfn, hr]
    exact trodAll_mk1 (shut_bool htb true)
  · rw [List.append_nil, hfn]
    exact trodAll_below hl hB hts (fun x hx => hlt x (by simp [hx])) hA
  · rw [List.append_nil, hfn, hv]
    rfl

end Go.Proofs.Ytppbbcckijcckaa

/- The head of the translation: its signs, its words, and what a row's closed facts read of it. -/
namespace Go.Proofs.Ytppbbcckijcckaa

def headN : List Nat := [104, 97, 114, 110, 101, 115, 115, 32, 49, 56, 56, 99, 53, 53, 56, 99, 49, 49, 100, 49, 50, 57, 51, 48, 100, 101, 53, 53, 56, 57, 55, 98, 53, 55, 57, 48, 99, 53, 48, 99, 53, 51, 100, 101, 49, 101, 50, 55, 101, 50, 99, 100, 56, 101, 98, 56, 51, 53, 56, 54, 54, 51, 57, 52, 48, 54, 51, 99, 98, 55, 100, 48, 32, 99, 117, 116, 32, 97, 116, 32, 108, 111, 111, 112, 46, 101, 120, 97, 109, 112, 108, 101, 47, 103, 48, 49, 50, 49, 55, 47, 108, 97, 119, 115, 46, 70, 110, 69, 120, 97, 99, 116, 83, 105, 100, 101, 79, 102, 32, 108, 111, 111, 112, 46, 101, 120, 97, 109, 112, 108, 101, 47, 103, 48, 49, 50, 49, 55, 47, 108, 97, 119, 115, 46, 70, 110, 69, 120, 97, 99, 116, 73, 115, 66, 101, 116, 119, 101, 101, 110, 32, 108, 111, 111, 112, 46, 101, 120, 97, 109, 112, 108, 101, 47, 103, 48, 49, 50, 49, 55, 47, 108, 97, 119, 115, 46, 70, 110, 69, 120, 97, 99, 116, 83, 104, 97, 114, 101, 67, 104, 111, 114, 100, 115, 32, 108, 111, 111, 112, 46, 101, 120, 97, 109, 112, 108, 101, 47, 103, 48, 49, 50, 49, 55, 47, 108, 97, 119, 115, 46, 70, 110, 69, 120, 97, 99, 116, 70, 111, 117, 114, 80, 111, 108, 121, 103, 111, 110, 32, 108, 111, 111, 112, 46, 101, 120, 97, 109, 112, 108, 101, 47, 103, 48, 49, 50, 49, 55, 47, 108, 97, 119, 115, 46, 70, 110, 69, 120, 97, 99, 116, 70, 111, 117, 114, 65, 114, 101, 97, 32, 108, 111, 111, 112, 46, 101, 120, 97, 109, 112, 108, 101, 47, 103, 48, 49, 50, 49, 55, 47, 108, 97, 119, 115, 46, 70, 110, 69, 120, 97, 99, 116, 87, 105, 100, 116, 104, 79, 102, 32, 108, 111, 111, 112, 46, 101, 120, 97, 109, 112, 108, 101, 47, 103, 48, 49, 50, 49, 55, 47, 108, 97, 119, 115, 46, 70, 110, 69, 120, 97, 99, 116, 72, 101, 105, 103, 104, 116, 79, 102, 32, 108, 111, 111, 112, 46, 101, 120, 97, 109, 112, 108, 101, 47, 103, 48, 49, 50, 49, 55, 47, 108, 97, 119, 115, 46, 70, 110, 69, 120, 97, 99, 116, 67, 111, 117, 110, 116, 67, 114, 111, 115, 115, 105, 110, 103, 115, 32, 108, 111, 111, 112, 46, 101, 120, 97, 109, 112, 108, 101, 47, 103, 48, 49, 50, 49, 55, 47, 108, 97, 119, 115, 46, 70, 110, 69, 120, 97, 99, 116, 73, 115, 83, 105, 109, 112, 108, 101, 32, 108, 111, 111, 112, 46, 101, 120, 97, 109, 112, 108, 101, 47, 103, 48, 49, 50, 49, 55, 47, 108, 97, 119, 115, 46, 70, 110, 69, 120, 97, 99, 116, 87, 105, 110, 100, 105, 110, 103, 65, 114, 111, 117, 110, 100, 32, 108, 111, 111, 112, 46, 101, 120, 97, 109, 112, 108, 101, 47, 103, 48, 49, 50, 49, 55, 47, 108, 97, 119, 115, 46, 70, 110, 69, 120, 97, 99, 116, 72, 117, 108, 108, 79, 102, 32, 108, 111, 111, 112, 46, 101, 120, 97, 109, 112, 108, 101, 47, 103, 48, 49, 50, 49, 55, 47, 108, 97, 119, 115, 46, 70, 110, 69, 120, 97, 99, 116, 70, 97, 114, 116, 104, 101, 115, 116, 80, 97, 105, 114, 32, 108, 111, 111, 112, 46, 101, 120, 97, 109, 112, 108, 101, 47, 103, 48, 49, 50, 49, 55, 47, 108, 97, 119, 115, 46, 70, 110, 69, 120, 97, 99, 116, 70, 111, 117, 114, 72, 117, 108, 108, 32, 108, 111, 111, 112, 46, 101, 120, 97, 109, 112, 108, 101, 47, 103, 48, 49, 50, 49, 55, 47, 108, 97, 119, 115, 46, 70, 110, 69, 120, 97, 99, 116, 73, 115, 67, 111, 110, 118, 101, 120, 84, 114, 97, 99, 107]

def sp32 : List Nat → List (List Nat)
  | [] => [[]]
  | n :: r => if n = 32 then [] :: sp32 r else match sp32 r with
    | w :: ws => (n :: w) :: ws
    | [] => [[n]]

theorem sp32_ne (l : List Nat) : sp32 l ≠ [] := by
  cases l with
  | nil => simp [sp32]
  | cons n r =>
    rw [sp32]
    split
    · simp
    · split <;> simp

theorem ofNat_32 : ∀ n : Nat, n < 128 → (Char.ofNat n = Char.ofNat 32 ↔ n = 32) := by
  intro n hn
  have h : ∀ m : Fin 128, Char.ofNat m.val = Char.ofNat 32 ↔ m.val = 32 := by decide
  exact h ⟨n, hn⟩

theorem ws_sp (r : List Char) : wordsSigns (Char.ofNat 32 :: r) = [] :: wordsSigns r := rfl

theorem ws_no (c : Char) (h : c ≠ Char.ofNat 32) (r : List Char) : wordsSigns (c :: r) = match wordsSigns r with | w :: ws => (c :: w) :: ws | [] => [[c]] := by
  rw [wordsSigns]
  · rfl
  · exact h

theorem ws_split : ∀ l : List Nat, (∀ n ∈ l, n < 128) → wordsSigns (l.map Char.ofNat) = (sp32 l).map fun x => x.map Char.ofNat
  | [], _ => rfl
  | n :: r, h => by
    have ih := ws_split r fun m hm => h m (by simp [hm])
    by_cases e : n = 32
    · subst e
      rw [List.map_cons, ws_sp, ih, sp32, if_pos rfl]
      rfl
    · rw [List.map_cons, ws_no _ (fun q => e ((ofNat_32 n (h n (by simp))).1 q)), ih, sp32, if_neg e]
      cases hs : sp32 r with
      | nil => exact absurd hs (sp32_ne r)
      | cons w ws => rfl

set_option maxRecDepth 100000 in
theorem head_is : Try.prog.initOrder = String.ofList (headN.map Char.ofNat) := by kernel_rfl

set_option maxRecDepth 100000 in
theorem head_low : headN.all (fun n => decide (n < 128)) = true := by kernel_rfl

def headW : List (List Nat) := (sp32 headN).take 6

theorem head_words : wordsSigns Try.prog.initOrder.toList = (sp32 headN).map fun x => x.map Char.ofNat := by
  rw [head_is, String.toList_ofList]
  exact ws_split _ fun n hn => of_decide_eq_true (List.all_eq_true.1 head_low n hn)

set_option maxRecDepth 100000 in
theorem head_cut : ∃ R, behindMainWord (wordsSigns Try.prog.initOrder.toList) = "cut".toList :: R := by
  rw [head_words]
  refine ⟨((sp32 headN).drop 3).map (fun x => x.map Char.ofNat), ?_⟩
  kernel_rfl

set_option maxRecDepth 100000 in
theorem head_main : ∃ R, wordsSigns Try.prog.initOrder.toList = "harness".toList :: "188c558c11d12930de55897b5790c50c53de1e27e2cd8eb835866394063cb7d0".toList :: R := by
  rw [head_words]
  refine ⟨((sp32 headN).drop 2).map (fun x => x.map Char.ofNat), ?_⟩
  kernel_rfl

theorem main_gen (P : Program) (s : List Char) (R : List (List Char)) (h : wordsSigns P.initOrder.toList = "harness".toList :: s :: R) (hs : isSumSigns s = true) : P.mainIs = some (true, s) := by
  unfold Program.mainIs
  rw [h]
  simp [hs]

set_option maxRecDepth 100000 in
theorem main_ok : Try.prog.mainIs = some (true, "188c558c11d12930de55897b5790c50c53de1e27e2cd8eb835866394063cb7d0".toList) := by
  obtain ⟨R, h⟩ := head_main
  exact main_gen _ _ R h (by kernel_rfl)

theorem make_gen (P : Program) (R : List (List Char)) (h : behindMainWord (wordsSigns P.initOrder.toList) = "cut".toList :: R) : P.make = some .cut := by
  unfold Program.make
  rw [h]
  rfl

set_option maxRecDepth 100000 in
theorem enter_gen (P : Program) (R : List (List Char)) (h : behindMainWord (wordsSigns P.initOrder.toList) = "cut".toList :: R) (h1 : P.laysLater = false) (h2 : P.bearsReflect = false) (h3 : P.doorFits [] = true) : P.mayEnter = true := by
  have hs : stripLifts liftWords ("cut".toList :: R) = ([], "cut".toList :: R) := by kernel_rfl
  unfold Program.mayEnter
  rw [h]
  simp only [hs, h1, h2, h3]
  rfl

set_option maxRecDepth 100000 in
theorem lifts_gen (P : Program) (R : List (List Char)) (h : behindMainWord (wordsSigns P.initOrder.toList) = "cut".toList :: R) : P.liftsFinal = false := by
  have hs : stripLifts liftWords ("cut".toList :: R) = ([], "cut".toList :: R) := by kernel_rfl
  unfold Program.liftsFinal Program.headLifts
  rw [h, hs]
  rfl

set_option maxRecDepth 100000 in
theorem enter_ok : Try.prog.mayEnter = true := by
  obtain ⟨R, h⟩ := head_cut
  exact enter_gen _ R h (by kernel_rfl) (by kernel_rfl) (by kernel_rfl)

theorem lifts_ok : Try.prog.liftsFinal = false := by
  obtain ⟨R, h⟩ := head_cut
  exact lifts_gen _ R h

theorem make_ok : Try.prog.make = some .cut := by
  obtain ⟨R, h⟩ := head_cut
  exact make_gen _ R h

end Go.Proofs.Ytppbbcckijcckaa

/- An argument that is a point, opened to its numbers. -/
namespace Go.Proofs.Ytppbbcckijcckaa
open Go.ChangeShapes Go.WideShapes Go.ChangeAt Go.RowKit Go.Joins

set_option maxRecDepth 100000 in
theorem open_point {H : Type} {enc : TypeId × Value → H} {W : World} {base : Nat} {spare : Nat → Bool} {held : Bool} {r : Reach} {b0 : Nat} {v : Value} {d : DataW H} {p : List MemPlace}
    (hv : Value.okWide Try.prog W r b0 23 v) (h : DataW.Trod enc Try.prog W base spare held 23 v d p) : ∃ a0 a1 a2 a3 : Int, v = .agg #[.int .i64 a0, .int .i64 a1, .int .i64 a2, .int .i64 a3] := by
  obtain ⟨c0, c1, c2, c3, y0, y1, y2, y3, m, rfl, _, _, hy0, hy1, hy2, hy3⟩ := open_agg4 Try.underlying23 (by kernel_rfl) (by kernel_rfl) hv h
  obtain ⟨a0, e0, _, _⟩ := DataW.trod_int Try.underlying3 hy0
  obtain ⟨a1, e1, _, _⟩ := DataW.trod_int Try.underlying3 hy1
  obtain ⟨a2, e2, _, _⟩ := DataW.trod_int Try.underlying3 hy2
  obtain ⟨a3, e3, _, _⟩ := DataW.trod_int Try.underlying3 hy3
  simp at e0 e1 e2 e3
  subst e0 e1 e2 e3
  exact ⟨a0, a1, a2, a3, rfl⟩

end Go.Proofs.Ytppbbcckijcckaa

/- Small rules on worlds that have grown. -/
namespace Go.Proofs.Ytppbbcckijcckaa
open Go.ChangeShapes Go.WideShapes Go.ChangeAt Go.RowKit

theorem bcell {W w1 : World} (hb : Below W.heap.size W w1) : (∀ b o, b < W.heap.size → w1.cell? ⟨b, o, none⟩ = W.cell? ⟨b, o, none⟩) ∧ (∀ b o, b < W.heap.size → w1.frozen? ⟨b, o, none⟩ = W.frozen? ⟨b, o, none⟩) :=
  ⟨fun b o h => hb.cell (p := ⟨b, o, none⟩) h, fun b o h => hb.frozen (p := ⟨b, o, none⟩) h⟩

theorem undrew {W w1 : World} (h : Below W.drew.heap.size W.drew w1) : Below W.heap.size W w1 := ⟨h.os, h.tape, h.output, h.size, h.block⟩

theorem blt {W w1 : World} (hb : Below W.heap.size W w1) : ∀ n, n < W.heap.size → n < w1.heap.size := fun _ h => Nat.lt_of_lt_of_le h hb.size

theorem lt2 : ∀ n : Nat, n < n + 1 + 1 := fun _ => by omega

theorem lt3 : ∀ n : Nat, n < n + 1 + 1 + 1 := fun _ => by omega

/-- One stretch behind another: what was there at the first one's beginning has not turned. -/
theorem ba {a b c : World} (h : Below a.heap.size a b) (k : Below b.heap.size b c) : Below a.heap.size a c := h.trans (k.mono h.size)

/-- A contract that leaves the world alone, turned for a region. -/
theorem turned {P : Program} {f : FuncId} {args : Array Value} {w : World} {v : Value} (h : Calls P f args w fun e w' => e = .returned v ∧ w = w') : Calls P f args w fun e w' => e = .returned v ∧ w' = w :=
  h.mono fun _ _ h => ⟨h.1, h.2.symm⟩

/-- A contract that leaves the world alone, for one that makes memory. -/
theorem grownOf {P : Program} {f : FuncId} {args : Array Value} {w : World} {v : Value} (h : Calls P f args w fun e w' => e = .returned v ∧ w = w') : Calls P f args w fun e w' => e = .returned v ∧ Below w.heap.size w w' :=
  h.mono fun _ _ ⟨h1, h2⟩ => ⟨h1, by subst h2; exact Below.refl _ _⟩

end Go.Proofs.Ytppbbcckijcckaa

/- Contracts for points: which numbers are a point's, in the model and in the program; a point is handed on and compared. -/
namespace Go.Proofs.Ytppbbcckijcckaa
open Go.ChangeShapes Go.WideShapes Go.ChangeAt Go.RowKit

def goodB (a b c d : Int) : Bool := decide (-999999 ≤ a ∧ a ≤ 999999 ∧ -999999 ≤ b ∧ b ≤ 999999 ∧ -999999 ≤ c ∧ c ≤ 999999 ∧ -999999 ≤ d ∧ d ≤ 999999)

/-- '==' on two points, the model's entry reckoned once. -/
@[go_sem high] theorem eqPt (a0 a1 a2 a3 : Int) (b0 b1 b2 b3 : Int) (w : World) : (binOp .eql 26 (.agg #[.int .i64 a0, .int .i64 a1, .int .i64 a2, .int .i64 a3]) (.agg #[.int .i64 b0, .int .i64 b1, .int .i64 b2, .int .i64 b3])).run Try.prog w = .ok (.bool (a0 == b0 && (a1 == b1 && (a2 == b2 && a3 == b3)))) w := by
  have hS : Try.prog.underlying 26 = some (.struct (Try.prog.fieldsOf 26)) := by kernel_rfl
  have hp : Try.prog.stoodInHeld 26 = false := by kernel_rfl
  rw [run_eql_struct, show (10000 : Nat) = 9999 + 1 from rfl, run_equalIn_agg w 9999 26 _ _ hS hp]
  simp only [Program.fieldsOf, Try.underlying26]
  go_simp
  by_cases h0 : a0 = b0 <;> by_cases h1 : a1 = b1 <;> by_cases h2 : a2 = b2 <;> by_cases h3 : a3 = b3 <;> simp [h0, h1, h2, h3]

theorem toPoint_any (a0 a1 a2 a3 : Int) (w : World) :
    Calls Try.prog 18 #[.agg #[.int .i64 a0, .int .i64 a1, .int .i64 a2, .int .i64 a3]] w fun e w' => e = .returned (.agg #[.int .i64 a0, .int .i64 a1, .int .i64 a2, .int .i64 a3]) ∧ Below w.heap.size w w' := by
  go_enter Try.func18, Try.ntmps18
  go_wp2
  go_returns
  exact ⟨rfl, by go_grown⟩

end Go.Proofs.Ytppbbcckijcckaa

/- Two equal surds are told as equal. -/
namespace Go.Proofs.Ytppbbcckijcckaa
open Go.ChangeShapes Go.WideShapes Go.ChangeAt Go.RowKit

set_option maxRecDepth 100000 in
set_option maxHeartbeats 400000 in
theorem eqSurd_same (s0 s1 : Int) (w : World) :
    Calls Try.prog 26 #[.agg #[.int .i64 s0, .int .i64 s1], .agg #[.int .i64 s0, .int .i64 s1]] w fun e w' => e = .returned (.bool true) ∧ Below w.heap.size w w' := by
  go_enter Try.func26, Try.ntmps26
  go_wp2
  go_returns
  exact ⟨rfl, by go_grown⟩

end Go.Proofs.Ytppbbcckijcckaa

/- A region that draws its order: loads and calls that leave what was there as it was, walked once in the order of the text; behind them operations that wait for all (a store of the result, an alloc), one after another. -/
namespace Go.Proofs.Ytppbbcckijcckaa
open Go.ChangeShapes Go.WideShapes Go.ChangeAt Go.RowKit Go.Sort

section
variable {P : Program} {ops : Array Oper} {md : Region.Mode} {C : World → Prop}

/-- Of the head's operations f are still to come, in whatever order; behind them L. -/
def headQ (P : Program) (md : Region.Mode) (ops : Array Oper) (C : World → Prop) (n : Nat) (L : Array Bool → Act → Prop) : Nat → Array Bool → Act → Prop
  | 0, listed, a => L listed a
  | f + 1, listed, a => Region.ready md ops listed ≠ [] ∧ ∀ i ∈ Region.ready md ops listed, i < n ∧ qOp P ops C i (headQ P md ops C n L f (listed.setIfInBounds i true)) a

theorem any_of_headQ {n g : Nat} {L : Array Bool → Act → Prop} {Q' : Exit → Act → World → Prop} (hL : ∀ listed a w, C w → L listed a → wpAny P md ops Q' g listed a w) (f : Nat) :
    ∀ (listed : Array Bool) (a : Act) (w : World), C w → headQ P md ops C n L f listed a → wpAny P md ops Q' (f + g) listed a w := by
  induction f with
  | zero => intro listed a w hw h; rw [Nat.zero_add]; exact hL _ _ _ hw h
  | succ f ih =>
    intro listed a w hw h
    rw [Nat.add_right_comm]
    exact ⟨fun h0 => absurd h0 h.1, fun i hi => wpOp_of_qOp hw (fun a' w' hw' h' => ih _ a' w' hw' h') (h.2 i hi).2⟩

theorem headQ_first {n i : Nat} {oi : Oper} {v : Value} {L : Array Bool → Act → Prop} (hi : ops[i]? = some oi) (hsel : ∀ (j : Nat) (o : Oper) cs b, ops[j]? = some o → o.op ≠ .select cs b)
    (hs : Region.sinkB md ops n = true) (hc : Region.chainB md ops n = true) (hn : n < ops.size) (hin : i < n)
    (hdone : ∀ listed a, L listed a → ∀ j ∈ Region.ready md ops listed, n ≤ j) (f : Nat) :
    ∀ (listed : Array Bool) (a : Act), HeadInv md ops n listed →
      (∀ j oj, ops[j]? = some oj → j ≠ i → listed.getD j true = false → (∀ e ∈ oj.after, Region.binds md e = true → e.on ≠ i) → oi.apart ops oj = true) →
      i ∈ Region.ready md ops listed → YieldsIn P ops C oi v a →
      headQ P md ops C n L f (listed.setIfInBounds i true) (a.put oi.dst v) → headQ P md ops C n L (f + 1) listed a := by
  induction f with
  | zero =>
    intro listed a inv _ hr hy H
    have hun := (mem_ready.1 hr).1
    refine ⟨List.ne_nil_of_mem hr, fun j hj => ?_⟩
    have hjn : j < n := by
      by_cases h : j < n
      · exact h
      · exact absurd hj (tail_waits hs hc hn inv _ i rfl hin hun j (Nat.le_of_not_lt h))
    by_cases hji : j = i
    · subst hji; exact ⟨hjn, hy.qOp hi H⟩
    · have := hdone _ _ H j (ready_mono hj hji)
      omega
  | succ f ih =>
    intro listed a inv hfree hr hy H
    have hun := (mem_ready.1 hr).1
    refine ⟨List.ne_nil_of_mem hr, fun j hj => ?_⟩
    have hjn : j < n := by
      by_cases h : j < n
      · exact h
      · exact absurd hj (tail_waits hs hc hn inv _ i rfl hin hun j (Nat.le_of_not_lt h))
    by_cases hji : j = i
    · subst hji; exact ⟨hjn, hy.qOp hi H⟩
    · obtain ⟨hjun, oj, hoj, hall⟩ := mem_ready.1 hj
      have hnot : ∀ e ∈ oj.after, Region.binds md e = true → e.on ≠ i := fun e he hb heq => by
        have h1 := hall e he hb
        rw [heq, getD_both hun] at h1
        cases h1
      have h2 := qOp_put hoj (hfree j oj hoj hji hjun hnot) (fun cs b => hsel i oi cs b hi) (fun cs b => hsel j oj cs b hoj) hy (H.2 j (ready_mono hj hji)).2
      refine ⟨hjn, qOp_mono (fun a' h3 => ih (listed.setIfInBounds j true) a' (inv.set hj hjn) (fun k ok hk hki hunk hno => ?_) (ready_mono hr (Ne.symm hji)) h3.1 ?_) h2⟩
      · refine hfree k ok hk hki ?_ hno
        by_cases hjk : j = k
        · subst hjk; exact hjun
        · rw [getD_set_ne true hjk] at hunk; exact hunk
      · rw [Array.setIfInBounds_comm _ _ hji]
        exact h3.2

theorem headQ_lex {n g : Nat} {Lq : Act → Prop} (hsel : Region.noSelect ops = true) (hs : Region.sinkB md ops n = true) (hc : Region.chainB md ops n = true) (hn : n < ops.size) (l : List Oper) :
    ∀ (k : Nat) (listed : Array Bool) (a : Act), (∀ j, j < l.length → l[j]? = ops[k + j]?) → k + l.length = n → HeadInv md ops n listed →
    Region.lexHead md ops g l.length k listed = true → wpQuiet P ops C Lq l a →
    headQ P md ops C n (fun listed' a' => Region.seqB md ops g n listed' = true ∧ Lq a') l.length listed a := by
  induction l with
  | nil =>
    intro k listed a _ hk _ hB h
    have : k = n := by simpa using hk
    subst this
    exact ⟨by simpa [Region.lexHead] using hB, h⟩
  | cons o l ih =>
    intro k listed a hl hk inv hB h
    simp only [List.length_cons] at hk
    have h0 : ops[k]? = some o := by simpa using (hl 0 (by simp)).symm
    simp only [List.length_cons, Region.lexHead, Bool.and_eq_true] at hB
    obtain ⟨⟨hr, hf⟩, hB'⟩ := hB
    have hr' : k ∈ Region.ready md ops listed := by simpa using hr
    have hq : qOp P ops C k (wpQuiet P ops C Lq l) a := by unfold qOp; simp only [h0]; exact h
    obtain ⟨v, hy, hK⟩ := yieldsIn_of_qOp h0 hq
    refine headQ_first h0 (Region.noSelect_spec hsel) hs hc hn (by omega) (fun _ _ hL => seqB_ready hL.1) l.length listed a inv (Region.free_spec h0 hf) hr' hy (ih (k + 1) _ _ (fun j hj => ?_) (by omega) (inv.set hr' (by omega)) hB' hK)
    have := hl (j + 1) (by simp; omega)
    simpa [Nat.add_assoc, Nat.add_comm 1 j] using this

/-- The head once, in the order of the text, every operation quiet in the class; behind it the tail, from every world of the class. -/
theorem region_quiet_tail {id : Nat} {Q : Exit → Act → World → Prop} {a : Act} {w : World} {l : List Oper} (n : Nat) (hm : P.follows .mixedOrders = true) (hB : Region.lexTailB .any l.toArray n = true) (hC : C w.drew)
    (h : wpQuiet P l.toArray C (fun a' => ∀ w', C w' → wpList P l.toArray Q (l.drop n) a' w') (l.take n) a) : (Code.region id l.toArray true).wp P Q a w := by
  simp only [Region.lexTailB, Bool.and_eq_true, decide_eq_true_eq] at hB
  obtain ⟨⟨⟨⟨hsel, hn⟩, hs⟩, hc⟩, hlex⟩ := hB
  have hn' : n < l.length := by simpa using hn
  have htl : (l.take n).length = n := by simp; omega
  have hdl : (l.drop n).length = l.toArray.size - n := by simp
  have H := headQ_lex (C := C) (md := .any) (g := l.toArray.size - n) hsel hs hc hn (l.take n) 0 (Array.replicate l.toArray.size false) a (fun j hj => by
    rw [htl] at hj; simp [hj]) (by simpa using htl)
    ⟨by simp, fun j oj _ hl => (by rw [getD_replicate_false] at hl; cases hl), fun t _ ht => getD_in (by simpa using ht) (getD_replicate_false _ _)⟩ (by rw [htl]; exact hlex) h
  refine wp_region_any hm ?_
  have := any_of_headQ (Q' := Q) (g := l.toArray.size - n) (fun listed a' w' hw' hL => by
    have := wpAny_of_seq (md := .any) (Q' := Q) (l.drop n) n listed a' w' (fun j => by simp [List.getElem?_drop]) (by rw [hdl]; exact hL.1) (hL.2 w' hw')
    rwa [hdl] at this) _ _ _ _ hC H
  rw [htl, show n + (l.toArray.size - n) = l.toArray.size by omega] at this
  exact this
end

/-- The class: what was there is as it was; how often the tape was asked, and what was made behind, is left open. -/
theorem region_below_tail {P : Program} {id : Nat} {Q : Exit → Act → World → Prop} {a : Act} {w : World} {l : List Oper} (n : Nat) (hm : P.follows .mixedOrders = true) (hB : Region.lexTailB .any l.toArray n = true)
    (h : wpQuiet P l.toArray (fun w' => ∃ p : Regrown, w' = grow (redrawn w p.d) p.os) (fun a' => ∀ w', (∃ p : Regrown, w' = grow (redrawn w p.d) p.os) → wpList P l.toArray Q (l.drop n) a' w') (l.take n) a) : (Code.region id l.toArray true).wp P Q a w :=
  region_quiet_tail n hm hB ⟨⟨w.drawn + 1, #[]⟩, by rw [grow_empty]; rfl⟩ h

end Go.Proofs.Ytppbbcckijcckaa

/- Contract: whether a number lies between two. -/
namespace Go.Proofs.Ytppbbcckijcckaa
open Go.ChangeShapes Go.WideShapes Go.ChangeAt Go.RowKit

def inB (n lo hi : Int) : Bool := decide (lo ≤ n ∧ n ≤ hi)

set_option maxRecDepth 100000 in
theorem l1In_any (n lo hi : Int) (w : World) :
    Calls Try.prog 127 #[.int .i64 n, .int .i64 lo, .int .i64 hi] w fun e w' => e = .returned (.bool (inB n lo hi)) ∧ w = w' := by
  go_enter Try.func127, Try.ntmps127
  go_wp2
  · go_ret
    exact ⟨by simp [inB, *], rfl⟩
  · go_ret
    exact ⟨by simp [inB]; omega, rfl⟩

end Go.Proofs.Ytppbbcckijcckaa

/- Contracts: the program's IsPoint, the model's. -/
namespace Go.Proofs.Ytppbbcckijcckaa
open Go.ChangeShapes Go.WideShapes Go.ChangeAt Go.RowKit

theorem good_clip (a0 a1 a2 a3 : Int) : (a0 == max (-999999) (min a0 999999) && (a1 == max (-999999) (min a1 999999) && (a2 == max (-999999) (min a2 999999) && a3 == max (-999999) (min a3 999999)))) = goodB a0 a1 a2 a3 := by
  unfold goodB
  rw [Bool.eq_iff_iff]
  simp only [Bool.and_eq_true, beq_iff_eq, decide_eq_true_eq]
  omega

theorem good_in (a0 a1 a2 a3 : Int) : (inB a0 (-999999) 999999 && (inB a1 (-999999) 999999 && (inB a2 (-999999) 999999 && inB a3 (-999999) 999999))) = goodB a0 a1 a2 a3 := by
  unfold goodB inB
  rw [Bool.eq_iff_iff]
  simp only [Bool.and_eq_true, decide_eq_true_eq]
  omega

set_option maxRecDepth 100000 in
set_option maxHeartbeats 400000 in
theorem l1All4_any (a0 a1 a2 a3 : Int) (lo hi : Int) (b : Nat) (w : World) (c0 : w.cell? ⟨b, 0, none⟩ = some (.int .i64 a0)) (c1 : w.cell? ⟨b, 1, none⟩ = some (.int .i64 a1)) (c2 : w.cell? ⟨b, 2, none⟩ = some (.int .i64 a2)) (c3 : w.cell? ⟨b, 3, none⟩ = some (.int .i64 a3)) :
    Calls Try.prog 105 #[.slice (some ⟨b, 0, none⟩) 4 4, .int .i64 lo, .int .i64 hi] w fun e w' => e = .returned (.bool (inB a0 lo hi && (inB a1 lo hi && (inB a2 lo hi && inB a3 lo hi)))) ∧ w = w' := by
  go_enter Try.func105, Try.ntmps105
  go_wp2_with fail
  refine wp_loop_rounds 5 ?_
  repeat any_goals (rw [rounds_succ]; go_wp2_with (go_at_call 127; refine (l1In_any _ _ _ _).mono ?_; rintro e w' ⟨rfl, rfl⟩))
  all_goals go_ret
  all_goals exact ⟨by simp_all, rfl⟩

end Go.Proofs.Ytppbbcckijcckaa

/- What is let out: a number, or 0. -/
namespace Go.Proofs.Ytppbbcckijcckaa
def sel (g : Bool) (a : Int) : Int := cond g a 0
end Go.Proofs.Ytppbbcckijcckaa

/- Contracts: sums, multiples and differences of points, in the model and in the program; a point is let out or not; two equal points. -/
namespace Go.Proofs.Ytppbbcckijcckaa
open Go.ChangeShapes Go.WideShapes Go.ChangeAt Go.RowKit

set_option maxRecDepth 100000 in
theorem spAdd_any (a0 a1 a2 a3 : Int) (b0 b1 b2 b3 : Int) (w : World) :
    Calls Try.prog 132 #[.agg #[.int .i64 a0, .int .i64 a1, .int .i64 a2, .int .i64 a3], .agg #[.int .i64 b0, .int .i64 b1, .int .i64 b2, .int .i64 b3]] w fun e w' => e = .returned (.agg #[.int .i64 (wrap64 (a0 + b0)), .int .i64 (wrap64 (a1 + b1)), .int .i64 (wrap64 (a2 + b2)), .int .i64 (wrap64 (a3 + b3))]) ∧ Below w.heap.size w w' := by
  go_enter Try.func132, Try.ntmps132
  go_wp2
  go_returns
  exact ⟨rfl, by go_grown⟩

set_option maxRecDepth 100000 in
theorem imPlus_any (a0 a1 a2 a3 : Int) (b0 b1 b2 b3 : Int) (w : World) :
    Calls Try.prog 142 #[.agg #[.int .i64 a0, .int .i64 a1, .int .i64 a2, .int .i64 a3], .agg #[.int .i64 b0, .int .i64 b1, .int .i64 b2, .int .i64 b3]] w fun e w' => e = .returned (.agg #[.int .i64 (wrap64 (a0 + b0)), .int .i64 (wrap64 (a1 + b1)), .int .i64 (wrap64 (a2 + b2)), .int .i64 (wrap64 (a3 + b3))]) ∧ Below w.heap.size w w' := by
  go_enter Try.func142, Try.ntmps142
  go_wp2
  go_returns
  exact ⟨rfl, by go_grown⟩

set_option maxRecDepth 100000 in
theorem spScale_any (a0 a1 a2 a3 : Int) (k : Int) (w : World) :
    Calls Try.prog 133 #[.agg #[.int .i64 a0, .int .i64 a1, .int .i64 a2, .int .i64 a3], .int .i64 k] w fun e w' => e = .returned (.agg #[.int .i64 (wrap64 (k * a0)), .int .i64 (wrap64 (k * a1)), .int .i64 (wrap64 (k * a2)), .int .i64 (wrap64 (k * a3))]) ∧ Below w.heap.size w w' := by
  go_enter Try.func133, Try.ntmps133
  go_wp2
  go_returns
  exact ⟨rfl, by go_grown⟩

set_option maxRecDepth 100000 in
theorem imScaled_any (a0 a1 a2 a3 : Int) (k : Int) (w : World) :
    Calls Try.prog 143 #[.agg #[.int .i64 a0, .int .i64 a1, .int .i64 a2, .int .i64 a3], .int .i64 k] w fun e w' => e = .returned (.agg #[.int .i64 (wrap64 (k * a0)), .int .i64 (wrap64 (k * a1)), .int .i64 (wrap64 (k * a2)), .int .i64 (wrap64 (k * a3))]) ∧ Below w.heap.size w w' := by
  go_enter Try.func143, Try.ntmps143
  go_wp2
  go_returns
  exact ⟨rfl, by go_grown⟩

set_option maxRecDepth 100000 in
theorem eqPoint_same (a0 a1 a2 a3 : Int) (w : World) :
    Calls Try.prog 48 #[.agg #[.int .i64 a0, .int .i64 a1, .int .i64 a2, .int .i64 a3], .agg #[.int .i64 a0, .int .i64 a1, .int .i64 a2, .int .i64 a3]] w fun e w' => e = .returned (.bool true) ∧ Below w.heap.size w w' := by
  go_enter Try.func48, Try.ntmps48
  go_wp2
  go_returns
  exact ⟨rfl, by go_grown⟩

end Go.Proofs.Ytppbbcckijcckaa

/- Cells, one and in bundles, handed on through draws, new blocks, stores elsewhere and calls that make memory. -/
namespace Go.Proofs.Ytppbbcckijcckaa
open Go.ChangeShapes Go.WideShapes Go.ChangeAt Go.RowKit

section
variable {b o : Nat} {v : Value} {W w1 : World}
theorem cl_below (h : W.cell? ⟨b, o, none⟩ = some v) (hn : b < W.heap.size) (hb : Below W.heap.size W w1) : w1.cell? ⟨b, o, none⟩ = some v := by
  rw [hb.cell (p := ⟨b, o, none⟩) hn]; exact h

theorem cl_alloc (h : W.cell? ⟨b, o, none⟩ = some v) (x : Obj) : (W.alloc x).cell? ⟨b, o, none⟩ = some v := by
  rw [World.cell?_alloc_some _ _ _ (by simp [h])]; exact h

theorem cl_re {x : Obj} (h : (W.alloc x).cell? ⟨b, o, none⟩ = some v) (hn : b < W.heap.size) (y : Obj) : (W.alloc y).cell? ⟨b, o, none⟩ = some v := by
  rw [World.cell?_alloc_lt _ _ _ (by exact hn)] at h
  rw [World.cell?_alloc_lt _ _ _ (by exact hn)]; exact h

theorem cl_drew (h : W.cell? ⟨b, o, none⟩ = some v) : W.drew.cell? ⟨b, o, none⟩ = some v := h

theorem cl_set (h : W.cell? ⟨b, o, none⟩ = some v) (p : Addr) (u : Value) (hp : p.block ≠ b) : (W.setCell p u).cell? ⟨b, o, none⟩ = some v := by
  rw [World.cell?_setCell_far _ _ _ _ hp]; exact h
end

section
variable {B0 B1 : Nat} {v00 v01 v02 v03 v10 v11 v12 v13 : Value} {W w1 : World}
theorem pp_below (h : W.cell? ⟨B0, 0, none⟩ = some v00 ∧ W.cell? ⟨B0, 1, none⟩ = some v01 ∧ W.cell? ⟨B0, 2, none⟩ = some v02 ∧ W.cell? ⟨B0, 3, none⟩ = some v03 ∧ W.cell? ⟨B1, 0, none⟩ = some v10 ∧ W.cell? ⟨B1, 1, none⟩ = some v11 ∧ W.cell? ⟨B1, 2, none⟩ = some v12 ∧ W.cell? ⟨B1, 3, none⟩ = some v13) (h0 : B0 < W.heap.size) (h1 : B1 < W.heap.size) (hb : Below W.heap.size W w1) : w1.cell? ⟨B0, 0, none⟩ = some v00 ∧ w1.cell? ⟨B0, 1, none⟩ = some v01 ∧ w1.cell? ⟨B0, 2, none⟩ = some v02 ∧ w1.cell? ⟨B0, 3, none⟩ = some v03 ∧ w1.cell? ⟨B1, 0, none⟩ = some v10 ∧ w1.cell? ⟨B1, 1, none⟩ = some v11 ∧ w1.cell? ⟨B1, 2, none⟩ = some v12 ∧ w1.cell? ⟨B1, 3, none⟩ = some v13 :=
  let ⟨k0, k1, k2, k3, k4, k5, k6, k7⟩ := h
  ⟨cl_below k0 h0 hb, cl_below k1 h0 hb, cl_below k2 h0 hb, cl_below k3 h0 hb, cl_below k4 h1 hb, cl_below k5 h1 hb, cl_below k6 h1 hb, cl_below k7 h1 hb⟩

theorem pp_alloc (h : W.cell? ⟨B0, 0, none⟩ = some v00 ∧ W.cell? ⟨B0, 1, none⟩ = some v01 ∧ W.cell? ⟨B0, 2, none⟩ = some v02 ∧ W.cell? ⟨B0, 3, none⟩ = some v03 ∧ W.cell? ⟨B1, 0, none⟩ = some v10 ∧ W.cell? ⟨B1, 1, none⟩ = some v11 ∧ W.cell? ⟨B1, 2, none⟩ = some v12 ∧ W.cell? ⟨B1, 3, none⟩ = some v13) (o : Obj) : (W.alloc o).cell? ⟨B0, 0, none⟩ = some v00 ∧ (W.alloc o).cell? ⟨B0, 1, none⟩ = some v01 ∧ (W.alloc o).cell? ⟨B0, 2, none⟩ = some v02 ∧ (W.alloc o).cell? ⟨B0, 3, none⟩ = some v03 ∧ (W.alloc o).cell? ⟨B1, 0, none⟩ = some v10 ∧ (W.alloc o).cell? ⟨B1, 1, none⟩ = some v11 ∧ (W.alloc o).cell? ⟨B1, 2, none⟩ = some v12 ∧ (W.alloc o).cell? ⟨B1, 3, none⟩ = some v13 :=
  let ⟨k0, k1, k2, k3, k4, k5, k6, k7⟩ := h
  ⟨cl_alloc k0 o, cl_alloc k1 o, cl_alloc k2 o, cl_alloc k3 o, cl_alloc k4 o, cl_alloc k5 o, cl_alloc k6 o, cl_alloc k7 o⟩

theorem pp_re {o : Obj} (h : (W.alloc o).cell? ⟨B0, 0, none⟩ = some v00 ∧ (W.alloc o).cell? ⟨B0, 1, none⟩ = some v01 ∧ (W.alloc o).cell? ⟨B0, 2, none⟩ = some v02 ∧ (W.alloc o).cell? ⟨B0, 3, none⟩ = some v03 ∧ (W.alloc o).cell? ⟨B1, 0, none⟩ = some v10 ∧ (W.alloc o).cell? ⟨B1, 1, none⟩ = some v11 ∧ (W.alloc o).cell? ⟨B1, 2, none⟩ = some v12 ∧ (W.alloc o).cell? ⟨B1, 3, none⟩ = some v13) (h0 : B0 < W.heap.size) (h1 : B1 < W.heap.size) (o2 : Obj) : (W.alloc o2).cell? ⟨B0, 0, none⟩ = some v00 ∧ (W.alloc o2).cell? ⟨B0, 1, none⟩ = some v01 ∧ (W.alloc o2).cell? ⟨B0, 2, none⟩ = some v02 ∧ (W.alloc o2).cell? ⟨B0, 3, none⟩ = some v03 ∧ (W.alloc o2).cell? ⟨B1, 0, none⟩ = some v10 ∧ (W.alloc o2).cell? ⟨B1, 1, none⟩ = some v11 ∧ (W.alloc o2).cell? ⟨B1, 2, none⟩ = some v12 ∧ (W.alloc o2).cell? ⟨B1, 3, none⟩ = some v13 :=
  let ⟨k0, k1, k2, k3, k4, k5, k6, k7⟩ := h
  ⟨cl_re k0 h0 o2, cl_re k1 h0 o2, cl_re k2 h0 o2, cl_re k3 h0 o2, cl_re k4 h1 o2, cl_re k5 h1 o2, cl_re k6 h1 o2, cl_re k7 h1 o2⟩

theorem pp_drew (h : W.cell? ⟨B0, 0, none⟩ = some v00 ∧ W.cell? ⟨B0, 1, none⟩ = some v01 ∧ W.cell? ⟨B0, 2, none⟩ = some v02 ∧ W.cell? ⟨B0, 3, none⟩ = some v03 ∧ W.cell? ⟨B1, 0, none⟩ = some v10 ∧ W.cell? ⟨B1, 1, none⟩ = some v11 ∧ W.cell? ⟨B1, 2, none⟩ = some v12 ∧ W.cell? ⟨B1, 3, none⟩ = some v13) : W.drew.cell? ⟨B0, 0, none⟩ = some v00 ∧ W.drew.cell? ⟨B0, 1, none⟩ = some v01 ∧ W.drew.cell? ⟨B0, 2, none⟩ = some v02 ∧ W.drew.cell? ⟨B0, 3, none⟩ = some v03 ∧ W.drew.cell? ⟨B1, 0, none⟩ = some v10 ∧ W.drew.cell? ⟨B1, 1, none⟩ = some v11 ∧ W.drew.cell? ⟨B1, 2, none⟩ = some v12 ∧ W.drew.cell? ⟨B1, 3, none⟩ = some v13 := h

theorem pp_undrew (h : W.drew.cell? ⟨B0, 0, none⟩ = some v00 ∧ W.drew.cell? ⟨B0, 1, none⟩ = some v01 ∧ W.drew.cell? ⟨B0, 2, none⟩ = some v02 ∧ W.drew.cell? ⟨B0, 3, none⟩ = some v03 ∧ W.drew.cell? ⟨B1, 0, none⟩ = some v10 ∧ W.drew.cell? ⟨B1, 1, none⟩ = some v11 ∧ W.drew.cell? ⟨B1, 2, none⟩ = some v12 ∧ W.drew.cell? ⟨B1, 3, none⟩ = some v13) : W.cell? ⟨B0, 0, none⟩ = some v00 ∧ W.cell? ⟨B0, 1, none⟩ = some v01 ∧ W.cell? ⟨B0, 2, none⟩ = some v02 ∧ W.cell? ⟨B0, 3, none⟩ = some v03 ∧ W.cell? ⟨B1, 0, none⟩ = some v10 ∧ W.cell? ⟨B1, 1, none⟩ = some v11 ∧ W.cell? ⟨B1, 2, none⟩ = some v12 ∧ W.cell? ⟨B1, 3, none⟩ = some v13 := h

theorem pp_set (h : W.cell? ⟨B0, 0, none⟩ = some v00 ∧ W.cell? ⟨B0, 1, none⟩ = some v01 ∧ W.cell? ⟨B0, 2, none⟩ = some v02 ∧ W.cell? ⟨B0, 3, none⟩ = some v03 ∧ W.cell? ⟨B1, 0, none⟩ = some v10 ∧ W.cell? ⟨B1, 1, none⟩ = some v11 ∧ W.cell? ⟨B1, 2, none⟩ = some v12 ∧ W.cell? ⟨B1, 3, none⟩ = some v13) (p : Addr) (u : Value) (h0 : p.block ≠ B0) (h1 : p.block ≠ B1) : (W.setCell p u).cell? ⟨B0, 0, none⟩ = some v00 ∧ (W.setCell p u).cell? ⟨B0, 1, none⟩ = some v01 ∧ (W.setCell p u).cell? ⟨B0, 2, none⟩ = some v02 ∧ (W.setCell p u).cell? ⟨B0, 3, none⟩ = some v03 ∧ (W.setCell p u).cell? ⟨B1, 0, none⟩ = some v10 ∧ (W.setCell p u).cell? ⟨B1, 1, none⟩ = some v11 ∧ (W.setCell p u).cell? ⟨B1, 2, none⟩ = some v12 ∧ (W.setCell p u).cell? ⟨B1, 3, none⟩ = some v13 :=
  let ⟨k0, k1, k2, k3, k4, k5, k6, k7⟩ := h
  ⟨cl_set k0 p u h0, cl_set k1 p u h0, cl_set k2 p u h0, cl_set k3 p u h0, cl_set k4 p u h1, cl_set k5 p u h1, cl_set k6 p u h1, cl_set k7 p u h1⟩
end

section
variable {B0 B1 B2 : Nat} {v00 v01 v02 v03 v10 v11 v12 v13 v20 v21 v22 v23 : Value} {W w1 : World}
theorem ppp_below (h : W.cell? ⟨B0, 0, none⟩ = some v00 ∧ W.cell? ⟨B0, 1, none⟩ = some v01 ∧ W.cell? ⟨B0, 2, none⟩ = some v02 ∧ W.cell? ⟨B0, 3, none⟩ = some v03 ∧ W.cell? ⟨B1, 0, none⟩ = some v10 ∧ W.cell? ⟨B1, 1, none⟩ = some v11 ∧ W.cell? ⟨B1, 2, none⟩ = some v12 ∧ W.cell? ⟨B1, 3, none⟩ = some v13 ∧ W.cell? ⟨B2, 0, none⟩ = some v20 ∧ W.cell? ⟨B2, 1, none⟩ = some v21 ∧ W.cell? ⟨B2, 2, none⟩ = some v22 ∧ W.cell? ⟨B2, 3, none⟩ = some v23) (h0 : B0 < W.heap.size) (h1 : B1 < W.heap.size) (h2 : B2 < W.heap.size) (hb : Below W.heap.size W w1) : w1.cell? ⟨B0, 0, none⟩ = some v00 ∧ w1.cell? ⟨B0, 1, none⟩ = some v01 ∧ w1.cell? ⟨B0, 2, none⟩ = some v02 ∧ w1.cell? ⟨B0, 3, none⟩ = some v03 ∧ w1.cell? ⟨B1, 0, none⟩ = some v10 ∧ w1.cell? ⟨B1, 1, none⟩ = some v11 ∧ w1.cell? ⟨B1, 2, none⟩ = some v12 ∧ w1.cell? ⟨B1, 3, none⟩ = some v13 ∧ w1.cell? ⟨B2, 0, none⟩ = some v20 ∧ w1.cell? ⟨B2, 1, none⟩ = some v21 ∧ w1.cell? ⟨B2, 2, none⟩ = some v22 ∧ w1.cell? ⟨B2, 3, none⟩ = some v23 :=
  let ⟨k0, k1, k2, k3, k4, k5, k6, k7, k8, k9, k10, k11⟩ := h
  ⟨cl_below k0 h0 hb, cl_below k1 h0 hb, cl_below k2 h0 hb, cl_below k3 h0 hb, cl_below k4 h1 hb, cl_below k5 h1 hb, cl_below k6 h1 hb, cl_below k7 h1 hb, cl_below k8 h2 hb, cl_below k9 h2 hb, cl_below k10 h2 hb, cl_below k11 h2 hb⟩

theorem ppp_alloc (h : W.cell? ⟨B0, 0, none⟩ = some v00 ∧ W.cell? ⟨B0, 1, none⟩ = some v01 ∧ W.cell? ⟨B0, 2, none⟩ = some v02 ∧ W.cell? ⟨B0, 3, none⟩ = some v03 ∧ W.cell? ⟨B1, 0, none⟩ = some v10 ∧ W.cell? ⟨B1, 1, none⟩ = some v11 ∧ W.cell? ⟨B1, 2, none⟩ = some v12 ∧ W.cell? ⟨B1, 3, none⟩ = some v13 ∧ W.cell? ⟨B2, 0, none⟩ = some v20 ∧ W.cell? ⟨B2, 1, none⟩ = some v21 ∧ W.cell? ⟨B2, 2, none⟩ = some v22 ∧ W.cell? ⟨B2, 3, none⟩ = some v23) (o : Obj) : (W.alloc o).cell? ⟨B0, 0, none⟩ = some v00 ∧ (W.alloc o).cell? ⟨B0, 1, none⟩ = some v01 ∧ (W.alloc o).cell? ⟨B0, 2, none⟩ = some v02 ∧ (W.alloc o).cell? ⟨B0, 3, none⟩ = some v03 ∧ (W.alloc o).cell? ⟨B1, 0, none⟩ = some v10 ∧ (W.alloc o).cell? ⟨B1, 1, none⟩ = some v11 ∧ (W.alloc o).cell? ⟨B1, 2, none⟩ = some v12 ∧ (W.alloc o).cell? ⟨B1, 3, none⟩ = some v13 ∧ (W.alloc o).cell? ⟨B2, 0, none⟩ = some v20 ∧ (W.alloc o).cell? ⟨B2, 1, none⟩ = some v21 ∧ (W.alloc o).cell? ⟨B2, 2, none⟩ = some v22 ∧ (W.alloc o).cell? ⟨B2, 3, none⟩ = some v23 :=
  let ⟨k0, k1, k2, k3, k4, k5, k6, k7, k8, k9, k10, k11⟩ := h
  ⟨cl_alloc k0 o, cl_alloc k1 o, cl_alloc k2 o, cl_alloc k3 o, cl_alloc k4 o, cl_alloc k5 o, cl_alloc k6 o, cl_alloc k7 o, cl_alloc k8 o, cl_alloc k9 o, cl_alloc k10 o, cl_alloc k11 o⟩

theorem ppp_re {o : Obj} (h : (W.alloc o).cell? ⟨B0, 0, none⟩ = some v00 ∧ (W.alloc o).cell? ⟨B0, 1, none⟩ = some v01 ∧ (W.alloc o).cell? ⟨B0, 2, none⟩ = some v02 ∧ (W.alloc o).cell? ⟨B0, 3, none⟩ = some v03 ∧ (W.alloc o).cell? ⟨B1, 0, none⟩ = some v10 ∧ (W.alloc o).cell? ⟨B1, 1, none⟩ = some v11 ∧ (W.alloc o).cell? ⟨B1, 2, none⟩ = some v12 ∧ (W.alloc o).cell? ⟨B1, 3, none⟩ = some v13 ∧ (W.alloc o).cell? ⟨B2, 0, none⟩ = some v20 ∧ (W.alloc o).cell? ⟨B2, 1, none⟩ = some v21 ∧ (W.alloc o).cell? ⟨B2, 2, none⟩ = some v22 ∧ (W.alloc o).cell? ⟨B2, 3, none⟩ = some v23) (h0 : B0 < W.heap.size) (h1 : B1 < W.heap.size) (h2 : B2 < W.heap.size) (o2 : Obj) : (W.alloc o2).cell? ⟨B0, 0, none⟩ = some v00 ∧ (W.alloc o2).cell? ⟨B0, 1, none⟩ = some v01 ∧ (W.alloc o2).cell? ⟨B0, 2, none⟩ = some v02 ∧ (W.alloc o2).cell? ⟨B0, 3, none⟩ = some v03 ∧ (W.alloc o2).cell? ⟨B1, 0, none⟩ = some v10 ∧ (W.alloc o2).cell? ⟨B1, 1, none⟩ = some v11 ∧ (W.alloc o2).cell? ⟨B1, 2, none⟩ = some v12 ∧ (W.alloc o2).cell? ⟨B1, 3, none⟩ = some v13 ∧ (W.alloc o2).cell? ⟨B2, 0, none⟩ = some v20 ∧ (W.alloc o2).cell? ⟨B2, 1, none⟩ = some v21 ∧ (W.alloc o2).cell? ⟨B2, 2, none⟩ = some v22 ∧ (W.alloc o2).cell? ⟨B2, 3, none⟩ = some v23 :=
  let ⟨k0, k1, k2, k3, k4, k5, k6, k7, k8, k9, k10, k11⟩ := h
  ⟨cl_re k0 h0 o2, cl_re k1 h0 o2, cl_re k2 h0 o2, cl_re k3 h0 o2, cl_re k4 h1 o2, cl_re k5 h1 o2, cl_re k6 h1 o2, cl_re k7 h1 o2, cl_re k8 h2 o2, cl_re k9 h2 o2, cl_re k10 h2 o2, cl_re k11 h2 o2⟩

theorem ppp_drew (h : W.cell? ⟨B0, 0, none⟩ = some v00 ∧ W.cell? ⟨B0, 1, none⟩ = some v01 ∧ W.cell? ⟨B0, 2, none⟩ = some v02 ∧ W.cell? ⟨B0, 3, none⟩ = some v03 ∧ W.cell? ⟨B1, 0, none⟩ = some v10 ∧ W.cell? ⟨B1, 1, none⟩ = some v11 ∧ W.cell? ⟨B1, 2, none⟩ = some v12 ∧ W.cell? ⟨B1, 3, none⟩ = some v13 ∧ W.cell? ⟨B2, 0, none⟩ = some v20 ∧ W.cell? ⟨B2, 1, none⟩ = some v21 ∧ W.cell? ⟨B2, 2, none⟩ = some v22 ∧ W.cell? ⟨B2, 3, none⟩ = some v23) : W.drew.cell? ⟨B0, 0, none⟩ = some v00 ∧ W.drew.cell? ⟨B0, 1, none⟩ = some v01 ∧ W.drew.cell? ⟨B0, 2, none⟩ = some v02 ∧ W.drew.cell? ⟨B0, 3, none⟩ = some v03 ∧ W.drew.cell? ⟨B1, 0, none⟩ = some v10 ∧ W.drew.cell? ⟨B1, 1, none⟩ = some v11 ∧ W.drew.cell? ⟨B1, 2, none⟩ = some v12 ∧ W.drew.cell? ⟨B1, 3, none⟩ = some v13 ∧ W.drew.cell? ⟨B2, 0, none⟩ = some v20 ∧ W.drew.cell? ⟨B2, 1, none⟩ = some v21 ∧ W.drew.cell? ⟨B2, 2, none⟩ = some v22 ∧ W.drew.cell? ⟨B2, 3, none⟩ = some v23 := h

theorem ppp_undrew (h : W.drew.cell? ⟨B0, 0, none⟩ = some v00 ∧ W.drew.cell? ⟨B0, 1, none⟩ = some v01 ∧ W.drew.cell? ⟨B0, 2, none⟩ = some v02 ∧ W.drew.cell? ⟨B0, 3, none⟩ = some v03 ∧ W.drew.cell? ⟨B1, 0, none⟩ = some v10 ∧ W.drew.cell? ⟨B1, 1, none⟩ = some v11 ∧ W.drew.cell? ⟨B1, 2, none⟩ = some v12 ∧ W.drew.cell? ⟨B1, 3, none⟩ = some v13 ∧ W.drew.cell? ⟨B2, 0, none⟩ = some v20 ∧ W.drew.cell? ⟨B2, 1, none⟩ = some v21 ∧ W.drew.cell? ⟨B2, 2, none⟩ = some v22 ∧ W.drew.cell? ⟨B2, 3, none⟩ = some v23) : W.cell? ⟨B0, 0, none⟩ = some v00 ∧ W.cell? ⟨B0, 1, none⟩ = some v01 ∧ W.cell? ⟨B0, 2, none⟩ = some v02 ∧ W.cell? ⟨B0, 3, none⟩ = some v03 ∧ W.cell? ⟨B1, 0, none⟩ = some v10 ∧ W.cell? ⟨B1, 1, none⟩ = some v11 ∧ W.cell? ⟨B1, 2, none⟩ = some v12 ∧ W.cell? ⟨B1, 3, none⟩ = some v13 ∧ W.cell? ⟨B2, 0, none⟩ = some v20 ∧ W.cell? ⟨B2, 1, none⟩ = some v21 ∧ W.cell? ⟨B2, 2, none⟩ = some v22 ∧ W.cell? ⟨B2, 3, none⟩ = some v23 := h

theorem ppp_set (h : W.cell? ⟨B0, 0, none⟩ = some v00 ∧ W.cell? ⟨B0, 1, none⟩ = some v01 ∧ W.cell? ⟨B0, 2, none⟩ = some v02 ∧ W.cell? ⟨B0, 3, none⟩ = some v03 ∧ W.cell? ⟨B1, 0, none⟩ = some v10 ∧ W.cell? ⟨B1, 1, none⟩ = some v11 ∧ W.cell? ⟨B1, 2, none⟩ = some v12 ∧ W.cell? ⟨B1, 3, none⟩ = some v13 ∧ W.cell? ⟨B2, 0, none⟩ = some v20 ∧ W.cell? ⟨B2, 1, none⟩ = some v21 ∧ W.cell? ⟨B2, 2, none⟩ = some v22 ∧ W.cell? ⟨B2, 3, none⟩ = some v23) (p : Addr) (u : Value) (h0 : p.block ≠ B0) (h1 : p.block ≠ B1) (h2 : p.block ≠ B2) : (W.setCell p u).cell? ⟨B0, 0, none⟩ = some v00 ∧ (W.setCell p u).cell? ⟨B0, 1, none⟩ = some v01 ∧ (W.setCell p u).cell? ⟨B0, 2, none⟩ = some v02 ∧ (W.setCell p u).cell? ⟨B0, 3, none⟩ = some v03 ∧ (W.setCell p u).cell? ⟨B1, 0, none⟩ = some v10 ∧ (W.setCell p u).cell? ⟨B1, 1, none⟩ = some v11 ∧ (W.setCell p u).cell? ⟨B1, 2, none⟩ = some v12 ∧ (W.setCell p u).cell? ⟨B1, 3, none⟩ = some v13 ∧ (W.setCell p u).cell? ⟨B2, 0, none⟩ = some v20 ∧ (W.setCell p u).cell? ⟨B2, 1, none⟩ = some v21 ∧ (W.setCell p u).cell? ⟨B2, 2, none⟩ = some v22 ∧ (W.setCell p u).cell? ⟨B2, 3, none⟩ = some v23 :=
  let ⟨k0, k1, k2, k3, k4, k5, k6, k7, k8, k9, k10, k11⟩ := h
  ⟨cl_set k0 p u h0, cl_set k1 p u h0, cl_set k2 p u h0, cl_set k3 p u h0, cl_set k4 p u h1, cl_set k5 p u h1, cl_set k6 p u h1, cl_set k7 p u h1, cl_set k8 p u h2, cl_set k9 p u h2, cl_set k10 p u h2, cl_set k11 p u h2⟩
end

section
variable {B0 B1 : Nat} {v00 v01 v10 v11 : Value} {W w1 : World}
theorem ss_below (h : W.cell? ⟨B0, 0, none⟩ = some v00 ∧ W.cell? ⟨B0, 1, none⟩ = some v01 ∧ W.cell? ⟨B1, 0, none⟩ = some v10 ∧ W.cell? ⟨B1, 1, none⟩ = some v11) (h0 : B0 < W.heap.size) (h1 : B1 < W.heap.size) (hb : Below W.heap.size W w1) : w1.cell? ⟨B0, 0, none⟩ = some v00 ∧ w1.cell? ⟨B0, 1, none⟩ = some v01 ∧ w1.cell? ⟨B1, 0, none⟩ = some v10 ∧ w1.cell? ⟨B1, 1, none⟩ = some v11 :=
  let ⟨k0, k1, k2, k3⟩ := h
  ⟨cl_below k0 h0 hb, cl_below k1 h0 hb, cl_below k2 h1 hb, cl_below k3 h1 hb⟩

theorem ss_alloc (h : W.cell? ⟨B0, 0, none⟩ = some v00 ∧ W.cell? ⟨B0, 1, none⟩ = some v01 ∧ W.cell? ⟨B1, 0, none⟩ = some v10 ∧ W.cell? ⟨B1, 1, none⟩ = some v11) (o : Obj) : (W.alloc o).cell? ⟨B0, 0, none⟩ = some v00 ∧ (W.alloc o).cell? ⟨B0, 1, none⟩ = some v01 ∧ (W.alloc o).cell? ⟨B1, 0, none⟩ = some v10 ∧ (W.alloc o).cell? ⟨B1, 1, none⟩ = some v11 :=
  let ⟨k0, k1, k2, k3⟩ := h
  ⟨cl_alloc k0 o, cl_alloc k1 o, cl_alloc k2 o, cl_alloc k3 o⟩

theorem ss_re {o : Obj} (h : (W.alloc o).cell? ⟨B0, 0, none⟩ = some v00 ∧ (W.alloc o).cell? ⟨B0, 1, none⟩ = some v01 ∧ (W.alloc o).cell? ⟨B1, 0, none⟩ = some v10 ∧ (W.alloc o).cell? ⟨B1, 1, none⟩ = some v11) (h0 : B0 < W.heap.size) (h1 : B1 < W.heap.size) (o2 : Obj) : (W.alloc o2).cell? ⟨B0, 0, none⟩ = some v00 ∧ (W.alloc o2).cell? ⟨B0, 1, none⟩ = some v01 ∧ (W.alloc o2).cell? ⟨B1, 0, none⟩ = some v10 ∧ (W.alloc o2).cell? ⟨B1, 1, none⟩ = some v11 :=
  let ⟨k0, k1, k2, k3⟩ := h
  ⟨cl_re k0 h0 o2, cl_re k1 h0 o2, cl_re k2 h1 o2, cl_re k3 h1 o2⟩

theorem ss_drew (h : W.cell? ⟨B0, 0, none⟩ = some v00 ∧ W.cell? ⟨B0, 1, none⟩ = some v01 ∧ W.cell? ⟨B1, 0, none⟩ = some v10 ∧ W.cell? ⟨B1, 1, none⟩ = some v11) : W.drew.cell? ⟨B0, 0, none⟩ = some v00 ∧ W.drew.cell? ⟨B0, 1, none⟩ = some v01 ∧ W.drew.cell? ⟨B1, 0, none⟩ = some v10 ∧ W.drew.cell? ⟨B1, 1, none⟩ = some v11 := h

theorem ss_undrew (h : W.drew.cell? ⟨B0, 0, none⟩ = some v00 ∧ W.drew.cell? ⟨B0, 1, none⟩ = some v01 ∧ W.drew.cell? ⟨B1, 0, none⟩ = some v10 ∧ W.drew.cell? ⟨B1, 1, none⟩ = some v11) : W.cell? ⟨B0, 0, none⟩ = some v00 ∧ W.cell? ⟨B0, 1, none⟩ = some v01 ∧ W.cell? ⟨B1, 0, none⟩ = some v10 ∧ W.cell? ⟨B1, 1, none⟩ = some v11 := h

theorem ss_set (h : W.cell? ⟨B0, 0, none⟩ = some v00 ∧ W.cell? ⟨B0, 1, none⟩ = some v01 ∧ W.cell? ⟨B1, 0, none⟩ = some v10 ∧ W.cell? ⟨B1, 1, none⟩ = some v11) (p : Addr) (u : Value) (h0 : p.block ≠ B0) (h1 : p.block ≠ B1) : (W.setCell p u).cell? ⟨B0, 0, none⟩ = some v00 ∧ (W.setCell p u).cell? ⟨B0, 1, none⟩ = some v01 ∧ (W.setCell p u).cell? ⟨B1, 0, none⟩ = some v10 ∧ (W.setCell p u).cell? ⟨B1, 1, none⟩ = some v11 :=
  let ⟨k0, k1, k2, k3⟩ := h
  ⟨cl_set k0 p u h0, cl_set k1 p u h0, cl_set k2 p u h1, cl_set k3 p u h1⟩
end

section
variable {B0 B1 B2 : Nat} {v00 v01 v10 v11 v20 v21 : Value} {W w1 : World}
theorem sss_below (h : W.cell? ⟨B0, 0, none⟩ = some v00 ∧ W.cell? ⟨B0, 1, none⟩ = some v01 ∧ W.cell? ⟨B1, 0, none⟩ = some v10 ∧ W.cell? ⟨B1, 1, none⟩ = some v11 ∧ W.cell? ⟨B2, 0, none⟩ = some v20 ∧ W.cell? ⟨B2, 1, none⟩ = some v21) (h0 : B0 < W.heap.size) (h1 : B1 < W.heap.size) (h2 : B2 < W.heap.size) (hb : Below W.heap.size W w1) : w1.cell? ⟨B0, 0, none⟩ = some v00 ∧ w1.cell? ⟨B0, 1, none⟩ = some v01 ∧ w1.cell? ⟨B1, 0, none⟩ = some v10 ∧ w1.cell? ⟨B1, 1, none⟩ = some v11 ∧ w1.cell? ⟨B2, 0, none⟩ = some v20 ∧ w1.cell? ⟨B2, 1, none⟩ = some v21 :=
  let ⟨k0, k1, k2, k3, k4, k5⟩ := h
  ⟨cl_below k0 h0 hb, cl_below k1 h0 hb, cl_below k2 h1 hb, cl_below k3 h1 hb, cl_below k4 h2 hb, cl_below k5 h2 hb⟩

theorem sss_alloc (h : W.cell? ⟨B0, 0, none⟩ = some v00 ∧ W.cell? ⟨B0, 1, none⟩ = some v01 ∧ W.cell? ⟨B1, 0, none⟩ = some v10 ∧ W.cell? ⟨B1, 1, none⟩ = some v11 ∧ W.cell? ⟨B2, 0, none⟩ = some v20 ∧ W.cell? ⟨B2, 1, none⟩ = some v21) (o : Obj) : (W.alloc o).cell? ⟨B0, 0, none⟩ = some v00 ∧ (W.alloc o).cell? ⟨B0, 1, none⟩ = some v01 ∧ (W.alloc o).cell? ⟨B1, 0, none⟩ = some v10 ∧ (W.alloc o).cell? ⟨B1, 1, none⟩ = some v11 ∧ (W.alloc o).cell? ⟨B2, 0, none⟩ = some v20 ∧ (W.alloc o).cell? ⟨B2, 1, none⟩ = some v21 :=
  let ⟨k0, k1, k2, k3, k4, k5⟩ := h
  ⟨cl_alloc k0 o, cl_alloc k1 o, cl_alloc k2 o, cl_alloc k3 o, cl_alloc k4 o, cl_alloc k5 o⟩

theorem sss_re {o : Obj} (h : (W.alloc o).cell? ⟨B0, 0, none⟩ = some v00 ∧ (W.alloc o).cell? ⟨B0, 1, none⟩ = some v01 ∧ (W.alloc o).cell? ⟨B1, 0, none⟩ = some v10 ∧ (W.alloc o).cell? ⟨B1, 1, none⟩ = some v11 ∧ (W.alloc o).cell? ⟨B2, 0, none⟩ = some v20 ∧ (W.alloc o).cell? ⟨B2, 1, none⟩ = some v21) (h0 : B0 < W.heap.size) (h1 : B1 < W.heap.size) (h2 : B2 < W.heap.size) (o2 : Obj) : (W.alloc o2).cell? ⟨B0, 0, none⟩ = some v00 ∧ (W.alloc o2).cell? ⟨B0, 1, none⟩ = some v01 ∧ (W.alloc o2).cell? ⟨B1, 0, none⟩ = some v10 ∧ (W.alloc o2).cell? ⟨B1, 1, none⟩ = some v11 ∧ (W.alloc o2).cell? ⟨B2, 0, none⟩ = some v20 ∧ (W.alloc o2).cell? ⟨B2, 1, none⟩ = some v21 :=
  let ⟨k0, k1, k2, k3, k4, k5⟩ := h
  ⟨cl_re k0 h0 o2, cl_re k1 h0 o2, cl_re k2 h1 o2, cl_re k3 h1 o2, cl_re k4 h2 o2, cl_re k5 h2 o2⟩

theorem sss_drew (h : W.cell? ⟨B0, 0, none⟩ = some v00 ∧ W.cell? ⟨B0, 1, none⟩ = some v01 ∧ W.cell? ⟨B1, 0, none⟩ = some v10 ∧ W.cell? ⟨B1, 1, none⟩ = some v11 ∧ W.cell? ⟨B2, 0, none⟩ = some v20 ∧ W.cell? ⟨B2, 1, none⟩ = some v21) : W.drew.cell? ⟨B0, 0, none⟩ = some v00 ∧ W.drew.cell? ⟨B0, 1, none⟩ = some v01 ∧ W.drew.cell? ⟨B1, 0, none⟩ = some v10 ∧ W.drew.cell? ⟨B1, 1, none⟩ = some v11 ∧ W.drew.cell? ⟨B2, 0, none⟩ = some v20 ∧ W.drew.cell? ⟨B2, 1, none⟩ = some v21 := h

theorem sss_undrew (h : W.drew.cell? ⟨B0, 0, none⟩ = some v00 ∧ W.drew.cell? ⟨B0, 1, none⟩ = some v01 ∧ W.drew.cell? ⟨B1, 0, none⟩ = some v10 ∧ W.drew.cell? ⟨B1, 1, none⟩ = some v11 ∧ W.drew.cell? ⟨B2, 0, none⟩ = some v20 ∧ W.drew.cell? ⟨B2, 1, none⟩ = some v21) : W.cell? ⟨B0, 0, none⟩ = some v00 ∧ W.cell? ⟨B0, 1, none⟩ = some v01 ∧ W.cell? ⟨B1, 0, none⟩ = some v10 ∧ W.cell? ⟨B1, 1, none⟩ = some v11 ∧ W.cell? ⟨B2, 0, none⟩ = some v20 ∧ W.cell? ⟨B2, 1, none⟩ = some v21 := h

theorem sss_set (h : W.cell? ⟨B0, 0, none⟩ = some v00 ∧ W.cell? ⟨B0, 1, none⟩ = some v01 ∧ W.cell? ⟨B1, 0, none⟩ = some v10 ∧ W.cell? ⟨B1, 1, none⟩ = some v11 ∧ W.cell? ⟨B2, 0, none⟩ = some v20 ∧ W.cell? ⟨B2, 1, none⟩ = some v21) (p : Addr) (u : Value) (h0 : p.block ≠ B0) (h1 : p.block ≠ B1) (h2 : p.block ≠ B2) : (W.setCell p u).cell? ⟨B0, 0, none⟩ = some v00 ∧ (W.setCell p u).cell? ⟨B0, 1, none⟩ = some v01 ∧ (W.setCell p u).cell? ⟨B1, 0, none⟩ = some v10 ∧ (W.setCell p u).cell? ⟨B1, 1, none⟩ = some v11 ∧ (W.setCell p u).cell? ⟨B2, 0, none⟩ = some v20 ∧ (W.setCell p u).cell? ⟨B2, 1, none⟩ = some v21 :=
  let ⟨k0, k1, k2, k3, k4, k5⟩ := h
  ⟨cl_set k0 p u h0, cl_set k1 p u h0, cl_set k2 p u h1, cl_set k3 p u h1, cl_set k4 p u h2, cl_set k5 p u h2⟩
end

theorem p_below {n : Nat} {v0 v1 v2 v3 : Value} {W w1 : World} (h : W.cell? ⟨n, 0, none⟩ = some v0 ∧ W.cell? ⟨n, 1, none⟩ = some v1 ∧ W.cell? ⟨n, 2, none⟩ = some v2 ∧ W.cell? ⟨n, 3, none⟩ = some v3) (hn : n < W.heap.size) (hb : Below W.heap.size W w1) :
    w1.cell? ⟨n, 0, none⟩ = some v0 ∧ w1.cell? ⟨n, 1, none⟩ = some v1 ∧ w1.cell? ⟨n, 2, none⟩ = some v2 ∧ w1.cell? ⟨n, 3, none⟩ = some v3 :=
  ⟨cl_below h.1 hn hb, cl_below h.2.1 hn hb, cl_below h.2.2.1 hn hb, cl_below h.2.2.2 hn hb⟩

theorem p_drew {n : Nat} {v0 v1 v2 v3 : Value} {W : World} (h : W.cell? ⟨n, 0, none⟩ = some v0 ∧ W.cell? ⟨n, 1, none⟩ = some v1 ∧ W.cell? ⟨n, 2, none⟩ = some v2 ∧ W.cell? ⟨n, 3, none⟩ = some v3) :
    W.drew.cell? ⟨n, 0, none⟩ = some v0 ∧ W.drew.cell? ⟨n, 1, none⟩ = some v1 ∧ W.drew.cell? ⟨n, 2, none⟩ = some v2 ∧ W.drew.cell? ⟨n, 3, none⟩ = some v3 := h
section
variable {B0 : Nat} {v00 v01 v02 v03 : Value} {W w1 : World}

theorem po_below (h : W.cell? ⟨B0, 0, none⟩ = some v00 ∧ W.cell? ⟨B0, 1, none⟩ = some v01 ∧ W.cell? ⟨B0, 2, none⟩ = some v02 ∧ W.cell? ⟨B0, 3, none⟩ = some v03) (h0 : B0 < W.heap.size) (hb : Below W.heap.size W w1) : w1.cell? ⟨B0, 0, none⟩ = some v00 ∧ w1.cell? ⟨B0, 1, none⟩ = some v01 ∧ w1.cell? ⟨B0, 2, none⟩ = some v02 ∧ w1.cell? ⟨B0, 3, none⟩ = some v03 :=
  let ⟨k0, k1, k2, k3⟩ := h
  ⟨cl_below k0 h0 hb, cl_below k1 h0 hb, cl_below k2 h0 hb, cl_below k3 h0 hb⟩

theorem po_alloc (h : W.cell? ⟨B0, 0, none⟩ = some v00 ∧ W.cell? ⟨B0, 1, none⟩ = some v01 ∧ W.cell? ⟨B0, 2, none⟩ = some v02 ∧ W.cell? ⟨B0, 3, none⟩ = some v03) (o : Obj) : (W.alloc o).cell? ⟨B0, 0, none⟩ = some v00 ∧ (W.alloc o).cell? ⟨B0, 1, none⟩ = some v01 ∧ (W.alloc o).cell? ⟨B0, 2, none⟩ = some v02 ∧ (W.alloc o).cell? ⟨B0, 3, none⟩ = some v03 :=
  let ⟨k0, k1, k2, k3⟩ := h
  ⟨cl_alloc k0 o, cl_alloc k1 o, cl_alloc k2 o, cl_alloc k3 o⟩

theorem po_re {o : Obj} (h : (W.alloc o).cell? ⟨B0, 0, none⟩ = some v00 ∧ (W.alloc o).cell? ⟨B0, 1, none⟩ = some v01 ∧ (W.alloc o).cell? ⟨B0, 2, none⟩ = some v02 ∧ (W.alloc o).cell? ⟨B0, 3, none⟩ = some v03) (h0 : B0 < W.heap.size) (o2 : Obj) : (W.alloc o2).cell? ⟨B0, 0, none⟩ = some v00 ∧ (W.alloc o2).cell? ⟨B0, 1, none⟩ = some v01 ∧ (W.alloc o2).cell? ⟨B0, 2, none⟩ = some v02 ∧ (W.alloc o2).cell? ⟨B0, 3, none⟩ = some v03 :=
  let ⟨k0, k1, k2, k3⟩ := h
  ⟨cl_re k0 h0 o2, cl_re k1 h0 o2, cl_re k2 h0 o2, cl_re k3 h0 o2⟩

theorem po_drew (h : W.cell? ⟨B0, 0, none⟩ = some v00 ∧ W.cell? ⟨B0, 1, none⟩ = some v01 ∧ W.cell? ⟨B0, 2, none⟩ = some v02 ∧ W.cell? ⟨B0, 3, none⟩ = some v03) : W.drew.cell? ⟨B0, 0, none⟩ = some v00 ∧ W.drew.cell? ⟨B0, 1, none⟩ = some v01 ∧ W.drew.cell? ⟨B0, 2, none⟩ = some v02 ∧ W.drew.cell? ⟨B0, 3, none⟩ = some v03 := h

theorem po_undrew (h : W.drew.cell? ⟨B0, 0, none⟩ = some v00 ∧ W.drew.cell? ⟨B0, 1, none⟩ = some v01 ∧ W.drew.cell? ⟨B0, 2, none⟩ = some v02 ∧ W.drew.cell? ⟨B0, 3, none⟩ = some v03) : W.cell? ⟨B0, 0, none⟩ = some v00 ∧ W.cell? ⟨B0, 1, none⟩ = some v01 ∧ W.cell? ⟨B0, 2, none⟩ = some v02 ∧ W.cell? ⟨B0, 3, none⟩ = some v03 := h

theorem po_set (h : W.cell? ⟨B0, 0, none⟩ = some v00 ∧ W.cell? ⟨B0, 1, none⟩ = some v01 ∧ W.cell? ⟨B0, 2, none⟩ = some v02 ∧ W.cell? ⟨B0, 3, none⟩ = some v03) (p : Addr) (u : Value) (h0 : p.block ≠ B0) : (W.setCell p u).cell? ⟨B0, 0, none⟩ = some v00 ∧ (W.setCell p u).cell? ⟨B0, 1, none⟩ = some v01 ∧ (W.setCell p u).cell? ⟨B0, 2, none⟩ = some v02 ∧ (W.setCell p u).cell? ⟨B0, 3, none⟩ = some v03 :=
  let ⟨k0, k1, k2, k3⟩ := h
  ⟨cl_set k0 p u h0, cl_set k1 p u h0, cl_set k2 p u h0, cl_set k3 p u h0⟩
end

theorem po_start (a0 a1 a2 a3 : Int) (w : World) (t : TypeId) : (w.alloc (.cells #[.int .i64 a0, .int .i64 a1, .int .i64 a2, .int .i64 a3] t)).cell? ⟨w.heap.size, 0, none⟩ = some (.int .i64 a0) ∧ (w.alloc (.cells #[.int .i64 a0, .int .i64 a1, .int .i64 a2, .int .i64 a3] t)).cell? ⟨w.heap.size, 1, none⟩ = some (.int .i64 a1) ∧ (w.alloc (.cells #[.int .i64 a0, .int .i64 a1, .int .i64 a2, .int .i64 a3] t)).cell? ⟨w.heap.size, 2, none⟩ = some (.int .i64 a2) ∧ (w.alloc (.cells #[.int .i64 a0, .int .i64 a1, .int .i64 a2, .int .i64 a3] t)).cell? ⟨w.heap.size, 3, none⟩ = some (.int .i64 a3) := by
  refine ⟨?_, ?_, ?_, ?_⟩ <;> go_simp

theorem ss_start (s0 s1 t0 t1 : Int) (w : World) (t s : TypeId) : ((w.alloc (.cells #[.int .i64 s0, .int .i64 s1] t)).alloc (.cells #[.int .i64 t0, .int .i64 t1] s)).cell? ⟨w.heap.size, 0, none⟩ = some (.int .i64 s0) ∧ ((w.alloc (.cells #[.int .i64 s0, .int .i64 s1] t)).alloc (.cells #[.int .i64 t0, .int .i64 t1] s)).cell? ⟨w.heap.size, 1, none⟩ = some (.int .i64 s1) ∧
    ((w.alloc (.cells #[.int .i64 s0, .int .i64 s1] t)).alloc (.cells #[.int .i64 t0, .int .i64 t1] s)).cell? ⟨w.heap.size + 1, 0, none⟩ = some (.int .i64 t0) ∧ ((w.alloc (.cells #[.int .i64 s0, .int .i64 s1] t)).alloc (.cells #[.int .i64 t0, .int .i64 t1] s)).cell? ⟨w.heap.size + 1, 1, none⟩ = some (.int .i64 t1) := by
  refine ⟨?_, ?_, ?_, ?_⟩ <;> go_simp

theorem pp_start (a0 a1 a2 a3 : Int) (b0 b1 b2 b3 : Int) (w : World) (t s : TypeId) : ((w.alloc (.cells #[.int .i64 a0, .int .i64 a1, .int .i64 a2, .int .i64 a3] t)).alloc (.cells #[.int .i64 b0, .int .i64 b1, .int .i64 b2, .int .i64 b3] s)).cell? ⟨w.heap.size, 0, none⟩ = some (.int .i64 a0) ∧ ((w.alloc (.cells #[.int .i64 a0, .int .i64 a1, .int .i64 a2, .int .i64 a3] t)).alloc (.cells #[.int .i64 b0, .int .i64 b1, .int .i64 b2, .int .i64 b3] s)).cell? ⟨w.heap.size, 1, none⟩ = some (.int .i64 a1) ∧ ((w.alloc (.cells #[.int .i64 a0, .int .i64 a1, .int .i64 a2, .int .i64 a3] t)).alloc (.cells #[.int .i64 b0, .int .i64 b1, .int .i64 b2, .int .i64 b3] s)).cell? ⟨w.heap.size, 2, none⟩ = some (.int .i64 a2) ∧ ((w.alloc (.cells #[.int .i64 a0, .int .i64 a1, .int .i64 a2, .int .i64 a3] t)).alloc (.cells #[.int .i64 b0, .int .i64 b1, .int .i64 b2, .int .i64 b3] s)).cell? ⟨w.heap.size, 3, none⟩ = some (.int .i64 a3) ∧ ((w.alloc (.cells #[.int .i64 a0, .int .i64 a1, .int .i64 a2, .int .i64 a3] t)).alloc (.cells #[.int .i64 b0, .int .i64 b1, .int .i64 b2, .int .i64 b3] s)).cell? ⟨w.heap.size + 1, 0, none⟩ = some (.int .i64 b0) ∧ ((w.alloc (.cells #[.int .i64 a0, .int .i64 a1, .int .i64 a2, .int .i64 a3] t)).alloc (.cells #[.int .i64 b0, .int .i64 b1, .int .i64 b2, .int .i64 b3] s)).cell? ⟨w.heap.size + 1, 1, none⟩ = some (.int .i64 b1) ∧ ((w.alloc (.cells #[.int .i64 a0, .int .i64 a1, .int .i64 a2, .int .i64 a3] t)).alloc (.cells #[.int .i64 b0, .int .i64 b1, .int .i64 b2, .int .i64 b3] s)).cell? ⟨w.heap.size + 1, 2, none⟩ = some (.int .i64 b2) ∧ ((w.alloc (.cells #[.int .i64 a0, .int .i64 a1, .int .i64 a2, .int .i64 a3] t)).alloc (.cells #[.int .i64 b0, .int .i64 b1, .int .i64 b2, .int .i64 b3] s)).cell? ⟨w.heap.size + 1, 3, none⟩ = some (.int .i64 b3) := by
  refine ⟨?_, ?_, ?_, ?_, ?_, ?_, ?_, ?_⟩ <;> go_simp

end Go.Proofs.Ytppbbcckijcckaa

/- Contracts: norms, and twice the numbers to the east and to the north, in the model and in the program. -/
namespace Go.Proofs.Ytppbbcckijcckaa
open Go.ChangeShapes Go.WideShapes Go.ChangeAt Go.RowKit

def nm0 (a0 a1 a2 a3 : Int) : Int := wrap64 (wrap64 (wrap64 (wrap64 (a0 * a0) + wrap64 (a1 * a1)) + wrap64 (a2 * a2)) + wrap64 (a3 * a3))

def nm1 (a0 a1 a2 a3 : Int) : Int := wrap64 (wrap64 (wrap64 (wrap64 (a0 * a1) + wrap64 (a1 * a2)) + wrap64 (a2 * a3)) - wrap64 (a0 * a3))

set_option maxRecDepth 100000 in
set_option maxHeartbeats 400000 in
theorem spNorm_any (a0 a1 a2 a3 : Int) (w : World) :
    Calls Try.prog 95 #[.agg #[.int .i64 a0, .int .i64 a1, .int .i64 a2, .int .i64 a3]] w fun e w' => e = .returned (.agg #[.int .i64 (nm0 a0 a1 a2 a3), .int .i64 (nm1 a0 a1 a2 a3)]) ∧ Below w.heap.size w w' := by
  go_enter Try.func95, Try.ntmps95
  go_wp2
  go_returns
  exact ⟨rfl, by go_grown⟩

set_option maxRecDepth 100000 in
set_option maxHeartbeats 400000 in
theorem imNorm_any (a0 a1 a2 a3 : Int) (w : World) :
    Calls Try.prog 134 #[.agg #[.int .i64 a0, .int .i64 a1, .int .i64 a2, .int .i64 a3]] w fun e w' => e = .returned (.agg #[.int .i64 (nm0 a0 a1 a2 a3), .int .i64 (nm1 a0 a1 a2 a3)]) ∧ Below w.heap.size w w' := by
  go_enter Try.func134, Try.ntmps134
  go_wp2
  go_returns
  exact ⟨by simp [nm0, nm1, Int.mul_comm a3 a0], by go_grown⟩

set_option maxRecDepth 100000 in
set_option maxHeartbeats 400000 in
theorem imX_any (a0 a1 a2 a3 : Int) (w : World) :
    Calls Try.prog 76 #[.agg #[.int .i64 a0, .int .i64 a1, .int .i64 a2, .int .i64 a3]] w fun e w' => e = .returned (.agg #[.int .i64 (wrap64 (2 * a0)), .int .i64 (wrap64 (a1 - a3))]) ∧ Below w.heap.size w w' := by
  go_enter Try.func76, Try.ntmps76
  go_wp2
  go_returns
  exact ⟨rfl, by go_grown⟩

set_option maxRecDepth 100000 in
set_option maxHeartbeats 400000 in
theorem imY_any (a0 a1 a2 a3 : Int) (w : World) :
    Calls Try.prog 78 #[.agg #[.int .i64 a0, .int .i64 a1, .int .i64 a2, .int .i64 a3]] w fun e w' => e = .returned (.agg #[.int .i64 (wrap64 (2 * a2)), .int .i64 (wrap64 (a1 + a3))]) ∧ Below w.heap.size w w' := by
  go_enter Try.func78, Try.ntmps78
  go_wp2
  go_returns
  exact ⟨rfl, by go_grown⟩

set_option maxRecDepth 100000 in
set_option maxHeartbeats 400000 in
theorem spX_any (a0 a1 a2 a3 : Int) (w : World) :
    Calls Try.prog 73 #[.agg #[.int .i64 a0, .int .i64 a1, .int .i64 a2, .int .i64 a3]] w fun e w' => e = .returned (.agg #[.int .i64 (wrap64 (2 * a0)), .int .i64 (wrap64 (a1 - a3))]) ∧ Below w.heap.size w w' := by
  go_enter Try.func73, Try.ntmps73
  go_wp2
  go_returns
  exact ⟨rfl, by go_grown⟩

set_option maxRecDepth 100000 in
set_option maxHeartbeats 400000 in
theorem spY_any (a0 a1 a2 a3 : Int) (w : World) :
    Calls Try.prog 77 #[.agg #[.int .i64 a0, .int .i64 a1, .int .i64 a2, .int .i64 a3]] w fun e w' => e = .returned (.agg #[.int .i64 (wrap64 (2 * a2)), .int .i64 (wrap64 (a1 + a3))]) ∧ Below w.heap.size w w' := by
  go_enter Try.func77, Try.ntmps77
  go_wp2
  go_returns
  exact ⟨rfl, by go_grown⟩

end Go.Proofs.Ytppbbcckijcckaa

/- Plain numbers: no square is twice another one; parts of the continued fraction of the root of two. -/
namespace Go.Proofs.Ytppbbcckijcckaa

theorem irr (n : Nat) : ∀ (y r : Int), r.toNat ≤ n → 0 < y → 0 < r → y * y ≠ 2 * (y * r) + r * r := by
  induction n with
  | zero => intro y r h _ h0; omega
  | succ n ih =>
    intro y r hr hy h0 he
    have h1 : 2 * r < y := by
      rcases Int.lt_or_le (2 * r) y with h | h
      · exact h
      · have := Int.mul_le_mul_of_nonneg_left h (Int.le_of_lt hy)
        have e : y * (2 * r) = 2 * (y * r) := by rw [Int.mul_left_comm]
        have p := Int.mul_pos h0 h0
        omega
    have h2 : y < 3 * r := by
      rcases Int.lt_or_le y (3 * r) with h | h
      · exact h
      · have k := Int.mul_le_mul_of_nonneg_left h (Int.le_of_lt hy)
        have e : y * (3 * r) = 3 * (y * r) := by rw [Int.mul_left_comm]
        have k2 := Int.mul_le_mul_of_nonneg_right h (Int.le_of_lt h0)
        have e2 : 3 * r * r = 3 * (r * r) := Int.mul_assoc _ _ _
        have p := Int.mul_pos h0 h0
        omega
    obtain ⟨t, ht⟩ : ∃ t, y = 2 * r + t := ⟨y - 2 * r, by omega⟩
    subst ht
    refine ih r t (by omega) h0 (by omega) ?_
    have e1 : (2 * r + t) * (2 * r + t) = 4 * (r * r) + 4 * (r * t) + t * t := by
      rw [Int.add_mul, Int.mul_add, Int.mul_add]
      have a1 : 2 * r * (2 * r) = 4 * (r * r) := by rw [Int.mul_assoc, Int.mul_left_comm r 2 r, ← Int.mul_assoc]; rfl
      have a2 : 2 * r * t = 2 * (r * t) := Int.mul_assoc _ _ _
      have a3 : t * (2 * r) = 2 * (r * t) := by rw [Int.mul_comm, Int.mul_assoc]
      omega
    have e2 : (2 * r + t) * r = 2 * (r * r) + r * t := by
      rw [Int.add_mul, Int.mul_assoc, Int.mul_comm t r]
    rw [e1, e2] at he
    omega

def G1 (x y : Int) : Bool := decide (2 * (y * y) < x * x)

def G2 (x y : Int) : Bool := decide (2 * (x * y) + y * y < x * x)

theorem sq_add (y r : Int) : (y + r) * (y + r) = y * y + 2 * (y * r) + r * r := by
  rw [Int.add_mul, Int.mul_add, Int.mul_add, Int.mul_comm r y]
  omega

theorem G1_step (y r : Int) (hy : 0 < y) (h0 : 0 < r) : G1 (y + r) y = !G2 y r := by
  have i := irr r.toNat y r (Nat.le_refl _) hy h0
  unfold G1 G2
  rw [sq_add]
  by_cases h : 2 * (y * r) + r * r < y * y
  · have : ¬ 2 * (y * y) < y * y + 2 * (y * r) + r * r := by omega
    simp [h, this]
  · have : 2 * (y * y) < y * y + 2 * (y * r) + r * r := by omega
    simp [h, this]

theorem G1_end (y : Int) (hy : 0 < y) : G1 y y = false := by
  have := Int.mul_pos hy hy
  unfold G1
  exact decide_eq_false (by omega)

theorem e2y (y r : Int) : (2 * y + r) * (2 * y + r) = 4 * (y * y) + 4 * (y * r) + r * r := by
  rw [Int.add_mul, Int.mul_add, Int.mul_add]
  have a1 : 2 * y * (2 * y) = 4 * (y * y) := by rw [Int.mul_assoc, Int.mul_left_comm y 2 y, ← Int.mul_assoc]; rfl
  have a2 : 2 * y * r = 2 * (y * r) := Int.mul_assoc _ _ _
  have a3 : r * (2 * y) = 2 * (y * r) := by rw [Int.mul_comm, Int.mul_assoc]
  omega

theorem e2x (y r : Int) : (2 * y + r) * y = 2 * (y * y) + y * r := by
  rw [Int.add_mul, Int.mul_assoc, Int.mul_comm r y]

theorem G2_step (y r : Int) (hy : 0 < y) (h0 : 0 < r) : G2 (2 * y + r) y = !G2 y r := by
  have i := irr r.toNat y r (Nat.le_refl _) hy h0
  unfold G2
  rw [e2y, e2x]
  by_cases h : 2 * (y * r) + r * r < y * y
  · have : ¬ 2 * (2 * (y * y) + y * r) + y * y < 4 * (y * y) + 4 * (y * r) + r * r := by omega
    simp [h, this]
  · have : 2 * (2 * (y * y) + y * r) + y * y < 4 * (y * y) + 4 * (y * r) + r * r := by omega
    simp [h, this]

theorem G2_end (y : Int) (hy : 0 < y) : G2 (2 * y) y = false := by
  have := Int.mul_pos hy hy
  have e := e2y y 0
  have f := e2x y 0
  simp at e f
  unfold G2
  rw [e, f]
  exact decide_eq_false (by omega)

theorem G1_more (x y : Int) (hy : 0 < y) (h : 2 * y ≤ x) : G1 x y = true := by
  have a := Int.mul_le_mul_of_nonneg_left h (by omega : 0 ≤ x)
  have b := Int.mul_le_mul_of_nonneg_right h (by omega : 0 ≤ y)
  have e : x * (2 * y) = 2 * (x * y) := by rw [Int.mul_left_comm]
  have f : 2 * y * y = 2 * (y * y) := Int.mul_assoc _ _ _
  have p := Int.mul_pos hy hy
  unfold G1
  exact decide_eq_true (by omega)

theorem G1_less (x y : Int) (hx : 0 < x) (h : x < y) : G1 x y = false := by
  have a := Int.mul_le_mul_of_nonneg_left (Int.le_of_lt h) (Int.le_of_lt hx)
  have b := Int.mul_le_mul_of_nonneg_right (Int.le_of_lt h) (by omega : 0 ≤ y)
  have p := Int.mul_pos (by omega : 0 < y) (by omega : 0 < y)
  unfold G1
  exact decide_eq_false (by omega)

theorem G2_more (x y : Int) (hy : 0 < y) (h : 3 * y ≤ x) : G2 x y = true := by
  have a := Int.mul_le_mul_of_nonneg_left h (by omega : 0 ≤ x)
  have b := Int.mul_le_mul_of_nonneg_right h (by omega : 0 ≤ y)
  have e : x * (3 * y) = 3 * (x * y) := by rw [Int.mul_left_comm]
  have f : 3 * y * y = 3 * (y * y) := Int.mul_assoc _ _ _
  have p := Int.mul_pos hy hy
  unfold G2
  exact decide_eq_true (by omega)

theorem G2_less (x y : Int) (hx : 0 < x) (hy : 0 < y) (h : x < 2 * y) : G2 x y = false := by
  have a := Int.mul_le_mul_of_nonneg_left (Int.le_of_lt h) (Int.le_of_lt hx)
  have e : x * (2 * y) = 2 * (x * y) := by rw [Int.mul_left_comm]
  have p := Int.mul_pos hy hy
  unfold G2
  exact decide_eq_false (by omega)

end Go.Proofs.Ytppbbcckijcckaa

/- Contract: which of both is greater, by the continued fraction, in the model. -/
namespace Go.Proofs.Ytppbbcckijcckaa
open Go.ChangeShapes Go.WideShapes Go.ChangeAt Go.RowKit

def GRel (T : Bool) (wh x y : Int) (g : Bool) : Prop := (wh = 1 ∧ T = (G1 x y == g)) ∨ (wh = 2 ∧ T = (G2 x y == g))

theorem q_one {x y : Int} (hy : 0 < y) (h1 : y ≤ x) (h2 : x < 2 * y) : x / y = 1 := by
  have a : 1 ≤ x / y := (Int.le_ediv_iff_mul_le hy).2 (by omega)
  have b : x / y < 2 := (Int.ediv_lt_iff_lt_mul hy).2 (by omega)
  omega

theorem q_two {x y : Int} (hy : 0 < y) (h1 : 2 * y ≤ x) (h2 : x < 3 * y) : x / y = 2 := by
  have a : 2 ≤ x / y := (Int.le_ediv_iff_mul_le hy).2 (by omega)
  have b : x / y < 3 := (Int.ediv_lt_iff_lt_mul hy).2 (by omega)
  omega

theorem q_zero {x y : Int} (hx : 0 < x) (h1 : x < y) : x / y = 0 := Int.ediv_eq_zero_of_lt (by omega) h1

theorem q_ge2 {x y : Int} (hy : 0 < y) (h1 : 2 * y ≤ x) : 2 ≤ x / y := (Int.le_ediv_iff_mul_le hy).2 (by omega)

theorem q_ge3 {x y : Int} (hy : 0 < y) (h1 : 3 * y ≤ x) : 3 ≤ x / y := (Int.le_ediv_iff_mul_le hy).2 (by omega)

theorem q_le1 {x y : Int} (hx : 0 < x) (hy : 0 < y) (h1 : x < 2 * y) : 0 ≤ x / y ∧ x / y ≤ 1 := by
  have b : x / y < 2 := (Int.ediv_lt_iff_lt_mul hy).2 (by omega)
  have a : 0 ≤ x / y := Int.ediv_nonneg (by omega) (by omega)
  omega

theorem q_lex {x y : Int} (hx : 0 < x) : x / y ≤ x := Int.ediv_le_self _ (by omega)

set_option maxRecDepth 100000 in
set_option maxHeartbeats 3200000 in
theorem greater_any (X Y : Int) (hX : 0 < X) (hY : 0 < Y) (bX : X ≤ 9000000000000000) (bY : Y ≤ 9000000000000000) (w : World) :
    Calls Try.prog 138 #[.int .i64 X, .int .i64 Y] w fun e w' => e = .returned (.bool (G1 X Y)) ∧ w = w' := by
  go_enter Try.func138, Try.ntmps138
  go_wp2
  go_loop [0, 1, 5, 6] (fun v0 v1 v5 v6 => ∃ (x y wh : Int) (g : Bool), v0 = .int .i64 x ∧ v1 = .int .i64 y ∧ v5 = .bool g ∧ v6 = .int .i64 wh ∧ 0 < x ∧ 0 < y ∧ x ≤ 9000000000000000 ∧ y ≤ 9000000000000000 ∧ GRel (G1 X Y) wh x y g) (fun _ v1 _ _ => (intOf v1).toNat)
  case atStart => exact ⟨X, Y, 1, true, rfl, rfl, rfl, rfl, hX, hY, bX, bY, .inl ⟨rfl, by simp⟩⟩
  case round =>
    obtain ⟨x, y, wh, g, rfl, rfl, rfl, rfl, hx, hy, bx, bby, hrel⟩ := hrel
    rcases hrel with ⟨rfl, hT⟩ | ⟨rfl, hT⟩
    · by_cases c1 : x < y
      · have hq := q_zero hx c1
        rw [G1_less x y hx c1] at hT
        have HT := Lib.hid hT
        clear hT
        go_wp2
        go_ret
        exact ⟨by rw [HT.out]; first | (cases g <;> rfl) | (cases g <;> simp <;> omega), rfl⟩
      by_cases c2 : 2 * y ≤ x
      · have hq := q_ge2 hy c2
        have hq2 := q_lex (y := y) hx
        rw [G1_more x y hy c2] at hT
        have HT := Lib.hid hT
        clear hT
        obtain ⟨k, hk⟩ : ∃ k, x / y = k := ⟨_, rfl⟩
        rw [hk] at hq hq2
        go_wp2
        go_ret
        exact ⟨by rw [HT.out]; first | (cases g <;> rfl) | (cases g <;> simp <;> omega), rfl⟩
      · have hq := q_one (x := x) hy (by omega) (by omega)
        have HT := Lib.hid hT
        clear hT
        by_cases c3 : x = y
        · subst c3
          go_wp2
          go_ret
          exact ⟨by rw [HT.out, G1_end _ hy]; cases g <;> rfl, rfl⟩
        · obtain ⟨r, hr⟩ : ∃ r, x = y + r := ⟨x - y, by omega⟩
          subst hr
          have hr0 : 0 < r := by omega
          go_wp2
          go_round
          case rel => exact ⟨y, r, 2, !g, rfl, by go_num, rfl, rfl, hy, hr0, by omega, by omega, .inr ⟨rfl, by rw [HT.out, G1_step y r hy hr0]; cases G2 y r <;> cases g <;> rfl⟩⟩
          case measure => simp [intOf]; omega
    · by_cases c1 : x < 2 * y
      · have hq := q_le1 hx hy c1
        rw [G2_less x y hx hy c1] at hT
        have HT := Lib.hid hT
        clear hT
        obtain ⟨k, hk⟩ : ∃ k, x / y = k := ⟨_, rfl⟩
        rw [hk] at hq
        obtain ⟨hq0, hq1⟩ := hq
        go_wp2
        go_ret
        exact ⟨by rw [HT.out]; first | (cases g <;> rfl) | (cases g <;> simp <;> omega), rfl⟩
      by_cases c2 : 3 * y ≤ x
      · have hq := q_ge3 hy c2
        have hq2 := q_lex (y := y) hx
        rw [G2_more x y hy c2] at hT
        have HT := Lib.hid hT
        clear hT
        obtain ⟨k, hk⟩ : ∃ k, x / y = k := ⟨_, rfl⟩
        rw [hk] at hq hq2
        go_wp2
        go_ret
        exact ⟨by rw [HT.out]; first | (cases g <;> rfl) | (cases g <;> simp <;> omega), rfl⟩
      · have hq := q_two (x := x) hy (by omega) (by omega)
        have HT := Lib.hid hT
        clear hT
        by_cases c3 : x = 2 * y
        · subst c3
          go_wp2
          go_ret
          exact ⟨by rw [HT.out, G2_end _ hy]; cases g <;> rfl, rfl⟩
        · obtain ⟨r, hr⟩ : ∃ r, x = 2 * y + r := ⟨x - 2 * y, by omega⟩
          subst hr
          have hr0 : 0 < r := by omega
          go_wp2
          go_round
          case rel => exact ⟨y, r, 2, !g, rfl, by go_num, rfl, rfl, hy, hr0, by omega, by omega, .inr ⟨rfl, by rw [HT.out, G2_step y r hy hr0]; cases G2 y r <;> cases g <;> rfl⟩⟩
          case measure => simp [intOf]; omega

end Go.Proofs.Ytppbbcckijcckaa

/- Contracts: which surds there are, sums and products of surds, in the model and in the program. -/
namespace Go.Proofs.Ytppbbcckijcckaa
open Go.ChangeShapes Go.WideShapes Go.ChangeAt Go.RowKit

def surdB (n s0 s1 : Int) : Bool := inB s0 (-n) n && inB s1 (-n) n

theorem isWithin_any (n m : Int) (hm : -9223372036854775807 ≤ m) (hm2 : m ≤ 9223372036854775807) (w : World) :
    Calls Try.prog 108 #[.int .i64 n, .int .i64 m] w fun e w' => e = .returned (.bool (inB n (-m) m)) ∧ w = w' := by
  go_enter Try.func108, Try.ntmps108
  go_wp2
  all_goals go_ret
  all_goals exact ⟨by first | (simp_all [inB]; done) | (simp [inB]; omega) | (simp_all [inB]; omega), rfl⟩

set_option maxRecDepth 100000 in
set_option maxHeartbeats 400000 in
theorem spSurd_any (s0 s1 : Int) (w : World) :
    Calls Try.prog 100 #[.agg #[.int .i64 s0, .int .i64 s1]] w fun e w' => e = .returned (.bool (surdB 1000000000000000 s0 s1)) ∧ Below w.heap.size w w' := by
  cases h0 : inB s0 (-1000000000000000) 1000000000000000 <;> cases h1 : inB s1 (-1000000000000000) 1000000000000000
  all_goals
    go_enter Try.func100, Try.ntmps100
    go_wp2_with (go_at_call 127; refine (l1In_any _ _ _ _).mono ?_; rintro e w' ⟨rfl, rfl⟩)
    go_returns
    exact ⟨by simp [surdB, h0, h1], by go_grown⟩

set_option maxRecDepth 100000 in
set_option maxHeartbeats 400000 in
theorem imWithin_any (s0 s1 : Int) (m : Int) (hm : -9223372036854775807 ≤ m) (hm2 : m ≤ 9223372036854775807) (w : World) :
    Calls Try.prog 151 #[.agg #[.int .i64 s0, .int .i64 s1], .int .i64 m] w fun e w' => e = .returned (.bool (surdB m s0 s1)) ∧ Below w.heap.size w w' := by
  cases h0 : inB s0 (-m) m <;> cases h1 : inB s1 (-m) m
  all_goals
    go_enter Try.func151, Try.ntmps151
    go_wp2_with (go_at_call 108; refine (isWithin_any _ _ hm hm2 _).mono ?_; rintro e w' ⟨rfl, rfl⟩)
    go_returns
    exact ⟨by simp [surdB, h0, h1], by go_grown⟩

set_option maxRecDepth 100000 in
set_option maxHeartbeats 400000 in
theorem imIsSurd_any (s0 s1 : Int) (w : World) :
    Calls Try.prog 118 #[.agg #[.int .i64 s0, .int .i64 s1]] w fun e w' => e = .returned (.bool (surdB 1000000000000000 s0 s1)) ∧ Below w.heap.size w w' := by
  go_enter Try.func118, Try.ntmps118
  go_wp2_with (go_at_call 151; refine (imWithin_any _ _ _ (by omega) (by omega) _).mono ?_; rintro e w1 ⟨rfl, h1⟩; have hB : Below w.heap.size w w1 := ba (by go_grown) h1; obtain ⟨hc1, hf1⟩ := bcell h1; have hq := h1.size; (try simp at hq); have hz0 : w.heap.size < w1.heap.size := (by omega); have HK1 := Lib.hid h1; clear h1 hq)
  go_returns
  exact ⟨rfl, by go_grown⟩

end Go.Proofs.Ytppbbcckijcckaa

/- Contracts: the sign of a surd, in the model. -/
namespace Go.Proofs.Ytppbbcckijcckaa
open Go.ChangeShapes Go.WideShapes Go.ChangeAt Go.RowKit

def sg (n : Int) : Int := if 0 < n then 1 else if n < 0 then -1 else 0

def ab (n : Int) : Int := if n < 0 then -n else n

def sgn2 (s0 s1 : Int) : Int := cond (G1 s0 s1) (sg s0) (sg s1)

theorem sg_pos {n : Int} (h : 0 < n) : sg n = 1 := by simp [sg, h]

theorem sg_neg {n : Int} (h : n < 0) : sg n = -1 := by
  have h' : ¬ 0 < n := by omega
  simp [sg, h, h']

theorem sg_zero : sg 0 = 0 := rfl

theorem ab_pos {n : Int} (h : 0 < n) : ab n = n := by
  have h' : ¬ n < 0 := by omega
  simp [ab, h']

theorem ab_neg {n : Int} (h : n < 0) : ab n = -n := by simp [ab, h]

theorem G1_neg0 (x y : Int) : G1 (-x) y = G1 x y := by simp [G1, Int.neg_mul_neg]

theorem G1_neg1 (x y : Int) : G1 x (-y) = G1 x y := by simp [G1, Int.neg_mul_neg]

theorem G1_z0 (y : Int) : G1 0 y = false := by
  unfold G1
  have : 0 ≤ y * y := by
    rcases Int.le_total 0 y with h | h
    · exact Int.mul_nonneg h h
    · exact Int.mul_nonneg_of_nonpos_of_nonpos h h
  exact decide_eq_false (by omega)

theorem G1_z1 (x : Int) (h : x ≠ 0) : G1 x 0 = true := by
  unfold G1
  have : 0 < x * x := by
    rcases Int.lt_or_gt_of_ne h with h | h
    · exact Int.mul_pos_of_neg_of_neg h h
    · exact Int.mul_pos h h
  exact decide_eq_true (by omega)

set_option maxRecDepth 100000 in
theorem l1Sign_any (n : Int) (w : World) :
    Calls Try.prog 137 #[.int .i64 n] w fun e w' => e = .returned (.int .i64 (sg n)) ∧ w = w' := by
  rcases Int.lt_trichotomy n 0 with h | rfl | h
  · rw [sg_neg h]
    go_enter Try.func137, Try.ntmps137
    go_wp2
    go_ret
    exact ⟨rfl, rfl⟩
  · go_enter Try.func137, Try.ntmps137
    go_wp2
    go_ret
    exact ⟨rfl, rfl⟩
  · rw [sg_pos h]
    go_enter Try.func137, Try.ntmps137
    go_wp2
    go_ret
    exact ⟨rfl, rfl⟩

set_option maxRecDepth 100000 in
theorem l1Abs_any (n : Int) (h0 : n ≠ 0) (b0 : -9000000000000000 ≤ n) (b1 : n ≤ 9000000000000000) (w : World) :
    Calls Try.prog 139 #[.int .i64 n] w fun e w' => e = .returned (.int .i64 (ab n)) ∧ w = w' := by
  rcases Int.lt_or_gt_of_ne h0 with h | h
  · rw [ab_neg h]
    go_enter Try.func139, Try.ntmps139
    go_wp2
    all_goals go_ret
    all_goals exact ⟨rfl, rfl⟩
  · rw [ab_pos h]
    go_enter Try.func139, Try.ntmps139
    go_wp2
    all_goals go_ret
    all_goals exact ⟨rfl, rfl⟩

end Go.Proofs.Ytppbbcckijcckaa

/- Numbers with the root of two as an ordered ring; vectors, their products, turning on. -/
namespace Go.Proofs.Ytppbbcckijcckaa

theorem sq_nn (n : Int) : 0 ≤ n * n := by
  rcases Int.le_total 0 n with h | h
  · exact Int.mul_nonneg h h
  · exact Int.mul_nonneg_of_nonpos_of_nonpos h h

theorem sq_pos {n : Int} (h : n ≠ 0) : 0 < n * n := by
  rcases Int.lt_or_gt_of_ne h with h | h
  · exact Int.mul_pos_of_neg_of_neg h h
  · exact Int.mul_pos h h

theorem irr2 (a b : Int) (h : a * a = 2 * (b * b)) : a = 0 ∧ b = 0 := by
  have key : ∀ x y : Int, 0 ≤ x → 0 ≤ y → x * x = 2 * (y * y) → y = 0 := by
    intro x y hx hy h
    rcases Int.lt_or_eq_of_le hy with hy' | hy'
    · exfalso
      have hxy : y < x := by
        rcases Int.lt_or_le y x with h1 | h1
        · exact h1
        · have h2 := Int.mul_le_mul h1 h1 hx hy
          have := Int.mul_pos hy' hy'
          omega
      refine irr (x - y).toNat y (x - y) (Nat.le_refl _) hy' (by omega) ?_
      grind
    · exact hy'.symm
  have hb : b = 0 := by
    rcases Int.le_total 0 a with ha | ha <;> rcases Int.le_total 0 b with hb | hb
    · exact key a b ha hb h
    · have := key a (-b) ha (by omega) (by rw [Int.neg_mul_neg]; exact h); omega
    · have := key (-a) b (by omega) hb (by rw [Int.neg_mul_neg]; exact h); exact this
    · have := key (-a) (-b) (by omega) (by omega) (by rw [Int.neg_mul_neg, Int.neg_mul_neg]; exact h); omega
  subst hb
  refine ⟨?_, rfl⟩
  by_cases h1 : a = 0
  · exact h1
  · have := sq_pos h1; omega

/-- A number x + r times the root of two. -/
structure Su where
  x : Int
  r : Int
deriving DecidableEq

namespace Su
theorem ext' {s t : Su} (h : s.x = t.x) (k : s.r = t.r) : s = t := by cases s; cases t; simp_all

theorem eq_iff {s t : Su} : s = t ↔ s.x = t.x ∧ s.r = t.r := ⟨fun h => by subst h; exact ⟨rfl, rfl⟩, fun h => ext' h.1 h.2⟩

instance : Add Su := ⟨fun s t => ⟨s.x + t.x, s.r + t.r⟩⟩

instance : Sub Su := ⟨fun s t => ⟨s.x - t.x, s.r - t.r⟩⟩

instance : Neg Su := ⟨fun s => ⟨-s.x, -s.r⟩⟩

instance : Mul Su := ⟨fun s t => ⟨s.x * t.x + 2 * (s.r * t.r), s.x * t.r + s.r * t.x⟩⟩

instance : Zero Su := ⟨⟨0, 0⟩⟩

theorem add_x (s t : Su) : (s + t).x = s.x + t.x := rfl

theorem add_r (s t : Su) : (s + t).r = s.r + t.r := rfl

theorem sub_x (s t : Su) : (s - t).x = s.x - t.x := rfl

theorem sub_r (s t : Su) : (s - t).r = s.r - t.r := rfl

theorem neg_x (s : Su) : (-s).x = -s.x := rfl

theorem neg_r (s : Su) : (-s).r = -s.r := rfl

theorem mul_x (s t : Su) : (s * t).x = s.x * t.x + 2 * (s.r * t.r) := rfl

theorem mul_r (s t : Su) : (s * t).r = s.x * t.r + s.r * t.x := rfl

theorem zero_x : (0 : Su).x = 0 := rfl

theorem zero_r : (0 : Su).r = 0 := rfl

/-- The norm: greater than 0 if x tells the sign. -/
def nn (s : Su) : Int := s.x * s.x - 2 * (s.r * s.r)

/-- Greater than 0. -/
def P (s : Su) : Prop := (0 < s.nn ∧ 0 < s.x) ∨ (s.nn < 0 ∧ 0 < s.r)

theorem nn_zero {s : Su} (h : s.nn = 0) : s = 0 := by
  have := irr2 s.x s.r (by unfold nn at h; omega)
  exact ext' this.1 this.2

theorem nn_neg (s : Su) : (-s).nn = s.nn := by simp [nn, neg_x, neg_r, Int.neg_mul_neg]

theorem not_P_zero : ¬ P 0 := by simp [P, nn, zero_x, zero_r]

theorem P_ne {s : Su} (h : P s) : s ≠ 0 := fun e => not_P_zero (e ▸ h)

theorem tri (s : Su) : P s ∨ s = 0 ∨ P (-s) := by
  unfold P
  rw [nn_neg, neg_x, neg_r]
  rcases Int.lt_trichotomy s.nn 0 with h | h | h
  · have hr : s.r ≠ 0 := fun e => by
      have := sq_nn s.x
      simp [nn, e] at h; omega
    omega
  · exact .inr (.inl (nn_zero h))
  · have hx : s.x ≠ 0 := fun e => by
      have := sq_nn s.r
      simp [nn, e] at h; omega
    omega

theorem P_neg {s : Su} (h : P s) : ¬ P (-s) := by
  unfold P at *
  rw [nn_neg, neg_x, neg_r]
  omega

/-- x * x < y * y and 0 < y: x lies between. -/
theorem sq_lt {x y : Int} (h : x * x < y * y) (hy : 0 < y) : -y < x ∧ x < y := by
  constructor
  · rcases Int.lt_or_le (-y) x with h1 | h1
    · exact h1
    · have := Int.mul_le_mul (a := y) (c := -x) (b := y) (d := -x) (by omega) (by omega) (by omega) (by omega)
      rw [Int.neg_mul_neg] at this
      omega
  · rcases Int.lt_or_le x y with h1 | h1
    · exact h1
    · have := Int.mul_le_mul (a := y) (c := x) (b := y) (d := x) h1 h1 (by omega) (by omega)
      omega

theorem mul_lt4 {a b c d : Int} (h : a < b) (k : c < d) (ha : 0 ≤ a) (hc : 0 ≤ c) : a * c < b * d := by
  have h1 : a * c ≤ a * d := Int.mul_le_mul_of_nonneg_left (by omega) ha
  have h2 : a * d < b * d := Int.mul_lt_mul_of_pos_right h (by omega)
  omega

theorem nn_mul (s t : Su) : (s * t).nn = s.nn * t.nn := by
  simp only [nn, mul_x, mul_r]
  grind

theorem nn_add (s t : Su) : (s + t).nn = s.nn + t.nn + 2 * (s.x * t.x - 2 * (s.r * t.r)) := by
  simp only [nn, add_x, add_r]
  grind

/-- Both parts told by x. -/
theorem xx {s t : Su} (h : 0 < s.nn) (hx : 0 < s.x) (k : 0 < t.nn) (kx : 0 < t.x) : -(s.x * t.x) < 2 * (s.r * t.r) ∧ 2 * (s.r * t.r) < s.x * t.x := by
  refine sq_lt ?_ (Int.mul_pos hx kx)
  have := mul_lt4 (a := 2 * (s.r * s.r)) (b := s.x * s.x) (c := 2 * (t.r * t.r)) (d := t.x * t.x) (by unfold nn at h; omega) (by unfold nn at k; omega) (by have := sq_nn s.r; omega) (by have := sq_nn t.r; omega)
  grind

theorem rr {s t : Su} (h : s.nn < 0) (hx : 0 < s.r) (k : t.nn < 0) (kx : 0 < t.r) : -(2 * (s.r * t.r)) < s.x * t.x ∧ s.x * t.x < 2 * (s.r * t.r) := by
  refine sq_lt ?_ (by have := Int.mul_pos hx kx; omega)
  have := mul_lt4 (b := 2 * (s.r * s.r)) (a := s.x * s.x) (d := 2 * (t.r * t.r)) (c := t.x * t.x) (by unfold nn at h; omega) (by unfold nn at k; omega) (sq_nn _) (sq_nn _)
  grind

theorem xr {s t : Su} (h : 0 < s.nn) (hx : 0 < s.x) (k : t.nn < 0) (kx : 0 < t.r) : -(s.x * t.r) < s.r * t.x ∧ s.r * t.x < s.x * t.r := by
  refine sq_lt ?_ (Int.mul_pos hx kx)
  have := mul_lt4 (a := 2 * (s.r * s.r)) (b := s.x * s.x) (c := t.x * t.x) (d := 2 * (t.r * t.r)) (by unfold nn at h; omega) (by unfold nn at k; omega) (by have := sq_nn s.r; omega) (sq_nn _)
  grind

theorem mul_comm (s t : Su) : s * t = t * s := by
  apply ext' <;> simp only [mul_x, mul_r] <;> grind

theorem add_comm (s t : Su) : s + t = t + s := by
  apply ext' <;> simp only [add_x, add_r] <;> omega

theorem P_mul {s t : Su} (h : P s) (k : P t) : P (s * t) := by
  have hn := nn_mul s t
  unfold P at *
  simp only [mul_x, mul_r, hn]
  rcases h with ⟨h1, h2⟩ | ⟨h1, h2⟩ <;> rcases k with ⟨k1, k2⟩ | ⟨k1, k2⟩
  · have := xx h1 h2 k1 k2
    exact .inl ⟨Int.mul_pos h1 k1, by omega⟩
  · have := xr h1 h2 k1 k2
    exact .inr ⟨Int.mul_neg_of_pos_of_neg h1 k1, by omega⟩
  · have := xr k1 k2 h1 h2
    have e1 := Int.mul_comm t.x s.r
    have e2 := Int.mul_comm t.r s.x
    exact .inr ⟨Int.mul_neg_of_neg_of_pos h1 k1, by omega⟩
  · have := rr h1 h2 k1 k2
    exact .inl ⟨Int.mul_pos_of_neg_of_neg h1 k1, by omega⟩

theorem P_addx {s t : Su} (h : 0 < s.nn) (hx : 0 < s.x) (k : 0 < t.nn) (kx : 0 < t.x) : 0 < (s + t).nn ∧ 0 < (s + t).x := by
  have := xx h hx k kx
  rw [nn_add, add_x]; omega

theorem P_addr {s t : Su} (h : s.nn < 0) (hx : 0 < s.r) (k : t.nn < 0) (kx : 0 < t.r) : (s + t).nn < 0 ∧ 0 < (s + t).r := by
  have := rr h hx k kx
  rw [nn_add, add_r]; omega

theorem P_addxr {s t : Su} (h : 0 < s.nn) (hx : 0 < s.x) (k : t.nn < 0) (kx : 0 < t.r) : P (s + t) := by
  unfold P
  rcases Int.lt_trichotomy (s + t).nn 0 with hn | hn | hn
  · refine .inr ⟨hn, ?_⟩
    rcases Int.lt_trichotomy (s + t).r 0 with h1 | h1 | h1
    · exfalso
      have h2 := P_addr (s := t) (t := -(s + t)) k kx (by rw [nn_neg]; exact hn) (by rw [neg_r]; omega)
      have e : t + -(s + t) = -s := by apply ext' <;> simp only [add_x, add_r, neg_x, neg_r] <;> omega
      rw [e, nn_neg] at h2
      omega
    · have := sq_nn (s + t).x
      simp [nn, h1] at hn; omega
    · exact h1
  · exfalso
    have e := nn_zero hn
    have e2 : t = -s := by
      have a1 := congrArg Su.x e; have a2 := congrArg Su.r e
      simp only [add_x, add_r, zero_x, zero_r] at a1 a2
      apply ext' <;> simp only [neg_x, neg_r] <;> omega
    rw [e2, nn_neg] at k
    omega
  · refine .inl ⟨hn, ?_⟩
    rcases Int.lt_trichotomy (s + t).x 0 with h1 | h1 | h1
    · exfalso
      have h2 := P_addx (s := s) (t := -(s + t)) h hx (by rw [nn_neg]; exact hn) (by rw [neg_x]; omega)
      have e : s + -(s + t) = -t := by apply ext' <;> simp only [add_x, add_r, neg_x, neg_r] <;> omega
      rw [e, nn_neg] at h2
      omega
    · have := sq_nn (s + t).r
      simp [nn, h1] at hn; omega
    · exact h1

theorem P_add {s t : Su} (h : P s) (k : P t) : P (s + t) := by
  rcases h with ⟨h1, h2⟩ | ⟨h1, h2⟩ <;> rcases k with ⟨k1, k2⟩ | ⟨k1, k2⟩
  · exact .inl (P_addx h1 h2 k1 k2)
  · exact P_addxr h1 h2 k1 k2
  · rw [add_comm]; exact P_addxr k1 k2 h1 h2
  · exact .inr (P_addr h1 h2 k1 k2)

/-- The sign, as a number. -/
def sn (s : Su) : Int := sgn2 s.x s.r

theorem sn_P {s : Su} (h : P s) : s.sn = 1 := by
  unfold sn sgn2 G1
  rcases h with ⟨h1, h2⟩ | ⟨h1, h2⟩
  · rw [decide_eq_true (by unfold nn at h1; omega)]; exact sg_pos h2
  · rw [decide_eq_false (by unfold nn at h1; omega)]; exact sg_pos h2

theorem sn_N {s : Su} (h : P (-s)) : s.sn = -1 := by
  unfold sn sgn2 G1
  unfold P at h
  rw [nn_neg, neg_x, neg_r] at h
  rcases h with ⟨h1, h2⟩ | ⟨h1, h2⟩
  · rw [decide_eq_true (by unfold nn at h1; omega)]; exact sg_neg (by omega)
  · rw [decide_eq_false (by unfold nn at h1; omega)]; exact sg_neg (by omega)

theorem sn_0 : (0 : Su).sn = 0 := rfl

theorem sn_pos {s : Su} : 0 < s.sn ↔ P s := by
  rcases tri s with h | h | h
  · simp [sn_P h, h]
  · subst h; simp [sn_0, not_P_zero]
  · simp [sn_N h]; exact fun h' => P_neg h' h

theorem sn_neg {s : Su} : s.sn < 0 ↔ P (-s) := by
  rcases tri s with h | h | h
  · simp [sn_P h, P_neg h]
  · subst h; rw [sn_0, show (-(0 : Su)) = 0 from rfl]; simp [not_P_zero]
  · simp [sn_N h, h]

theorem sn_zero {s : Su} : s.sn = 0 ↔ s = 0 := by
  rcases tri s with h | h | h
  · simp [sn_P h, P_ne h]
  · simp [h, sn_0]
  · rw [sn_N h]
    have : s ≠ 0 := fun e => by subst e; exact not_P_zero h
    simp [this]

theorem neg_neg' (s : Su) : - -s = s := by apply ext' <;> simp [neg_x, neg_r]

theorem sn_of_neg (s : Su) : (-s).sn = -s.sn := by
  rcases tri s with h | h | h
  · rw [sn_P h, sn_N (by rw [neg_neg']; exact h)]
  · subst h; rfl
  · rw [sn_P h, sn_N h]; rfl

theorem sn_three (s : Su) : s.sn = 1 ∨ s.sn = 0 ∨ s.sn = -1 := by
  rcases tri s with h | h | h
  · exact .inl (sn_P h)
  · exact .inr (.inl (by rw [h]; rfl))
  · exact .inr (.inr (sn_N h))

theorem zero_mul' (s : Su) : 0 * s = 0 := by apply ext' <;> simp [mul_x, mul_r, zero_x, zero_r]

theorem mul_zero' (s : Su) : s * 0 = 0 := by apply ext' <;> simp [mul_x, mul_r, zero_x, zero_r]

theorem neg_mul' (s t : Su) : -s * t = -(s * t) := by apply ext' <;> simp only [mul_x, mul_r, neg_x, neg_r] <;> grind

theorem sn_mul (s t : Su) : (s * t).sn = s.sn * t.sn := by
  have half : ∀ s t : Su, P s → (s * t).sn = t.sn := by
    intro s t h
    rcases tri t with k | k | k
    · rw [sn_P k, sn_P (P_mul h k)]
    · subst k; rw [mul_zero']
    · rw [sn_N k, sn_N]
      have e : -(s * t) = s * -t := by apply ext' <;> simp only [mul_x, mul_r, neg_x, neg_r] <;> grind
      rw [e]; exact P_mul h k
  rcases tri s with h | h | h
  · rw [half s t h, sn_P h, Int.one_mul]
  · subst h; rw [zero_mul', sn_0, Int.zero_mul]
  · have e := half (-s) t h
    rw [neg_mul', sn_of_neg] at e
    rw [sn_N h]; omega

theorem sn_add {s t : Su} (h : 0 ≤ s.sn) (k : 0 ≤ t.sn) : 0 ≤ (s + t).sn ∧ ((s + t).sn = 0 → s.sn = 0 ∧ t.sn = 0) := by
  rcases tri s with a | a | a
  · rcases tri t with b | b | b
    · rw [sn_P (P_add a b)]; exact ⟨by omega, fun h => by omega⟩
    · subst b
      have e : s + 0 = s := by apply ext' <;> simp [add_x, add_r, zero_x, zero_r]
      rw [e]; exact ⟨h, fun h => ⟨h, rfl⟩⟩
    · rw [sn_N b] at k; omega
  · subst a
    have e : 0 + t = t := by apply ext' <;> simp [add_x, add_r, zero_x, zero_r]
    rw [e]; exact ⟨k, fun h => ⟨rfl, h⟩⟩
  · rw [sn_N a] at h; omega
end Su

/-- A vector: twice its numbers to the east and to the north. -/
structure Ve where
  X : Su
  Y : Su
deriving DecidableEq
namespace Ve

def cr (u v : Ve) : Su := u.X * v.Y - u.Y * v.X

def dt (u v : Ve) : Su := u.X * v.X + u.Y * v.Y

/-- To the east, or straight to the north. -/
def lx (u : Ve) : Prop := Su.P u.X ∨ (u.X = 0 ∧ Su.P u.Y)

instance : Neg Ve := ⟨fun u => ⟨-u.X, -u.Y⟩⟩

instance : Add Ve := ⟨fun u v => ⟨u.X + v.X, u.Y + v.Y⟩⟩

instance : Zero Ve := ⟨⟨0, 0⟩⟩

theorem neg_X (u : Ve) : (-u).X = -u.X := rfl

theorem neg_Y (u : Ve) : (-u).Y = -u.Y := rfl

theorem add_X (u v : Ve) : (u + v).X = u.X + v.X := rfl

theorem add_Y (u v : Ve) : (u + v).Y = u.Y + v.Y := rfl

theorem ext' {u v : Ve} (h : u.X = v.X) (k : u.Y = v.Y) : u = v := by cases u; cases v; simp_all

open Su in
theorem cr_plu (u v w : Ve) : v.X * cr u w = u.X * cr v w + w.X * cr u v := by
  apply Su.ext' <;> simp only [cr, mul_x, mul_r, add_x, add_r, sub_x, sub_r] <;> grind
open Su in

theorem cr_swap (u v : Ve) : cr v u = -cr u v := by
  apply Su.ext' <;> simp only [cr, mul_x, mul_r, neg_x, neg_r, sub_x, sub_r] <;> grind
open Su in

theorem cr_neg_l (u v : Ve) : cr (-u) v = -cr u v := by
  apply Su.ext' <;> simp only [cr, mul_x, mul_r, neg_x, neg_r, sub_x, sub_r, neg_X, neg_Y] <;> grind
open Su in

theorem cr_neg_r (u v : Ve) : cr u (-v) = -cr u v := by
  apply Su.ext' <;> simp only [cr, mul_x, mul_r, neg_x, neg_r, sub_x, sub_r, neg_X, neg_Y] <;> grind
open Su in

theorem cr_neg2 (u v : Ve) : cr (-u) (-v) = cr u v := by
  apply Su.ext' <;> simp only [cr, mul_x, mul_r, neg_x, neg_r, sub_x, sub_r, neg_X, neg_Y] <;> grind
open Su in

theorem cr_add_self (u v : Ve) : cr u (u + v) = cr u v := by
  apply Su.ext' <;> simp only [cr, mul_x, mul_r, add_x, add_r, sub_x, sub_r, add_X, add_Y] <;> grind
open Su in

theorem cr_self (u : Ve) : cr u u = 0 := by
  apply Su.ext' <;> simp only [cr, mul_x, mul_r, sub_x, sub_r, zero_x, zero_r] <;> grind

theorem lx_add {u v : Ve} (h : lx u) (k : lx v) : lx (u + v) := by
  unfold lx at *
  rw [add_X, add_Y]
  have z : ∀ s : Su, s + 0 = s := fun s => by apply Su.ext' <;> simp [Su.add_x, Su.add_r, Su.zero_x, Su.zero_r]
  have z2 : ∀ s : Su, 0 + s = s := fun s => by apply Su.ext' <;> simp [Su.add_x, Su.add_r, Su.zero_x, Su.zero_r]
  rcases h with h | ⟨h, h2⟩ <;> rcases k with k | ⟨k, k2⟩
  · exact .inl (Su.P_add h k)
  · rw [k, z]; exact .inl h
  · rw [h, z2]; exact .inl k
  · rw [h, k]; exact .inr ⟨z 0, Su.P_add h2 k2⟩

theorem lx_tri (u : Ve) : lx u ∨ u = 0 ∨ lx (-u) := by
  unfold lx
  rw [neg_X, neg_Y]
  rcases Su.tri u.X with h | h | h
  · exact .inl (.inl h)
  · rcases Su.tri u.Y with k | k | k
    · exact .inl (.inr ⟨h, k⟩)
    · exact .inr (.inl (ext' h k))
    · exact .inr (.inr (.inr ⟨by rw [h]; rfl, k⟩))
  · exact .inr (.inr (.inl h))

theorem lx_neg {u : Ve} (h : lx u) : ¬ lx (-u) := by
  unfold lx at *
  rw [neg_X, neg_Y]
  rintro (k | ⟨k, k2⟩) <;> rcases h with h | ⟨h, h2⟩
  · exact Su.P_neg h k
  · rw [h] at k; exact Su.not_P_zero k
  · have : u.X = 0 := by rw [← Su.neg_neg' u.X, k]; rfl
    exact Su.P_ne h this
  · exact Su.P_neg h2 k2

theorem lx_ne {u : Ve} (h : lx u) : u ≠ 0 := fun e => by
  subst e
  rcases h with h | ⟨_, h⟩ <;> exact Su.not_P_zero h

/-- Turning on: what is to the left of what is to the left, among vectors to the east. -/
theorem cr_trans {u v w : Ve} (hu : lx u) (hv : lx v) (hw : lx w) (h : 0 ≤ (cr u v).sn) (k : 0 ≤ (cr v w).sn) : 0 ≤ (cr u w).sn ∧ ((cr u w).sn = 0 → (cr u v).sn = 0 ∧ (cr v w).sn = 0) := by
  have ux : 0 ≤ u.X.sn := by rcases hu with h | ⟨h, _⟩ <;> simp [Su.sn_P, h, Su.sn_0]
  have wx : 0 ≤ w.X.sn := by rcases hw with h | ⟨h, _⟩ <;> simp [Su.sn_P, h, Su.sn_0]
  have z : ∀ s : Su, s - 0 = s := fun s => by apply Su.ext' <;> simp [Su.sub_x, Su.sub_r, Su.zero_x, Su.zero_r]
  have z3 : ∀ s : Su, 0 - s = -s := fun s => by apply Su.ext' <;> simp [Su.sub_x, Su.sub_r, Su.zero_x, Su.zero_r, Su.neg_x, Su.neg_r]
  rcases hv with hv | ⟨hv0, hvy⟩
  · have e := congrArg Su.sn (cr_plu u v w)
    rw [Su.sn_mul, Su.sn_P hv, Int.one_mul] at e
    have hA : 0 ≤ (u.X * cr v w).sn := by rw [Su.sn_mul]; exact Int.mul_nonneg ux k
    have hB : 0 ≤ (w.X * cr u v).sn := by rw [Su.sn_mul]; exact Int.mul_nonneg wx h
    have s := Su.sn_add hA hB
    rw [← e] at s
    refine ⟨s.1, fun h0 => ?_⟩
    have s2 := s.2 h0
    rw [Su.sn_mul, Su.sn_mul] at s2
    have u0 : u.X = 0 → (cr u v).sn = -1 := fun e => by
      rcases hu with hu | ⟨_, hy⟩
      · exact absurd e (Su.P_ne hu)
      · unfold cr; rw [e, Su.zero_mul', z3, Su.sn_of_neg, Su.sn_mul, Su.sn_P hy, Su.sn_P hv]; rfl
    have w0 : w.X = 0 → (cr v w).sn = 1 := fun e => by
      rcases hw with hw | ⟨_, hy⟩
      · exact absurd e (Su.P_ne hw)
      · unfold cr; rw [e, Su.mul_zero', z, Su.sn_mul, Su.sn_P hy, Su.sn_P hv]; rfl
    have uX : u.X.sn ≠ 0 := fun e => by have := u0 (Su.sn_zero.1 e); omega
    have a := (Int.mul_eq_zero.1 s2.1).resolve_left uX
    have wX : w.X.sn ≠ 0 := fun e => by have := w0 (Su.sn_zero.1 e); omega
    have b := (Int.mul_eq_zero.1 s2.2).resolve_left wX
    exact ⟨b, a⟩
  · have e1 : (cr v w).sn = -w.X.sn := by unfold cr; rw [hv0, Su.zero_mul', z3, Su.sn_of_neg, Su.sn_mul, Su.sn_P hvy]; simp
    have w0 : w.X.sn = 0 := by omega
    have wz := Su.sn_zero.1 w0
    have wy : Su.P w.Y := by
      rcases hw with hw | ⟨_, hy⟩
      · exact absurd wz (Su.P_ne hw)
      · exact hy
    have e2 : (cr u w).sn = u.X.sn := by unfold cr; rw [wz, Su.mul_zero', z, Su.sn_mul, Su.sn_P wy]; simp
    have e3 : (cr u v).sn = u.X.sn := by unfold cr; rw [hv0, Su.mul_zero', z, Su.sn_mul, Su.sn_P hvy]; simp
    rw [e1, e2, e3, w0]
    exact ⟨ux, fun h => ⟨h, rfl⟩⟩

theorem dt_pos {u v : Ve} (hu : lx u) (hv : lx v) (h : (cr u v).sn = 0) : Su.P (dt u v) := by
  have z : ∀ s : Su, s - 0 = s := fun s => by apply Su.ext' <;> simp [Su.sub_x, Su.sub_r, Su.zero_x, Su.zero_r]
  have z2 : ∀ s : Su, 0 + s = s := fun s => by apply Su.ext' <;> simp [Su.add_x, Su.add_r, Su.zero_x, Su.zero_r]
  have z3 : ∀ s : Su, 0 - s = -s := fun s => by apply Su.ext' <;> simp [Su.sub_x, Su.sub_r, Su.zero_x, Su.zero_r, Su.neg_x, Su.neg_r]
  rcases hu with hu | ⟨hu, hu2⟩
  · rcases hv with hv | ⟨hv, hv2⟩
    · have e : u.X * (u.Y * v.Y) = u.Y * u.Y * v.X := by
        have h0 := Su.sn_zero.1 h
        have a1 := congrArg Su.x h0; have a2 := congrArg Su.r h0
        simp only [cr, Su.sub_x, Su.sub_r, Su.mul_x, Su.mul_r, Su.zero_x, Su.zero_r] at a1 a2
        apply Su.ext' <;> simp only [Su.mul_x, Su.mul_r] <;> grind
      have e2 := congrArg Su.sn e
      simp only [Su.sn_mul, Su.sn_P hu, Su.sn_P hv, Int.one_mul, Int.mul_one] at e2
      have e3 := sq_nn u.Y.sn
      have := (Su.sn_add (s := u.X * v.X) (t := u.Y * v.Y) (by rw [Su.sn_P (Su.P_mul hu hv)]; omega) (by rw [Su.sn_mul]; omega))
      have h1 := Su.sn_P (Su.P_mul hu hv)
      unfold dt
      exact Su.sn_pos.1 (by omega)
    · exfalso
      unfold cr at h
      rw [hv, Su.mul_zero', z, Su.sn_mul, Su.sn_P hu, Su.sn_P hv2] at h
      omega
  · have hv0 : v.X = 0 := by
      unfold cr at h
      rw [hu, Su.zero_mul', z3, Su.sn_of_neg, Su.sn_mul, Su.sn_P hu2] at h
      exact Su.sn_zero.1 (by omega)
    rcases hv with hv | ⟨_, hv⟩
    · exact absurd hv0 (Su.P_ne hv)
    · unfold dt
      rw [hu, Su.zero_mul', z2]
      exact Su.P_mul hu2 hv
open Su in

theorem dt_neg_l (u v : Ve) : dt (-u) v = -dt u v := by
  apply Su.ext' <;> simp only [dt, mul_x, mul_r, neg_x, neg_r, add_x, add_r, neg_X, neg_Y] <;> grind
open Su in

theorem dt_neg_r (u v : Ve) : dt u (-v) = -dt u v := by
  apply Su.ext' <;> simp only [dt, mul_x, mul_r, neg_x, neg_r, add_x, add_r, neg_X, neg_Y] <;> grind
open Su in

theorem cr_add_neg (u v : Ve) : cr u (v + -u) = cr u v := by
  apply Su.ext' <;> simp only [cr, mul_x, mul_r, neg_x, neg_r, sub_x, sub_r, add_x, add_r, neg_X, neg_Y, add_X, add_Y] <;> grind

theorem neg_sub' (u v : Ve) : u + -v = -(v + -u) := by
  apply ext' <;> apply Su.ext' <;> simp only [Su.neg_x, Su.neg_r, Su.add_x, Su.add_r, neg_X, neg_Y, add_X, add_Y] <;> omega

theorem neg_neg' (u : Ve) : - -u = u := by apply ext' <;> apply Su.ext' <;> simp [Su.neg_x, Su.neg_r, neg_X, neg_Y]

theorem dt_zero_l (v : Ve) : dt 0 v = 0 := by
  unfold dt
  rw [show (0 : Ve).X = 0 from rfl, show (0 : Ve).Y = 0 from rfl, Su.zero_mul', Su.zero_mul']; rfl

theorem dt_zero_r (v : Ve) : dt v 0 = 0 := by
  unfold dt
  rw [show (0 : Ve).X = 0 from rfl, show (0 : Ve).Y = 0 from rfl, Su.mul_zero', Su.mul_zero']; rfl

/-- On one line: between the ends by the order to the east and to the north, and by the directions. -/
theorem between {u v : Ve} (h : (cr u v).sn = 0) :
    ((lx u ∨ u = 0) ∧ (lx (v + -u) ∨ v + -u = 0) ∨ (lx (-u) ∨ u = 0) ∧ (lx (u + -v) ∨ v + -u = 0)) ↔ (dt (-u) (v + -u)).sn ≤ 0 := by
  rw [neg_sub' u v]
  rw [← cr_add_neg] at h
  generalize v + -u = W at *
  rw [dt_neg_l, Su.sn_of_neg]
  rcases lx_tri u with a | a | a
  · rcases lx_tri W with b | b | b
    · rw [Su.sn_P (dt_pos a b h)]; simp [a, b]
    · subst b; rw [dt_zero_r, Su.sn_0]; simp [a]
    · have n1 := lx_neg a
      have n2 : ¬ lx W := fun k => lx_neg k b
      have n3 := lx_ne a
      have n4 : W ≠ 0 := fun e => by subst e; exact lx_ne b rfl
      have hc : (cr u (-W)).sn = 0 := by rw [cr_neg_r, Su.sn_of_neg, h]; rfl
      have := Su.sn_P (dt_pos a b hc)
      rw [dt_neg_r, Su.sn_of_neg] at this
      simp [n1, n2, n3, n4]; omega
  · subst a
    rw [dt_zero_l, Su.sn_0]
    rcases lx_tri W with b | b | b <;> simp [b]
  · have n1 : ¬ lx u := fun k => lx_neg k a
    have n3 : u ≠ 0 := fun e => by subst e; exact lx_ne a rfl
    rcases lx_tri W with b | b | b
    · have n2 := lx_neg b
      have n4 := lx_ne b
      have hc : (cr (-u) W).sn = 0 := by rw [cr_neg_l, Su.sn_of_neg, h]; rfl
      have := Su.sn_P (dt_pos a b hc)
      rw [dt_neg_l, Su.sn_of_neg] at this
      simp [n1, n2, n3, n4]; omega
    · subst b; rw [dt_zero_r, Su.sn_0]; simp [a]
    · have hc : (cr (-u) (-W)).sn = 0 := by rw [cr_neg2]; exact h
      have := Su.sn_P (dt_pos a b hc)
      rw [dt_neg_l, dt_neg_r, Su.neg_neg'] at this
      simp [a, b]; omega
end Ve

end Go.Proofs.Ytppbbcckijcckaa

/- Points by their four numbers: sides, order, and the border that turns to the left at each corner. -/
namespace Go.Proofs.Ytppbbcckijcckaa

/-- A point's four numbers. -/
structure Pn where
  a : Int
  b : Int
  c : Int
  d : Int
deriving DecidableEq
namespace Pn

instance : Inhabited Pn := ⟨⟨0, 0, 0, 0⟩⟩

/-- The vector from p to q. -/
def vec (p q : Pn) : Ve := ⟨⟨2 * (q.a - p.a), (q.b - p.b) - (q.d - p.d)⟩, ⟨2 * (q.c - p.c), (q.b - p.b) + (q.d - p.d)⟩⟩

/-- The side of r to the line from p to q. -/
def sd (p q r : Pn) : Int := (Ve.cr (vec p q) (vec p r)).sn

theorem ext' {p q : Pn} (ha : p.a = q.a) (hb : p.b = q.b) (hc : p.c = q.c) (hd : p.d = q.d) : p = q := by cases p; cases q; simp_all

theorem vec_add (p q r : Pn) : vec p q + vec q r = vec p r := by
  apply Ve.ext' <;> apply Su.ext' <;> simp only [Ve.add_X, Ve.add_Y, Su.add_x, Su.add_r, vec] <;> omega

theorem vec_neg (p q : Pn) : -vec p q = vec q p := by
  apply Ve.ext' <;> apply Su.ext' <;> simp only [Ve.neg_X, Ve.neg_Y, Su.neg_x, Su.neg_r, vec] <;> omega

theorem vec_zero {p q : Pn} : vec p q = 0 ↔ p = q := by
  constructor
  · intro h
    have h1 := congrArg (fun v : Ve => v.X.x) h; have h2 := congrArg (fun v : Ve => v.X.r) h
    have h3 := congrArg (fun v : Ve => v.Y.x) h; have h4 := congrArg (fun v : Ve => v.Y.r) h
    simp only [vec, show (0 : Ve).X = 0 from rfl, show (0 : Ve).Y = 0 from rfl, Su.zero_x, Su.zero_r] at h1 h2 h3 h4
    apply ext' <;> omega
  · rintro rfl
    apply Ve.ext' <;> apply Su.ext' <;> simp [vec, show (0 : Ve).X = 0 from rfl, show (0 : Ve).Y = 0 from rfl, Su.zero_x, Su.zero_r]

/-- p comes before q: to the east (e), or to the west. -/
def vd (e : Bool) (p q : Pn) : Ve := cond e (vec p q) (vec q p)

def ltd (e : Bool) (p q : Pn) : Prop := Ve.lx (vd e p q)

theorem vd_add (e : Bool) (p q r : Pn) : vd e p q + vd e q r = vd e p r := by
  cases e
  · have : ∀ u v : Ve, u + v = v + u := fun u v => by
      apply Ve.ext' <;> simp only [Ve.add_X, Ve.add_Y, Su.add_comm]
    simp only [vd, cond_false]; rw [this, vec_add]
  · exact vec_add p q r

theorem vd_neg (e : Bool) (p q : Pn) : -vd e p q = vd e q p := by cases e <;> exact vec_neg _ _

theorem vd_zero {e : Bool} {p q : Pn} : vd e p q = 0 ↔ p = q := by
  cases e
  · exact vec_zero.trans eq_comm
  · exact vec_zero

theorem sd_vd (e : Bool) (p q r : Pn) : sd p q r = (Ve.cr (vd e p q) (vd e p r)).sn := by
  cases e
  · unfold sd vd
    rw [cond_false, cond_false, ← vec_neg p q, ← vec_neg p r, Ve.cr_neg2]
  · rfl

theorem ltd_trans {e : Bool} {p q r : Pn} (h : ltd e p q) (k : ltd e q r) : ltd e p r := by
  unfold ltd; rw [← vd_add e p q r]; exact Ve.lx_add h k

theorem ltd_tri (e : Bool) (p q : Pn) : ltd e p q ∨ p = q ∨ ltd e q p := by
  rcases Ve.lx_tri (vd e p q) with h | h | h
  · exact .inl h
  · exact .inr (.inl (vd_zero.1 h))
  · rw [vd_neg] at h; exact .inr (.inr h)

theorem ltd_asymm {e : Bool} {p q : Pn} (h : ltd e p q) : ¬ ltd e q p := by
  unfold ltd; rw [← vd_neg]; exact Ve.lx_neg h

theorem ltd_ne {e : Bool} {p q : Pn} (h : ltd e p q) : p ≠ q := fun k => Ve.lx_ne h (vd_zero.2 k)

theorem ltd_flip {e : Bool} {p q : Pn} : ltd (!e) p q ↔ ltd e q p := by cases e <;> exact Iff.rfl

def led (e : Bool) (p q : Pn) : Prop := ltd e p q ∨ p = q

theorem sd_cyc (p q r : Pn) : sd q r p = sd p q r := by
  unfold sd
  congr 1
  apply Su.ext' <;> simp only [Ve.cr, Su.mul_x, Su.mul_r, Su.sub_x, Su.sub_r, vec] <;> grind

theorem sd_swap (p q r : Pn) : sd p r q = -sd p q r := by
  unfold sd; rw [Ve.cr_swap, Su.sn_of_neg]

theorem sd_self (p q : Pn) : sd p q p = 0 := by
  unfold sd
  rw [show vec p p = 0 from vec_zero.2 rfl]
  apply Su.sn_zero.2
  apply Su.ext' <;> simp [Ve.cr, Su.mul_x, Su.mul_r, Su.sub_x, Su.sub_r, show (0 : Ve).X = 0 from rfl, show (0 : Ve).Y = 0 from rfl, Su.zero_x, Su.zero_r]

theorem sd_end (p q : Pn) : sd p q q = 0 := by
  unfold sd; rw [Ve.cr_self]; rfl

/-- The same side from the second point on. -/
theorem sd_from (e : Bool) (p q r : Pn) : sd p q r = (Ve.cr (vd e p q) (vd e q r)).sn := by
  rw [sd_vd e, ← vd_add e p q r, Ve.cr_add_self]

/-- q is to the left of the piece from a to b, or on it. -/
def LB (e : Bool) (a b q : Pn) : Prop := 0 < sd a b q ∨ (sd a b q = 0 ∧ led e a q ∧ led e q b)

/-- Corners, the last one first: each piece has all points of l to its left or on it. -/
def Edges (e : Bool) (l : List Pn) : List Pn → Prop
  | b :: a :: rest => (ltd e a b ∧ a ∈ l ∧ b ∈ l ∧ ∀ q ∈ l, LB e a b q) ∧ Edges e l (a :: rest)
  | _ => True

/-- A further point is strictly to the left of each piece. -/
def Lefts (n : Pn) : List Pn → Prop
  | b :: a :: rest => 0 < sd a b n ∧ Lefts n (a :: rest)
  | _ => True

def popW (n : Pn) : List Pn → List Pn
  | b :: a :: rest => if sd a b n ≤ 0 then popW n (a :: rest) else b :: a :: rest
  | st => st

def pushW (st : List Pn) (n : Pn) : List Pn := n :: popW n st

theorem popW_ne {n : Pn} : ∀ {st : List Pn}, st ≠ [] → popW n st ≠ []
  | [], h => h
  | [_], _ => by simp [popW]
  | b :: a :: rest, _ => by
    unfold popW
    split
    · exact popW_ne (st := a :: rest) (by simp)
    · simp

theorem popW_last {n : Pn} : ∀ {st : List Pn}, (popW n st).getLast? = st.getLast?
  | [] => rfl
  | [_] => rfl
  | b :: a :: rest => by
    unfold popW
    split
    · rw [popW_last (st := a :: rest)]; simp [List.getLast?_cons]
    · rfl

/-- If the further point is strictly to the left of the topmost piece, it is so of all. -/
theorem lefts_of_top {e : Bool} {l : List Pn} {n : Pn} (hn : ∀ q ∈ l, ltd e q n) : ∀ {st : List Pn} {b a : Pn}, Edges e l (b :: a :: st) → 0 < sd a b n → Lefts n (b :: a :: st)
  | [], _, _, _, h => ⟨h, trivial⟩
  | s :: st, b, a, hE, h => by
    obtain ⟨⟨hab, ha, hb, _⟩, hE2⟩ := hE
    have h1 := hE2.1
    obtain ⟨hsa, _, _, hall⟩ := h1
    refine ⟨h, lefts_of_top hn hE2 ?_⟩
    have hs : 0 < sd s a b := by
      rcases hall b hb with h | ⟨_, _, h⟩
      · exact h
      · exfalso
        rcases h with h | h
        · exact ltd_asymm h hab
        · exact ltd_ne hab h.symm
    rw [sd_from e] at hs ⊢
    rw [sd_vd e] at h
    have := Ve.cr_trans hsa hab (hn a ha) (by omega) (by omega)
    have h3 := this.2
    omega

/-- What popping leaves: the pieces stay, the further point is to the left of them, and all points are to the left of the way from the top to it. -/
theorem popW_spec {e : Bool} {l : List Pn} {n : Pn} (hn : ∀ q ∈ l, ltd e q n) (m0 : Pn) (hm0 : ∀ q ∈ l, led e m0 q) : ∀ {st : List Pn} {t : Pn}, Edges e l (t :: st) → t ∈ l → (t :: st).getLast? = some m0 →
    (∀ q ∈ l, ltd e t q → LB e t n q) →
    ∃ t' st', popW n (t :: st) = t' :: st' ∧ t' ∈ l ∧ Edges e l (t' :: st') ∧ Lefts n (t' :: st') ∧ ∀ q ∈ l, LB e t' n q
  | [], t, hE, ht, hlast, hR => by
    have e0 : t = m0 := by simpa using hlast
    subst e0
    refine ⟨t, [], rfl, ht, trivial, trivial, fun q hq => ?_⟩
    rcases hm0 q hq with h | h
    · exact hR q hq h
    · subst h
      exact .inr ⟨sd_self _ _, .inr rfl, .inl (hn _ ht)⟩
  | a :: rest, t, hE, ht, hlast, hR => by
    obtain ⟨⟨hat, ha, _, hall⟩, hE2⟩ := hE
    unfold popW
    by_cases hs : sd a t n ≤ 0
    · rw [if_pos hs]
      refine popW_spec hn m0 hm0 hE2 ha (by simpa [List.getLast?_cons] using hlast) fun q hq haq => ?_
      -- all points beyond a are to the left of the way from a to n
      have h1 : 0 ≤ (Ve.cr (vd e a n) (vd e a t)).sn := by
        rw [sd_vd e] at hs
        rw [Ve.cr_swap, Su.sn_of_neg]; omega
      have h2 : 0 ≤ (Ve.cr (vd e a t) (vd e a q)).sn := by
        rw [← sd_vd e]
        rcases hall q hq with h | h
        · omega
        · omega
      have := Ve.cr_trans (hn a ha) hat haq h1 h2
      rw [← sd_vd e] at this
      by_cases hz : sd a n q = 0
      · exact .inr ⟨hz, .inl haq, .inl (hn q hq)⟩
      · exact .inl (by omega)
    · rw [if_neg hs]
      refine ⟨t, a :: rest, rfl, ht, ⟨⟨hat, ha, ht, hall⟩, hE2⟩, lefts_of_top hn ⟨⟨hat, ha, ht, hall⟩, hE2⟩ (by omega), fun q hq => ?_⟩
      rcases ltd_tri e t q with h | h | h
      · exact hR q hq h
      · subst h
        exact .inr ⟨sd_self _ _, .inr rfl, .inl (hn _ ht)⟩
      · -- q before t
        have h1 : 0 ≤ (Ve.cr (vd e q t) (vd e a t)).sn := by
          have h0 : 0 ≤ sd a t q := by
            rcases hall q hq with h | h
            · omega
            · omega
          rw [sd_from e] at h0
          rw [Ve.cr_swap, ← vd_neg e t q, Ve.cr_neg_r, Su.neg_neg']
          exact h0
        have h2 : 0 < (Ve.cr (vd e a t) (vd e t n)).sn := by rw [← sd_from e]; omega
        have := Ve.cr_trans h hat (hn t ht) h1 (by omega)
        refine .inl ?_
        rw [sd_vd e, ← vd_neg e q t, Ve.cr_neg_r, Ve.cr_swap, Su.neg_neg']
        omega

/-- The corners behind the points l: the last of them is the last corner, the first one the first. -/
structure Chain (e : Bool) (l st : List Pn) : Prop where
  edges : Edges e l st
  top : st.head? = l.getLast?
  bottom : st.getLast? = l.head?

theorem edges_more {e : Bool} {l : List Pn} {n : Pn} : ∀ {st : List Pn}, Edges e l st → Lefts n st → Edges e (l ++ [n]) st
  | [], _, _ => trivial
  | [_], _, _ => trivial
  | b :: a :: rest, ⟨⟨h1, h2, h3, h4⟩, h5⟩, ⟨k1, k2⟩ => by
    refine ⟨⟨h1, by simp [h2], by simp [h3], fun q hq => ?_⟩, edges_more h5 k2⟩
    rcases List.mem_append.1 hq with hq | hq
    · exact h4 q hq
    · simp only [List.mem_singleton] at hq
      subst hq
      exact .inl k1

/-- In order: each one before all that come later. -/
def Asc (e : Bool) : List Pn → Prop
  | [] => True
  | p :: l => (∀ q ∈ l, ltd e p q) ∧ Asc e l

theorem asc_snoc {e : Bool} : ∀ {l : List Pn} {n : Pn}, Asc e (l ++ [n]) ↔ Asc e l ∧ ∀ q ∈ l, ltd e q n
  | [], n => by simp [Asc]
  | p :: l, n => by
    simp only [List.cons_append, Asc, asc_snoc (l := l)]
    constructor
    · rintro ⟨h1, h2, h3⟩
      refine ⟨⟨fun q hq => h1 q (by simp [hq]), h2⟩, fun q hq => ?_⟩
      rcases List.mem_cons.1 hq with h | hq
      · subst h; exact h1 n (by simp)
      · exact h3 q hq
    · rintro ⟨⟨h1, h2⟩, h3⟩
      refine ⟨fun q hq => ?_, h2, fun q hq => h3 q (by simp [hq])⟩
      rcases List.mem_append.1 hq with hq | hq
      · exact h1 q hq
      · simp only [List.mem_singleton] at hq
        subst hq; exact h3 p (by simp)

theorem chain_push {e : Bool} {l st : List Pn} {n : Pn} (hA : Asc e (l ++ [n])) (h : Chain e l st) : Chain e (l ++ [n]) (pushW st n) := by
  obtain ⟨hA1, hn⟩ := asc_snoc.1 hA
  cases l with
  | nil =>
    have : st = [] := by
      cases st with
      | nil => rfl
      | cons s st => have := h.top; simp at this
    subst this
    exact ⟨trivial, rfl, rfl⟩
  | cons p l =>
    cases st with
    | nil => have := h.bottom; simp at this
    | cons t st =>
      have hl : t ∈ p :: l := by
        have := h.top
        simp only [List.head?_cons] at this
        exact List.mem_of_getLast? this.symm
      have hbot := h.bottom
      simp only [List.head?_cons] at hbot
      obtain ⟨t', st', h1, h2, h3, h4, h5⟩ := popW_spec (e := e) hn p (fun q hq => by
        rcases List.mem_cons.1 hq with rfl | hq
        · exact .inr rfl
        · exact .inl (hA1.1 q hq)) h.edges hl hbot (fun q hq htq => by
        exfalso
        -- the top is the last of all
        have htop := h.top
        simp only [List.head?_cons] at htop
        obtain ⟨ys, hys⟩ := List.getLast?_eq_some_iff.1 htop.symm
        rw [hys] at hA1 hq
        have h6 := (asc_snoc.1 hA1).2
        rcases List.mem_append.1 hq with hq | hq
        · exact ltd_asymm (h6 q hq) htq
        · simp only [List.mem_singleton] at hq
          subst hq; exact ltd_ne htq rfl)
      unfold pushW
      rw [h1]
      refine ⟨⟨⟨hn t' h2, List.mem_append.2 (.inl h2), by simp, fun q hq => ?_⟩, edges_more h3 h4⟩, by rw [List.getLast?_append]; simp, ?_⟩
      · rcases List.mem_append.1 hq with hq | hq
        · exact h5 q hq
        · simp only [List.mem_singleton] at hq
          subst hq
          exact .inr ⟨sd_end _ _, .inl (hn t' h2), .inr rfl⟩
      · have := popW_last (n := n) (st := t :: st)
        rw [h1] at this
        rw [List.getLast?_cons_cons, this, hbot]
        simp

theorem chain_fold {e : Bool} : ∀ (l2 : List Pn) {l st : List Pn}, Asc e (l ++ l2) → Chain e l st → Chain e (l ++ l2) (l2.foldl pushW st)
  | [], l, st, _, h => by simpa using h
  | n :: l2, l, st, hA, h => by
    have e1 : l ++ n :: l2 = (l ++ [n]) ++ l2 := by simp
    rw [e1] at hA ⊢
    have hA2 : Asc e (l ++ [n]) := by
      clear h e1
      generalize l ++ [n] = m at hA
      induction m with
      | nil => trivial
      | cons p m ih => exact ⟨fun q hq => hA.1 q (by simp [hq]), ih hA.2⟩
    exact chain_fold l2 hA (chain_push hA2 h)

theorem chain_all {e : Bool} {l : List Pn} (hA : Asc e l) : Chain e l (l.foldl pushW []) := by
  have := chain_fold l (l := []) (st := []) (by simpa using hA) ⟨trivial, rfl, rfl⟩
  simpa using this
end Pn

end Go.Proofs.Ytppbbcckijcckaa

/- The corners of a hull: what borders of places in order give is what going around from the first one on gives. -/
namespace Go.Proofs.Ytppbbcckijcckaa

namespace Pn
/-- The sign of the product of the ways from q to a and to b. -/
def dn (q a b : Pn) : Int := (Ve.dt (vec q a) (vec q b)).sn

/-- q is on the piece from a to b. -/
def btw (a b q : Pn) : Bool := decide (sd a b q = 0 ∧ dn q a b ≤ 0)

def lexbt (a b q : Pn) : Prop := (led true a q ∧ led true q b) ∨ (led true q a ∧ led true b q)

theorem btw_lex {a b q : Pn} (h : sd a b q = 0) : dn q a b ≤ 0 ↔ lexbt a b q := by
  have h' : (Ve.cr (vec a q) (vec a b)).sn = 0 := by
    have := sd_swap a b q
    rw [h] at this; exact this
  have e1 : vec a b + -vec a q = vec q b := by
    rw [vec_neg, ← vec_add q a b]
    apply Ve.ext' <;> simp only [Ve.add_X, Ve.add_Y, Su.add_comm]
  have e2 : vec a q + -vec a b = vec b q := by rw [Ve.neg_sub', e1, vec_neg]
  have := Ve.between h'
  rw [e1, e2, vec_neg] at this
  unfold dn
  rw [← this]
  unfold lexbt led ltd vd
  simp only [cond_true, vec_zero]
  constructor
  · rintro (⟨h1, h2⟩ | ⟨h1, h2⟩)
    · exact .inl ⟨h1, h2⟩
    · exact .inr ⟨h1.imp id Eq.symm, h2.imp id Eq.symm⟩
  · rintro (⟨h1, h2⟩ | ⟨h1, h2⟩)
    · exact .inl ⟨h1, h2⟩
    · exact .inr ⟨h1.imp id Eq.symm, h2.imp id Eq.symm⟩

theorem btw_iff {a b q : Pn} : btw a b q = true ↔ sd a b q = 0 ∧ lexbt a b q := by
  unfold btw
  rw [decide_eq_true_eq]
  constructor
  · rintro ⟨h, k⟩; exact ⟨h, (btw_lex h).1 k⟩
  · rintro ⟨h, k⟩; exact ⟨h, (btw_lex h).2 k⟩

theorem led_antisymm {e : Bool} {p q : Pn} (h : led e p q) (k : led e q p) : p = q := by
  rcases h with h | h
  · rcases k with k | k
    · exact absurd k (ltd_asymm h)
    · exact k.symm
  · exact h

theorem led_trans {e : Bool} {p q r : Pn} (h : led e p q) (k : led e q r) : led e p r := by
  rcases h with h | h
  · rcases k with k | k
    · exact .inl (ltd_trans h k)
    · subst k; exact .inl h
  · subst h; exact k

/-- b comes behind a on the border of the points l: all are to the left of the piece, or on it. -/
def Nxt (l : List Pn) (a b : Pn) : Prop := b ∈ l ∧ a ≠ b ∧ ∀ q ∈ l, 0 < sd a b q ∨ (sd a b q = 0 ∧ lexbt a b q)

/-- What the model does with one point. -/
def scanF (a : Pn) (n p : Pn) : Pn := if p = a then n else if n = a ∨ sd a n p < 0 ∨ (sd a n p = 0 ∧ btw a p n = true) then p else n

theorem scan_stay {l : List Pn} {a b : Pn} (h : Nxt l a b) {p : Pn} (hp : p ∈ l) : scanF a b p = b := by
  obtain ⟨_, hab, hall⟩ := h
  unfold scanF
  by_cases h1 : p = a
  · rw [if_pos h1]
  · rw [if_neg h1]
    split
    · rename_i hc
      rcases hc with hc | hc | ⟨hc, hc2⟩
      · exact absurd hc.symm hab
      · rcases hall p hp with h | h <;> omega
      · obtain ⟨_, hb⟩ := btw_iff.1 hc2
        have hl : lexbt a b p := by
          rcases hall p hp with h | h
          · omega
          · exact h.2
        rcases hl with ⟨l1, l2⟩ | ⟨l1, l2⟩ <;> rcases hb with ⟨b1, b2⟩ | ⟨b1, b2⟩
        · exact led_antisymm l2 b2
        · exact absurd (led_antisymm (led_trans l2 b1) l1) h1
        · exact absurd (led_antisymm l1 (led_trans b1 b2)) h1
        · exact led_antisymm b2 l2
    · rfl

theorem scan_take {l : List Pn} {a b c : Pn} (h : Nxt l a b) (hc : c ∈ l) : scanF a c b = b := by
  obtain ⟨_, hab, hall⟩ := h
  unfold scanF
  rw [if_neg (fun e => hab e.symm), if_pos]
  rcases hall c hc with h | ⟨h, h2⟩
  · have := sd_swap a b c
    exact .inr (.inl (by omega))
  · have := sd_swap a b c
    exact .inr (.inr ⟨by omega, btw_iff.2 ⟨h, h2⟩⟩)

theorem scan_take0 {l : List Pn} {a b : Pn} (h : Nxt l a b) : scanF a a b = b := by
  unfold scanF
  rw [if_neg (fun e => h.2.1 e.symm), if_pos (.inl rfl)]

theorem scan_or (a n p : Pn) : scanF a n p = n ∨ scanF a n p = p := by
  unfold scanF
  split
  · exact .inl rfl
  · split
    · exact .inr rfl
    · exact .inl rfl

theorem scan_from {l : List Pn} {a b : Pn} (h : Nxt l a b) : ∀ (m : List Pn) (n : Pn), (∀ q ∈ m, q ∈ l) → (n ∈ l ∨ n = a) → (n = b ∨ b ∈ m) → m.foldl (scanF a) n = b
  | [], n, _, _, hb => by
    rcases hb with hb | hb
    · exact hb
    · cases hb
  | p :: m, n, hm, hn, hb => by
    have hp := hm p (by simp)
    refine scan_from h m _ (fun q hq => hm q (by simp [hq])) ?_ ?_
    · rcases scan_or a n p with e | e
      · rw [e]; exact hn
      · rw [e]; exact .inl hp
    · rcases hb with hb | hb
      · subst hb; exact .inl (scan_stay h hp)
      · rcases List.mem_cons.1 hb with hb | hb
        · subst hb
          rcases hn with hn | hn
          · exact .inl (scan_take h hn)
          · subst hn; exact .inl (scan_take0 h)
        · exact .inr hb

theorem scan_all {l : List Pn} {a b : Pn} (h : Nxt l a b) : l.foldl (scanF a) a = b :=
  scan_from h l a (fun _ h => h) (.inr rfl) (.inr h.1)

theorem scan_one {l : List Pn} {a : Pn} (h : ∀ q ∈ l, q = a) : l.foldl (scanF a) a = a := by
  induction l with
  | nil => rfl
  | cons p l ih =>
    rw [List.foldl_cons]
    have : scanF a a p = a := by unfold scanF; rw [if_pos (h p (by simp))]
    rw [this]
    exact ih (fun q hq => h q (by simp [hq]))

/-- What the model does for its start. -/
noncomputable def minF (s p : Pn) : Pn := open Classical in if ltd true p s then p else s
theorem min_fold : ∀ (m : List Pn) (s k : Pn), led true k s → (∀ q ∈ m, led true k q) → (k = s ∨ k ∈ m) → m.foldl minF s = k
  | [], s, k, _, _, h => by
    rcases h with h | h
    · exact h.symm
    · cases h
  | p :: m, s, k, hs, hm, h => by
    rw [List.foldl_cons]
    have hp := hm p (by simp)
    refine min_fold m _ k ?_ (fun q hq => hm q (by simp [hq])) ?_
    · unfold minF; split
      · exact hp
      · exact hs
    · unfold minF
      by_cases hlt : ltd true p s
      · rw [if_pos hlt]
        rcases h with h | h
        · subst h
          rcases hp with hp | hp
          · exact absurd hlt (ltd_asymm hp)
          · exact .inl hp
        · rcases List.mem_cons.1 h with h | h
          · exact .inl h
          · exact .inr h
      · rw [if_neg hlt]
        rcases h with h | h
        · exact .inl h
        · rcases List.mem_cons.1 h with h | h
          · subst h
            rcases hs with hs | hs
            · exact absurd hs hlt
            · exact .inl hs
          · exact .inr h

/-- Each one leads to the one behind it. -/
def Pth (R : Pn → Pn → Prop) : List Pn → Prop
  | a :: b :: l => R a b ∧ Pth R (b :: l)
  | _ => True

theorem pth_imp {R S : Pn → Pn → Prop} (h : ∀ a b, R a b → S a b) : ∀ {l : List Pn}, Pth R l → Pth S l
  | [], _ => trivial
  | [_], _ => trivial
  | _ :: _ :: _, ⟨h1, h2⟩ => ⟨h _ _ h1, pth_imp h h2⟩

theorem pth_join {R : Pn → Pn → Prop} {m : Pn} {z : List Pn} : ∀ {x : List Pn}, Pth R (x ++ [m]) → Pth R (m :: z) → Pth R (x ++ m :: z)
  | [], _, h => h
  | [_], h, k => ⟨h.1, k⟩
  | _ :: b :: x, h, k => ⟨h.1, pth_join (x := b :: x) h.2 k⟩

theorem pth_snoc {R : Pn → Pn → Prop} {a b : Pn} {x : List Pn} (h : Pth R (x ++ [a])) (k : R a b) : Pth R ((x ++ [a]) ++ [b]) := by
  rw [List.append_assoc]
  exact pth_join h ⟨k, trivial⟩

theorem pth_edges {e : Bool} {l : List Pn} : ∀ {st : List Pn}, Edges e l st → Pth (fun a b => ltd e a b ∧ Nxt l a b) st.reverse
  | [], _ => trivial
  | [_], _ => trivial
  | b :: a :: rest, ⟨⟨h1, h2, h3, h4⟩, h5⟩ => by
    have ih := pth_edges h5
    simp only [List.reverse_cons] at ih ⊢
    refine pth_snoc ih ⟨h1, h3, ltd_ne h1, fun q hq => ?_⟩
    rcases h4 q hq with h | ⟨h, k1, k2⟩
    · exact .inl h
    · refine .inr ⟨h, ?_⟩
      cases e
      · exact .inr ⟨k1.imp id Eq.symm, k2.imp id Eq.symm⟩
      · exact .inl ⟨k1, k2⟩

theorem pth_get {R : Pn → Pn → Prop} : ∀ {l : List Pn} (i : Nat) {a b : Pn}, Pth R l → l[i]? = some a → l[i + 1]? = some b → R a b
  | [], _, _, _, _, h, _ => by simp at h
  | [_], i, _, _, _, _, k => by simp at k
  | x :: y :: l, 0, a, b, h, h1, h2 => by
    simp at h1 h2
    subst h1; subst h2; exact h.1
  | x :: y :: l, i + 1, a, b, h, h1, h2 => pth_get (l := y :: l) i h.2 (by simpa using h1) (by simpa using h2)

theorem pth_first {e : Bool} {m : Pn} : ∀ {l : List Pn}, Pth (ltd e) (m :: l) → ∀ q ∈ l, ltd e m q
  | [], _, q, hq => by cases hq
  | p :: l, ⟨h1, h2⟩, q, hq => by
    rcases List.mem_cons.1 hq with h | h
    · subst h; exact h1
    · exact ltd_trans h1 (pth_first h2 q h)

theorem pth_last {e : Bool} {m : Pn} : ∀ {l : List Pn}, Pth (ltd e) (l ++ [m]) → ∀ q ∈ l, ltd e q m
  | [], _, q, hq => by cases hq
  | [p], h, q, hq => by simp only [List.mem_singleton] at hq; subst hq; exact h.1
  | p :: r :: l, h, q, hq => by
    have ih := pth_last (l := r :: l) h.2
    rcases List.mem_cons.1 hq with h' | h'
    · subst h'; exact ltd_trans h.1 (ih r (by simp))
    · exact ih q h'

/-- The border of places in their order. -/
def bord (l : List Pn) : List Pn := (l.foldl pushW []).reverse

/-- The corners of the hull of places in their order. -/
def hul (l : List Pn) : List Pn := if l.length = 1 then l else (bord l).dropLast ++ (bord l.reverse).dropLast

theorem asc_rev : ∀ {l : List Pn}, Asc true l → Asc false l.reverse
  | [], _ => trivial
  | p :: l, ⟨h1, h2⟩ => by
    rw [List.reverse_cons]
    refine asc_snoc.2 ⟨asc_rev h2, fun q hq => ?_⟩
    have := h1 q (by simpa using hq)
    exact ltd_flip.2 this

theorem bord_spec {e : Bool} {l : List Pn} (h : Asc e l) : Pth (fun a b => ltd e a b ∧ Nxt l a b) (bord l) ∧ (bord l).head? = l.head? ∧ (bord l).getLast? = l.getLast? := by
  have c := chain_all h
  refine ⟨pth_edges c.edges, ?_, ?_⟩
  · unfold bord; rw [List.head?_reverse]; exact c.bottom
  · unfold bord; rw [List.getLast?_reverse]; exact c.top

theorem nxt_mem {l m : List Pn} (h : ∀ q, q ∈ l ↔ q ∈ m) {a b : Pn} (k : Nxt l a b) : Nxt m a b :=
  ⟨(h b).1 k.1, k.2.1, fun q hq => k.2.2 q ((h q).2 hq)⟩

/-- What the model needs of the corners, for the points m that stand at the places l. -/
structure HulIs (m H : List Pn) : Prop where
  pos : 0 < H.length
  start : ∀ s, m.head? = some s → m.foldl minF s = H[0]!
  next : ∀ i, i < H.length → m.foldl (scanF H[i]!) H[i]! = if i + 1 < H.length then H[i + 1]! else H[0]!
  fresh : ∀ i, i + 1 < H.length → H[i + 1]! ≠ H[0]! ∧ H[i + 1]! ≠ H[i]!

theorem hul_is {m l : List Pn} (hm : ∀ q, q ∈ m ↔ q ∈ l) (hA : Asc true l) (hl : l ≠ []) : HulIs m (hul l) := by
  obtain ⟨k, l', rfl⟩ : ∃ k l', l = k :: l' := by
    cases l with
    | nil => exact absurd rfl hl
    | cons k l' => exact ⟨k, l', rfl⟩
  have hk : ∀ q ∈ m, led true k q := fun q hq => by
    rcases List.mem_cons.1 ((hm q).1 hq) with h | h
    · exact .inr h.symm
    · exact .inl (hA.1 q h)
  have hst : ∀ s, m.head? = some s → m.foldl minF s = k := fun s hs => by
    have hsm : s ∈ m := List.mem_of_head? hs
    exact min_fold m s k (hk s hsm) hk (.inr ((hm k).2 (by simp)))
  unfold hul
  by_cases h1 : (k :: l').length = 1
  · rw [if_pos h1]
    have : l' = [] := by simpa using h1
    subst this
    refine ⟨by simp, hst, fun i hi => ?_, fun i hi => by simp at hi⟩
    have : i = 0 := by simpa using hi
    subst this
    simp only [List.length_singleton, Nat.lt_irrefl, Nat.zero_add, if_false]
    exact scan_one fun q hq => by simpa using (hm q).1 hq
  · rw [if_neg h1]
    obtain ⟨M, hM⟩ : ∃ M, (k :: l').getLast? = some M := ⟨(k :: l').getLast (by simp), List.getLast?_eq_some_getLast (by simp)⟩
    have hkM : k ≠ M := by
      obtain ⟨ys, hys⟩ := List.getLast?_eq_some_iff.1 hM
      cases ys with
      | nil => exfalso; rw [hys] at h1; simp at h1
      | cons y ys =>
        simp only [List.cons_append, List.cons.injEq] at hys
        obtain ⟨rfl, hys⟩ := hys
        exact ltd_ne (hA.1 M (by rw [hys]; simp))
    have B1 := bord_spec hA
    have B2 := bord_spec (asc_rev hA)
    rw [List.head?_cons, hM] at B1
    rw [List.head?_reverse, List.getLast?_reverse, hM, List.head?_cons] at B2
    obtain ⟨p1, q1, r1⟩ := B1
    obtain ⟨p2, q2, r2⟩ := B2
    obtain ⟨S, hS⟩ := List.getLast?_eq_some_iff.1 r1
    obtain ⟨T, hT⟩ := List.getLast?_eq_some_iff.1 r2
    rw [hS] at p1 q1
    rw [hT] at p2 q2
    rw [hS, hT, List.dropLast_concat, List.dropLast_concat]
    obtain ⟨S', rfl⟩ : ∃ S', S = k :: S' := by
      cases S with
      | nil => simp at q1; exact absurd q1.symm hkM
      | cons s S' => simp at q1; exact ⟨S', by rw [q1]⟩
    obtain ⟨T', rfl⟩ : ∃ T', T = M :: T' := by
      cases T with
      | nil => simp at q2; exact absurd q2 hkM
      | cons s S' => simp at q2; exact ⟨S', by rw [q2]⟩
    have n1 : Pth (Nxt m) (k :: S' ++ [M]) := pth_imp (fun a b h => nxt_mem (fun q => (hm q).symm) h.2) p1
    have n2 : Pth (Nxt m) (M :: (T' ++ [k])) := by
      have := pth_imp (fun a b h => nxt_mem (m := m) (fun q => by rw [List.mem_reverse]; exact (hm q).symm) h.2) p2
      simpa using this
    have n3 := pth_join n1 n2
    have e1 : k :: S' ++ M :: (T' ++ [k]) = (k :: S' ++ M :: T') ++ [k] := by simp
    rw [e1] at n3
    have f1 : ∀ q ∈ S' ++ M :: T', q ≠ k := fun q hq => by
      rcases List.mem_append.1 hq with h | h
      · have := pth_first (pth_imp (fun a b h => h.1) p1) q (show q ∈ S' ++ [M] from List.mem_append.2 (.inl h))
        exact (ltd_ne this).symm
      · exact ltd_ne (pth_last (pth_imp (fun a b h => h.1) p2) q h)
    generalize hH : k :: S' ++ M :: T' = H at *
    have hH0 : H[0]! = k := by rw [← hH]; rfl
    have hHl : 0 < H.length := by rw [← hH]; simp
    have get : ∀ i, i < H.length → (H ++ [k])[i]? = some H[i]! := fun i hi => by
      rw [List.getElem?_append_left hi, getElem!_pos H i hi, List.getElem?_eq_getElem hi]
    refine ⟨hHl, fun s hs => by rw [hH0]; exact hst s hs, fun i hi => ?_, fun i hi => ⟨?_, ?_⟩⟩
    · by_cases h2 : i + 1 < H.length
      · rw [if_pos h2]
        exact scan_all (pth_get i n3 (get i hi) (get _ h2))
      · rw [if_neg h2, hH0]
        refine scan_all (pth_get i n3 (get i hi) ?_)
        rw [List.getElem?_append_right (by omega), show i + 1 - H.length = 0 by omega]; rfl
    · rw [hH0]
      refine f1 _ ?_
      have e2 : H = k :: (S' ++ M :: T') := by rw [← hH]; rfl
      rw [e2] at hi ⊢
      rw [getElem!_pos (k :: (S' ++ M :: T')) (i + 1) hi]
      simp only [List.getElem_cons_succ]
      exact List.getElem_mem _
    · exact (pth_get i n3 (get i (by omega)) (get _ hi)).2.1.symm
end Pn

end Go.Proofs.Ytppbbcckijcckaa

/- Contracts: SignOfSurd and its like, in the model. -/
namespace Go.Proofs.Ytppbbcckijcckaa
open Go.ChangeShapes Go.WideShapes Go.ChangeAt Go.RowKit

/-- A call that leaves the world alone, in a region that draws behind another one. -/
theorem two_quiet {P : Program} {f : FuncId} {args : Array Value} {w : World} {a n : Nat} {v : Value} (h : Calls P f args (w.drewN (a + n)) fun e w' => e = .returned v ∧ w' = w.drewN (a + n)) :
    Calls P f args (w.drewN (a + n)) fun e w' => e = .returned v ∧ ∃ m, w' = w.drewN (a + m) := h.mono fun _ _ k => ⟨k.1, n, k.2⟩

theorem below_drewN {B : Nat} {a w : World} (h : Below B a w) (n : Nat) : Below B a (w.drewN n) := ⟨h.os, h.tape, h.output, h.size, h.block⟩

set_option maxRecDepth 100000 in
set_option maxHeartbeats 3200000 in
theorem ptSign_any (s0 s1 : Int) (b0 : -4000000000000000 ≤ s0) (c0 : s0 ≤ 4000000000000000) (b1 : -4000000000000000 ≤ s1) (c1 : s1 ≤ 4000000000000000) (w : World) :
    Calls Try.prog 106 #[.agg #[.int .i64 s0, .int .i64 s1]] w fun e w' => e = .returned (.int .i64 (sgn2 s0 s1)) ∧ Below w.heap.size w w' := by
  rcases Int.lt_trichotomy s0 0 with h0 | rfl | h0 <;> rcases Int.lt_trichotomy s1 0 with h1 | rfl | h1
  · have e0 := sg_neg h0
    have e1 := sg_neg h1
    have hs : sgn2 s0 s1 = -1 := by rw [sgn2]; cases G1 s0 s1 <;> simp [e0, e1]
    rw [hs]
    clear hs
    go_enter Try.func106, Try.ntmps106
    go_wp2_with fail
    go_quiet ((go_at_call 137; exact Calls.quiet_of_same (turned (l1Sign_any _ _))))
    go_wp2
    go_returns
    exact ⟨by first | rfl | (simp [*]; done), by first | (refine below_drewN ?_ _; go_grown; done) | (go_grown; done)⟩
  · have e0 := sg_neg h0
    have e1 := sg_zero
    have hs : sgn2 s0 0 = -1 := by rw [sgn2, G1_z1 _ (by omega)]; simp [e0]
    rw [hs]
    clear hs
    go_enter Try.func106, Try.ntmps106
    go_wp2_with fail
    go_quiet ((go_at_call 137; exact Calls.quiet_of_same (turned (l1Sign_any _ _))))
    go_wp2
    go_returns
    exact ⟨by first | rfl | (simp [*]; done), by first | (refine below_drewN ?_ _; go_grown; done) | (go_grown; done)⟩
  · have e0 := sg_neg h0
    have e1 := sg_pos h1
    have hG : G1 (ab s0) (ab s1) = G1 s0 s1 := by rw [ab_neg h0, ab_pos h1, G1_neg0]
    have pa : 0 < ab s0 := by rw [ab_neg h0]; omega
    have pb : 0 < ab s1 := by rw [ab_pos h1]; omega
    have qa : ab s0 ≤ 9000000000000000 := by rw [ab_neg h0]; omega
    have qb : ab s1 ≤ 9000000000000000 := by rw [ab_pos h1]; omega
    have hs : sgn2 s0 s1 = cond (G1 s0 s1) (-1) 1 := by simp [sgn2, e0, e1]
    rw [hs]
    have HG := Lib.hid hG
    clear hG hs
    cases hg : G1 s0 s1
    · have hg2 : G1 (ab s0) (ab s1) = false := by rw [HG.out, hg]
      go_enter Try.func106, Try.ntmps106
      go_wp2_with fail
      go_quiet ((go_at_call 137; exact Calls.quiet_of_same (turned (l1Sign_any _ _))))
      go_wp2
      go_quiet ((first | (go_at_call 139; exact two_quiet (turned (l1Abs_any _ (by omega) (by omega) (by omega) _))) | (go_at_call 138; exact two_quiet (turned (greater_any _ _ pa pb qa qb _)))))
      go_wp2
      all_goals go_returns
      all_goals first | (exfalso; simp_all; done) | exact ⟨by first | rfl | (simp [*]; done), by ((repeat refine below_drewN ?_ _); go_grown; done)⟩
    · have hg2 : G1 (ab s0) (ab s1) = true := by rw [HG.out, hg]
      go_enter Try.func106, Try.ntmps106
      go_wp2_with fail
      go_quiet ((go_at_call 137; exact Calls.quiet_of_same (turned (l1Sign_any _ _))))
      go_wp2
      go_quiet ((first | (go_at_call 139; exact two_quiet (turned (l1Abs_any _ (by omega) (by omega) (by omega) _))) | (go_at_call 138; exact two_quiet (turned (greater_any _ _ pa pb qa qb _)))))
      go_wp2
      all_goals go_returns
      all_goals first | (exfalso; simp_all; done) | exact ⟨by first | rfl | (simp [*]; done), by ((repeat refine below_drewN ?_ _); go_grown; done)⟩
  · have e0 := sg_zero
    have e1 := sg_neg h1
    have hs : sgn2 0 s1 = -1 := by rw [sgn2, G1_z0]; simp [e1]
    rw [hs]
    clear hs
    go_enter Try.func106, Try.ntmps106
    go_wp2_with fail
    go_quiet ((go_at_call 137; exact Calls.quiet_of_same (turned (l1Sign_any _ _))))
    go_wp2
    go_returns
    exact ⟨by first | rfl | (simp [*]; done), by first | (refine below_drewN ?_ _; go_grown; done) | (go_grown; done)⟩
  · have e0 := sg_zero
    have hs : sgn2 0 0 = 0 := by rw [sgn2, G1_z0]; simp [sg_zero]
    rw [hs]
    clear hs
    go_enter Try.func106, Try.ntmps106
    go_wp2_with fail
    go_quiet ((go_at_call 137; exact Calls.quiet_of_same (turned (l1Sign_any _ _))))
    go_wp2
    go_returns
    exact ⟨by first | rfl | (simp [*]; done), by first | (refine below_drewN ?_ _; go_grown; done) | (go_grown; done)⟩
  · have e0 := sg_zero
    have e1 := sg_pos h1
    have hs : sgn2 0 s1 = 1 := by rw [sgn2, G1_z0]; simp [e1]
    rw [hs]
    clear hs
    go_enter Try.func106, Try.ntmps106
    go_wp2_with fail
    go_quiet ((go_at_call 137; exact Calls.quiet_of_same (turned (l1Sign_any _ _))))
    go_wp2
    go_returns
    exact ⟨by first | rfl | (simp [*]; done), by first | (refine below_drewN ?_ _; go_grown; done) | (go_grown; done)⟩
  · have e0 := sg_pos h0
    have e1 := sg_neg h1
    have hG : G1 (ab s0) (ab s1) = G1 s0 s1 := by rw [ab_pos h0, ab_neg h1, G1_neg1]
    have pa : 0 < ab s0 := by rw [ab_pos h0]; omega
    have pb : 0 < ab s1 := by rw [ab_neg h1]; omega
    have qa : ab s0 ≤ 9000000000000000 := by rw [ab_pos h0]; omega
    have qb : ab s1 ≤ 9000000000000000 := by rw [ab_neg h1]; omega
    have hs : sgn2 s0 s1 = cond (G1 s0 s1) 1 (-1) := by simp [sgn2, e0, e1]
    rw [hs]
    have HG := Lib.hid hG
    clear hG hs
    cases hg : G1 s0 s1
    · have hg2 : G1 (ab s0) (ab s1) = false := by rw [HG.out, hg]
      go_enter Try.func106, Try.ntmps106
      go_wp2_with fail
      go_quiet ((go_at_call 137; exact Calls.quiet_of_same (turned (l1Sign_any _ _))))
      go_wp2
      go_quiet ((first | (go_at_call 139; exact two_quiet (turned (l1Abs_any _ (by omega) (by omega) (by omega) _))) | (go_at_call 138; exact two_quiet (turned (greater_any _ _ pa pb qa qb _)))))
      go_wp2
      all_goals go_returns
      all_goals first | (exfalso; simp_all; done) | exact ⟨by first | rfl | (simp [*]; done), by ((repeat refine below_drewN ?_ _); go_grown; done)⟩
    · have hg2 : G1 (ab s0) (ab s1) = true := by rw [HG.out, hg]
      go_enter Try.func106, Try.ntmps106
      go_wp2_with fail
      go_quiet ((go_at_call 137; exact Calls.quiet_of_same (turned (l1Sign_any _ _))))
      go_wp2
      go_quiet ((first | (go_at_call 139; exact two_quiet (turned (l1Abs_any _ (by omega) (by omega) (by omega) _))) | (go_at_call 138; exact two_quiet (turned (greater_any _ _ pa pb qa qb _)))))
      go_wp2
      all_goals go_returns
      all_goals first | (exfalso; simp_all; done) | exact ⟨by first | rfl | (simp [*]; done), by ((repeat refine below_drewN ?_ _); go_grown; done)⟩
  · have e0 := sg_pos h0
    have e1 := sg_zero
    have hs : sgn2 s0 0 = 1 := by rw [sgn2, G1_z1 _ (by omega)]; simp [e0]
    rw [hs]
    clear hs
    go_enter Try.func106, Try.ntmps106
    go_wp2_with fail
    go_quiet ((go_at_call 137; exact Calls.quiet_of_same (turned (l1Sign_any _ _))))
    go_wp2
    go_returns
    exact ⟨by first | rfl | (simp [*]; done), by first | (refine below_drewN ?_ _; go_grown; done) | (go_grown; done)⟩
  · have e0 := sg_pos h0
    have e1 := sg_pos h1
    have hs : sgn2 s0 s1 = 1 := by rw [sgn2]; cases G1 s0 s1 <;> simp [e0, e1]
    rw [hs]
    clear hs
    go_enter Try.func106, Try.ntmps106
    go_wp2_with fail
    go_quiet ((go_at_call 137; exact Calls.quiet_of_same (turned (l1Sign_any _ _))))
    go_wp2
    go_returns
    exact ⟨by first | rfl | (simp [*]; done), by first | (refine below_drewN ?_ _; go_grown; done) | (go_grown; done)⟩

end Go.Proofs.Ytppbbcckijcckaa
