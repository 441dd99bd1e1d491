/- Contracts and facts, put together (part 1). Conditions: each says its own. -/
import Derived.Test.YtkmgcmgnaeamaaaRows
import Derived.WalkKit
import Derived.ProofKit
import Derived.Lib.SmallJoins
import Derived.JoinedOf
import Derived.Test.YtkmgcmgnaeamaaaProg
import Derived.Handy
import Derived.Lib.Hide
import Derived.LoopTactic
import Derived.Outline
import Derived.Deep.QuietTactic
import Derived.BigQuiet
import Derived.Laws.AppendOwn
import Derived.Laws.OwnMore
import Derived.Deep.AppendLies
import Derived.Lib.MinMax
import Derived.Laws.StructEq
import Derived.WalkLawsBesides
import Derived.WalkSpells
import Derived.StillTailTactics
import Derived.Deep.RegionHeld3
import Derived.Lib.Strings

/- What every law's row shares: the arguments read as they did, since below the heap's old size nothing has turned; an argument is opened to its numbers. -/
namespace Go.Proofs.Ytkmgcmgnaeamaaa
open Go.ChangeShapes Go.WideShapes Go.ChangeAt Go.RowKit Go.Joins

theorem Try.own : ownKnob Try.prog.godebug = none := by kernel_rfl

theorem Try.laidOut : laidOutB Try.prog = true := by kernel_rfl

theorem trodAll_below {H : Type} {enc : TypeId × Value → H} {P : Program} (hl : laidOutB P = true) {W W' : World} (hb : Below W.heap.size W W') :
    ∀ {ts : List TypeId} {vs : List Value} {ds : List (DataW H)} {ps : List MemPlace}, ts.all (fun t => P.readableRec t && decide (t < P.types.size)) = true → (∀ x ∈ ps, x.block < W.heap.size) →
      DataW.TrodAll enc P W 0 (fun _ => true) true ts vs ds ps → DataW.TrodAll enc P W' 0 (fun b => decide (b < W.heap.size)) true ts vs ds ps
  | [], [], [], _, _, _, h => h
  | t :: ts, v :: vs, d :: ds, ps, ht, hp, h => by
    obtain ⟨p, q, h1, h2, rfl⟩ := h
    simp only [List.all_cons, Bool.and_eq_true, decide_eq_true_eq] at ht
    exact ⟨p, q, Below.trod hl ht.1.1 ht.1.2 h1 hb (fun x hx => hp x (by simp [hx])), trodAll_below hl hb ht.2 (fun x hx => hp x (by simp [hx])) h2, rfl⟩
  | [], [], _ :: _, _, _, _, h => h.elim
  | [], _ :: _, _, _, _, _, h => h.elim
  | _ :: _, [], _, _, _, _, h => h.elim
  | _ :: _, _ :: _, [], _, _, _, h => h.elim

/-- The row's last step of a law: it returned true, and nothing that was there has turned. -/
theorem law_post {H : Type} {enc : TypeId × Value → H} {P : Program} {f : Func} {s : ChangeSpec} {apart : Bool} {W W' : World} {args : Array Value} {ds gs : List (DataW H)} {before : List MemPlace} {tb : TypeId}
    (hl : laidOutB P = true) (hts : f.params.toList.all (fun t => P.readableRec t && decide (t < P.types.size)) = true) (hr : f.resultTypes = #[tb]) (htb : P.underlying tb = some .bool)
    (hv : s.vars = []) (hfn : s.fn H ds = { results := [.lit (.bool true)], args := ds })
    (hW : DataW.Whole enc P f.params.toList s.vars apart W args.toList ds gs before) (hB : Below W.heap.size W W') :
    s.post enc P f apart true false false W args (.bool true) W' := by
  have hlt : ∀ x ∈ before, x.block < W.heap.size := fun x hx => hW.lt x hx
  have hW0 := hW
  obtain ⟨p, q, hA, hV, rfl, _, _⟩ := hW
  rw [hv] at hV
  obtain ⟨rfl, rfl⟩ := trodVars_none hV
  refine ⟨ds, [], _, [], p, [], hW0, ?_, ?_, ?_, hB.frame _, fun h => by cases h⟩
  · rw [List.append_nil, hfn, hr]
    exact trodAll_mk1 (shut_bool htb true)
  · rw [List.append_nil, hfn]
    exact trodAll_below hl hB hts (fun x hx => hlt x (by simp [hx])) hA
  · rw [List.append_nil, hfn, hv]
    rfl

end Go.Proofs.Ytkmgcmgnaeamaaa

/- The head of the translation: its signs, its words, and what a row's closed facts read of it. -/
namespace Go.Proofs.Ytkmgcmgnaeamaaa

def headN : List Nat := [104, 97, 114, 110, 101, 115, 115, 32, 55, 57, 54, 53, 99, 49, 52, 99, 98, 50, 102, 56, 98, 100, 49, 49, 53, 53, 56, 56, 57, 48, 55, 97, 56, 55, 53, 102, 99, 100, 97, 54, 48, 55, 57, 57, 57, 101, 55, 53, 97, 99, 50, 101, 97, 48, 50, 56, 98, 57, 98, 100, 53, 53, 98, 102, 101, 100, 48, 53, 102, 55, 51, 102, 32, 99, 117, 116, 32, 97, 116, 32, 108, 111, 111, 112, 46, 101, 120, 97, 109, 112, 108, 101, 47, 103, 48, 49, 50, 49, 55, 47, 108, 97, 119, 115, 46, 70, 110, 69, 120, 97, 99, 116, 73, 115, 66, 111, 120, 32, 108, 111, 111, 112, 46, 101, 120, 97, 109, 112, 108, 101, 47, 103, 48, 49, 50, 49, 55, 47, 108, 97, 119, 115, 46, 70, 110, 69, 120, 97, 99, 116, 66, 111, 120, 79, 102, 32, 108, 111, 111, 112, 46, 101, 120, 97, 109, 112, 108, 101, 47, 103, 48, 49, 50, 49, 55, 47, 108, 97, 119, 115, 46, 70, 110, 69, 120, 97, 99, 116, 67, 97, 110, 76, 97, 121, 32, 108, 111, 111, 112, 46, 101, 120, 97, 109, 112, 108, 101, 47, 103, 48, 49, 50, 49, 55, 47, 108, 97, 119, 115, 46, 70, 110, 69, 120, 97, 99, 116, 77, 105, 115, 115, 105, 110, 103, 70, 111, 114, 32, 108, 111, 111, 112, 46, 101, 120, 97, 109, 112, 108, 101, 47, 103, 48, 49, 50, 49, 55, 47, 108, 97, 119, 115, 46, 70, 110, 69, 120, 97, 99, 116, 69, 110, 111, 117, 103, 104, 70, 111, 114, 32, 108, 111, 111, 112, 46, 101, 120, 97, 109, 112, 108, 101, 47, 103, 48, 49, 50, 49, 55, 47, 108, 97, 119, 115, 46, 70, 110, 69, 120, 97, 99, 116, 67, 111, 117, 110, 116, 84, 114, 97, 99, 107, 115, 32, 108, 111, 111, 112, 46, 101, 120, 97, 109, 112, 108, 101, 47, 103, 48, 49, 50, 49, 55, 47, 108, 97, 119, 115, 46, 70, 110, 69, 120, 97, 99, 116, 76, 111, 110, 103, 101, 115, 116, 82, 105, 110, 103, 32, 108, 111, 111, 112, 46, 101, 120, 97, 109, 112, 108, 101, 47, 103, 48, 49, 50, 49, 55, 47, 108, 97, 119, 115, 46, 70, 110, 69, 120, 97, 99, 116, 82, 105, 110, 103, 66, 111, 120, 101, 115, 32, 108, 111, 111, 112, 46, 101, 120, 97, 109, 112, 108, 101, 47, 103, 48, 49, 50, 49, 55, 47, 108, 97, 119, 115, 46, 70, 110, 69, 120, 97, 99, 116, 67, 111, 117, 110, 116, 69, 110, 100, 115, 32, 108, 111, 111, 112, 46, 101, 120, 97, 109, 112, 108, 101, 47, 103, 48, 49, 50, 49, 55, 47, 108, 97, 119, 115, 46, 70, 110, 69, 120, 97, 99, 116, 70, 97, 114, 116, 104, 101, 115, 116, 69, 110, 100, 32, 108, 111, 111, 112, 46, 101, 120, 97, 109, 112, 108, 101, 47, 103, 48, 49, 50, 49, 55, 47, 108, 97, 119, 115, 46, 70, 110, 69, 120, 97, 99, 116, 65, 100, 100, 66, 111, 120, 101, 115, 32, 108, 111, 111, 112, 46, 101, 120, 97, 109, 112, 108, 101, 47, 103, 48, 49, 50, 49, 55, 47, 108, 97, 119, 115, 46, 70, 110, 69, 120, 97, 99, 116, 80, 114, 105, 99, 101, 79, 102, 32, 108, 111, 111, 112, 46, 101, 120, 97, 109, 112, 108, 101, 47, 103, 48, 49, 50, 49, 55, 47, 108, 97, 119, 115, 46, 70, 110, 69, 120, 97, 99, 116, 67, 104, 101, 97, 112, 101, 115, 116, 82, 105, 110, 103]

def sp32 : List Nat → List (List Nat)
  | [] => [[]]
  | n :: r => if n = 32 then [] :: sp32 r else match sp32 r with
    | w :: ws => (n :: w) :: ws
    | [] => [[n]]

theorem sp32_ne (l : List Nat) : sp32 l ≠ [] := by
  cases l with
  | nil => simp [sp32]
  | cons n r =>
    rw [sp32]
    split
    · simp
    · split <;> simp

theorem ofNat_32 : ∀ n : Nat, n < 128 → (Char.ofNat n = Char.ofNat 32 ↔ n = 32) := by
  intro n hn
  have h : ∀ m : Fin 128, Char.ofNat m.val = Char.ofNat 32 ↔ m.val = 32 := by decide
  exact h ⟨n, hn⟩

theorem ws_sp (r : List Char) : wordsSigns (Char.ofNat 32 :: r) = [] :: wordsSigns r := rfl

theorem ws_no (c : Char) (h : c ≠ Char.ofNat 32) (r : List Char) : wordsSigns (c :: r) = match wordsSigns r with | w :: ws => (c :: w) :: ws | [] => [[c]] := by
  rw [wordsSigns]
  · rfl
  · exact h

theorem ws_split : ∀ l : List Nat, (∀ n ∈ l, n < 128) → wordsSigns (l.map Char.ofNat) = (sp32 l).map fun x => x.map Char.ofNat
  | [], _ => rfl
  | n :: r, h => by
    have ih := ws_split r fun m hm => h m (by simp [hm])
    by_cases e : n = 32
    · subst e
      rw [List.map_cons, ws_sp, ih, sp32, if_pos rfl]
      rfl
    · rw [List.map_cons, ws_no _ (fun q => e ((ofNat_32 n (h n (by simp))).1 q)), ih, sp32, if_neg e]
      cases hs : sp32 r with
      | nil => exact absurd hs (sp32_ne r)
      | cons w ws => rfl

set_option maxRecDepth 100000 in
theorem head_is : Try.prog.initOrder = String.ofList (headN.map Char.ofNat) := by kernel_rfl

set_option maxRecDepth 100000 in
theorem head_low : headN.all (fun n => decide (n < 128)) = true := by kernel_rfl

def headW : List (List Nat) := (sp32 headN).take 6

theorem head_words : wordsSigns Try.prog.initOrder.toList = (sp32 headN).map fun x => x.map Char.ofNat := by
  rw [head_is, String.toList_ofList]
  exact ws_split _ fun n hn => of_decide_eq_true (List.all_eq_true.1 head_low n hn)

set_option maxRecDepth 100000 in
theorem head_cut : ∃ R, behindMainWord (wordsSigns Try.prog.initOrder.toList) = "cut".toList :: R := by
  rw [head_words]
  refine ⟨((sp32 headN).drop 3).map (fun x => x.map Char.ofNat), ?_⟩
  kernel_rfl

set_option maxRecDepth 100000 in
theorem head_main : ∃ R, wordsSigns Try.prog.initOrder.toList = "harness".toList :: "7965c14cb2f8bd115588907a875fcda607999e75ac2ea028b9bd55bfed05f73f".toList :: R := by
  rw [head_words]
  refine ⟨((sp32 headN).drop 2).map (fun x => x.map Char.ofNat), ?_⟩
  kernel_rfl

theorem main_gen (P : Program) (s : List Char) (R : List (List Char)) (h : wordsSigns P.initOrder.toList = "harness".toList :: s :: R) (hs : isSumSigns s = true) : P.mainIs = some (true, s) := by
  unfold Program.mainIs
  rw [h]
  simp [hs]

set_option maxRecDepth 100000 in
theorem main_ok : Try.prog.mainIs = some (true, "7965c14cb2f8bd115588907a875fcda607999e75ac2ea028b9bd55bfed05f73f".toList) := by
  obtain ⟨R, h⟩ := head_main
  exact main_gen _ _ R h (by kernel_rfl)

theorem make_gen (P : Program) (R : List (List Char)) (h : behindMainWord (wordsSigns P.initOrder.toList) = "cut".toList :: R) : P.make = some .cut := by
  unfold Program.make
  rw [h]
  rfl

set_option maxRecDepth 100000 in
theorem enter_gen (P : Program) (R : List (List Char)) (h : behindMainWord (wordsSigns P.initOrder.toList) = "cut".toList :: R) (h1 : P.laysLater = false) (h2 : P.bearsReflect = false) (h3 : P.doorFits [] = true) : P.mayEnter = true := by
  have hs : stripLifts liftWords ("cut".toList :: R) = ([], "cut".toList :: R) := by kernel_rfl
  unfold Program.mayEnter
  rw [h]
  simp only [hs, h1, h2, h3]
  rfl

set_option maxRecDepth 100000 in
theorem lifts_gen (P : Program) (R : List (List Char)) (h : behindMainWord (wordsSigns P.initOrder.toList) = "cut".toList :: R) : P.liftsFinal = false := by
  have hs : stripLifts liftWords ("cut".toList :: R) = ([], "cut".toList :: R) := by kernel_rfl
  unfold Program.liftsFinal Program.headLifts
  rw [h, hs]
  rfl

set_option maxRecDepth 100000 in
theorem enter_ok : Try.prog.mayEnter = true := by
  obtain ⟨R, h⟩ := head_cut
  exact enter_gen _ R h (by kernel_rfl) (by kernel_rfl) (by kernel_rfl)

theorem lifts_ok : Try.prog.liftsFinal = false := by
  obtain ⟨R, h⟩ := head_cut
  exact lifts_gen _ R h

theorem make_ok : Try.prog.make = some .cut := by
  obtain ⟨R, h⟩ := head_cut
  exact make_gen _ R h

end Go.Proofs.Ytkmgcmgnaeamaaa

/- Small rules on worlds that have grown. -/
namespace Go.Proofs.Ytkmgcmgnaeamaaa
open Go.ChangeShapes Go.WideShapes Go.ChangeAt Go.RowKit

theorem bcell {W w1 : World} (hb : Below W.heap.size W w1) : (∀ b o, b < W.heap.size → w1.cell? ⟨b, o, none⟩ = W.cell? ⟨b, o, none⟩) ∧ (∀ b o, b < W.heap.size → w1.frozen? ⟨b, o, none⟩ = W.frozen? ⟨b, o, none⟩) :=
  ⟨fun b o h => hb.cell (p := ⟨b, o, none⟩) h, fun b o h => hb.frozen (p := ⟨b, o, none⟩) h⟩

theorem undrew {W w1 : World} (h : Below W.drew.heap.size W.drew w1) : Below W.heap.size W w1 := ⟨h.os, h.tape, h.output, h.size, h.block⟩

theorem blt {W w1 : World} (hb : Below W.heap.size W w1) : ∀ n, n < W.heap.size → n < w1.heap.size := fun _ h => Nat.lt_of_lt_of_le h hb.size

theorem lt2 : ∀ n : Nat, n < n + 1 + 1 := fun _ => by omega

theorem lt3 : ∀ n : Nat, n < n + 1 + 1 + 1 := fun _ => by omega

/-- One stretch behind another: what was there at the first one's beginning has not turned. -/
theorem ba {a b c : World} (h : Below a.heap.size a b) (k : Below b.heap.size b c) : Below a.heap.size a c := h.trans (k.mono h.size)

/-- A contract that leaves the world alone, turned for a region. -/
theorem turned {P : Program} {f : FuncId} {args : Array Value} {w : World} {v : Value} (h : Calls P f args w fun e w' => e = .returned v ∧ w = w') : Calls P f args w fun e w' => e = .returned v ∧ w' = w :=
  h.mono fun _ _ h => ⟨h.1, h.2.symm⟩

/-- A contract that leaves the world alone, for one that makes memory. -/
theorem grownOf {P : Program} {f : FuncId} {args : Array Value} {w : World} {v : Value} (h : Calls P f args w fun e w' => e = .returned v ∧ w = w') : Calls P f args w fun e w' => e = .returned v ∧ Below w.heap.size w w' :=
  h.mono fun _ _ ⟨h1, h2⟩ => ⟨h1, by subst h2; exact Below.refl _ _⟩

end Go.Proofs.Ytkmgcmgnaeamaaa

/- Contracts: lists of numbers compared, marked and looked at again. -/
namespace Go.Proofs.Ytkmgcmgnaeamaaa
open Go.ChangeShapes Go.WideShapes Go.ChangeAt Go.RowKit

set_option linter.unusedVariables false

/-- Block g holds the numbers xs from its beginning on. -/
def RowI (w : World) (g : Nat) (xs : List Int) : Prop := ∀ (j : Nat) x, xs[j]? = some x → w.cell? ⟨g, j, none⟩ = some (.int .i64 x)

/-- .. the first n are the numbers from k on. -/
def RowK (w : World) (g n : Nat) (k : Int) : Prop := ∀ j : Nat, j < n → w.cell? ⟨g, j, none⟩ = some (.int .i64 (k + j))

def FreeR (w : World) (g n : Nat) : Prop := ∀ j : Nat, j < n → w.frozen? ⟨g, j, none⟩ = false

theorem RowI.below {w w' : World} {g m : Nat} {xs : List Int} (h : RowI w g xs) (hg : g < m) (hb : Below m w w') : RowI w' g xs := fun j x hx => by
  rw [hb.cell (p := ⟨g, j, none⟩) hg]; exact h j x hx

theorem RowK.below {w w' : World} {g n m : Nat} {k : Int} (h : RowK w g n k) (hg : g < m) (hb : Below m w w') : RowK w' g n k := fun j hj => by
  rw [hb.cell (p := ⟨g, j, none⟩) hg]; exact h j hj

theorem RowI.grown {w w' : World} {g : Nat} {row : Option Nat} {xs : List Int} (h : RowI w g xs) (hg : w.grownBy w' row) (hne : some g ≠ row) : RowI w' g xs := fun j x hx =>
  hg.cell (h j x hx) hne

theorem below_drawn {w : World} (n m : Nat) : Below m w (w.drewN n) := ⟨rfl, rfl, rfl, Nat.le_refl _, fun _ _ => rfl⟩

theorem set_grown {w wr : World} {g : Nat} (h : w.grownBy wr (some g)) (j : Nat) (v : Value) : w.grownBy (wr.setCell ⟨g, j, none⟩ v) (some g) :=
  ⟨h.os, h.tape, h.output, by simpa [World.setCell] using h.size, fun k hk hne => by rw [Below.heap_setCell _ _ _ _ (fun e => hne (by simp [e]))]; exact h.block k hk hne⟩

end Go.Proofs.Ytkmgcmgnaeamaaa

/- What a list of numbers is, behind a call; the lists' contracts at nil. -/
namespace Go.Proofs.Ytkmgcmgnaeamaaa
open Go.ChangeShapes Go.WideShapes Go.ChangeAt Go.RowKit

def NumPost (xs : List Int) (n : Nat) (w : World) (e : Ending) (w' : World) : Prop :=
  ∃ g cap, e = .returned (.tuple #[.slice (some ⟨g, 0, none⟩) n cap, .bool true]) ∧ w'.ownsRow w.heap.size 3 1 (.slice (some ⟨g, 0, none⟩) n cap) n (xs.map (Value.int .i64)) ∧ Below w.heap.size w w'

theorem rowI_of {w : World} {B g n cap : Nat} {e : TypeId} {xs : List Int} (h : w.ownsRow B e 1 (.slice (some ⟨g, 0, none⟩) n cap) n (xs.map (Value.int .i64))) (hn : xs.length = n) : RowI w g xs := fun j x hx => by
  have hj : j < n := by rw [← hn]; exact (List.getElem?_eq_some_iff.1 hx).1
  rw [h.cellAt j (by omega)]
  simp [hx]

theorem freeR_of {w : World} {B g n cap : Nat} {e : TypeId} {xs : List Value} (h : w.ownsRow B e 1 (.slice (some ⟨g, 0, none⟩) n cap) n xs) : FreeR w g n := fun j _ => h.frozenAt j

theorem freeR_below {w w' : World} {g n m : Nat} (h : FreeR w g n) (hg : g < m) (hb : Below m w w') : FreeR w' g n := fun j hj => by
  rw [hb.frozen (p := ⟨g, j, none⟩) hg]; exact h j hj

end Go.Proofs.Ytkmgcmgnaeamaaa

/- Contracts for points: which numbers are a point's, in the model and in the program; a point is handed on and compared. -/
namespace Go.Proofs.Ytkmgcmgnaeamaaa
open Go.ChangeShapes Go.WideShapes Go.ChangeAt Go.RowKit

def goodB (a b c d : Int) : Bool := decide (-999999 ≤ a ∧ a ≤ 999999 ∧ -999999 ≤ b ∧ b ≤ 999999 ∧ -999999 ≤ c ∧ c ≤ 999999 ∧ -999999 ≤ d ∧ d ≤ 999999)

/-- '==' on two points, the model's entry reckoned once. -/
@[go_sem high] theorem eqPt (a0 a1 a2 a3 : Int) (b0 b1 b2 b3 : Int) (w : World) : (binOp .eql 79 (.agg #[.int .i64 a0, .int .i64 a1, .int .i64 a2, .int .i64 a3]) (.agg #[.int .i64 b0, .int .i64 b1, .int .i64 b2, .int .i64 b3])).run Try.prog w = .ok (.bool (a0 == b0 && (a1 == b1 && (a2 == b2 && a3 == b3)))) w := by
  have hS : Try.prog.underlying 79 = some (.struct (Try.prog.fieldsOf 79)) := by kernel_rfl
  have hp : Try.prog.stoodInHeld 79 = false := by kernel_rfl
  rw [run_eql_struct, show (10000 : Nat) = 9999 + 1 from rfl, run_equalIn_agg w 9999 79 _ _ hS hp]
  simp only [Program.fieldsOf, Try.underlying79]
  go_simp
  by_cases h0 : a0 = b0 <;> by_cases h1 : a1 = b1 <;> by_cases h2 : a2 = b2 <;> by_cases h3 : a3 = b3 <;> simp [h0, h1, h2, h3]

end Go.Proofs.Ytkmgcmgnaeamaaa

/- An argument that is a box, opened to its numbers; boxes copied and compared in the laws. -/
namespace Go.Proofs.Ytkmgcmgnaeamaaa
open Go.ChangeShapes Go.WideShapes Go.ChangeAt Go.RowKit Go.Joins

/-- Two numbers: a box, or a surd. -/
structure Bq where
  x : Int
  r : Int

abbrev bv (b : Bq) : Value := .agg #[.int .i64 b.x, .int .i64 b.r]

set_option maxRecDepth 100000 in
theorem open_box {H : Type} {enc : TypeId × Value → H} {W : World} {base : Nat} {spare : Nat → Bool} {held : Bool} {r : Reach} {b0 : Nat} {v : Value} {d : DataW H} {p : List MemPlace}
    (hv : Value.okWide Try.prog W r b0 23 v) (h : DataW.Trod enc Try.prog W base spare held 23 v d p) : ∃ s0 s1 : Int, v = .agg #[.int .i64 s0, .int .i64 s1] := by
  obtain ⟨c0, c1, y0, y1, m, rfl, _, _, hy0, hy1⟩ := open_agg2 Try.underlying23 (by kernel_rfl) (by kernel_rfl) hv h
  obtain ⟨s0, e0, _, _⟩ := DataW.trod_int Try.underlying3 hy0
  obtain ⟨s1, e1, _, _⟩ := DataW.trod_int Try.underlying3 hy1
  simp at e0 e1
  subst e0 e1
  exact ⟨s0, s1, rfl⟩

set_option maxRecDepth 100000 in
set_option maxHeartbeats 400000 in
theorem eqBox_same (s0 s1 : Int) (w : World) :
    Calls Try.prog 21 #[.agg #[.int .i64 s0, .int .i64 s1], .agg #[.int .i64 s0, .int .i64 s1]] w fun e w' => e = .returned (.bool true) ∧ Below w.heap.size w w' := by
  go_enter Try.func21, Try.ntmps21
  go_wp2
  go_returns
  exact ⟨rfl, by go_grown⟩

set_option maxRecDepth 100000 in
set_option maxHeartbeats 400000 in
theorem toBox_any (s0 s1 : Int) (w : World) :
    Calls Try.prog 17 #[.agg #[.int .i64 s0, .int .i64 s1]] w fun e w' => e = .returned (.agg #[.int .i64 s0, .int .i64 s1]) ∧ Below w.heap.size w w' := by
  go_enter Try.func17, Try.ntmps17
  go_wp2
  go_returns
  exact ⟨rfl, by go_grown⟩

end Go.Proofs.Ytkmgcmgnaeamaaa

/- Texts of pieces, as lists of bytes: which are tracks; what is counted, mirrored and turned round in them. -/
namespace Go.Proofs.Ytkmgcmgnaeamaaa

def pcb (c : UInt8) : Bool := c == 83 || (c == 76 || c == 82)

def tkB (s : ByteArray) : Bool := decide (s.size ≤ 40) && s.data.toList.all pcb

theorem pcb_cases {c : UInt8} (h : pcb c = true) : c = 83 ∨ (c = 76 ∨ c = 82) := by
  simpa [pcb, Bool.or_eq_true, beq_iff_eq] using h

theorem take_snoc (s : ByteArray) (k : Nat) (h : k < s.size) : s.data.toList.take (k + 1) = s.data.toList.take k ++ [s[k]] := by
  rw [List.take_succ_eq_append_getElem (by simpa using h)]; rfl

theorem take_all (s : ByteArray) {k : Nat} (h : ¬ k < s.size) : s.data.toList.take k = s.data.toList := List.take_of_length_le (by simp; omega)

theorem all_snoc {s : ByteArray} {k : Nat} (h : k < s.size) (ha : (s.data.toList.take k).all pcb = true) (hp : pcb s[k] = true) : (s.data.toList.take (k + 1)).all pcb = true := by
  rw [take_snoc s k h, List.all_append, ha]; simp [hp]

theorem tkB_no {s : ByteArray} {k : Nat} (h : k < s.size) (hp : pcb s[k] = false) : tkB s = false := by
  have hm : s[k] ∈ s.data.toList := by
    have := List.getElem_mem (l := s.data.toList) (n := k) (by simpa using h)
    exact this
  have : s.data.toList.all pcb = false := by
    rw [List.all_eq_false]
    exact ⟨s[k], hm, by simp [hp]⟩
  simp [tkB, this]

theorem tkB_yes {s : ByteArray} (h : s.size ≤ 40) {k : Nat} (hk : ¬ k < s.size) (ha : (s.data.toList.take k).all pcb = true) : tkB s = true := by
  rw [take_all s hk] at ha
  simp [tkB, h, ha]

theorem tkB_long {s : ByteArray} (h : ¬ s.size ≤ 40) : tkB s = false := by simp [tkB, h]

theorem tkB_size {s : ByteArray} (h : tkB s = true) : s.size ≤ 40 := by
  simp only [tkB, Bool.and_eq_true, decide_eq_true_eq] at h
  exact h.1

theorem tkB_list {s : ByteArray} (h : tkB s = true) : ∀ c ∈ s.data.toList, pcb c = true := by
  simp only [tkB, Bool.and_eq_true, List.all_eq_true] at h
  exact h.2

theorem tkB_at {s : ByteArray} (h : tkB s = true) {k : Nat} (hk : k < s.size) : pcb s[k] = true := by
  refine tkB_list h _ ?_
  have := List.getElem_mem (l := s.data.toList) (n := k) (by simpa using hk)
  exact this

theorem size_list (s : ByteArray) : s.data.toList.length = s.size := by simp

theorem ext_one (s : ByteArray) (k : Nat) (h : k < s.size) : s.extract k (k + 1) = ⟨#[s[k]]⟩ := by
  apply ByteArray.ext
  rw [ByteArray.data_extract]
  apply Array.ext
  · simp; omega
  · intro i h1 h2
    simp at h2
    subst h2
    simp
    rfl

def mir (c : UInt8) : UInt8 := if c == 76 then 82 else if c == 82 then 76 else c

def ofL (l : List UInt8) : ByteArray := ⟨l.toArray⟩

theorem ofL_snoc (l : List UInt8) (c : UInt8) : ofL l ++ ⟨#[c]⟩ = ofL (l ++ [c]) := by
  apply ByteArray.ext
  rw [ByteArray.data_append]
  simp [ofL]

theorem ofL_append (l m : List UInt8) : ofL l ++ ofL m = ofL (l ++ m) := by
  apply ByteArray.ext
  rw [ByteArray.data_append]
  simp [ofL]

theorem ofL_self (s : ByteArray) : ofL s.data.toList = s := by
  apply ByteArray.ext
  simp [ofL]

theorem ofL_size (l : List UInt8) : (ofL l).size = l.length := by simp [ofL, ByteArray.size]

/-- How often c is in l. -/
def cnt (c : UInt8) (l : List UInt8) : Nat := l.count c

theorem cnt_snoc (c d : UInt8) (l : List UInt8) : cnt c (l ++ [d]) = cnt c l + (if d == c then 1 else 0) := by
  unfold cnt
  rw [List.count_append, List.count_singleton]

theorem cnt_le (c : UInt8) (l : List UInt8) : cnt c l ≤ l.length := List.count_le_length

end Go.Proofs.Ytkmgcmgnaeamaaa

/- Contract: whether a number lies between two. -/
namespace Go.Proofs.Ytkmgcmgnaeamaaa
open Go.ChangeShapes Go.WideShapes Go.ChangeAt Go.RowKit

def inB (n lo hi : Int) : Bool := decide (lo ≤ n ∧ n ≤ hi)

set_option maxRecDepth 100000 in
theorem l1In_any (n lo hi : Int) (w : World) :
    Calls Try.prog 72 #[.int .i64 n, .int .i64 lo, .int .i64 hi] w fun e w' => e = .returned (.bool (inB n lo hi)) ∧ w = w' := by
  go_enter Try.func72, Try.ntmps72
  go_wp2
  · go_ret
    exact ⟨by simp [inB, *], rfl⟩
  · go_ret
    exact ⟨by simp [inB]; omega, rfl⟩

end Go.Proofs.Ytkmgcmgnaeamaaa

/- Contracts: the program's IsPoint, the model's. -/
namespace Go.Proofs.Ytkmgcmgnaeamaaa
open Go.ChangeShapes Go.WideShapes Go.ChangeAt Go.RowKit

theorem good_clip (a0 a1 a2 a3 : Int) : (a0 == max (-999999) (min a0 999999) && (a1 == max (-999999) (min a1 999999) && (a2 == max (-999999) (min a2 999999) && a3 == max (-999999) (min a3 999999)))) = goodB a0 a1 a2 a3 := by
  unfold goodB
  rw [Bool.eq_iff_iff]
  simp only [Bool.and_eq_true, beq_iff_eq, decide_eq_true_eq]
  omega

theorem good_in (a0 a1 a2 a3 : Int) : (inB a0 (-999999) 999999 && (inB a1 (-999999) 999999 && (inB a2 (-999999) 999999 && inB a3 (-999999) 999999))) = goodB a0 a1 a2 a3 := by
  unfold goodB inB
  rw [Bool.eq_iff_iff]
  simp only [Bool.and_eq_true, decide_eq_true_eq]
  omega

end Go.Proofs.Ytkmgcmgnaeamaaa

/- What is let out: a number, or 0. -/
namespace Go.Proofs.Ytkmgcmgnaeamaaa
def sel (g : Bool) (a : Int) : Int := cond g a 0
end Go.Proofs.Ytkmgcmgnaeamaaa

/- Contracts: sums, multiples and differences of points, in the model and in the program; a point is let out or not; two equal points. -/
namespace Go.Proofs.Ytkmgcmgnaeamaaa
open Go.ChangeShapes Go.WideShapes Go.ChangeAt Go.RowKit

set_option maxRecDepth 100000 in
theorem spAdd_any (a0 a1 a2 a3 : Int) (b0 b1 b2 b3 : Int) (w : World) :
    Calls Try.prog 111 #[.agg #[.int .i64 a0, .int .i64 a1, .int .i64 a2, .int .i64 a3], .agg #[.int .i64 b0, .int .i64 b1, .int .i64 b2, .int .i64 b3]] w fun e w' => e = .returned (.agg #[.int .i64 (wrap64 (a0 + b0)), .int .i64 (wrap64 (a1 + b1)), .int .i64 (wrap64 (a2 + b2)), .int .i64 (wrap64 (a3 + b3))]) ∧ Below w.heap.size w w' := by
  go_enter Try.func111, Try.ntmps111
  go_wp2
  go_returns
  exact ⟨rfl, by go_grown⟩

set_option maxRecDepth 100000 in
theorem imPlus_any (a0 a1 a2 a3 : Int) (b0 b1 b2 b3 : Int) (w : World) :
    Calls Try.prog 117 #[.agg #[.int .i64 a0, .int .i64 a1, .int .i64 a2, .int .i64 a3], .agg #[.int .i64 b0, .int .i64 b1, .int .i64 b2, .int .i64 b3]] w fun e w' => e = .returned (.agg #[.int .i64 (wrap64 (a0 + b0)), .int .i64 (wrap64 (a1 + b1)), .int .i64 (wrap64 (a2 + b2)), .int .i64 (wrap64 (a3 + b3))]) ∧ Below w.heap.size w w' := by
  go_enter Try.func117, Try.ntmps117
  go_wp2
  go_returns
  exact ⟨rfl, by go_grown⟩

set_option maxRecDepth 100000 in
theorem spScale_any (a0 a1 a2 a3 : Int) (k : Int) (w : World) :
    Calls Try.prog 125 #[.agg #[.int .i64 a0, .int .i64 a1, .int .i64 a2, .int .i64 a3], .int .i64 k] w fun e w' => e = .returned (.agg #[.int .i64 (wrap64 (k * a0)), .int .i64 (wrap64 (k * a1)), .int .i64 (wrap64 (k * a2)), .int .i64 (wrap64 (k * a3))]) ∧ Below w.heap.size w w' := by
  go_enter Try.func125, Try.ntmps125
  go_wp2
  go_returns
  exact ⟨rfl, by go_grown⟩

set_option maxRecDepth 100000 in
theorem imScaled_any (a0 a1 a2 a3 : Int) (k : Int) (w : World) :
    Calls Try.prog 107 #[.agg #[.int .i64 a0, .int .i64 a1, .int .i64 a2, .int .i64 a3], .int .i64 k] w fun e w' => e = .returned (.agg #[.int .i64 (wrap64 (k * a0)), .int .i64 (wrap64 (k * a1)), .int .i64 (wrap64 (k * a2)), .int .i64 (wrap64 (k * a3))]) ∧ Below w.heap.size w w' := by
  go_enter Try.func107, Try.ntmps107
  go_wp2
  go_returns
  exact ⟨rfl, by go_grown⟩

end Go.Proofs.Ytkmgcmgnaeamaaa

/- Contracts: turned points and powers, in the model and in the program. -/
namespace Go.Proofs.Ytkmgcmgnaeamaaa
open Go.ChangeShapes Go.WideShapes Go.ChangeAt Go.RowKit

def tu0 (k : Int) (a0 a1 a2 a3 : Int) : Int := if k = 0 then a0 else if k = 1 then -a3 else if k = 2 then -a2 else if k = 3 then -a1 else if k = 4 then -a0 else if k = 5 then a3 else if k = 6 then a2 else a1

def tu1 (k : Int) (a0 a1 a2 a3 : Int) : Int := if k = 0 then a1 else if k = 1 then a0 else if k = 2 then -a3 else if k = 3 then -a2 else if k = 4 then -a1 else if k = 5 then -a0 else if k = 6 then a3 else a2

def tu2 (k : Int) (a0 a1 a2 a3 : Int) : Int := if k = 0 then a2 else if k = 1 then a1 else if k = 2 then a0 else if k = 3 then -a3 else if k = 4 then -a2 else if k = 5 then -a1 else if k = 6 then -a0 else a3

def tu3 (k : Int) (a0 a1 a2 a3 : Int) : Int := if k = 0 then a3 else if k = 1 then a2 else if k = 2 then a1 else if k = 3 then a0 else if k = 4 then -a3 else if k = 5 then -a2 else if k = 6 then -a1 else -a0

theorem good_bd (a0 a1 a2 a3 : Int) (h : goodB a0 a1 a2 a3 = true) : -999999 ≤ a0 ∧ a0 ≤ 999999 ∧ -999999 ≤ a1 ∧ a1 ≤ 999999 ∧ -999999 ≤ a2 ∧ a2 ≤ 999999 ∧ -999999 ≤ a3 ∧ a3 ≤ 999999 := by
  simpa [goodB] using h

theorem in_bd {n lo hi : Int} (h : inB n lo hi = true) : lo ≤ n ∧ n ≤ hi := by simpa [inB] using h

theorem eight (k : Int) (h0 : 0 ≤ k) (h7 : k ≤ 7) : k = 0 ∨ k = 1 ∨ k = 2 ∨ k = 3 ∨ k = 4 ∨ k = 5 ∨ k = 6 ∨ k = 7 := by omega

set_option maxRecDepth 100000 in
set_option maxHeartbeats 1600000 in
theorem ptTurn_any (a0 a1 a2 a3 : Int) (k : Int) (p0 : -999999 ≤ a0) (q0 : a0 ≤ 999999) (p1 : -999999 ≤ a1) (q1 : a1 ≤ 999999) (p2 : -999999 ≤ a2) (q2 : a2 ≤ 999999) (p3 : -999999 ≤ a3) (q3 : a3 ≤ 999999) (h0 : 0 ≤ k) (h7 : k ≤ 7) (w : World) :
    Calls Try.prog 126 #[.agg #[.int .i64 a0, .int .i64 a1, .int .i64 a2, .int .i64 a3], .int .i64 k] w fun e w' => e = .returned (.agg #[.int .i64 (tu0 k a0 a1 a2 a3), .int .i64 (tu1 k a0 a1 a2 a3), .int .i64 (tu2 k a0 a1 a2 a3), .int .i64 (tu3 k a0 a1 a2 a3)]) ∧ Below w.heap.size w w' := by
  rcases eight k h0 h7 with rfl | rfl | rfl | rfl | rfl | rfl | rfl | rfl
  all_goals
    go_enter Try.func126, Try.ntmps126
    go_wp2_with fail
    refine wp_loop_rounds 9 ?_
    repeat any_goals (rw [rounds_succ]; go_wp2)
    go_returns
    exact ⟨by simp [tu0, tu1, tu2, tu3], by go_grown⟩

set_option maxRecDepth 100000 in
set_option maxHeartbeats 1600000 in
theorem power_any (k : Int) (h0 : 0 ≤ k) (h7 : k ≤ 7) (w : World) :
    Calls Try.prog 109 #[.int .i64 k] w fun e w' => e = .returned (.agg #[.int .i64 (tu0 k 1 0 0 0), .int .i64 (tu1 k 1 0 0 0), .int .i64 (tu2 k 1 0 0 0), .int .i64 (tu3 k 1 0 0 0)]) ∧ Below w.heap.size w w' := by
  rcases eight k h0 h7 with rfl | rfl | rfl | rfl | rfl | rfl | rfl | rfl
  all_goals
    go_enter Try.func109, Try.ntmps109
    go_wp2
    go_returns
    exact ⟨by simp [tu0, tu1, tu2, tu3], by go_grown⟩

set_option maxRecDepth 100000 in
theorem ptHeading_any (h : Int) (h0 : 0 ≤ h) (h1 : h ≤ 1000) (w : World) :
    Calls Try.prog 123 #[.int .i64 h] w fun e w' => e = .returned (.agg #[.int .i64 (tu0 (h % 8) 1 0 0 0), .int .i64 (tu1 (h % 8) 1 0 0 0), .int .i64 (tu2 (h % 8) 1 0 0 0), .int .i64 (tu3 (h % 8) 1 0 0 0)]) ∧ Below w.heap.size w w' := by
  have m0 : 0 ≤ h % 8 := by omega
  have m7 : h % 8 ≤ 7 := by omega
  go_enter Try.func123, Try.ntmps123
  go_wp2_with fail
  (go_at_call 126; (with_reducible refine (ptTurn_any 1 0 0 0 (h % 8) (by omega) (by omega) (by omega) (by omega) (by omega) (by omega) (by omega) (by omega) m0 m7 _).mono ?_); rintro e wA ⟨rfl, h1⟩; (try with_reducible replace h1 := undrew h1); have hB : Below w.heap.size w wA := ba (by go_grown) h1; obtain ⟨hcwA, hfwA⟩ := bcell h1; have hqwA := h1.size; (try simp at hqwA); )
  go_wp2_with fail
  refine bodyPost_ret (by simp [results, Try.results123, go_sem, *]; try rfl) rfl ?_
  exact ⟨rfl, by go_grown⟩

end Go.Proofs.Ytkmgcmgnaeamaaa
