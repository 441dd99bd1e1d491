/- Contracts and facts, put together (part 1). Conditions: each says its own. -/
import Derived.Test.YthiimllafcfieaaRows
import Derived.WalkKit
import Derived.ProofKit
import Derived.Lib.SmallJoins
import Derived.JoinedOf
import Derived.Test.YthiimllafcfieaaProg
import Derived.Maps.OwnSet
import Derived.WideKeyEntry
import Derived.DeepKeys4
import Derived.Tactics
import Derived.Deep.RegionHeld3
import Derived.Lib.Strings
import Derived.Handy
import Derived.Lib.Hide
import Derived.Lib.MinMax
import Derived.Laws.StructEq
import Derived.Deep.QuietTactic
import Derived.BigQuiet
import Derived.WalkLawsBesides
import Derived.WalkSpells
import Derived.Outline
import Derived.StillTailTactics

/- What every law's row shares: the arguments read as they did, since below the heap's old size nothing has turned; an argument is opened to its numbers. -/
namespace Go.Proofs.Ythiimllafcfieaa
open Go.ChangeShapes Go.WideShapes Go.ChangeAt Go.RowKit Go.Joins

theorem Try.own : ownKnob Try.prog.godebug = none := by kernel_rfl

theorem Try.laidOut : laidOutB Try.prog = true := by kernel_rfl

theorem trodAll_below {H : Type} {enc : TypeId × Value → H} {P : Program} (hl : laidOutB P = true) {W W' : World} (hb : Below W.heap.size W W') :
    ∀ {ts : List TypeId} {vs : List Value} {ds : List (DataW H)} {ps : List MemPlace}, ts.all (fun t => P.readableRec t && decide (t < P.types.size)) = true → (∀ x ∈ ps, x.block < W.heap.size) →
      DataW.TrodAll enc P W 0 (fun _ => true) true ts vs ds ps → DataW.TrodAll enc P W' 0 (fun b => decide (b < W.heap.size)) true ts vs ds ps
  | [], [], [], _, _, _, h => h
  | t :: ts, v :: vs, d :: ds, ps, ht, hp, h => by
    obtain ⟨p, q, h1, h2, rfl⟩ := h
    simp only [List.all_cons, Bool.and_eq_true, decide_eq_true_eq] at ht
    exact ⟨p, q, Below.trod hl ht.1.1 ht.1.2 h1 hb (fun x hx => hp x (by simp [hx])), trodAll_below hl hb ht.2 (fun x hx => hp x (by simp [hx])) h2, rfl⟩
  | [], [], _ :: _, _, _, _, h => h.elim
  | [], _ :: _, _, _, _, _, h => h.elim
  | _ :: _, [], _, _, _, _, h => h.elim
  | _ :: _, _ :: _, [], _, _, _, h => h.elim

/-- The row's last step of a law: it returned true, and nothing that was there has turned. -/
theorem law_post {H : Type} {enc : TypeId × Value → H} {P : Program} {f : Func} {s : ChangeSpec} {apart : Bool} {W W' : World} {args : Array Value} {ds gs : List (DataW H)} {before : List MemPlace} {tb : TypeId}
    (hl : laidOutB P = true) (hts : f.params.toList.all (fun t => P.readableRec t && decide (t < P.types.size)) = true) (hr : f.resultTypes = #[tb]) (htb : P.underlying tb = some .bool)
    (hv : s.vars = []) (hfn : s.fn H ds = { results := [.lit (.bool true)], args := ds })
    (hW : DataW.Whole enc P f.params.toList s.vars apart W args.toList ds gs before) (hB : Below W.heap.size W W') :
    s.post enc P f apart true false false W args (.bool true) W' := by
  have hlt : ∀ x ∈ before, x.block < W.heap.size := fun x hx => hW.lt x hx
  have hW0 := hW
  obtain ⟨p, q, hA, hV, rfl, _, _⟩ := hW
  rw [hv] at hV
  obtain ⟨rfl, rfl⟩ := trodVars_none hV
  refine ⟨ds, [], _, [], p, [], hW0, ?_, ?_, ?_, hB.frame _, fun h => by cases h⟩
  · rw [List.append_nil, hfn, hr]
    exact trodAll_mk1 (shut_bool htb true)
  · rw [List.append_nil, hfn]
    exact trodAll_below hl hB hts (fun x hx => hlt x (by simp [hx])) hA
  · rw [List.append_nil, hfn, hv]
    rfl

end Go.Proofs.Ythiimllafcfieaa

/- The head of the translation: its signs, its words, and what a row's closed facts read of it. -/
namespace Go.Proofs.Ythiimllafcfieaa

def headN : List Nat := [104, 97, 114, 110, 101, 115, 115, 32, 50, 97, 57, 55, 99, 49, 50, 102, 99, 98, 102, 48, 102, 52, 56, 51, 48, 55, 99, 54, 54, 99, 51, 102, 51, 99, 101, 99, 102, 102, 97, 51, 50, 98, 102, 98, 53, 54, 56, 98, 97, 55, 52, 100, 97, 51, 53, 50, 53, 54, 49, 97, 52, 54, 57, 57, 100, 101, 52, 97, 102, 99, 57, 52, 32, 99, 117, 116, 32, 97, 116, 32, 108, 111, 111, 112, 46, 101, 120, 97, 109, 112, 108, 101, 47, 103, 48, 49, 50, 49, 55, 47, 108, 97, 119, 115, 46, 70, 110, 69, 120, 97, 99, 116, 70, 105, 114, 115, 116, 67, 108, 111, 115, 101, 100, 32, 108, 111, 111, 112, 46, 101, 120, 97, 109, 112, 108, 101, 47, 103, 48, 49, 50, 49, 55, 47, 108, 97, 119, 115, 46, 70, 110, 69, 120, 97, 99, 116, 67, 108, 111, 115, 101, 100, 84, 114, 97, 99, 107, 115, 32, 108, 111, 111, 112, 46, 101, 120, 97, 109, 112, 108, 101, 47, 103, 48, 49, 50, 49, 55, 47, 108, 97, 119, 115, 46, 70, 110, 69, 120, 97, 99, 116, 67, 111, 117, 110, 116, 67, 111, 109, 112, 108, 101, 116, 105, 111, 110, 115, 32, 108, 111, 111, 112, 46, 101, 120, 97, 109, 112, 108, 101, 47, 103, 48, 49, 50, 49, 55, 47, 108, 97, 119, 115, 46, 70, 110, 69, 120, 97, 99, 116, 70, 105, 114, 115, 116, 67, 111, 109, 112, 108, 101, 116, 105, 111, 110, 32, 108, 111, 111, 112, 46, 101, 120, 97, 109, 112, 108, 101, 47, 103, 48, 49, 50, 49, 55, 47, 108, 97, 119, 115, 46, 70, 110, 69, 120, 97, 99, 116, 76, 101, 97, 115, 116, 84, 111, 67, 108, 111, 115, 101, 32, 108, 111, 111, 112, 46, 101, 120, 97, 109, 112, 108, 101, 47, 103, 48, 49, 50, 49, 55, 47, 108, 97, 119, 115, 46, 70, 110, 69, 120, 97, 99, 116, 67, 108, 111, 115, 105, 110, 103, 80, 105, 101, 99, 101, 115, 32, 108, 111, 111, 112, 46, 101, 120, 97, 109, 112, 108, 101, 47, 103, 48, 49, 50, 49, 55, 47, 108, 97, 119, 115, 46, 70, 110, 69, 120, 97, 99, 116, 72, 97, 108, 102, 84, 117, 114, 110, 115, 32, 108, 111, 111, 112, 46, 101, 120, 97, 109, 112, 108, 101, 47, 103, 48, 49, 50, 49, 55, 47, 108, 97, 119, 115, 46, 70, 110, 69, 120, 97, 99, 116, 76, 111, 110, 103, 101, 115, 116, 82, 105, 110, 103, 32, 108, 111, 111, 112, 46, 101, 120, 97, 109, 112, 108, 101, 47, 103, 48, 49, 50, 49, 55, 47, 108, 97, 119, 115, 46, 70, 110, 69, 120, 97, 99, 116, 82, 105, 110, 103, 66, 111, 120, 101, 115, 32, 108, 111, 111, 112, 46, 101, 120, 97, 109, 112, 108, 101, 47, 103, 48, 49, 50, 49, 55, 47, 108, 97, 119, 115, 46, 70, 110, 69, 120, 97, 99, 116, 67, 111, 117, 110, 116, 69, 110, 100, 115, 32, 108, 111, 111, 112, 46, 101, 120, 97, 109, 112, 108, 101, 47, 103, 48, 49, 50, 49, 55, 47, 108, 97, 119, 115, 46, 70, 110, 69, 120, 97, 99, 116, 70, 97, 114, 116, 104, 101, 115, 116, 69, 110, 100, 32, 108, 111, 111, 112, 46, 101, 120, 97, 109, 112, 108, 101, 47, 103, 48, 49, 50, 49, 55, 47, 108, 97, 119, 115, 46, 70, 110, 69, 120, 97, 99, 116, 67, 104, 101, 97, 112, 101, 115, 116, 82, 105, 110, 103]

def sp32 : List Nat → List (List Nat)
  | [] => [[]]
  | n :: r => if n = 32 then [] :: sp32 r else match sp32 r with
    | w :: ws => (n :: w) :: ws
    | [] => [[n]]

theorem sp32_ne (l : List Nat) : sp32 l ≠ [] := by
  cases l with
  | nil => simp [sp32]
  | cons n r =>
    rw [sp32]
    split
    · simp
    · split <;> simp

theorem ofNat_32 : ∀ n : Nat, n < 128 → (Char.ofNat n = Char.ofNat 32 ↔ n = 32) := by
  intro n hn
  have h : ∀ m : Fin 128, Char.ofNat m.val = Char.ofNat 32 ↔ m.val = 32 := by decide
  exact h ⟨n, hn⟩

theorem ws_sp (r : List Char) : wordsSigns (Char.ofNat 32 :: r) = [] :: wordsSigns r := rfl

theorem ws_no (c : Char) (h : c ≠ Char.ofNat 32) (r : List Char) : wordsSigns (c :: r) = match wordsSigns r with | w :: ws => (c :: w) :: ws | [] => [[c]] := by
  rw [wordsSigns]
  · rfl
  · exact h

theorem ws_split : ∀ l : List Nat, (∀ n ∈ l, n < 128) → wordsSigns (l.map Char.ofNat) = (sp32 l).map fun x => x.map Char.ofNat
  | [], _ => rfl
  | n :: r, h => by
    have ih := ws_split r fun m hm => h m (by simp [hm])
    by_cases e : n = 32
    · subst e
      rw [List.map_cons, ws_sp, ih, sp32, if_pos rfl]
      rfl
    · rw [List.map_cons, ws_no _ (fun q => e ((ofNat_32 n (h n (by simp))).1 q)), ih, sp32, if_neg e]
      cases hs : sp32 r with
      | nil => exact absurd hs (sp32_ne r)
      | cons w ws => rfl

set_option maxRecDepth 100000 in
theorem head_is : Try.prog.initOrder = String.ofList (headN.map Char.ofNat) := by kernel_rfl

set_option maxRecDepth 100000 in
theorem head_low : headN.all (fun n => decide (n < 128)) = true := by kernel_rfl

def headW : List (List Nat) := (sp32 headN).take 6

theorem head_words : wordsSigns Try.prog.initOrder.toList = (sp32 headN).map fun x => x.map Char.ofNat := by
  rw [head_is, String.toList_ofList]
  exact ws_split _ fun n hn => of_decide_eq_true (List.all_eq_true.1 head_low n hn)

set_option maxRecDepth 100000 in
theorem head_cut : ∃ R, behindMainWord (wordsSigns Try.prog.initOrder.toList) = "cut".toList :: R := by
  rw [head_words]
  refine ⟨((sp32 headN).drop 3).map (fun x => x.map Char.ofNat), ?_⟩
  kernel_rfl

set_option maxRecDepth 100000 in
theorem head_main : ∃ R, wordsSigns Try.prog.initOrder.toList = "harness".toList :: "2a97c12fcbf0f48307c66c3f3cecffa32bfb568ba74da352561a4699de4afc94".toList :: R := by
  rw [head_words]
  refine ⟨((sp32 headN).drop 2).map (fun x => x.map Char.ofNat), ?_⟩
  kernel_rfl

theorem main_gen (P : Program) (s : List Char) (R : List (List Char)) (h : wordsSigns P.initOrder.toList = "harness".toList :: s :: R) (hs : isSumSigns s = true) : P.mainIs = some (true, s) := by
  unfold Program.mainIs
  rw [h]
  simp [hs]

set_option maxRecDepth 100000 in
theorem main_ok : Try.prog.mainIs = some (true, "2a97c12fcbf0f48307c66c3f3cecffa32bfb568ba74da352561a4699de4afc94".toList) := by
  obtain ⟨R, h⟩ := head_main
  exact main_gen _ _ R h (by kernel_rfl)

theorem make_gen (P : Program) (R : List (List Char)) (h : behindMainWord (wordsSigns P.initOrder.toList) = "cut".toList :: R) : P.make = some .cut := by
  unfold Program.make
  rw [h]
  rfl

set_option maxRecDepth 100000 in
theorem enter_gen (P : Program) (R : List (List Char)) (h : behindMainWord (wordsSigns P.initOrder.toList) = "cut".toList :: R) (h1 : P.laysLater = false) (h2 : P.bearsReflect = false) (h3 : P.doorFits [] = true) : P.mayEnter = true := by
  have hs : stripLifts liftWords ("cut".toList :: R) = ([], "cut".toList :: R) := by kernel_rfl
  unfold Program.mayEnter
  rw [h]
  simp only [hs, h1, h2, h3]
  rfl

set_option maxRecDepth 100000 in
theorem lifts_gen (P : Program) (R : List (List Char)) (h : behindMainWord (wordsSigns P.initOrder.toList) = "cut".toList :: R) : P.liftsFinal = false := by
  have hs : stripLifts liftWords ("cut".toList :: R) = ([], "cut".toList :: R) := by kernel_rfl
  unfold Program.liftsFinal Program.headLifts
  rw [h, hs]
  rfl

set_option maxRecDepth 100000 in
theorem enter_ok : Try.prog.mayEnter = true := by
  obtain ⟨R, h⟩ := head_cut
  exact enter_gen _ R h (by kernel_rfl) (by kernel_rfl) (by kernel_rfl)

theorem lifts_ok : Try.prog.liftsFinal = false := by
  obtain ⟨R, h⟩ := head_cut
  exact lifts_gen _ R h

theorem make_ok : Try.prog.make = some .cut := by
  obtain ⟨R, h⟩ := head_cut
  exact make_gen _ R h

end Go.Proofs.Ythiimllafcfieaa

/- Laws on a map that a call has made: an entry is met, then stored. -/
namespace Go.Proofs.Ythiimllafcfieaa
open Go Go.ChangeMaps Go.MapKept Go.ChangeShapes Go.WideShapes
open Go.WideElems (Fit rd rg pl rd_val elemAt entry_then_store)
open Go.WideMaps (KeyLaw)
open Go.Maps (Keyed)

section
variable {H : Type} {P : Program} {k t e : TypeId} {R : Value → Option (DataW H × List MemPlace)} {w : World} {b n : Nat} {D : DataW H}

theorem own_block {es : Array MapEntry} {clock : Nat} (hb : w.heap[b]? = some (.map es clock)) (h : w.ownsMap P k R b n D) {w2 : World} (hb2 : w2.heap[b]? = some (.map es clock)) : w2.ownsMap P k R b n D := by
  obtain ⟨es', clock', hb', F, hs, hD⟩ := h
  rw [hb] at hb'
  cases hb'
  exact ⟨es, clock, hb2, F, hs, hD⟩

theorem setBlock_grown {es : Array MapEntry} {clock : Nat} {X' : Obj} (hb : w.heap[b]? = some (.map es clock)) : w.grownBy (setBlock w b X') (some b) :=
  ⟨rfl, rfl, rfl, by simp [setBlock], fun i _ hi => heap_setBlock_other hb _ (fun e => hi (by rw [e]))⟩

theorem map_entry (h : w.ownsMap P k R b n D) (K : KeyLaw P k) (ht : P.underlying t = some (.map k e)) (hn : n < maxLen) {z : Value} (hz : ∀ u : World, (zeroValue e).run P u = .ok z u) {zd : DataW H} {zp : List MemPlace} (hzd : R z = some (zd, zp))
    {key : Value} {kl : Lit} (hkey : keyOf P k key = some kl) :
    ∃ (v0 : Value) (st : Nat) (es1 : Array MapEntry) (c1 : Nat), (Instr.mapEntry t (.map (some b)) key).run P w = .ok (.tuple #[v0, goInt st]) (setBlock w b (.map es1 c1)) ∧ w.grownBy (setBlock w b (.map es1 c1)) (some b) ∧ (setBlock w b (.map es1 c1)).heap[b]? = some (.map es1 c1) ∧ (∃ ps, R v0 = some (D.atKey kl zd, ps)) ∧ b < w.heap.size ∧
      ∀ (w2 : World) (val : Value) (d : DataW H) (ps : List MemPlace), w2.heap[b]? = some (.map es1 c1) → R val = some (d, ps) →
        ∃ w3, (Instr.entryStore t (.map (some b)) (goInt st) val).run P w2 = .ok () w3 ∧ w3.ownsMap P k R b (n + 1) (D.put kl d) ∧ w2.grownBy w3 (some b) := by
  obtain ⟨v, ps, hrun, hRv⟩ := h.lookup (Keyed.of_law K) ht (hz w) hzd hkey
  have hup := fun (val : Value) (d : DataW H) (ps : List MemPlace) (hv : R val = some (d, ps)) => h.update (Keyed.of_law K) ht hn hkey hv
  obtain ⟨es, clock, hb, F, hs, hD⟩ := h
  obtain ⟨v0, st, es1, clock1, h1, h2, h3⟩ := entry_then_store K ht hz hb F hkey
  have e0 : v = v0 := by
    rcases K.find w hkey es.toList F.keys with ⟨f1, f2⟩ | ⟨j, e0, f1, f2, f3⟩
    · have hl : (Instr.lookup t (.map (some b)) key false).run P w = .ok z w := by simp [Instr.lookup, run_underlying ht, MapKept.run_getObj_map hb, K.check w _ hkey, f1, hz, Result.andThen]
      rw [hl] at hrun
      injection hrun with hrun
      rcases h2 with ⟨e1, he1, hk1, _⟩ | ⟨_, hv0⟩
      · exact absurd hk1 (f2 e1 he1)
      · rw [hv0, hrun]
    · have hl : (Instr.lookup t (.map (some b)) key false).run P w = .ok e0.val w := by simp [Instr.lookup, run_underlying ht, MapKept.run_getObj_map hb, K.check w _ hkey, f1, Result.andThen]
      have hj : es[j]? = some e0 := by simpa using f2
      have hm : ∃ r W', (Instr.mapEntry t (.map (some b)) key).run P w = .ok (.tuple #[e0.val, r]) W' := by
        refine ⟨goInt e0.born, setBlock w b (.map (es.modify j fun e => { e with key := key }) clock), ?_⟩
        simp [Instr.mapEntry, run_underlying ht, MapKept.run_getObj_map hb, K.check w false hkey, f1, hj, f3, K.stays w hkey, MapKept.run_setObj_map _ hb, Result.andThen, setBlock]
      obtain ⟨r, W', hm⟩ := hm
      rw [hl] at hrun
      injection hrun with hrun
      rw [h1] at hm
      injection hm with hm
      simp at hm
      rw [← hrun, hm.1]
  subst e0
  refine ⟨v, st, es1, clock1, h1, setBlock_grown hb, heap_setBlock_same hb _, ⟨ps, hRv⟩, (Array.getElem?_eq_some_iff.1 hb).1, fun w2 val d ps' hX hR => ?_⟩
  obtain ⟨es', clock', g1, g2⟩ := h3 w2 val hX
  obtain ⟨w', u1, u2, _⟩ := hup val d ps' hR
  rw [g2] at u1
  injection u1 with _ u1
  subst u1
  exact ⟨_, g1, own_block (heap_setBlock_same hb _) u2 (heap_setBlock_same hX _), setBlock_grown hX⟩

theorem wpList_mapEntry {ops : Array Oper} {rest : List Oper} {o : Oper} {a : Act} {Q : Exit → Act → World → Prop} (W1 : World) (r key : Value) (hg : o.guard = none) (m x : Operand) (hop : o.op = Op.mapEntry t m x)
    (hm : a.eval m = .map (some b)) (hx : a.eval x = key) (hrun : (Instr.mapEntry t (.map (some b)) key).run P w = .ok r W1) (hK : wpList P ops Q rest (a.put o.dst r) W1) : wpList P ops Q (o :: rest) a w := by
  refine wpList_plain hg fun K' hK' => ?_
  unfold Oper.wp
  simp [execOp, hop, hm, hx, hrun, Result.andThen]
  exact hK' _ _ hK

theorem wpList_entryStore {ops : Array Oper} {rest : List Oper} {o : Oper} {a : Act} {Q : Exit → Act → World → Prop} (W1 : World) (st val : Value) (hg : o.guard = none) (m s x : Operand) (hop : o.op = Op.entryStore t m s x)
    (hm : a.eval m = .map (some b)) (hs : a.eval s = st) (hx : a.eval x = val) (hrun : (Instr.entryStore t (.map (some b)) st val).run P w = .ok () W1) (hK : wpList P ops Q rest (a.put o.dst undef) W1) : wpList P ops Q (o :: rest) a w := by
  refine wpList_plain hg fun K' hK' => ?_
  unfold Oper.wp
  simp [execOp, hop, hm, hs, hx, hrun, Result.andThen]
  exact hK' _ _ hK

end

end Go.Proofs.Ythiimllafcfieaa

/- Cells, one and in bundles, handed on through draws, new blocks, stores elsewhere and calls that make memory. -/
namespace Go.Proofs.Ythiimllafcfieaa
open Go.ChangeShapes Go.WideShapes Go.ChangeAt Go.RowKit

section
variable {b o : Nat} {v : Value} {W w1 : World}
theorem cl_below (h : W.cell? ⟨b, o, none⟩ = some v) (hn : b < W.heap.size) (hb : Below W.heap.size W w1) : w1.cell? ⟨b, o, none⟩ = some v := by
  rw [hb.cell (p := ⟨b, o, none⟩) hn]; exact h

theorem cl_alloc (h : W.cell? ⟨b, o, none⟩ = some v) (x : Obj) : (W.alloc x).cell? ⟨b, o, none⟩ = some v := by
  rw [World.cell?_alloc_some _ _ _ (by simp [h])]; exact h

theorem cl_re {x : Obj} (h : (W.alloc x).cell? ⟨b, o, none⟩ = some v) (hn : b < W.heap.size) (y : Obj) : (W.alloc y).cell? ⟨b, o, none⟩ = some v := by
  rw [World.cell?_alloc_lt _ _ _ (by exact hn)] at h
  rw [World.cell?_alloc_lt _ _ _ (by exact hn)]; exact h

theorem cl_drew (h : W.cell? ⟨b, o, none⟩ = some v) : W.drew.cell? ⟨b, o, none⟩ = some v := h

theorem cl_set (h : W.cell? ⟨b, o, none⟩ = some v) (p : Addr) (u : Value) (hp : p.block ≠ b) : (W.setCell p u).cell? ⟨b, o, none⟩ = some v := by
  rw [World.cell?_setCell_far _ _ _ _ hp]; exact h
end

section
variable {B0 B1 : Nat} {v00 v01 v02 v03 v10 v11 v12 v13 : Value} {W w1 : World}
theorem pp_below (h : W.cell? ⟨B0, 0, none⟩ = some v00 ∧ W.cell? ⟨B0, 1, none⟩ = some v01 ∧ W.cell? ⟨B0, 2, none⟩ = some v02 ∧ W.cell? ⟨B0, 3, none⟩ = some v03 ∧ W.cell? ⟨B1, 0, none⟩ = some v10 ∧ W.cell? ⟨B1, 1, none⟩ = some v11 ∧ W.cell? ⟨B1, 2, none⟩ = some v12 ∧ W.cell? ⟨B1, 3, none⟩ = some v13) (h0 : B0 < W.heap.size) (h1 : B1 < W.heap.size) (hb : Below W.heap.size W w1) : w1.cell? ⟨B0, 0, none⟩ = some v00 ∧ w1.cell? ⟨B0, 1, none⟩ = some v01 ∧ w1.cell? ⟨B0, 2, none⟩ = some v02 ∧ w1.cell? ⟨B0, 3, none⟩ = some v03 ∧ w1.cell? ⟨B1, 0, none⟩ = some v10 ∧ w1.cell? ⟨B1, 1, none⟩ = some v11 ∧ w1.cell? ⟨B1, 2, none⟩ = some v12 ∧ w1.cell? ⟨B1, 3, none⟩ = some v13 :=
  let ⟨k0, k1, k2, k3, k4, k5, k6, k7⟩ := h
  ⟨cl_below k0 h0 hb, cl_below k1 h0 hb, cl_below k2 h0 hb, cl_below k3 h0 hb, cl_below k4 h1 hb, cl_below k5 h1 hb, cl_below k6 h1 hb, cl_below k7 h1 hb⟩

theorem pp_alloc (h : W.cell? ⟨B0, 0, none⟩ = some v00 ∧ W.cell? ⟨B0, 1, none⟩ = some v01 ∧ W.cell? ⟨B0, 2, none⟩ = some v02 ∧ W.cell? ⟨B0, 3, none⟩ = some v03 ∧ W.cell? ⟨B1, 0, none⟩ = some v10 ∧ W.cell? ⟨B1, 1, none⟩ = some v11 ∧ W.cell? ⟨B1, 2, none⟩ = some v12 ∧ W.cell? ⟨B1, 3, none⟩ = some v13) (o : Obj) : (W.alloc o).cell? ⟨B0, 0, none⟩ = some v00 ∧ (W.alloc o).cell? ⟨B0, 1, none⟩ = some v01 ∧ (W.alloc o).cell? ⟨B0, 2, none⟩ = some v02 ∧ (W.alloc o).cell? ⟨B0, 3, none⟩ = some v03 ∧ (W.alloc o).cell? ⟨B1, 0, none⟩ = some v10 ∧ (W.alloc o).cell? ⟨B1, 1, none⟩ = some v11 ∧ (W.alloc o).cell? ⟨B1, 2, none⟩ = some v12 ∧ (W.alloc o).cell? ⟨B1, 3, none⟩ = some v13 :=
  let ⟨k0, k1, k2, k3, k4, k5, k6, k7⟩ := h
  ⟨cl_alloc k0 o, cl_alloc k1 o, cl_alloc k2 o, cl_alloc k3 o, cl_alloc k4 o, cl_alloc k5 o, cl_alloc k6 o, cl_alloc k7 o⟩

theorem pp_re {o : Obj} (h : (W.alloc o).cell? ⟨B0, 0, none⟩ = some v00 ∧ (W.alloc o).cell? ⟨B0, 1, none⟩ = some v01 ∧ (W.alloc o).cell? ⟨B0, 2, none⟩ = some v02 ∧ (W.alloc o).cell? ⟨B0, 3, none⟩ = some v03 ∧ (W.alloc o).cell? ⟨B1, 0, none⟩ = some v10 ∧ (W.alloc o).cell? ⟨B1, 1, none⟩ = some v11 ∧ (W.alloc o).cell? ⟨B1, 2, none⟩ = some v12 ∧ (W.alloc o).cell? ⟨B1, 3, none⟩ = some v13) (h0 : B0 < W.heap.size) (h1 : B1 < W.heap.size) (o2 : Obj) : (W.alloc o2).cell? ⟨B0, 0, none⟩ = some v00 ∧ (W.alloc o2).cell? ⟨B0, 1, none⟩ = some v01 ∧ (W.alloc o2).cell? ⟨B0, 2, none⟩ = some v02 ∧ (W.alloc o2).cell? ⟨B0, 3, none⟩ = some v03 ∧ (W.alloc o2).cell? ⟨B1, 0, none⟩ = some v10 ∧ (W.alloc o2).cell? ⟨B1, 1, none⟩ = some v11 ∧ (W.alloc o2).cell? ⟨B1, 2, none⟩ = some v12 ∧ (W.alloc o2).cell? ⟨B1, 3, none⟩ = some v13 :=
  let ⟨k0, k1, k2, k3, k4, k5, k6, k7⟩ := h
  ⟨cl_re k0 h0 o2, cl_re k1 h0 o2, cl_re k2 h0 o2, cl_re k3 h0 o2, cl_re k4 h1 o2, cl_re k5 h1 o2, cl_re k6 h1 o2, cl_re k7 h1 o2⟩

theorem pp_drew (h : W.cell? ⟨B0, 0, none⟩ = some v00 ∧ W.cell? ⟨B0, 1, none⟩ = some v01 ∧ W.cell? ⟨B0, 2, none⟩ = some v02 ∧ W.cell? ⟨B0, 3, none⟩ = some v03 ∧ W.cell? ⟨B1, 0, none⟩ = some v10 ∧ W.cell? ⟨B1, 1, none⟩ = some v11 ∧ W.cell? ⟨B1, 2, none⟩ = some v12 ∧ W.cell? ⟨B1, 3, none⟩ = some v13) : W.drew.cell? ⟨B0, 0, none⟩ = some v00 ∧ W.drew.cell? ⟨B0, 1, none⟩ = some v01 ∧ W.drew.cell? ⟨B0, 2, none⟩ = some v02 ∧ W.drew.cell? ⟨B0, 3, none⟩ = some v03 ∧ W.drew.cell? ⟨B1, 0, none⟩ = some v10 ∧ W.drew.cell? ⟨B1, 1, none⟩ = some v11 ∧ W.drew.cell? ⟨B1, 2, none⟩ = some v12 ∧ W.drew.cell? ⟨B1, 3, none⟩ = some v13 := h

theorem pp_undrew (h : W.drew.cell? ⟨B0, 0, none⟩ = some v00 ∧ W.drew.cell? ⟨B0, 1, none⟩ = some v01 ∧ W.drew.cell? ⟨B0, 2, none⟩ = some v02 ∧ W.drew.cell? ⟨B0, 3, none⟩ = some v03 ∧ W.drew.cell? ⟨B1, 0, none⟩ = some v10 ∧ W.drew.cell? ⟨B1, 1, none⟩ = some v11 ∧ W.drew.cell? ⟨B1, 2, none⟩ = some v12 ∧ W.drew.cell? ⟨B1, 3, none⟩ = some v13) : W.cell? ⟨B0, 0, none⟩ = some v00 ∧ W.cell? ⟨B0, 1, none⟩ = some v01 ∧ W.cell? ⟨B0, 2, none⟩ = some v02 ∧ W.cell? ⟨B0, 3, none⟩ = some v03 ∧ W.cell? ⟨B1, 0, none⟩ = some v10 ∧ W.cell? ⟨B1, 1, none⟩ = some v11 ∧ W.cell? ⟨B1, 2, none⟩ = some v12 ∧ W.cell? ⟨B1, 3, none⟩ = some v13 := h

theorem pp_set (h : W.cell? ⟨B0, 0, none⟩ = some v00 ∧ W.cell? ⟨B0, 1, none⟩ = some v01 ∧ W.cell? ⟨B0, 2, none⟩ = some v02 ∧ W.cell? ⟨B0, 3, none⟩ = some v03 ∧ W.cell? ⟨B1, 0, none⟩ = some v10 ∧ W.cell? ⟨B1, 1, none⟩ = some v11 ∧ W.cell? ⟨B1, 2, none⟩ = some v12 ∧ W.cell? ⟨B1, 3, none⟩ = some v13) (p : Addr) (u : Value) (h0 : p.block ≠ B0) (h1 : p.block ≠ B1) : (W.setCell p u).cell? ⟨B0, 0, none⟩ = some v00 ∧ (W.setCell p u).cell? ⟨B0, 1, none⟩ = some v01 ∧ (W.setCell p u).cell? ⟨B0, 2, none⟩ = some v02 ∧ (W.setCell p u).cell? ⟨B0, 3, none⟩ = some v03 ∧ (W.setCell p u).cell? ⟨B1, 0, none⟩ = some v10 ∧ (W.setCell p u).cell? ⟨B1, 1, none⟩ = some v11 ∧ (W.setCell p u).cell? ⟨B1, 2, none⟩ = some v12 ∧ (W.setCell p u).cell? ⟨B1, 3, none⟩ = some v13 :=
  let ⟨k0, k1, k2, k3, k4, k5, k6, k7⟩ := h
  ⟨cl_set k0 p u h0, cl_set k1 p u h0, cl_set k2 p u h0, cl_set k3 p u h0, cl_set k4 p u h1, cl_set k5 p u h1, cl_set k6 p u h1, cl_set k7 p u h1⟩
end

section
variable {B0 B1 B2 : Nat} {v00 v01 v02 v03 v10 v11 v12 v13 v20 v21 v22 v23 : Value} {W w1 : World}
theorem ppp_below (h : W.cell? ⟨B0, 0, none⟩ = some v00 ∧ W.cell? ⟨B0, 1, none⟩ = some v01 ∧ W.cell? ⟨B0, 2, none⟩ = some v02 ∧ W.cell? ⟨B0, 3, none⟩ = some v03 ∧ W.cell? ⟨B1, 0, none⟩ = some v10 ∧ W.cell? ⟨B1, 1, none⟩ = some v11 ∧ W.cell? ⟨B1, 2, none⟩ = some v12 ∧ W.cell? ⟨B1, 3, none⟩ = some v13 ∧ W.cell? ⟨B2, 0, none⟩ = some v20 ∧ W.cell? ⟨B2, 1, none⟩ = some v21 ∧ W.cell? ⟨B2, 2, none⟩ = some v22 ∧ W.cell? ⟨B2, 3, none⟩ = some v23) (h0 : B0 < W.heap.size) (h1 : B1 < W.heap.size) (h2 : B2 < W.heap.size) (hb : Below W.heap.size W w1) : w1.cell? ⟨B0, 0, none⟩ = some v00 ∧ w1.cell? ⟨B0, 1, none⟩ = some v01 ∧ w1.cell? ⟨B0, 2, none⟩ = some v02 ∧ w1.cell? ⟨B0, 3, none⟩ = some v03 ∧ w1.cell? ⟨B1, 0, none⟩ = some v10 ∧ w1.cell? ⟨B1, 1, none⟩ = some v11 ∧ w1.cell? ⟨B1, 2, none⟩ = some v12 ∧ w1.cell? ⟨B1, 3, none⟩ = some v13 ∧ w1.cell? ⟨B2, 0, none⟩ = some v20 ∧ w1.cell? ⟨B2, 1, none⟩ = some v21 ∧ w1.cell? ⟨B2, 2, none⟩ = some v22 ∧ w1.cell? ⟨B2, 3, none⟩ = some v23 :=
  let ⟨k0, k1, k2, k3, k4, k5, k6, k7, k8, k9, k10, k11⟩ := h
  ⟨cl_below k0 h0 hb, cl_below k1 h0 hb, cl_below k2 h0 hb, cl_below k3 h0 hb, cl_below k4 h1 hb, cl_below k5 h1 hb, cl_below k6 h1 hb, cl_below k7 h1 hb, cl_below k8 h2 hb, cl_below k9 h2 hb, cl_below k10 h2 hb, cl_below k11 h2 hb⟩

theorem ppp_alloc (h : W.cell? ⟨B0, 0, none⟩ = some v00 ∧ W.cell? ⟨B0, 1, none⟩ = some v01 ∧ W.cell? ⟨B0, 2, none⟩ = some v02 ∧ W.cell? ⟨B0, 3, none⟩ = some v03 ∧ W.cell? ⟨B1, 0, none⟩ = some v10 ∧ W.cell? ⟨B1, 1, none⟩ = some v11 ∧ W.cell? ⟨B1, 2, none⟩ = some v12 ∧ W.cell? ⟨B1, 3, none⟩ = some v13 ∧ W.cell? ⟨B2, 0, none⟩ = some v20 ∧ W.cell? ⟨B2, 1, none⟩ = some v21 ∧ W.cell? ⟨B2, 2, none⟩ = some v22 ∧ W.cell? ⟨B2, 3, none⟩ = some v23) (o : Obj) : (W.alloc o).cell? ⟨B0, 0, none⟩ = some v00 ∧ (W.alloc o).cell? ⟨B0, 1, none⟩ = some v01 ∧ (W.alloc o).cell? ⟨B0, 2, none⟩ = some v02 ∧ (W.alloc o).cell? ⟨B0, 3, none⟩ = some v03 ∧ (W.alloc o).cell? ⟨B1, 0, none⟩ = some v10 ∧ (W.alloc o).cell? ⟨B1, 1, none⟩ = some v11 ∧ (W.alloc o).cell? ⟨B1, 2, none⟩ = some v12 ∧ (W.alloc o).cell? ⟨B1, 3, none⟩ = some v13 ∧ (W.alloc o).cell? ⟨B2, 0, none⟩ = some v20 ∧ (W.alloc o).cell? ⟨B2, 1, none⟩ = some v21 ∧ (W.alloc o).cell? ⟨B2, 2, none⟩ = some v22 ∧ (W.alloc o).cell? ⟨B2, 3, none⟩ = some v23 :=
  let ⟨k0, k1, k2, k3, k4, k5, k6, k7, k8, k9, k10, k11⟩ := h
  ⟨cl_alloc k0 o, cl_alloc k1 o, cl_alloc k2 o, cl_alloc k3 o, cl_alloc k4 o, cl_alloc k5 o, cl_alloc k6 o, cl_alloc k7 o, cl_alloc k8 o, cl_alloc k9 o, cl_alloc k10 o, cl_alloc k11 o⟩

theorem ppp_re {o : Obj} (h : (W.alloc o).cell? ⟨B0, 0, none⟩ = some v00 ∧ (W.alloc o).cell? ⟨B0, 1, none⟩ = some v01 ∧ (W.alloc o).cell? ⟨B0, 2, none⟩ = some v02 ∧ (W.alloc o).cell? ⟨B0, 3, none⟩ = some v03 ∧ (W.alloc o).cell? ⟨B1, 0, none⟩ = some v10 ∧ (W.alloc o).cell? ⟨B1, 1, none⟩ = some v11 ∧ (W.alloc o).cell? ⟨B1, 2, none⟩ = some v12 ∧ (W.alloc o).cell? ⟨B1, 3, none⟩ = some v13 ∧ (W.alloc o).cell? ⟨B2, 0, none⟩ = some v20 ∧ (W.alloc o).cell? ⟨B2, 1, none⟩ = some v21 ∧ (W.alloc o).cell? ⟨B2, 2, none⟩ = some v22 ∧ (W.alloc o).cell? ⟨B2, 3, none⟩ = some v23) (h0 : B0 < W.heap.size) (h1 : B1 < W.heap.size) (h2 : B2 < W.heap.size) (o2 : Obj) : (W.alloc o2).cell? ⟨B0, 0, none⟩ = some v00 ∧ (W.alloc o2).cell? ⟨B0, 1, none⟩ = some v01 ∧ (W.alloc o2).cell? ⟨B0, 2, none⟩ = some v02 ∧ (W.alloc o2).cell? ⟨B0, 3, none⟩ = some v03 ∧ (W.alloc o2).cell? ⟨B1, 0, none⟩ = some v10 ∧ (W.alloc o2).cell? ⟨B1, 1, none⟩ = some v11 ∧ (W.alloc o2).cell? ⟨B1, 2, none⟩ = some v12 ∧ (W.alloc o2).cell? ⟨B1, 3, none⟩ = some v13 ∧ (W.alloc o2).cell? ⟨B2, 0, none⟩ = some v20 ∧ (W.alloc o2).cell? ⟨B2, 1, none⟩ = some v21 ∧ (W.alloc o2).cell? ⟨B2, 2, none⟩ = some v22 ∧ (W.alloc o2).cell? ⟨B2, 3, none⟩ = some v23 :=
  let ⟨k0, k1, k2, k3, k4, k5, k6, k7, k8, k9, k10, k11⟩ := h
  ⟨cl_re k0 h0 o2, cl_re k1 h0 o2, cl_re k2 h0 o2, cl_re k3 h0 o2, cl_re k4 h1 o2, cl_re k5 h1 o2, cl_re k6 h1 o2, cl_re k7 h1 o2, cl_re k8 h2 o2, cl_re k9 h2 o2, cl_re k10 h2 o2, cl_re k11 h2 o2⟩

theorem ppp_drew (h : W.cell? ⟨B0, 0, none⟩ = some v00 ∧ W.cell? ⟨B0, 1, none⟩ = some v01 ∧ W.cell? ⟨B0, 2, none⟩ = some v02 ∧ W.cell? ⟨B0, 3, none⟩ = some v03 ∧ W.cell? ⟨B1, 0, none⟩ = some v10 ∧ W.cell? ⟨B1, 1, none⟩ = some v11 ∧ W.cell? ⟨B1, 2, none⟩ = some v12 ∧ W.cell? ⟨B1, 3, none⟩ = some v13 ∧ W.cell? ⟨B2, 0, none⟩ = some v20 ∧ W.cell? ⟨B2, 1, none⟩ = some v21 ∧ W.cell? ⟨B2, 2, none⟩ = some v22 ∧ W.cell? ⟨B2, 3, none⟩ = some v23) : W.drew.cell? ⟨B0, 0, none⟩ = some v00 ∧ W.drew.cell? ⟨B0, 1, none⟩ = some v01 ∧ W.drew.cell? ⟨B0, 2, none⟩ = some v02 ∧ W.drew.cell? ⟨B0, 3, none⟩ = some v03 ∧ W.drew.cell? ⟨B1, 0, none⟩ = some v10 ∧ W.drew.cell? ⟨B1, 1, none⟩ = some v11 ∧ W.drew.cell? ⟨B1, 2, none⟩ = some v12 ∧ W.drew.cell? ⟨B1, 3, none⟩ = some v13 ∧ W.drew.cell? ⟨B2, 0, none⟩ = some v20 ∧ W.drew.cell? ⟨B2, 1, none⟩ = some v21 ∧ W.drew.cell? ⟨B2, 2, none⟩ = some v22 ∧ W.drew.cell? ⟨B2, 3, none⟩ = some v23 := h

theorem ppp_undrew (h : W.drew.cell? ⟨B0, 0, none⟩ = some v00 ∧ W.drew.cell? ⟨B0, 1, none⟩ = some v01 ∧ W.drew.cell? ⟨B0, 2, none⟩ = some v02 ∧ W.drew.cell? ⟨B0, 3, none⟩ = some v03 ∧ W.drew.cell? ⟨B1, 0, none⟩ = some v10 ∧ W.drew.cell? ⟨B1, 1, none⟩ = some v11 ∧ W.drew.cell? ⟨B1, 2, none⟩ = some v12 ∧ W.drew.cell? ⟨B1, 3, none⟩ = some v13 ∧ W.drew.cell? ⟨B2, 0, none⟩ = some v20 ∧ W.drew.cell? ⟨B2, 1, none⟩ = some v21 ∧ W.drew.cell? ⟨B2, 2, none⟩ = some v22 ∧ W.drew.cell? ⟨B2, 3, none⟩ = some v23) : W.cell? ⟨B0, 0, none⟩ = some v00 ∧ W.cell? ⟨B0, 1, none⟩ = some v01 ∧ W.cell? ⟨B0, 2, none⟩ = some v02 ∧ W.cell? ⟨B0, 3, none⟩ = some v03 ∧ W.cell? ⟨B1, 0, none⟩ = some v10 ∧ W.cell? ⟨B1, 1, none⟩ = some v11 ∧ W.cell? ⟨B1, 2, none⟩ = some v12 ∧ W.cell? ⟨B1, 3, none⟩ = some v13 ∧ W.cell? ⟨B2, 0, none⟩ = some v20 ∧ W.cell? ⟨B2, 1, none⟩ = some v21 ∧ W.cell? ⟨B2, 2, none⟩ = some v22 ∧ W.cell? ⟨B2, 3, none⟩ = some v23 := h

theorem ppp_set (h : W.cell? ⟨B0, 0, none⟩ = some v00 ∧ W.cell? ⟨B0, 1, none⟩ = some v01 ∧ W.cell? ⟨B0, 2, none⟩ = some v02 ∧ W.cell? ⟨B0, 3, none⟩ = some v03 ∧ W.cell? ⟨B1, 0, none⟩ = some v10 ∧ W.cell? ⟨B1, 1, none⟩ = some v11 ∧ W.cell? ⟨B1, 2, none⟩ = some v12 ∧ W.cell? ⟨B1, 3, none⟩ = some v13 ∧ W.cell? ⟨B2, 0, none⟩ = some v20 ∧ W.cell? ⟨B2, 1, none⟩ = some v21 ∧ W.cell? ⟨B2, 2, none⟩ = some v22 ∧ W.cell? ⟨B2, 3, none⟩ = some v23) (p : Addr) (u : Value) (h0 : p.block ≠ B0) (h1 : p.block ≠ B1) (h2 : p.block ≠ B2) : (W.setCell p u).cell? ⟨B0, 0, none⟩ = some v00 ∧ (W.setCell p u).cell? ⟨B0, 1, none⟩ = some v01 ∧ (W.setCell p u).cell? ⟨B0, 2, none⟩ = some v02 ∧ (W.setCell p u).cell? ⟨B0, 3, none⟩ = some v03 ∧ (W.setCell p u).cell? ⟨B1, 0, none⟩ = some v10 ∧ (W.setCell p u).cell? ⟨B1, 1, none⟩ = some v11 ∧ (W.setCell p u).cell? ⟨B1, 2, none⟩ = some v12 ∧ (W.setCell p u).cell? ⟨B1, 3, none⟩ = some v13 ∧ (W.setCell p u).cell? ⟨B2, 0, none⟩ = some v20 ∧ (W.setCell p u).cell? ⟨B2, 1, none⟩ = some v21 ∧ (W.setCell p u).cell? ⟨B2, 2, none⟩ = some v22 ∧ (W.setCell p u).cell? ⟨B2, 3, none⟩ = some v23 :=
  let ⟨k0, k1, k2, k3, k4, k5, k6, k7, k8, k9, k10, k11⟩ := h
  ⟨cl_set k0 p u h0, cl_set k1 p u h0, cl_set k2 p u h0, cl_set k3 p u h0, cl_set k4 p u h1, cl_set k5 p u h1, cl_set k6 p u h1, cl_set k7 p u h1, cl_set k8 p u h2, cl_set k9 p u h2, cl_set k10 p u h2, cl_set k11 p u h2⟩
end

section
variable {B0 B1 : Nat} {v00 v01 v10 v11 : Value} {W w1 : World}
theorem ss_below (h : W.cell? ⟨B0, 0, none⟩ = some v00 ∧ W.cell? ⟨B0, 1, none⟩ = some v01 ∧ W.cell? ⟨B1, 0, none⟩ = some v10 ∧ W.cell? ⟨B1, 1, none⟩ = some v11) (h0 : B0 < W.heap.size) (h1 : B1 < W.heap.size) (hb : Below W.heap.size W w1) : w1.cell? ⟨B0, 0, none⟩ = some v00 ∧ w1.cell? ⟨B0, 1, none⟩ = some v01 ∧ w1.cell? ⟨B1, 0, none⟩ = some v10 ∧ w1.cell? ⟨B1, 1, none⟩ = some v11 :=
  let ⟨k0, k1, k2, k3⟩ := h
  ⟨cl_below k0 h0 hb, cl_below k1 h0 hb, cl_below k2 h1 hb, cl_below k3 h1 hb⟩

theorem ss_alloc (h : W.cell? ⟨B0, 0, none⟩ = some v00 ∧ W.cell? ⟨B0, 1, none⟩ = some v01 ∧ W.cell? ⟨B1, 0, none⟩ = some v10 ∧ W.cell? ⟨B1, 1, none⟩ = some v11) (o : Obj) : (W.alloc o).cell? ⟨B0, 0, none⟩ = some v00 ∧ (W.alloc o).cell? ⟨B0, 1, none⟩ = some v01 ∧ (W.alloc o).cell? ⟨B1, 0, none⟩ = some v10 ∧ (W.alloc o).cell? ⟨B1, 1, none⟩ = some v11 :=
  let ⟨k0, k1, k2, k3⟩ := h
  ⟨cl_alloc k0 o, cl_alloc k1 o, cl_alloc k2 o, cl_alloc k3 o⟩

theorem ss_re {o : Obj} (h : (W.alloc o).cell? ⟨B0, 0, none⟩ = some v00 ∧ (W.alloc o).cell? ⟨B0, 1, none⟩ = some v01 ∧ (W.alloc o).cell? ⟨B1, 0, none⟩ = some v10 ∧ (W.alloc o).cell? ⟨B1, 1, none⟩ = some v11) (h0 : B0 < W.heap.size) (h1 : B1 < W.heap.size) (o2 : Obj) : (W.alloc o2).cell? ⟨B0, 0, none⟩ = some v00 ∧ (W.alloc o2).cell? ⟨B0, 1, none⟩ = some v01 ∧ (W.alloc o2).cell? ⟨B1, 0, none⟩ = some v10 ∧ (W.alloc o2).cell? ⟨B1, 1, none⟩ = some v11 :=
  let ⟨k0, k1, k2, k3⟩ := h
  ⟨cl_re k0 h0 o2, cl_re k1 h0 o2, cl_re k2 h1 o2, cl_re k3 h1 o2⟩

theorem ss_drew (h : W.cell? ⟨B0, 0, none⟩ = some v00 ∧ W.cell? ⟨B0, 1, none⟩ = some v01 ∧ W.cell? ⟨B1, 0, none⟩ = some v10 ∧ W.cell? ⟨B1, 1, none⟩ = some v11) : W.drew.cell? ⟨B0, 0, none⟩ = some v00 ∧ W.drew.cell? ⟨B0, 1, none⟩ = some v01 ∧ W.drew.cell? ⟨B1, 0, none⟩ = some v10 ∧ W.drew.cell? ⟨B1, 1, none⟩ = some v11 := h

theorem ss_undrew (h : W.drew.cell? ⟨B0, 0, none⟩ = some v00 ∧ W.drew.cell? ⟨B0, 1, none⟩ = some v01 ∧ W.drew.cell? ⟨B1, 0, none⟩ = some v10 ∧ W.drew.cell? ⟨B1, 1, none⟩ = some v11) : W.cell? ⟨B0, 0, none⟩ = some v00 ∧ W.cell? ⟨B0, 1, none⟩ = some v01 ∧ W.cell? ⟨B1, 0, none⟩ = some v10 ∧ W.cell? ⟨B1, 1, none⟩ = some v11 := h

theorem ss_set (h : W.cell? ⟨B0, 0, none⟩ = some v00 ∧ W.cell? ⟨B0, 1, none⟩ = some v01 ∧ W.cell? ⟨B1, 0, none⟩ = some v10 ∧ W.cell? ⟨B1, 1, none⟩ = some v11) (p : Addr) (u : Value) (h0 : p.block ≠ B0) (h1 : p.block ≠ B1) : (W.setCell p u).cell? ⟨B0, 0, none⟩ = some v00 ∧ (W.setCell p u).cell? ⟨B0, 1, none⟩ = some v01 ∧ (W.setCell p u).cell? ⟨B1, 0, none⟩ = some v10 ∧ (W.setCell p u).cell? ⟨B1, 1, none⟩ = some v11 :=
  let ⟨k0, k1, k2, k3⟩ := h
  ⟨cl_set k0 p u h0, cl_set k1 p u h0, cl_set k2 p u h1, cl_set k3 p u h1⟩
end

section
variable {B0 B1 B2 : Nat} {v00 v01 v10 v11 v20 v21 : Value} {W w1 : World}
theorem sss_below (h : W.cell? ⟨B0, 0, none⟩ = some v00 ∧ W.cell? ⟨B0, 1, none⟩ = some v01 ∧ W.cell? ⟨B1, 0, none⟩ = some v10 ∧ W.cell? ⟨B1, 1, none⟩ = some v11 ∧ W.cell? ⟨B2, 0, none⟩ = some v20 ∧ W.cell? ⟨B2, 1, none⟩ = some v21) (h0 : B0 < W.heap.size) (h1 : B1 < W.heap.size) (h2 : B2 < W.heap.size) (hb : Below W.heap.size W w1) : w1.cell? ⟨B0, 0, none⟩ = some v00 ∧ w1.cell? ⟨B0, 1, none⟩ = some v01 ∧ w1.cell? ⟨B1, 0, none⟩ = some v10 ∧ w1.cell? ⟨B1, 1, none⟩ = some v11 ∧ w1.cell? ⟨B2, 0, none⟩ = some v20 ∧ w1.cell? ⟨B2, 1, none⟩ = some v21 :=
  let ⟨k0, k1, k2, k3, k4, k5⟩ := h
  ⟨cl_below k0 h0 hb, cl_below k1 h0 hb, cl_below k2 h1 hb, cl_below k3 h1 hb, cl_below k4 h2 hb, cl_below k5 h2 hb⟩

theorem sss_alloc (h : W.cell? ⟨B0, 0, none⟩ = some v00 ∧ W.cell? ⟨B0, 1, none⟩ = some v01 ∧ W.cell? ⟨B1, 0, none⟩ = some v10 ∧ W.cell? ⟨B1, 1, none⟩ = some v11 ∧ W.cell? ⟨B2, 0, none⟩ = some v20 ∧ W.cell? ⟨B2, 1, none⟩ = some v21) (o : Obj) : (W.alloc o).cell? ⟨B0, 0, none⟩ = some v00 ∧ (W.alloc o).cell? ⟨B0, 1, none⟩ = some v01 ∧ (W.alloc o).cell? ⟨B1, 0, none⟩ = some v10 ∧ (W.alloc o).cell? ⟨B1, 1, none⟩ = some v11 ∧ (W.alloc o).cell? ⟨B2, 0, none⟩ = some v20 ∧ (W.alloc o).cell? ⟨B2, 1, none⟩ = some v21 :=
  let ⟨k0, k1, k2, k3, k4, k5⟩ := h
  ⟨cl_alloc k0 o, cl_alloc k1 o, cl_alloc k2 o, cl_alloc k3 o, cl_alloc k4 o, cl_alloc k5 o⟩

theorem sss_re {o : Obj} (h : (W.alloc o).cell? ⟨B0, 0, none⟩ = some v00 ∧ (W.alloc o).cell? ⟨B0, 1, none⟩ = some v01 ∧ (W.alloc o).cell? ⟨B1, 0, none⟩ = some v10 ∧ (W.alloc o).cell? ⟨B1, 1, none⟩ = some v11 ∧ (W.alloc o).cell? ⟨B2, 0, none⟩ = some v20 ∧ (W.alloc o).cell? ⟨B2, 1, none⟩ = some v21) (h0 : B0 < W.heap.size) (h1 : B1 < W.heap.size) (h2 : B2 < W.heap.size) (o2 : Obj) : (W.alloc o2).cell? ⟨B0, 0, none⟩ = some v00 ∧ (W.alloc o2).cell? ⟨B0, 1, none⟩ = some v01 ∧ (W.alloc o2).cell? ⟨B1, 0, none⟩ = some v10 ∧ (W.alloc o2).cell? ⟨B1, 1, none⟩ = some v11 ∧ (W.alloc o2).cell? ⟨B2, 0, none⟩ = some v20 ∧ (W.alloc o2).cell? ⟨B2, 1, none⟩ = some v21 :=
  let ⟨k0, k1, k2, k3, k4, k5⟩ := h
  ⟨cl_re k0 h0 o2, cl_re k1 h0 o2, cl_re k2 h1 o2, cl_re k3 h1 o2, cl_re k4 h2 o2, cl_re k5 h2 o2⟩

theorem sss_drew (h : W.cell? ⟨B0, 0, none⟩ = some v00 ∧ W.cell? ⟨B0, 1, none⟩ = some v01 ∧ W.cell? ⟨B1, 0, none⟩ = some v10 ∧ W.cell? ⟨B1, 1, none⟩ = some v11 ∧ W.cell? ⟨B2, 0, none⟩ = some v20 ∧ W.cell? ⟨B2, 1, none⟩ = some v21) : W.drew.cell? ⟨B0, 0, none⟩ = some v00 ∧ W.drew.cell? ⟨B0, 1, none⟩ = some v01 ∧ W.drew.cell? ⟨B1, 0, none⟩ = some v10 ∧ W.drew.cell? ⟨B1, 1, none⟩ = some v11 ∧ W.drew.cell? ⟨B2, 0, none⟩ = some v20 ∧ W.drew.cell? ⟨B2, 1, none⟩ = some v21 := h

theorem sss_undrew (h : W.drew.cell? ⟨B0, 0, none⟩ = some v00 ∧ W.drew.cell? ⟨B0, 1, none⟩ = some v01 ∧ W.drew.cell? ⟨B1, 0, none⟩ = some v10 ∧ W.drew.cell? ⟨B1, 1, none⟩ = some v11 ∧ W.drew.cell? ⟨B2, 0, none⟩ = some v20 ∧ W.drew.cell? ⟨B2, 1, none⟩ = some v21) : W.cell? ⟨B0, 0, none⟩ = some v00 ∧ W.cell? ⟨B0, 1, none⟩ = some v01 ∧ W.cell? ⟨B1, 0, none⟩ = some v10 ∧ W.cell? ⟨B1, 1, none⟩ = some v11 ∧ W.cell? ⟨B2, 0, none⟩ = some v20 ∧ W.cell? ⟨B2, 1, none⟩ = some v21 := h

theorem sss_set (h : W.cell? ⟨B0, 0, none⟩ = some v00 ∧ W.cell? ⟨B0, 1, none⟩ = some v01 ∧ W.cell? ⟨B1, 0, none⟩ = some v10 ∧ W.cell? ⟨B1, 1, none⟩ = some v11 ∧ W.cell? ⟨B2, 0, none⟩ = some v20 ∧ W.cell? ⟨B2, 1, none⟩ = some v21) (p : Addr) (u : Value) (h0 : p.block ≠ B0) (h1 : p.block ≠ B1) (h2 : p.block ≠ B2) : (W.setCell p u).cell? ⟨B0, 0, none⟩ = some v00 ∧ (W.setCell p u).cell? ⟨B0, 1, none⟩ = some v01 ∧ (W.setCell p u).cell? ⟨B1, 0, none⟩ = some v10 ∧ (W.setCell p u).cell? ⟨B1, 1, none⟩ = some v11 ∧ (W.setCell p u).cell? ⟨B2, 0, none⟩ = some v20 ∧ (W.setCell p u).cell? ⟨B2, 1, none⟩ = some v21 :=
  let ⟨k0, k1, k2, k3, k4, k5⟩ := h
  ⟨cl_set k0 p u h0, cl_set k1 p u h0, cl_set k2 p u h1, cl_set k3 p u h1, cl_set k4 p u h2, cl_set k5 p u h2⟩
end

theorem p_below {n : Nat} {v0 v1 v2 v3 : Value} {W w1 : World} (h : W.cell? ⟨n, 0, none⟩ = some v0 ∧ W.cell? ⟨n, 1, none⟩ = some v1 ∧ W.cell? ⟨n, 2, none⟩ = some v2 ∧ W.cell? ⟨n, 3, none⟩ = some v3) (hn : n < W.heap.size) (hb : Below W.heap.size W w1) :
    w1.cell? ⟨n, 0, none⟩ = some v0 ∧ w1.cell? ⟨n, 1, none⟩ = some v1 ∧ w1.cell? ⟨n, 2, none⟩ = some v2 ∧ w1.cell? ⟨n, 3, none⟩ = some v3 :=
  ⟨cl_below h.1 hn hb, cl_below h.2.1 hn hb, cl_below h.2.2.1 hn hb, cl_below h.2.2.2 hn hb⟩

theorem p_drew {n : Nat} {v0 v1 v2 v3 : Value} {W : World} (h : W.cell? ⟨n, 0, none⟩ = some v0 ∧ W.cell? ⟨n, 1, none⟩ = some v1 ∧ W.cell? ⟨n, 2, none⟩ = some v2 ∧ W.cell? ⟨n, 3, none⟩ = some v3) :
    W.drew.cell? ⟨n, 0, none⟩ = some v0 ∧ W.drew.cell? ⟨n, 1, none⟩ = some v1 ∧ W.drew.cell? ⟨n, 2, none⟩ = some v2 ∧ W.drew.cell? ⟨n, 3, none⟩ = some v3 := h
section
variable {B0 : Nat} {v00 v01 v02 v03 : Value} {W w1 : World}

theorem po_below (h : W.cell? ⟨B0, 0, none⟩ = some v00 ∧ W.cell? ⟨B0, 1, none⟩ = some v01 ∧ W.cell? ⟨B0, 2, none⟩ = some v02 ∧ W.cell? ⟨B0, 3, none⟩ = some v03) (h0 : B0 < W.heap.size) (hb : Below W.heap.size W w1) : w1.cell? ⟨B0, 0, none⟩ = some v00 ∧ w1.cell? ⟨B0, 1, none⟩ = some v01 ∧ w1.cell? ⟨B0, 2, none⟩ = some v02 ∧ w1.cell? ⟨B0, 3, none⟩ = some v03 :=
  let ⟨k0, k1, k2, k3⟩ := h
  ⟨cl_below k0 h0 hb, cl_below k1 h0 hb, cl_below k2 h0 hb, cl_below k3 h0 hb⟩

theorem po_alloc (h : W.cell? ⟨B0, 0, none⟩ = some v00 ∧ W.cell? ⟨B0, 1, none⟩ = some v01 ∧ W.cell? ⟨B0, 2, none⟩ = some v02 ∧ W.cell? ⟨B0, 3, none⟩ = some v03) (o : Obj) : (W.alloc o).cell? ⟨B0, 0, none⟩ = some v00 ∧ (W.alloc o).cell? ⟨B0, 1, none⟩ = some v01 ∧ (W.alloc o).cell? ⟨B0, 2, none⟩ = some v02 ∧ (W.alloc o).cell? ⟨B0, 3, none⟩ = some v03 :=
  let ⟨k0, k1, k2, k3⟩ := h
  ⟨cl_alloc k0 o, cl_alloc k1 o, cl_alloc k2 o, cl_alloc k3 o⟩

theorem po_re {o : Obj} (h : (W.alloc o).cell? ⟨B0, 0, none⟩ = some v00 ∧ (W.alloc o).cell? ⟨B0, 1, none⟩ = some v01 ∧ (W.alloc o).cell? ⟨B0, 2, none⟩ = some v02 ∧ (W.alloc o).cell? ⟨B0, 3, none⟩ = some v03) (h0 : B0 < W.heap.size) (o2 : Obj) : (W.alloc o2).cell? ⟨B0, 0, none⟩ = some v00 ∧ (W.alloc o2).cell? ⟨B0, 1, none⟩ = some v01 ∧ (W.alloc o2).cell? ⟨B0, 2, none⟩ = some v02 ∧ (W.alloc o2).cell? ⟨B0, 3, none⟩ = some v03 :=
  let ⟨k0, k1, k2, k3⟩ := h
  ⟨cl_re k0 h0 o2, cl_re k1 h0 o2, cl_re k2 h0 o2, cl_re k3 h0 o2⟩

theorem po_drew (h : W.cell? ⟨B0, 0, none⟩ = some v00 ∧ W.cell? ⟨B0, 1, none⟩ = some v01 ∧ W.cell? ⟨B0, 2, none⟩ = some v02 ∧ W.cell? ⟨B0, 3, none⟩ = some v03) : W.drew.cell? ⟨B0, 0, none⟩ = some v00 ∧ W.drew.cell? ⟨B0, 1, none⟩ = some v01 ∧ W.drew.cell? ⟨B0, 2, none⟩ = some v02 ∧ W.drew.cell? ⟨B0, 3, none⟩ = some v03 := h

theorem po_undrew (h : W.drew.cell? ⟨B0, 0, none⟩ = some v00 ∧ W.drew.cell? ⟨B0, 1, none⟩ = some v01 ∧ W.drew.cell? ⟨B0, 2, none⟩ = some v02 ∧ W.drew.cell? ⟨B0, 3, none⟩ = some v03) : W.cell? ⟨B0, 0, none⟩ = some v00 ∧ W.cell? ⟨B0, 1, none⟩ = some v01 ∧ W.cell? ⟨B0, 2, none⟩ = some v02 ∧ W.cell? ⟨B0, 3, none⟩ = some v03 := h

theorem po_set (h : W.cell? ⟨B0, 0, none⟩ = some v00 ∧ W.cell? ⟨B0, 1, none⟩ = some v01 ∧ W.cell? ⟨B0, 2, none⟩ = some v02 ∧ W.cell? ⟨B0, 3, none⟩ = some v03) (p : Addr) (u : Value) (h0 : p.block ≠ B0) : (W.setCell p u).cell? ⟨B0, 0, none⟩ = some v00 ∧ (W.setCell p u).cell? ⟨B0, 1, none⟩ = some v01 ∧ (W.setCell p u).cell? ⟨B0, 2, none⟩ = some v02 ∧ (W.setCell p u).cell? ⟨B0, 3, none⟩ = some v03 :=
  let ⟨k0, k1, k2, k3⟩ := h
  ⟨cl_set k0 p u h0, cl_set k1 p u h0, cl_set k2 p u h0, cl_set k3 p u h0⟩
end

theorem po_start (a0 a1 a2 a3 : Int) (w : World) (t : TypeId) : (w.alloc (.cells #[.int .i64 a0, .int .i64 a1, .int .i64 a2, .int .i64 a3] t)).cell? ⟨w.heap.size, 0, none⟩ = some (.int .i64 a0) ∧ (w.alloc (.cells #[.int .i64 a0, .int .i64 a1, .int .i64 a2, .int .i64 a3] t)).cell? ⟨w.heap.size, 1, none⟩ = some (.int .i64 a1) ∧ (w.alloc (.cells #[.int .i64 a0, .int .i64 a1, .int .i64 a2, .int .i64 a3] t)).cell? ⟨w.heap.size, 2, none⟩ = some (.int .i64 a2) ∧ (w.alloc (.cells #[.int .i64 a0, .int .i64 a1, .int .i64 a2, .int .i64 a3] t)).cell? ⟨w.heap.size, 3, none⟩ = some (.int .i64 a3) := by
  refine ⟨?_, ?_, ?_, ?_⟩ <;> go_simp

theorem ss_start (s0 s1 t0 t1 : Int) (w : World) (t s : TypeId) : ((w.alloc (.cells #[.int .i64 s0, .int .i64 s1] t)).alloc (.cells #[.int .i64 t0, .int .i64 t1] s)).cell? ⟨w.heap.size, 0, none⟩ = some (.int .i64 s0) ∧ ((w.alloc (.cells #[.int .i64 s0, .int .i64 s1] t)).alloc (.cells #[.int .i64 t0, .int .i64 t1] s)).cell? ⟨w.heap.size, 1, none⟩ = some (.int .i64 s1) ∧
    ((w.alloc (.cells #[.int .i64 s0, .int .i64 s1] t)).alloc (.cells #[.int .i64 t0, .int .i64 t1] s)).cell? ⟨w.heap.size + 1, 0, none⟩ = some (.int .i64 t0) ∧ ((w.alloc (.cells #[.int .i64 s0, .int .i64 s1] t)).alloc (.cells #[.int .i64 t0, .int .i64 t1] s)).cell? ⟨w.heap.size + 1, 1, none⟩ = some (.int .i64 t1) := by
  refine ⟨?_, ?_, ?_, ?_⟩ <;> go_simp

theorem pp_start (a0 a1 a2 a3 : Int) (b0 b1 b2 b3 : Int) (w : World) (t s : TypeId) : ((w.alloc (.cells #[.int .i64 a0, .int .i64 a1, .int .i64 a2, .int .i64 a3] t)).alloc (.cells #[.int .i64 b0, .int .i64 b1, .int .i64 b2, .int .i64 b3] s)).cell? ⟨w.heap.size, 0, none⟩ = some (.int .i64 a0) ∧ ((w.alloc (.cells #[.int .i64 a0, .int .i64 a1, .int .i64 a2, .int .i64 a3] t)).alloc (.cells #[.int .i64 b0, .int .i64 b1, .int .i64 b2, .int .i64 b3] s)).cell? ⟨w.heap.size, 1, none⟩ = some (.int .i64 a1) ∧ ((w.alloc (.cells #[.int .i64 a0, .int .i64 a1, .int .i64 a2, .int .i64 a3] t)).alloc (.cells #[.int .i64 b0, .int .i64 b1, .int .i64 b2, .int .i64 b3] s)).cell? ⟨w.heap.size, 2, none⟩ = some (.int .i64 a2) ∧ ((w.alloc (.cells #[.int .i64 a0, .int .i64 a1, .int .i64 a2, .int .i64 a3] t)).alloc (.cells #[.int .i64 b0, .int .i64 b1, .int .i64 b2, .int .i64 b3] s)).cell? ⟨w.heap.size, 3, none⟩ = some (.int .i64 a3) ∧ ((w.alloc (.cells #[.int .i64 a0, .int .i64 a1, .int .i64 a2, .int .i64 a3] t)).alloc (.cells #[.int .i64 b0, .int .i64 b1, .int .i64 b2, .int .i64 b3] s)).cell? ⟨w.heap.size + 1, 0, none⟩ = some (.int .i64 b0) ∧ ((w.alloc (.cells #[.int .i64 a0, .int .i64 a1, .int .i64 a2, .int .i64 a3] t)).alloc (.cells #[.int .i64 b0, .int .i64 b1, .int .i64 b2, .int .i64 b3] s)).cell? ⟨w.heap.size + 1, 1, none⟩ = some (.int .i64 b1) ∧ ((w.alloc (.cells #[.int .i64 a0, .int .i64 a1, .int .i64 a2, .int .i64 a3] t)).alloc (.cells #[.int .i64 b0, .int .i64 b1, .int .i64 b2, .int .i64 b3] s)).cell? ⟨w.heap.size + 1, 2, none⟩ = some (.int .i64 b2) ∧ ((w.alloc (.cells #[.int .i64 a0, .int .i64 a1, .int .i64 a2, .int .i64 a3] t)).alloc (.cells #[.int .i64 b0, .int .i64 b1, .int .i64 b2, .int .i64 b3] s)).cell? ⟨w.heap.size + 1, 3, none⟩ = some (.int .i64 b3) := by
  refine ⟨?_, ?_, ?_, ?_, ?_, ?_, ?_, ?_⟩ <;> go_simp

end Go.Proofs.Ythiimllafcfieaa

/- Texts of pieces, as lists of bytes: which are tracks; what is counted, mirrored and turned round in them. -/
namespace Go.Proofs.Ythiimllafcfieaa

def pcb (c : UInt8) : Bool := c == 83 || (c == 76 || c == 82)

def tkB (s : ByteArray) : Bool := decide (s.size ≤ 40) && s.data.toList.all pcb

theorem pcb_cases {c : UInt8} (h : pcb c = true) : c = 83 ∨ (c = 76 ∨ c = 82) := by
  simpa [pcb, Bool.or_eq_true, beq_iff_eq] using h

theorem take_snoc (s : ByteArray) (k : Nat) (h : k < s.size) : s.data.toList.take (k + 1) = s.data.toList.take k ++ [s[k]] := by
  rw [List.take_succ_eq_append_getElem (by simpa using h)]; rfl

theorem take_all (s : ByteArray) {k : Nat} (h : ¬ k < s.size) : s.data.toList.take k = s.data.toList := List.take_of_length_le (by simp; omega)

theorem all_snoc {s : ByteArray} {k : Nat} (h : k < s.size) (ha : (s.data.toList.take k).all pcb = true) (hp : pcb s[k] = true) : (s.data.toList.take (k + 1)).all pcb = true := by
  rw [take_snoc s k h, List.all_append, ha]; simp [hp]

theorem tkB_no {s : ByteArray} {k : Nat} (h : k < s.size) (hp : pcb s[k] = false) : tkB s = false := by
  have hm : s[k] ∈ s.data.toList := by
    have := List.getElem_mem (l := s.data.toList) (n := k) (by simpa using h)
    exact this
  have : s.data.toList.all pcb = false := by
    rw [List.all_eq_false]
    exact ⟨s[k], hm, by simp [hp]⟩
  simp [tkB, this]

theorem tkB_yes {s : ByteArray} (h : s.size ≤ 40) {k : Nat} (hk : ¬ k < s.size) (ha : (s.data.toList.take k).all pcb = true) : tkB s = true := by
  rw [take_all s hk] at ha
  simp [tkB, h, ha]

theorem tkB_long {s : ByteArray} (h : ¬ s.size ≤ 40) : tkB s = false := by simp [tkB, h]

theorem tkB_size {s : ByteArray} (h : tkB s = true) : s.size ≤ 40 := by
  simp only [tkB, Bool.and_eq_true, decide_eq_true_eq] at h
  exact h.1

theorem tkB_list {s : ByteArray} (h : tkB s = true) : ∀ c ∈ s.data.toList, pcb c = true := by
  simp only [tkB, Bool.and_eq_true, List.all_eq_true] at h
  exact h.2

theorem tkB_at {s : ByteArray} (h : tkB s = true) {k : Nat} (hk : k < s.size) : pcb s[k] = true := by
  refine tkB_list h _ ?_
  have := List.getElem_mem (l := s.data.toList) (n := k) (by simpa using hk)
  exact this

theorem size_list (s : ByteArray) : s.data.toList.length = s.size := by simp

theorem ext_one (s : ByteArray) (k : Nat) (h : k < s.size) : s.extract k (k + 1) = ⟨#[s[k]]⟩ := by
  apply ByteArray.ext
  rw [ByteArray.data_extract]
  apply Array.ext
  · simp; omega
  · intro i h1 h2
    simp at h2
    subst h2
    simp
    rfl

def mir (c : UInt8) : UInt8 := if c == 76 then 82 else if c == 82 then 76 else c

def ofL (l : List UInt8) : ByteArray := ⟨l.toArray⟩

theorem ofL_snoc (l : List UInt8) (c : UInt8) : ofL l ++ ⟨#[c]⟩ = ofL (l ++ [c]) := by
  apply ByteArray.ext
  rw [ByteArray.data_append]
  simp [ofL]

theorem ofL_append (l m : List UInt8) : ofL l ++ ofL m = ofL (l ++ m) := by
  apply ByteArray.ext
  rw [ByteArray.data_append]
  simp [ofL]

theorem ofL_self (s : ByteArray) : ofL s.data.toList = s := by
  apply ByteArray.ext
  simp [ofL]

theorem ofL_size (l : List UInt8) : (ofL l).size = l.length := by simp [ofL, ByteArray.size]

/-- How often c is in l. -/
def cnt (c : UInt8) (l : List UInt8) : Nat := l.count c

theorem cnt_snoc (c d : UInt8) (l : List UInt8) : cnt c (l ++ [d]) = cnt c l + (if d == c then 1 else 0) := by
  unfold cnt
  rw [List.count_append, List.count_singleton]

theorem cnt_le (c : UInt8) (l : List UInt8) : cnt c l ≤ l.length := List.count_le_length

end Go.Proofs.Ythiimllafcfieaa

/- Small rules on worlds that have grown. -/
namespace Go.Proofs.Ythiimllafcfieaa
open Go.ChangeShapes Go.WideShapes Go.ChangeAt Go.RowKit

theorem bcell {W w1 : World} (hb : Below W.heap.size W w1) : (∀ b o, b < W.heap.size → w1.cell? ⟨b, o, none⟩ = W.cell? ⟨b, o, none⟩) ∧ (∀ b o, b < W.heap.size → w1.frozen? ⟨b, o, none⟩ = W.frozen? ⟨b, o, none⟩) :=
  ⟨fun b o h => hb.cell (p := ⟨b, o, none⟩) h, fun b o h => hb.frozen (p := ⟨b, o, none⟩) h⟩

theorem undrew {W w1 : World} (h : Below W.drew.heap.size W.drew w1) : Below W.heap.size W w1 := ⟨h.os, h.tape, h.output, h.size, h.block⟩

theorem blt {W w1 : World} (hb : Below W.heap.size W w1) : ∀ n, n < W.heap.size → n < w1.heap.size := fun _ h => Nat.lt_of_lt_of_le h hb.size

theorem lt2 : ∀ n : Nat, n < n + 1 + 1 := fun _ => by omega

theorem lt3 : ∀ n : Nat, n < n + 1 + 1 + 1 := fun _ => by omega

/-- One stretch behind another: what was there at the first one's beginning has not turned. -/
theorem ba {a b c : World} (h : Below a.heap.size a b) (k : Below b.heap.size b c) : Below a.heap.size a c := h.trans (k.mono h.size)

/-- A contract that leaves the world alone, turned for a region. -/
theorem turned {P : Program} {f : FuncId} {args : Array Value} {w : World} {v : Value} (h : Calls P f args w fun e w' => e = .returned v ∧ w = w') : Calls P f args w fun e w' => e = .returned v ∧ w' = w :=
  h.mono fun _ _ h => ⟨h.1, h.2.symm⟩

/-- A contract that leaves the world alone, for one that makes memory. -/
theorem grownOf {P : Program} {f : FuncId} {args : Array Value} {w : World} {v : Value} (h : Calls P f args w fun e w' => e = .returned v ∧ w = w') : Calls P f args w fun e w' => e = .returned v ∧ Below w.heap.size w w' :=
  h.mono fun _ _ ⟨h1, h2⟩ => ⟨h1, by subst h2; exact Below.refl _ _⟩

end Go.Proofs.Ythiimllafcfieaa

/- Contracts for points: which numbers are a point's, in the model and in the program; a point is handed on and compared. -/
namespace Go.Proofs.Ythiimllafcfieaa
open Go.ChangeShapes Go.WideShapes Go.ChangeAt Go.RowKit

def goodB (a b c d : Int) : Bool := decide (-999999 ≤ a ∧ a ≤ 999999 ∧ -999999 ≤ b ∧ b ≤ 999999 ∧ -999999 ≤ c ∧ c ≤ 999999 ∧ -999999 ≤ d ∧ d ≤ 999999)

/-- '==' on two points, the model's entry reckoned once. -/
@[go_sem high] theorem eqPt (a0 a1 a2 a3 : Int) (b0 b1 b2 b3 : Int) (w : World) : (binOp .eql 60 (.agg #[.int .i64 a0, .int .i64 a1, .int .i64 a2, .int .i64 a3]) (.agg #[.int .i64 b0, .int .i64 b1, .int .i64 b2, .int .i64 b3])).run Try.prog w = .ok (.bool (a0 == b0 && (a1 == b1 && (a2 == b2 && a3 == b3)))) w := by
  have hS : Try.prog.underlying 60 = some (.struct (Try.prog.fieldsOf 60)) := by kernel_rfl
  have hp : Try.prog.stoodInHeld 60 = false := by kernel_rfl
  rw [run_eql_struct, show (10000 : Nat) = 9999 + 1 from rfl, run_equalIn_agg w 9999 60 _ _ hS hp]
  simp only [Program.fieldsOf, Try.underlying60]
  go_simp
  by_cases h0 : a0 = b0 <;> by_cases h1 : a1 = b1 <;> by_cases h2 : a2 = b2 <;> by_cases h3 : a3 = b3 <;> simp [h0, h1, h2, h3]

end Go.Proofs.Ythiimllafcfieaa

/- Contract: whether a number lies between two. -/
namespace Go.Proofs.Ythiimllafcfieaa
open Go.ChangeShapes Go.WideShapes Go.ChangeAt Go.RowKit

def inB (n lo hi : Int) : Bool := decide (lo ≤ n ∧ n ≤ hi)

set_option maxRecDepth 100000 in
theorem l1In_any (n lo hi : Int) (w : World) :
    Calls Try.prog 52 #[.int .i64 n, .int .i64 lo, .int .i64 hi] w fun e w' => e = .returned (.bool (inB n lo hi)) ∧ w = w' := by
  go_enter Try.func52, Try.ntmps52
  go_wp2
  · go_ret
    exact ⟨by simp [inB, *], rfl⟩
  · go_ret
    exact ⟨by simp [inB]; omega, rfl⟩

end Go.Proofs.Ythiimllafcfieaa

/- Contracts: the program's IsPoint, the model's. -/
namespace Go.Proofs.Ythiimllafcfieaa
open Go.ChangeShapes Go.WideShapes Go.ChangeAt Go.RowKit

theorem good_clip (a0 a1 a2 a3 : Int) : (a0 == max (-999999) (min a0 999999) && (a1 == max (-999999) (min a1 999999) && (a2 == max (-999999) (min a2 999999) && a3 == max (-999999) (min a3 999999)))) = goodB a0 a1 a2 a3 := by
  unfold goodB
  rw [Bool.eq_iff_iff]
  simp only [Bool.and_eq_true, beq_iff_eq, decide_eq_true_eq]
  omega

theorem good_in (a0 a1 a2 a3 : Int) : (inB a0 (-999999) 999999 && (inB a1 (-999999) 999999 && (inB a2 (-999999) 999999 && inB a3 (-999999) 999999))) = goodB a0 a1 a2 a3 := by
  unfold goodB inB
  rw [Bool.eq_iff_iff]
  simp only [Bool.and_eq_true, decide_eq_true_eq]
  omega

set_option maxRecDepth 100000 in
set_option maxHeartbeats 400000 in
theorem l1All4_any (a0 a1 a2 a3 : Int) (lo hi : Int) (b : Nat) (w : World) (c0 : w.cell? ⟨b, 0, none⟩ = some (.int .i64 a0)) (c1 : w.cell? ⟨b, 1, none⟩ = some (.int .i64 a1)) (c2 : w.cell? ⟨b, 2, none⟩ = some (.int .i64 a2)) (c3 : w.cell? ⟨b, 3, none⟩ = some (.int .i64 a3)) :
    Calls Try.prog 114 #[.slice (some ⟨b, 0, none⟩) 4 4, .int .i64 lo, .int .i64 hi] w fun e w' => e = .returned (.bool (inB a0 lo hi && (inB a1 lo hi && (inB a2 lo hi && inB a3 lo hi)))) ∧ w = w' := by
  go_enter Try.func114, Try.ntmps114
  go_wp2_with fail
  refine wp_loop_rounds 5 ?_
  repeat any_goals (rw [rounds_succ]; go_wp2_with (go_at_call 52; refine (l1In_any _ _ _ _).mono ?_; rintro e w' ⟨rfl, rfl⟩))
  all_goals go_ret
  all_goals exact ⟨by simp_all, rfl⟩

end Go.Proofs.Ythiimllafcfieaa

/- What is let out: a number, or 0. -/
namespace Go.Proofs.Ythiimllafcfieaa
def sel (g : Bool) (a : Int) : Int := cond g a 0
end Go.Proofs.Ythiimllafcfieaa

/- Contracts: sums, multiples and differences of points, in the model and in the program; a point is let out or not; two equal points. -/
namespace Go.Proofs.Ythiimllafcfieaa
open Go.ChangeShapes Go.WideShapes Go.ChangeAt Go.RowKit

set_option maxRecDepth 100000 in
theorem spAdd_any (a0 a1 a2 a3 : Int) (b0 b1 b2 b3 : Int) (w : World) :
    Calls Try.prog 93 #[.agg #[.int .i64 a0, .int .i64 a1, .int .i64 a2, .int .i64 a3], .agg #[.int .i64 b0, .int .i64 b1, .int .i64 b2, .int .i64 b3]] w fun e w' => e = .returned (.agg #[.int .i64 (wrap64 (a0 + b0)), .int .i64 (wrap64 (a1 + b1)), .int .i64 (wrap64 (a2 + b2)), .int .i64 (wrap64 (a3 + b3))]) ∧ Below w.heap.size w w' := by
  go_enter Try.func93, Try.ntmps93
  go_wp2
  go_returns
  exact ⟨rfl, by go_grown⟩

set_option maxRecDepth 100000 in
theorem imPlus_any (a0 a1 a2 a3 : Int) (b0 b1 b2 b3 : Int) (w : World) :
    Calls Try.prog 140 #[.agg #[.int .i64 a0, .int .i64 a1, .int .i64 a2, .int .i64 a3], .agg #[.int .i64 b0, .int .i64 b1, .int .i64 b2, .int .i64 b3]] w fun e w' => e = .returned (.agg #[.int .i64 (wrap64 (a0 + b0)), .int .i64 (wrap64 (a1 + b1)), .int .i64 (wrap64 (a2 + b2)), .int .i64 (wrap64 (a3 + b3))]) ∧ Below w.heap.size w w' := by
  go_enter Try.func140, Try.ntmps140
  go_wp2
  go_returns
  exact ⟨rfl, by go_grown⟩

set_option maxRecDepth 100000 in
theorem spScale_any (a0 a1 a2 a3 : Int) (k : Int) (w : World) :
    Calls Try.prog 130 #[.agg #[.int .i64 a0, .int .i64 a1, .int .i64 a2, .int .i64 a3], .int .i64 k] w fun e w' => e = .returned (.agg #[.int .i64 (wrap64 (k * a0)), .int .i64 (wrap64 (k * a1)), .int .i64 (wrap64 (k * a2)), .int .i64 (wrap64 (k * a3))]) ∧ Below w.heap.size w w' := by
  go_enter Try.func130, Try.ntmps130
  go_wp2
  go_returns
  exact ⟨rfl, by go_grown⟩

set_option maxRecDepth 100000 in
theorem imScaled_any (a0 a1 a2 a3 : Int) (k : Int) (w : World) :
    Calls Try.prog 99 #[.agg #[.int .i64 a0, .int .i64 a1, .int .i64 a2, .int .i64 a3], .int .i64 k] w fun e w' => e = .returned (.agg #[.int .i64 (wrap64 (k * a0)), .int .i64 (wrap64 (k * a1)), .int .i64 (wrap64 (k * a2)), .int .i64 (wrap64 (k * a3))]) ∧ Below w.heap.size w w' := by
  go_enter Try.func99, Try.ntmps99
  go_wp2
  go_returns
  exact ⟨rfl, by go_grown⟩

end Go.Proofs.Ythiimllafcfieaa

/- Contracts: turned points and powers, in the model and in the program. -/
namespace Go.Proofs.Ythiimllafcfieaa
open Go.ChangeShapes Go.WideShapes Go.ChangeAt Go.RowKit

def tu0 (k : Int) (a0 a1 a2 a3 : Int) : Int := if k = 0 then a0 else if k = 1 then -a3 else if k = 2 then -a2 else if k = 3 then -a1 else if k = 4 then -a0 else if k = 5 then a3 else if k = 6 then a2 else a1

def tu1 (k : Int) (a0 a1 a2 a3 : Int) : Int := if k = 0 then a1 else if k = 1 then a0 else if k = 2 then -a3 else if k = 3 then -a2 else if k = 4 then -a1 else if k = 5 then -a0 else if k = 6 then a3 else a2

def tu2 (k : Int) (a0 a1 a2 a3 : Int) : Int := if k = 0 then a2 else if k = 1 then a1 else if k = 2 then a0 else if k = 3 then -a3 else if k = 4 then -a2 else if k = 5 then -a1 else if k = 6 then -a0 else a3

def tu3 (k : Int) (a0 a1 a2 a3 : Int) : Int := if k = 0 then a3 else if k = 1 then a2 else if k = 2 then a1 else if k = 3 then a0 else if k = 4 then -a3 else if k = 5 then -a2 else if k = 6 then -a1 else -a0

theorem good_bd (a0 a1 a2 a3 : Int) (h : goodB a0 a1 a2 a3 = true) : -999999 ≤ a0 ∧ a0 ≤ 999999 ∧ -999999 ≤ a1 ∧ a1 ≤ 999999 ∧ -999999 ≤ a2 ∧ a2 ≤ 999999 ∧ -999999 ≤ a3 ∧ a3 ≤ 999999 := by
  simpa [goodB] using h

theorem in_bd {n lo hi : Int} (h : inB n lo hi = true) : lo ≤ n ∧ n ≤ hi := by simpa [inB] using h

theorem eight (k : Int) (h0 : 0 ≤ k) (h7 : k ≤ 7) : k = 0 ∨ k = 1 ∨ k = 2 ∨ k = 3 ∨ k = 4 ∨ k = 5 ∨ k = 6 ∨ k = 7 := by omega

set_option maxRecDepth 100000 in
set_option maxHeartbeats 1600000 in
theorem ptTurn_any (a0 a1 a2 a3 : Int) (k : Int) (p0 : -999999 ≤ a0) (q0 : a0 ≤ 999999) (p1 : -999999 ≤ a1) (q1 : a1 ≤ 999999) (p2 : -999999 ≤ a2) (q2 : a2 ≤ 999999) (p3 : -999999 ≤ a3) (q3 : a3 ≤ 999999) (h0 : 0 ≤ k) (h7 : k ≤ 7) (w : World) :
    Calls Try.prog 131 #[.agg #[.int .i64 a0, .int .i64 a1, .int .i64 a2, .int .i64 a3], .int .i64 k] w fun e w' => e = .returned (.agg #[.int .i64 (tu0 k a0 a1 a2 a3), .int .i64 (tu1 k a0 a1 a2 a3), .int .i64 (tu2 k a0 a1 a2 a3), .int .i64 (tu3 k a0 a1 a2 a3)]) ∧ Below w.heap.size w w' := by
  rcases eight k h0 h7 with rfl | rfl | rfl | rfl | rfl | rfl | rfl | rfl
  all_goals
    go_enter Try.func131, Try.ntmps131
    go_wp2_with fail
    refine wp_loop_rounds 9 ?_
    repeat any_goals (rw [rounds_succ]; go_wp2)
    go_returns
    exact ⟨by simp [tu0, tu1, tu2, tu3], by go_grown⟩

set_option maxRecDepth 100000 in
set_option maxHeartbeats 1600000 in
theorem power_any (k : Int) (h0 : 0 ≤ k) (h7 : k ≤ 7) (w : World) :
    Calls Try.prog 101 #[.int .i64 k] w fun e w' => e = .returned (.agg #[.int .i64 (tu0 k 1 0 0 0), .int .i64 (tu1 k 1 0 0 0), .int .i64 (tu2 k 1 0 0 0), .int .i64 (tu3 k 1 0 0 0)]) ∧ Below w.heap.size w w' := by
  rcases eight k h0 h7 with rfl | rfl | rfl | rfl | rfl | rfl | rfl | rfl
  all_goals
    go_enter Try.func101, Try.ntmps101
    go_wp2
    go_returns
    exact ⟨by simp [tu0, tu1, tu2, tu3], by go_grown⟩

set_option maxRecDepth 100000 in
theorem ptHeading_any (h : Int) (h0 : 0 ≤ h) (h1 : h ≤ 1000) (w : World) :
    Calls Try.prog 117 #[.int .i64 h] w fun e w' => e = .returned (.agg #[.int .i64 (tu0 (h % 8) 1 0 0 0), .int .i64 (tu1 (h % 8) 1 0 0 0), .int .i64 (tu2 (h % 8) 1 0 0 0), .int .i64 (tu3 (h % 8) 1 0 0 0)]) ∧ Below w.heap.size w w' := by
  have m0 : 0 ≤ h % 8 := by omega
  have m7 : h % 8 ≤ 7 := by omega
  go_enter Try.func117, Try.ntmps117
  go_wp2_with fail
  (go_at_call 131; (with_reducible refine (ptTurn_any 1 0 0 0 (h % 8) (by omega) (by omega) (by omega) (by omega) (by omega) (by omega) (by omega) (by omega) m0 m7 _).mono ?_); rintro e wA ⟨rfl, h1⟩; (try with_reducible replace h1 := undrew h1); have hB : Below w.heap.size w wA := ba (by go_grown) h1; obtain ⟨hcwA, hfwA⟩ := bcell h1; have hqwA := h1.size; (try simp at hqwA); )
  go_wp2_with fail
  refine bodyPost_ret (by simp [results, Try.results117, go_sem, *]; try rfl) rfl ?_
  exact ⟨rfl, by go_grown⟩

end Go.Proofs.Ythiimllafcfieaa
