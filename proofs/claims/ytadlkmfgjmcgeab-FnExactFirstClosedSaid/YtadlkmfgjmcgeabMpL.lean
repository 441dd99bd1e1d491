/- Laws on a map that a call has made: an entry is met, then stored. -/
import Derived.Test.YtadlkmfgjmcgeabProg
import Derived.Maps.OwnSet
import Derived.WideKeyEntry
import Derived.DeepKeys4
import Derived.Tactics
namespace Go.Proofs.Ytadlkmfgjmcgeab
open Go Go.ChangeMaps Go.MapKept Go.ChangeShapes Go.WideShapes
open Go.WideElems (Fit rd rg pl rd_val elemAt entry_then_store)
open Go.WideMaps (KeyLaw)
open Go.Maps (Keyed)

section
variable {H : Type} {P : Program} {k t e : TypeId} {R : Value → Option (DataW H × List MemPlace)} {w : World} {b n : Nat} {D : DataW H}

theorem own_block {es : Array MapEntry} {clock : Nat} (hb : w.heap[b]? = some (.map es clock)) (h : w.ownsMap P k R b n D) {w2 : World} (hb2 : w2.heap[b]? = some (.map es clock)) : w2.ownsMap P k R b n D := by
  obtain ⟨es', clock', hb', F, hs, hD⟩ := h
  rw [hb] at hb'
  cases hb'
  exact ⟨es, clock, hb2, F, hs, hD⟩

theorem setBlock_grown {es : Array MapEntry} {clock : Nat} {X' : Obj} (hb : w.heap[b]? = some (.map es clock)) : w.grownBy (setBlock w b X') (some b) :=
  ⟨rfl, rfl, rfl, by simp [setBlock], fun i _ hi => heap_setBlock_other hb _ (fun e => hi (by rw [e]))⟩

theorem map_entry (h : w.ownsMap P k R b n D) (K : KeyLaw P k) (ht : P.underlying t = some (.map k e)) (hn : n < maxLen) {z : Value} (hz : ∀ u : World, (zeroValue e).run P u = .ok z u) {zd : DataW H} {zp : List MemPlace} (hzd : R z = some (zd, zp))
    {key : Value} {kl : Lit} (hkey : keyOf P k key = some kl) :
    ∃ (v0 : Value) (st : Nat) (es1 : Array MapEntry) (c1 : Nat), (Instr.mapEntry t (.map (some b)) key).run P w = .ok (.tuple #[v0, goInt st]) (setBlock w b (.map es1 c1)) ∧ w.grownBy (setBlock w b (.map es1 c1)) (some b) ∧ (setBlock w b (.map es1 c1)).heap[b]? = some (.map es1 c1) ∧ (∃ ps, R v0 = some (D.atKey kl zd, ps)) ∧ b < w.heap.size ∧
      ∀ (w2 : World) (val : Value) (d : DataW H) (ps : List MemPlace), w2.heap[b]? = some (.map es1 c1) → R val = some (d, ps) →
        ∃ w3, (Instr.entryStore t (.map (some b)) (goInt st) val).run P w2 = .ok () w3 ∧ w3.ownsMap P k R b (n + 1) (D.put kl d) ∧ w2.grownBy w3 (some b) := by
  obtain ⟨v, ps, hrun, hRv⟩ := h.lookup (Keyed.of_law K) ht (hz w) hzd hkey
  have hup := fun (val : Value) (d : DataW H) (ps : List MemPlace) (hv : R val = some (d, ps)) => h.update (Keyed.of_law K) ht hn hkey hv
  obtain ⟨es, clock, hb, F, hs, hD⟩ := h
  obtain ⟨v0, st, es1, clock1, h1, h2, h3⟩ := entry_then_store K ht hz hb F hkey
  have e0 : v = v0 := by
    rcases K.find w hkey es.toList F.keys with ⟨f1, f2⟩ | ⟨j, e0, f1, f2, f3⟩
    · have hl : (Instr.lookup t (.map (some b)) key false).run P w = .ok z w := by simp [Instr.lookup, run_underlying ht, MapKept.run_getObj_map hb, K.check w _ hkey, f1, hz, Result.andThen]
      rw [hl] at hrun
      injection hrun with hrun
      rcases h2 with ⟨e1, he1, hk1, _⟩ | ⟨_, hv0⟩
      · exact absurd hk1 (f2 e1 he1)
      · rw [hv0, hrun]
    · have hl : (Instr.lookup t (.map (some b)) key false).run P w = .ok e0.val w := by simp [Instr.lookup, run_underlying ht, MapKept.run_getObj_map hb, K.check w _ hkey, f1, Result.andThen]
      have hj : es[j]? = some e0 := by simpa using f2
      have hm : ∃ r W', (Instr.mapEntry t (.map (some b)) key).run P w = .ok (.tuple #[e0.val, r]) W' := by
        refine ⟨goInt e0.born, setBlock w b (.map (es.modify j fun e => { e with key := key }) clock), ?_⟩
        simp [Instr.mapEntry, run_underlying ht, MapKept.run_getObj_map hb, K.check w false hkey, f1, hj, f3, K.stays w hkey, MapKept.run_setObj_map _ hb, Result.andThen, setBlock]
      obtain ⟨r, W', hm⟩ := hm
      rw [hl] at hrun
      injection hrun with hrun
      rw [h1] at hm
      injection hm with hm
      simp at hm
      rw [← hrun, hm.1]
  subst e0
  refine ⟨v, st, es1, clock1, h1, setBlock_grown hb, heap_setBlock_same hb _, ⟨ps, hRv⟩, (Array.getElem?_eq_some_iff.1 hb).1, fun w2 val d ps' hX hR => ?_⟩
  obtain ⟨es', clock', g1, g2⟩ := h3 w2 val hX
  obtain ⟨w', u1, u2, _⟩ := hup val d ps' hR
  rw [g2] at u1
  injection u1 with _ u1
  subst u1
  exact ⟨_, g1, own_block (heap_setBlock_same hb _) u2 (heap_setBlock_same hX _), setBlock_grown hX⟩

theorem wpList_mapEntry {ops : Array Oper} {rest : List Oper} {o : Oper} {a : Act} {Q : Exit → Act → World → Prop} (W1 : World) (r key : Value) (hg : o.guard = none) (m x : Operand) (hop : o.op = Op.mapEntry t m x)
    (hm : a.eval m = .map (some b)) (hx : a.eval x = key) (hrun : (Instr.mapEntry t (.map (some b)) key).run P w = .ok r W1) (hK : wpList P ops Q rest (a.put o.dst r) W1) : wpList P ops Q (o :: rest) a w := by
  refine wpList_plain hg fun K' hK' => ?_
  unfold Oper.wp
  simp [execOp, hop, hm, hx, hrun, Result.andThen]
  exact hK' _ _ hK

theorem wpList_entryStore {ops : Array Oper} {rest : List Oper} {o : Oper} {a : Act} {Q : Exit → Act → World → Prop} (W1 : World) (st val : Value) (hg : o.guard = none) (m s x : Operand) (hop : o.op = Op.entryStore t m s x)
    (hm : a.eval m = .map (some b)) (hs : a.eval s = st) (hx : a.eval x = val) (hrun : (Instr.entryStore t (.map (some b)) st val).run P w = .ok () W1) (hK : wpList P ops Q rest (a.put o.dst undef) W1) : wpList P ops Q (o :: rest) a w := by
  refine wpList_plain hg fun K' hK' => ?_
  unfold Oper.wp
  simp [execOp, hop, hm, hs, hx, hrun, Result.andThen]
  exact hK' _ _ hK

end

end Go.Proofs.Ytadlkmfgjmcgeab
