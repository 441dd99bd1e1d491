/- Communication in one goroutine that never waits, for the walk over code: a region that holds a send, a receive or a select. -/
import Derived.Test.YtogimjbjdgccnaaDoorBa
import Derived.Calls
import Derived.Conc.LoneSelect
import Derived.Orders
namespace Go.Proofs.YtogimjbjdgccnaaDoor
open Go.Conc Go.RowKit

section
variable {P : Program} {ops : Array Oper} {Q : Exit → Act → World → Prop} {a : Act} {w : World} {i : Nat} {rest : List Nat} {o : Oper}

/-- What is left of a region's operations leads to Q. -/
def OpsTo (P : Program) (ops : Array Oper) (Q : Exit → Act → World → Prop) (l : List Nat) (a : Act) (w : World) : Prop :=
  ∀ (b : Frame) (k : List Item) (cs : List Frame), ∃ e a' w', Q e a' w' ∧ Arrives P (lone (b.at a (.inRegion ops l :: k)) cs w) b k cs e a' w'

theorem OpsTo.nil (h : Q .normal a w) : OpsTo P ops Q [] a w := fun _ _ _ => ⟨.normal, a, w, h, .one step_region_end⟩

theorem OpsTo.of_wp {l : List Nat} (h : wpOps P ops Q l a w) : OpsTo P ops Q l a w := wp_ops l a w h

theorem wp_region_to {id : Nat} (h : OpsTo P ops Q (List.range ops.size) a w) : (Code.region id ops false).wp P Q a w := fun b k cs =>
  let ⟨e, a', w', hq, r⟩ := h b k cs
  ⟨e, a', w', hq, .of_steps (.one step_region) r⟩

/-- An operation that is left out. -/
theorem OpsTo.skip (h0 : ((ops[i]?).map (Region.wanted · (yielded ops a.tmps))).getD false = false) (h : OpsTo P ops Q rest (a.put ((ops[i]?).bind (·.dst)) undef) w) : OpsTo P ops Q (i :: rest) a w := fun b k cs =>
  let ⟨e, a', w', hq, r⟩ := h b k cs
  ⟨e, a', w', hq, .of_steps (.one (step_op_skip h0)) r⟩

/-- An operation that yields a value, or calls a function that returns. -/
theorem OpsTo.op (ho : ops[i]? = some o) (hw : Region.wanted o (yielded ops a.tmps) = true) (h : ∀ K : Act → World → Prop, (∀ a w, OpsTo P ops Q rest a w → K a w) → o.wp P a w K Q) : OpsTo P ops Q (i :: rest) a w := by
  intro b k cs
  have h' := h (OpsTo P ops Q rest) fun _ _ h => h
  have hg := stepG_op (P := P) (b := b) (k := k) (cs := cs) (w := w) (rest := rest) ho hw
  have hfin : ∀ v, (b.at a (.inRegion ops (i :: rest) :: k)).finish v = b.at (a.put o.dst v) (.inRegion ops rest :: k) := by
    intro v; rw [Frame.finish_at, ho]; rfl
  unfold Oper.wp Oper.upon at h'
  split at h'
  · rename_i v w' hr
    obtain ⟨e, a', w'', hq, harr⟩ := h' b k cs
    exact ⟨e, a', w'', hq, .of_steps (.one (step_lone_go (by rw [hg, ← hfin]; simp [stepG.apply, hr]))) harr⟩
  · rename_i w' hr
    obtain ⟨e, a', w'', hq, harr⟩ := h' b k cs
    exact ⟨e, a', w'', hq, .of_steps (.one (step_lone_go (by rw [hg, ← hfin]; simp [stepG.apply, hr]))) harr⟩
  · rename_i d w' hr
    obtain ⟨e, a', w'', hq, harr⟩ := h' b k cs
    refine ⟨e, a', w'', hq, .of_steps (.one (step_lone_go ?_)) harr⟩
    have hd := Frame.finish_at b { a with defers := d :: a.defers } ops i rest k undef
    rw [ho] at hd
    rw [hg]
    simp only [stepG.apply, Sem.runT_eq, hr, GStep.bare_after]
    exact congrArg (fun fr => GStep.go { frame := fr, callers := cs, status := .running, dying := none } w') hd
  · rename_i f args w' hr
    have henter : step P (lone (b.at a (.inRegion ops (i :: rest) :: k)) cs w) = .next (lone (Frame.enter P f args .normal) (b.at a (.inRegion ops (i :: rest) :: k) :: cs) w') :=
      step_lone_go (by rw [hg]; simp [stepG.apply, hr, Frame.at])
    obtain ⟨e, w'', fr, hR, hsteps, _, hleave⟩ := h' (b.at a (.inRegion ops (i :: rest) :: k) :: cs)
    cases e with
    | returned v =>
      obtain ⟨e, a', w₃, hq, harr⟩ := hR b k cs
      refine ⟨e, a', w₃, hq, .of_steps (.head henter (hsteps.trans (.one ?_))) harr⟩
      rw [← hfin]
      exact step_leave_returned hleave
    | panicked chain =>
      refine ⟨.panic chain, a, w'', hR, .inRegion ops (i :: rest) :: k, .head henter (hsteps.trans (.one ?_))⟩
      rw [← Frame.raise_at]
      exact step_leave_panicked hleave
    | outgrown =>
      obtain ⟨a₀, w₀, hq⟩ := hR
      exact ⟨.outgrown, a₀, w₀, hq, .inr (Outgrown.of_steps (.one henter) hsteps)⟩
  · rename_i row args w' hr
    obtain ⟨v, w'', hR, hsteps⟩ := h' (b.at a (.inRegion ops (i :: rest) :: k)) cs
    have henter : step P (lone (b.at a (.inRegion ops (i :: rest) :: k)) cs w) = .next (lone (Frame.ofRow P row args .normal) (b.at a (.inRegion ops (i :: rest) :: k) :: cs) w') :=
      step_lone_go (by rw [hg]; simp [stepG.apply, hr, Frame.at])
    obtain ⟨e, a', w₃, hq, harr⟩ := hR b k cs
    refine ⟨e, a', w₃, hq, .of_steps (.head henter ?_) harr⟩
    rw [← hfin]
    exact hsteps
  · rename_i v w' hr
    exact ⟨_, a, w', h', .inRegion ops (i :: rest) :: k, .one (step_lone_go (by rw [hg, ← Frame.raise_at]; simp [stepG.apply, hr]))⟩
  · exact h'.elim

theorem comm_is {b : Frame} {k : List Item} {cs : List Frame} {cases : Array CommCase} {blocking : Bool} {shape : CommShape} {w₁ : World} (ho : ops[i]? = some o) (hw : Region.wanted o (yielded ops a.tmps) = true)
    (hr : (execOp a.eval o).run P w = .ok (.comm cases blocking shape) w₁) : ∃ es, stepG P true (G (b.at a (.inRegion ops (i :: rest) :: k)) cs) w = .comm (G (b.at a (.inRegion ops (i :: rest) :: k)) cs) cases blocking shape w₁ es := by
  have hg := stepG_op (P := P) (b := b) (k := k) (cs := cs) (w := w) (rest := rest) ho hw
  unfold G
  rw [hg]
  simp [stepG.apply, hr, GStep.after]

/-- An operation that is a communication, and what the machine of one goroutine does at it. -/
theorem OpsTo.comm {cases : Array CommCase} {blocking : Bool} {shape : CommShape} {w₁ w' : World} {v : Value} (ho : ops[i]? = some o) (hw : Region.wanted o (yielded ops a.tmps) = true)
    (hr : (execOp a.eval o).run P w = .ok (.comm cases blocking shape) w₁)
    (hs : ∀ fr cs es, stepG P true (G fr cs) w = .comm (G fr cs) cases blocking shape w₁ es → step P (solo (G fr cs) w) = .next (solo (G (fr.finish v) cs) w'))
    (h : OpsTo P ops Q rest (a.put o.dst v) w') : OpsTo P ops Q (i :: rest) a w := by
  intro b k cs
  obtain ⟨e, a', w'', hq, harr⟩ := h b k cs
  obtain ⟨es, he⟩ := comm_is (P := P) (b := b) (k := k) (cs := cs) (rest := rest) ho hw hr
  have hfin : (b.at a (.inRegion ops (i :: rest) :: k)).finish v = b.at (a.put o.dst v) (.inRegion ops rest :: k) := by rw [Frame.finish_at, ho]; rfl
  refine ⟨e, a', w'', hq, .of_steps (.one ?_) harr⟩
  have := hs _ cs es he
  rw [hfin] at this
  exact this

/-- Operation i carries over to K, whatever is left behind it. -/
def StepTo (P : Program) (ops : Array Oper) (Q : Exit → Act → World → Prop) (i : Nat) (K : Act → World → Prop) (a : Act) (w : World) : Prop :=
  ∀ rest, (∀ a w, K a w → OpsTo P ops Q rest a w) → OpsTo P ops Q (i :: rest) a w

theorem StepTo.op {K : Act → World → Prop} (ho : ops[i]? = some o) (hw : Region.wanted o (yielded ops a.tmps) = true) (h : ∀ K' : Act → World → Prop, (∀ a w, K a w → K' a w) → o.wp P a w K' Q) : StepTo P ops Q i K a w :=
  fun _ hk => OpsTo.op ho hw fun K' hK' => h K' fun a w hh => hK' a w (hk a w hh)

theorem StepTo.comm {K : Act → World → Prop} {cases : Array CommCase} {blocking : Bool} {shape : CommShape} {w₁ w' : World} {v : Value} (ho : ops[i]? = some o) (hw : Region.wanted o (yielded ops a.tmps) = true)
    (hr : (execOp a.eval o).run P w = .ok (.comm cases blocking shape) w₁)
    (hs : ∀ fr cs es, stepG P true (G fr cs) w = .comm (G fr cs) cases blocking shape w₁ es → step P (solo (G fr cs) w) = .next (solo (G (fr.finish v) cs) w'))
    (h : K (a.put o.dst v) w') : StepTo P ops Q i K a w := fun _ hk => OpsTo.comm ho hw hr hs (hk _ _ h)

/-- A region that draws its order: whatever may come up next leads on. -/
def AnyTo (P : Program) (md : Region.Mode) (ops : Array Oper) (Q : Exit → Act → World → Prop) : Nat → Array Bool → Act → World → Prop
  | 0, listed, a, w => Region.ready md ops listed = [] ∧ Q .normal a w
  | fuel + 1, listed, a, w => (Region.ready md ops listed = [] → Q .normal a w) ∧ ∀ i ∈ Region.ready md ops listed, StepTo P ops Q i (AnyTo P md ops Q fuel (listed.setIfInBounds i true)) a w

theorem AnyTo.sound {md : Region.Mode} : ∀ (fuel t : Nat) (listed : Array Bool) (a : Act) (w : World), AnyTo P md ops Q fuel listed a w → OpsTo P ops Q (Region.linearise.go md ops fuel t listed []) a w := by
  intro fuel
  induction fuel with
  | zero => intro t listed a w h; exact OpsTo.nil h.2
  | succ fuel ih =>
    intro t listed a w h
    obtain ⟨h0, h1⟩ := h
    simp only [Region.linearise.go]
    change OpsTo P ops Q (match (Region.ready md ops listed)[t % (Region.ready md ops listed).length]? with
      | some i => Region.linearise.go md ops fuel (t / (Region.ready md ops listed).length) (listed.setIfInBounds i true) [i]
      | none => [].reverse) a w
    cases hi : (Region.ready md ops listed)[t % (Region.ready md ops listed).length]? with
    | none =>
      refine OpsTo.nil (h0 ?_)
      rw [List.getElem?_eq_none_iff] at hi
      cases hr : Region.ready md ops listed with
      | nil => rfl
      | cons x xs =>
        rw [hr] at hi
        have := Nat.mod_lt t (show 0 < (x :: xs).length by simp)
        omega
    | some i =>
      simp only []
      rw [linearise_go_acc, List.reverse_singleton, List.singleton_append]
      exact h1 i (List.mem_of_getElem? hi) _ fun a w hh => ih _ _ a w hh

theorem wp_region_draw_to {id : Nat} (hm : P.follows .mixedOrders = true) (h : AnyTo P .any ops Q ops.size (Array.replicate ops.size false) a w.drew) : (Code.region id ops true).wp P Q a w := fun b k cs => by
  have h' := AnyTo.sound ops.size (w.tape w.drawn (.order b.fn id)) _ a _ h
  obtain ⟨e, a', w', hq, r⟩ := h' b k cs
  refine ⟨e, a', w', hq, .of_steps (.one ?_) r⟩
  rw [step_region_draw]
  simp only [Region.schedule, hm, Bool.true_or, if_true]
  rfl

theorem AnyTo.done {md : Region.Mode} {fuel : Nat} {listed : Array Bool} (hr : Region.ready md ops listed = []) (h : Q .normal a w) : AnyTo P md ops Q fuel listed a w := by
  cases fuel with
  | zero => exact ⟨hr, h⟩
  | succ fuel => exact ⟨fun _ => h, fun i hi => by rw [hr] at hi; cases hi⟩

theorem AnyTo.one {md : Region.Mode} {fuel x : Nat} {listed : Array Bool} (hr : Region.ready md ops listed = [x]) (h : StepTo P ops Q x (AnyTo P md ops Q fuel (listed.setIfInBounds x true)) a w) : AnyTo P md ops Q (fuel + 1) listed a w :=
  ⟨fun e => (by rw [hr] at e; cases e), fun i hi => (by rw [hr] at hi; simp only [List.mem_cons, List.not_mem_nil, or_false] at hi; rcases hi with rfl; assumption)⟩

theorem AnyTo.two {md : Region.Mode} {fuel x y : Nat} {listed : Array Bool} (hr : Region.ready md ops listed = [x, y]) (h : StepTo P ops Q x (AnyTo P md ops Q fuel (listed.setIfInBounds x true)) a w) (h2 : StepTo P ops Q y (AnyTo P md ops Q fuel (listed.setIfInBounds y true)) a w) : AnyTo P md ops Q (fuel + 1) listed a w :=
  ⟨fun e => (by rw [hr] at e; cases e), fun i hi => by rw [hr] at hi; simp only [List.mem_cons, List.not_mem_nil, or_false] at hi; rcases hi with rfl | rfl <;> assumption⟩

theorem AnyTo.three {md : Region.Mode} {fuel x y z : Nat} {listed : Array Bool} (hr : Region.ready md ops listed = [x, y, z]) (h : StepTo P ops Q x (AnyTo P md ops Q fuel (listed.setIfInBounds x true)) a w) (h2 : StepTo P ops Q y (AnyTo P md ops Q fuel (listed.setIfInBounds y true)) a w)
    (h3 : StepTo P ops Q z (AnyTo P md ops Q fuel (listed.setIfInBounds z true)) a w) : AnyTo P md ops Q (fuel + 1) listed a w :=
  ⟨fun e => (by rw [hr] at e; cases e), fun i hi => by rw [hr] at hi; simp only [List.mem_cons, List.not_mem_nil, or_false] at hi; rcases hi with rfl | rfl | rfl <;> assumption⟩
end

end Go.Proofs.YtogimjbjdgccnaaDoor
