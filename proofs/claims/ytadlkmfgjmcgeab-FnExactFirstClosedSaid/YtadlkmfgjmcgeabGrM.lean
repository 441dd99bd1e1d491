/- A map from steps to texts that a call has made: what lies at each step. -/
import Derived.Test.YtadlkmfgjmcgeabMpL
import Derived.Test.YtadlkmfgjmcgeabClP
import Derived.Maps.AppendAt
import Derived.Lib.Hide
namespace Go.Proofs.Ytadlkmfgjmcgeab
open Go Go.ChangeMaps Go.MapKept Go.ChangeShapes Go.WideShapes Go.RowKit
open Go.WideMaps (KeyLaw)
open Go.Maps (Keyed)

theorem stRow : (40 : TypeId) < Try.prog.types.size := of_decide_eq_true (by kernel_rfl)
theorem stDeep : Try.prog.keyTypeAt 4 40 = true := by kernel_rfl
theorem stLaid : laidOutB Try.prog = true := by kernel_rfl
set_option maxRecDepth 100000 in
theorem stLaw : KeyLaw Try.prog 40 := deep_law_laid stLaid (m := 4) (by omega) stRow stDeep (by rw [Try.underlying40])

def spV (s : Sp) : Value := .agg #[.int .i64 s.x0, .int .i64 s.x1, .int .i64 s.x2, .int .i64 s.x3, .int .i64 s.h]
/-- A step whose numbers fit. -/
def wfS (s : Sp) : Prop := (Lit.int .i64 s.x0).wf = true ∧ (Lit.int .i64 s.x1).wf = true ∧ (Lit.int .i64 s.x2).wf = true ∧ (Lit.int .i64 s.x3).wf = true ∧ (Lit.int .i64 s.h).wf = true

set_option maxRecDepth 100000 in
theorem stKey {s : Sp} (h : wfS s) : ∃ l, keyOf Try.prog 40 (spV s) = some l := by
  obtain ⟨h0, h1, h2, h3, h4⟩ := h
  have hkt : Try.prog.keyType 40 = true := by kernel_rfl
  have hc5 : Try.prog.cellsOf 40 = 5 := by kernel_rfl
  have hc4 : Try.prog.cellsOf 36 = 4 := by kernel_rfl
  have hc1 : Try.prog.cellsOf 3 = 1 := by kernel_rfl
  have hfs : Try.prog.underlying 40 = some (.struct (Try.prog.fieldsOf 40)) := by kernel_rfl
  obtain ⟨m, hm⟩ : ∃ m, Try.prog.types.size = m + 3 := ⟨Try.prog.types.size - 3, (Nat.sub_add_cancel (of_decide_eq_true (by kernel_rfl))).symm⟩
  have hL : Try.prog.keyLits (m + 4) 40 [.int .i64 s.x0, .int .i64 s.x1, .int .i64 s.x2, .int .i64 s.x3, .int .i64 s.h] = some [.int .i64 s.x0, .int .i64 s.x1, .int .i64 s.x2, .int .i64 s.x3, .int .i64 s.h] := by
    simp [Program.keyLits, Try.underlying40, Try.underlying36, Try.underlying3, hc5, hc4, hc1, h0, h1, h2, h3, h4]
    split
    · rfl
    · rename_i hc
      exact absurd (by decide) hc
  have hfm : (spV s).formed Try.prog 40 = true := by simp [Value.formed, spV, Try.underlying40, hc5]
  unfold keyOf
  rw [Try.underlying40]
  simp only [hkt, hfm, Bool.and_self, if_true]
  rw [hm, show (spV s).cells.toList = [.int .i64 s.x0, .int .i64 s.x1, .int .i64 s.x2, .int .i64 s.x3, .int .i64 s.h] from rfl, hL]
  exact ⟨_, rfl⟩

/-- The key that a step is. -/
noncomputable def klS (s : Sp) : Lit := (keyOf Try.prog 40 (spV s)).getD (.string [])
theorem klS_key {s : Sp} (h : wfS s) : keyOf Try.prog 40 (spV s) = some (klS s) := by
  obtain ⟨l, hl⟩ := stKey h
  simp [klS, hl]
theorem klS_inj {s s' : Sp} (h : wfS s) (h' : wfS s') (e : klS s = klS s') : s = s' := by
  have a := klS_key h
  have b := klS_key h'
  rw [e] at a
  have := stLaw.inj a b
  obtain ⟨a0, a1, a2, a3, a4⟩ := s
  obtain ⟨b0, b1, b2, b3, b4⟩ := s'
  simpa [spV] using this
set_option maxRecDepth 100000 in
theorem klS_lit {s : Sp} (h : wfS s) : WideAt.IsKeyLit (klS s) := (Keyed.of_law stLaw).key (klS_key h)
theorem wf_of {s : Sp} {n : Int} (h : s.okB n) (hn : n ≤ 1000000) : wfS s := by
  obtain ⟨⟨b0, b0'⟩, ⟨b1, b1'⟩, ⟨b2, b2'⟩, ⟨b3, b3'⟩, b4, b5⟩ := h
  refine ⟨?_, ?_, ?_, ?_, ?_⟩ <;> exact WalkArith.wf_i64 (by omega)

/-- How a slice's header reads. -/
def hdrR (v : Value) : Option (DataW Unit × List MemPlace) :=
  match v with
  | .slice none 0 0 => some (.nil, [])
  | .slice (some ⟨g, 0, none⟩) n c => some (.agg [.lit (.int .i64 g), .lit (.int .i64 n), .lit (.int .i64 c)], [])
  | _ => none
theorem hdrR_nil : hdrR (.slice none 0 0) = some (.nil, []) := rfl
theorem hdrR_some (g n c : Nat) : hdrR (.slice (some ⟨g, 0, none⟩) n c) = some (.agg [.lit (.int .i64 g), .lit (.int .i64 n), .lit (.int .i64 c)], []) := rfl
theorem hdrR_of {W : World} {B e size n : Nat} {v : Value} {xs : List Value} (h : W.ownsRow B e size v n xs) : ∃ d, hdrR v = some (d, []) := by
  rcases h.2 with ⟨rfl, _⟩ | ⟨g, cap, cur, rfl, _⟩
  · exact ⟨_, hdrR_nil⟩
  · exact ⟨_, hdrR_some g n cap⟩
theorem hdrR_inj {W : World} {B e size n : Nat} {v v' : Value} {xs : List Value} (h : W.ownsRow B e size v n xs) {d : DataW Unit} {ps ps' : List MemPlace} (h1 : hdrR v = some (d, ps)) (h2 : hdrR v' = some (d, ps')) : v = v' := by
  rcases h.2 with ⟨rfl, _⟩ | ⟨g, cap, cur, rfl, _⟩
  · rw [hdrR_nil] at h1
    unfold hdrR at h2
    split at h2
    · rfl
    · simp at h1 h2
      rw [← h1.1] at h2
      simp at h2
    · simp at h2
  · rw [hdrR_some] at h1
    unfold hdrR at h2
    split at h2
    · simp at h1 h2
      rw [← h1.1] at h2
      simp at h2
    · simp at h1 h2
      rw [← h1.1] at h2
      simp at h2
      obtain ⟨⟨e1, e2, e3⟩, _⟩ := h2
      rw [Int.ofNat_inj.1 e1, Int.ofNat_inj.1 e2, Int.ofNat_inj.1 e3]
    · simp at h2

def strV (l : List (List UInt8)) : List Value := l.map fun u => .string (ofL u)
theorem strV_append (l m : List (List UInt8)) : strV (l ++ m) = strV l ++ strV m := by simp [strV]
theorem spE_self (s : Sp) : spE s s = true := spE_iff.2 rfl
theorem spE_ne {s k : Sp} (h : s ≠ k) : spE s k = false := spE_no.2 h
theorem grp_same (s : Sp) (u : List UInt8) (G : List (Sp × List UInt8)) : grp s (G ++ [(s, u)]) = grp s G ++ [u] := by simp [grp, spE_self]
theorem grp_other {s k : Sp} (h : s ≠ k) (u : List UInt8) (G : List (Sp × List UInt8)) : grp k (G ++ [(s, u)]) = grp k G := by simp [grp, spE_ne h]

/-- Block b is a map from steps to the texts that stand at them in the list G; their rows lie from block base on, no two keys' in one. -/
def GrpAt (w : World) (b base m : Nat) (G : List (Sp × List UInt8)) : Prop :=
  b < base ∧ ∃ (D : DataW Unit) (V : Sp → Value), w.ownsMap Try.prog 40 hdrR b m D ∧
    (∀ s, wfS s → ∃ ps, hdrR (V s) = some (D.atKey (klS s) .nil, ps)) ∧
    (∀ s, wfS s → w.ownsRow base 9 1 (V s) (grp s G).length (strV (grp s G))) ∧
    (∀ s s', wfS s → wfS s' → s ≠ s' → (V s).ownBlock = none ∨ (V s).ownBlock ≠ (V s').ownBlock)

theorem own_far {W : World} {B b e size n : Nat} {v : Value} {xs : List Value} (h : W.ownsRow B e size v n xs) (hb : b < B) : v.ownBlock = none ∨ v.ownBlock ≠ some b := by
  cases hv : v.ownBlock with
  | none => exact .inl rfl
  | some k =>
    refine .inr fun e => ?_
    injection e with e
    have := (h.lt k hv).1
    omega
theorem own_far' {W : World} {B b e size n : Nat} {v : Value} {xs : List Value} (h : W.ownsRow B e size v n xs) (hb : b < B) : some b ≠ v.ownBlock := by
  intro e
  have := (h.lt b e.symm).1
  omega

theorem GrpAt_start (w : World) : GrpAt (w.alloc (.map #[] 0)) w.heap.size (w.heap.size + 1) 0 [] :=
  ⟨Nat.lt_succ_self _, .map [], fun _ => .slice none 0 0, World.ownsMap_made _ _ _ _, fun _ _ => ⟨[], by simp [hdrR_nil, DataW.atKey]⟩, fun _ _ => World.ownsRow_nil _ _ _ _, fun _ _ _ _ _ => .inl rfl⟩

theorem GrpAt.kept {w w' : World} {b base m : Nat} {G : List (Sp × List UInt8)} {row : Option Nat} (h : GrpAt w b base m G) (hg : w.grownBy w' row) (hb : some b ≠ row) (hr : ∀ k, row = some k → k < base ∨ w.heap.size ≤ k) : GrpAt w' b base m G := by
  obtain ⟨hbb, D, V, hM, hV, hR, hD⟩ := h
  refine ⟨hbb, D, V, hM.kept hg hb, hV, fun s hs => (hR s hs).kept hg ?_, hD⟩
  cases hv : (V s).ownBlock with
  | none => exact .inl rfl
  | some k =>
    refine .inr fun e => ?_
    have := (hR s hs).lt k hv
    rcases hr k e.symm with h | h <;> omega

set_option maxRecDepth 100000 in
theorem GrpAt.entry {w : World} {b base m : Nat} {G : List (Sp × List UInt8)} {s : Sp} (h : GrpAt w b base m G) (hs : wfS s) (hm : m < maxLen) :
    ∃ (v : Value) (st : Nat) (W1 : World), (Instr.mapEntry 62 (.map (some b)) (spV s)).run Try.prog w = .ok (.tuple #[v, goInt st]) W1 ∧ w.grownBy W1 (some b) ∧ W1.ownsRow base 9 1 v (grp s G).length (strV (grp s G)) ∧
      ∀ (w2 : World) (v' : Value) (u : List UInt8), W1.grownBy w2 v.ownBlock → w2.ownsRow base 9 1 v' ((grp s G).length + 1) (strV (grp s G) ++ [.string (ofL u)]) → (v.ownBlock = v'.ownBlock ∨ v'.ownBlock = some W1.heap.size) →
        ∃ w3, (Instr.entryStore 62 (.map (some b)) (goInt st) v').run Try.prog w2 = .ok () w3 ∧ GrpAt w3 b base (m + 1) (G ++ [(s, u)]) ∧ w2.grownBy w3 (some b) := by
  obtain ⟨hbb, D, V, hM, hV, hR, hD⟩ := h
  obtain ⟨v0, st, es1, c1, r1, g1, b1, ⟨ps, hv0⟩, hlt, hst⟩ := map_entry hM stLaw Try.underlying62 hm (z := .slice none 0 0) (fun u => by kernel_rfl) hdrR_nil (klS_key hs)
  obtain ⟨ps', hVs⟩ := hV s hs
  have hvs : V s = v0 := hdrR_inj (hR s hs) hVs hv0
  subst hvs
  refine ⟨V s, st, _, r1, g1, (hR s hs).kept g1 (own_far (hR s hs) hbb), fun w2 v' u hg hown hlies => ?_⟩
  have hb2 := (hg.block b (Nat.lt_of_lt_of_le hlt g1.size) (own_far' (hR s hs) hbb)).trans b1
  obtain ⟨d, hd⟩ := hdrR_of hown
  obtain ⟨w3, r3, m3, g3⟩ := hst w2 v' d [] hb2 hd
  refine ⟨w3, r3, ⟨hbb, D.put (klS s) d, fun k => cond (spE s k) v' (V k), m3, fun k hk => ?_, fun k hk => ?_, fun k k' hk hk' hne => ?_⟩, g3⟩
  · by_cases e : s = k
    · subst e
      exact ⟨[], by simp only [spE_self, cond_true]; rw [Maps.atKey_put_same hM.isMap (klS_lit hs)]; exact hd⟩
    · obtain ⟨q, hq⟩ := hV k hk
      exact ⟨q, by simp only [spE_ne e, cond_false]; rw [Maps.atKey_put_other (fun h => e (klS_inj hs hk h.symm))]; exact hq⟩
  · by_cases e : s = k
    · subst e
      simp only [spE_self, cond_true, grp_same, strV_append, List.length_append, List.length_cons, List.length_nil]
      exact hown.kept g3 (own_far hown hbb)
    · simp only [spE_ne e, cond_false, grp_other e]
      exact (((hR k hk).kept g1 (own_far (hR k hk) hbb)).kept hg (hD k s hk hs (Ne.symm e))).kept g3 (own_far (hR k hk) hbb)
  · have hnew : ∀ k, wfS k → s ≠ k → (V k).ownBlock = none ∨ (V k).ownBlock ≠ v'.ownBlock := by
      intro k hk e
      rcases hlies with h | h
      · rw [← h]; exact hD k s hk hs (Ne.symm e)
      · cases hv : (V k).ownBlock with
        | none => exact .inl rfl
        | some j =>
          refine .inr fun e2 => ?_
          rw [h] at e2
          injection e2 with e2
          have h1 := ((hR k hk).lt j hv).2
          have h2 := g1.size
          omega
    by_cases e : s = k
    · subst e
      simp only [spE_self, cond_true, spE_ne hne, cond_false]
      cases hv : v'.ownBlock with
      | none => exact .inl rfl
      | some j =>
        refine .inr fun e2 => ?_
        rcases hnew k' hk' hne with h | h
        · rw [h] at e2; cases e2
        · exact h (e2.symm.trans hv.symm)
    · by_cases e' : s = k'
      · subst e'
        simp only [spE_self, cond_true, spE_ne e, cond_false]
        exact hnew k hk e
      · simp only [spE_ne e, spE_ne e', cond_false]
        exact hD k k' hk hk' hne

theorem GrpAt_begin {w : World} {b : Nat} (hM : w.ownsMap Try.prog 40 hdrR b 0 (.map [] : DataW Unit)) : GrpAt w b w.heap.size 0 [] :=
  ⟨hM.lt, .map [], fun _ => .slice none 0 0, hM, fun _ _ => ⟨[], by simp [hdrR_nil, DataW.atKey]⟩, fun _ _ => World.ownsRow_nil _ _ _ _, fun _ _ _ _ _ => .inl rfl⟩

/-- 'm[k]': the texts at a step, in whatever world the map stands. -/
theorem GrpAt.look {w : World} {b base m : Nat} {G : List (Sp × List UInt8)} {s : Sp} (h : GrpAt w b base m G) (hs : wfS s) :
    ∃ v : Value, w.ownsRow base 9 1 v (grp s G).length (strV (grp s G)) ∧
      ∀ (w' : World) (row : Option Nat), w.grownBy w' row → some b ≠ row → (Instr.lookup 62 (.map (some b)) (spV s) false).run Try.prog w' = .ok v w' := by
  obtain ⟨hbb, D, V, hM, hV, hR, hD⟩ := h
  refine ⟨V s, hR s hs, fun w' row hg hne => ?_⟩
  obtain ⟨v, ps, hrun, hv⟩ := (hM.kept hg hne).lookup (Keyed.of_law stLaw) Try.underlying62 (z := .slice none 0 0) (by kernel_rfl) hdrR_nil (klS_key hs)
  obtain ⟨ps', hVs⟩ := hV s hs
  have hvs : V s = v := hdrR_inj (hR s hs) hVs hv
  subst hvs
  exact hrun

theorem below_grown {w w' : World} (h : Below w.heap.size w w') : w.grownBy w' none := ⟨h.os, h.tape, h.output, h.size, fun k hk _ => h.block k hk⟩
theorem GrpAt.below {w w' : World} {b base m : Nat} {G : List (Sp × List UInt8)} (h : GrpAt w b base m G) (hb : Below w.heap.size w w') : GrpAt w' b base m G :=
  h.kept (below_grown hb) (by simp) (by simp)
/-- One stretch behind another one whose row is new. -/
theorem grown_row {a c d : World} {row row' : Option Nat} (h : a.grownBy c row) (g : c.grownBy d row') (hr : ∀ k, row' = some k → a.heap.size ≤ k ∨ row = some k) : a.grownBy d row :=
  ⟨g.os.trans h.os, g.tape.trans h.tape, g.output.trans h.output, Nat.le_trans h.size g.size, fun k hk hne => (g.block k (Nat.lt_of_lt_of_le hk h.size) (fun e => by
    rcases hr k e.symm with h1 | h1
    · omega
    · exact hne h1.symm)).trans (h.block k hk hne)⟩
theorem grp_le (k : Sp) (l : List (Sp × List UInt8)) : (grp k l).length ≤ l.length := by
  simp only [grp, List.length_map]
  exact List.length_filter_le _ _

end Go.Proofs.Ytadlkmfgjmcgeab
