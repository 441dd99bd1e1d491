/- A map from spots to numbers that a call has made: what it holds. -/
import Derived.Test.YtoaccnpkobbaaaaYPe
import Derived.Test.YtoaccnpkobbaaaaYIx
import Derived.Maps.OwnSet
import Derived.Maps.Views
import Derived.WideKeyEntry
import Derived.DeepKeys4
namespace Go.Proofs.Ytoaccnpkobbaaaa
open Go Go.ChangeMaps Go.MapKept Go.ChangeShapes Go.WideShapes Go.RowKit
open Go.WideMaps (KeyLaw)
open Go.Maps (Keyed)
open Yd

set_option linter.unusedVariables false

theorem spRow : (80 : TypeId) < Try.prog.types.size := of_decide_eq_true (by kernel_rfl)

theorem spLaid : laidOutB Try.prog = true := by kernel_rfl

set_option maxRecDepth 100000 in
theorem spLaw : KeyLaw Try.prog 80 := deep_law_laid spLaid (m := 4) (by omega) spRow spDeep (by rw [Try.underlying80])

set_option maxRecDepth 100000 in
theorem spKey {x : Nat × List Int} (h : spOk x) : ∃ l, keyOf Try.prog 80 (spV x.1 x.2) = some l := by
  obtain ⟨x0, x1, x2, x3, x4, x5, hx1, _, hx3⟩ := spN_seven h
  have hz := h.2
  rw [hx1] at hz
  have X := fun z hq => wf_small (hz z hq).1 (hz z hq).2
  have hkt : Try.prog.keyType 80 = true := by kernel_rfl
  have hc7 : Try.prog.cellsOf 80 = 7 := by kernel_rfl
  obtain ⟨m, hm⟩ : ∃ m, Try.prog.types.size = m + 3 := ⟨Try.prog.types.size - 3, (Nat.sub_add_cancel (of_decide_eq_true (by kernel_rfl))).symm⟩
  have hL := spLits (x.1 : Int) x0 x1 x2 x3 x4 x5 (X _ (by simp)) (X _ (by simp)) (X _ (by simp)) (X _ (by simp)) (X _ (by simp)) (X _ (by simp)) (X _ (by simp)) (m + 1)
  rw [hx3]
  have hfm : (Value.agg #[.int .i64 (x.1 : Int), .int .i64 x0, .int .i64 x1, .int .i64 x2, .int .i64 x3, .int .i64 x4, .int .i64 x5]).formed Try.prog 80 = true := by simp [Value.formed, Try.underlying80, hc7]
  unfold keyOf
  rw [Try.underlying80]
  simp only [hkt, hfm, Bool.and_self, if_true]
  rw [hm, show (Value.agg #[.int .i64 (x.1 : Int), .int .i64 x0, .int .i64 x1, .int .i64 x2, .int .i64 x3, .int .i64 x4, .int .i64 x5]).cells.toList = [.int .i64 (x.1 : Int), .int .i64 x0, .int .i64 x1, .int .i64 x2, .int .i64 x3, .int .i64 x4, .int .i64 x5] from rfl, hL]
  exact ⟨_, rfl⟩

/-- The key that a spot is. -/
noncomputable def klP (x : Nat × List Int) : Lit := (keyOf Try.prog 80 (spV x.1 x.2)).getD (.string [])
theorem klP_key {x : Nat × List Int} (h : spOk x) : keyOf Try.prog 80 (spV x.1 x.2) = some (klP x) := by
  obtain ⟨l, hl⟩ := spKey h
  simp [klP, hl]

set_option maxRecDepth 100000 in
theorem klP_inj {x y : Nat × List Int} (h : spOk x) (h' : spOk y) (hl : x.2.length = y.2.length) (e : klP x = klP y) : x = y := by
  have a := klP_key h
  have b := klP_key h'
  rw [e] at a
  have hv := spLaw.inj a b
  refine spN_inj hl ?_
  obtain ⟨x0, x1, x2, x3, x4, x5, hx1, _, hx3⟩ := spN_seven h
  obtain ⟨y0, y1, y2, y3, y4, y5, hy1, _, hy3⟩ := spN_seven h'
  rw [hx3, hy3] at hv
  rw [hx1, hy1]
  simpa using hv

set_option maxRecDepth 100000 in
theorem klP_lit {x : Nat × List Int} (h : spOk x) : WideAt.IsKeyLit (klP x) := (Keyed.of_law spLaw).key (klP_key h)

/-- What the map holds behind k rounds over the spots f 0, f 1, .. -/
structure MpAt (f : Nat → Nat × List Int) (D : DataW Unit) (k : Nat) : Prop where
  isMap : Maps.IsMap D
  at' : ∀ i, i < k → D.atKey (klP (f i)) (.lit (.int .i64 0)) = .lit (.int .i64 (i : Int))
  has : ∀ i, i < k → Maps.has D (klP (f i)) = true
  no : ∀ j, (∀ i, i < k → ¬ f i = f j) → Maps.has D (klP (f j)) = false

theorem MpAt.zero (f : Nat → Nat × List Int) : MpAt f (.map []) 0 :=
  ⟨⟨_, rfl⟩, fun i hi => absurd hi (by omega), fun i hi => absurd hi (by omega), fun j _ => by simp [Maps.has]⟩

theorem MpAt.succ {f : Nat → Nat × List Int} {D : DataW Unit} {k : Nat} (h : MpAt f D k) (hf : ∀ i, spOk (f i)) (hl : ∀ i j, (f i).2.length = (f j).2.length) (hn : ∀ i, i < k → ¬ f i = f k) : MpAt f (D.put (klP (f k)) (.lit (.int .i64 (k : Int)))) (k + 1) := by
  have inj : ∀ i j, klP (f i) = klP (f j) → f i = f j := fun i j e => klP_inj (hf i) (hf j) (hl i j) e
  refine ⟨?_, fun i hi => ?_, fun i hi => ?_, fun j hj => ?_⟩
  · exact h.isMap.put _ _
  · by_cases e : i = k
    · subst e; exact Maps.atKey_put_same h.isMap (klP_lit (hf i)) _ _
    · rw [Maps.atKey_put_other (fun q => hn i (by omega) (inj i k q))]
      exact h.at' i (by omega)
  · by_cases e : i = k
    · subst e; exact Maps.has_put_same h.isMap (klP_lit (hf i)) _
    · rw [Maps.has_put_other (fun q => hn i (by omega) (inj i k q))]
      exact h.has i (by omega)
  · rw [Maps.has_put_other (fun q => hj k (by omega) (inj j k q).symm)]
    exact h.no j fun i hi => hj i (by omega)

end Go.Proofs.Ytoaccnpkobbaaaa
