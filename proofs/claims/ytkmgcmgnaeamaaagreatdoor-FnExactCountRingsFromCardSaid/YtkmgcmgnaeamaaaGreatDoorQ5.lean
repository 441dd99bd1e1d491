/- Contracts and facts, put together (part 5). Conditions: each says its own. -/
import Derived.Test.YtkmgcmgnaeamaaaGreatDoorQ4
import Derived.Maps.OwnSet
import Derived.WideKeyArr
import Derived.WideKeyEntry
import Derived.Shelf.SlSortCmp.NoneTotal
import Derived.Lib.SlicesCompact
import Derived.Maps.AppendAt
import Derived.Lib.SlBytesConst
import Derived.Deep.RegionHeld3
import Derived.Test.YtkmgcmgnaeamaaaGreatDoorProg
import Derived.StillTail
import Derived.StillTailTactics
import Derived.Deep.QuietTactic
import Derived.Lib.QuietBelow
import Derived.WalkKit
import Derived.ProofKit
import Derived.Laws.AppendOwn

/- Which arrays have been told of when j rings have been looked at. -/
namespace Go.Proofs.YtkmgcmgnaeamaaaGreatDoor

set_option linter.unusedVariables false

theorem kin_len {a y : List UInt8} (h : kin a y) : y.length = a.length := by
  obtain ⟨x, hx, ho⟩ := h
  rw [orb_len ho, four_len hx]

def TD (n j : Nat) (T : List Lp) : Prop := ∀ y, y ∈ T ↔ ∃ i x a, i < j ∧ (clsL sp0 n)[i]? = some x ∧ kin x a ∧ y = mkLp a

theorem TD_start (n : Nat) : TD n 0 [] := fun y => by simp

theorem cls_lenA {n i : Nat} {x : List UInt8} (h : (clsL sp0 n)[i]? = some x) : x.length = n := (cls_iffA.1 (List.mem_of_getElem? h)).1.1

theorem cls_lett {n i : Nat} {x : List UInt8} (h : (clsL sp0 n)[i]? = some x) : lett x := (cls_iffA.1 (List.mem_of_getElem? h)).1.2

theorem TD_hit {n j : Nat} {T : List Lp} {r : List UInt8} (h : TD n j T) (hn : n ≤ 40) (hr : (clsL sp0 n)[j]? = some r) : mkLp r ∈ T ↔ ∃ i x, i < j ∧ (clsL sp0 n)[i]? = some x ∧ kin x r := by
  rw [h]
  constructor
  · rintro ⟨i, x, a, hi, hx, hk, e⟩
    have hl := cls_lenA hr
    have h2 := cls_lenA hx
    have h3 := kin_len hk
    have := mk_inj (by omega) (by omega) e
    exact ⟨i, x, hi, hx, this ▸ hk⟩
  · rintro ⟨i, x, hi, hx, hk⟩
    exact ⟨i, x, r, hi, hx, hk, rfl⟩

theorem TD_told {n j : Nat} {T : List Lp} {r : List UInt8} (h : TD n j T) (h0 : 0 < n) (hn : n ≤ 40) (hr : (clsL sp0 n)[j]? = some r) : decide (mkLp r ∈ T) = !isFst r := by
  have h1 := (TD_hit h hn hr).trans (told_iff h0 hr)
  cases hf : isFst r with
  | false => rw [decide_eq_true (h1.2 hf)]; rfl
  | true => rw [decide_eq_false (fun g => by rw [h1.1 g] at hf; cases hf)]; rfl

theorem TD_skip {n j : Nat} {T : List Lp} {r : List UInt8} (h : TD n j T) (h0 : 0 < n) (hn : n ≤ 40) (hr : (clsL sp0 n)[j]? = some r) (hf : isFst r = false) : TD n (j + 1) T := fun y => by
  rw [h]
  constructor
  · rintro ⟨i, x, a, hi, hx, hk, e⟩; exact ⟨i, x, a, by omega, hx, hk, e⟩
  · rintro ⟨i, x, a, hi, hx, hk, e⟩
    by_cases hij : i = j
    · subst hij
      rw [hr] at hx
      simp only [Option.some.injEq] at hx
      subst hx
      obtain ⟨i2, x2, hi2, hx2, hk2⟩ := (told_iff h0 hr).2 hf
      exact ⟨i2, x2, a, hi2, hx2, kin_trans (cls_lett hx2) hk2 hk, e⟩
    · exact ⟨i, x, a, by omega, hx, hk, e⟩

theorem TD_next {n j : Nat} {T V : List Lp} {r : List UInt8} (h : TD n j T) (hr : (clsL sp0 n)[j]? = some r) (hV : IsVar r V) : TD n (j + 1) (T ++ V) := fun y => by
  rw [List.mem_append, h, hV.mem]
  constructor
  · rintro (⟨i, x, a, hi, hx, hk, e⟩ | ⟨x, hx, a, ho, e⟩)
    · exact ⟨i, x, a, by omega, hx, hk, e⟩
    · exact ⟨j, r, a, by omega, hr, ⟨x, hx, ho⟩, e⟩
  · rintro ⟨i, x, a, hi, hx, hk, e⟩
    by_cases hij : i = j
    · subst hij
      rw [hr] at hx
      simp only [Option.some.injEq] at hx
      subst hx
      obtain ⟨x2, hx2, ho⟩ := hk
      exact .inr ⟨x2, hx2, a, ho, e⟩
    · exact .inl ⟨i, x, a, by omega, hx, hk, e⟩

def acP (n j : Nat) : List (List UInt8) := ((clsL sp0 n).take j).filter isFst

theorem acP_start (n : Nat) : acP n 0 = [] := rfl

theorem acP_yes {n j : Nat} {r : List UInt8} (hr : (clsL sp0 n)[j]? = some r) (hf : isFst r = true) : acP n (j + 1) = acP n j ++ [r] := by
  rw [acP, List.take_add_one, hr, List.filter_append]
  simp [acP, hf]

theorem acP_no {n j : Nat} {r : List UInt8} (hr : (clsL sp0 n)[j]? = some r) (hf : isFst r = false) : acP n (j + 1) = acP n j := by
  rw [acP, List.take_add_one, hr, List.filter_append]
  simp [acP, hf]

theorem acP_end (n j : Nat) (h : (clsL sp0 n).length ≤ j) : acP n j = acL n := by rw [acP, List.take_of_length_le h]; rfl

theorem acP_le (n j : Nat) : (acP n j).length ≤ j := by
  refine Nat.le_trans (List.length_filter_le _ _) ?_
  rw [List.length_take]; omega

end Go.Proofs.YtkmgcmgnaeamaaaGreatDoor

/- The first rings of their classes among those that are laid whole from a box: as many rings as variants. Nothing of the program. -/
namespace Go.Proofs.YtkmgcmgnaeamaaaGreatDoor

set_option linter.unusedVariables false
set_option linter.unusedSimpArgs false

theorem var_list (l : List UInt8) (h0 : 0 < l.length) : ∃ V : List (List UInt8), V.Nodup ∧ (∀ a, a ∈ V ↔ kin l a) ∧ V.length = varN l := by
  obtain ⟨W, hW⟩ := told_fold (four l) (fun y hy => by rw [four_len hy]; exact h0)
  exact ⟨W, hW.nodup, hW.mem, hW.len⟩

/-- The first ones of their classes among them. -/
def bxF (s c : Nat) : List (List UInt8) := (bxR s c).filter isFst

theorem bxF_ac {s c : Nat} (h : 0 < s + c) : bxF s c = (acL (s + c)).filter fun w => cnt 83 w == s := by
  rw [bxF, bxR_cls h, acL, List.filter_filter, List.filter_filter]
  apply List.filter_congr
  intro w _
  rw [Bool.and_comm]

theorem cnt_mir (w : List UInt8) : cnt 83 (w.map mir) = cnt 83 w := by
  induction w with
  | nil => rfl
  | cons c w ih =>
    rw [List.map_cons, cnt_cons, cnt_cons, ih]
    congr 1
    have : (mir c == 83) = (c == 83) := by
      unfold mir
      split
      · rename_i h; rw [beq_iff_eq] at h; subst h; decide
      · split
        · rename_i h; rw [beq_iff_eq] at h; subst h; decide
        · rfl
    rw [this]

theorem cnt_spn (w : List UInt8) (k : Nat) : cnt 83 (spn w k) = cnt 83 w := by
  unfold cnt spn
  rw [List.count_append, Nat.add_comm, ← List.count_append, List.take_append_drop]

theorem cnt_bak (w : List UInt8) : cnt 83 (bak w) = cnt 83 w := by
  have h := cnt_mir w
  unfold cnt bak at *
  rw [List.count_reverse]
  exact h

theorem cnt_kin {a y : List UInt8} (h : kin a y) : cnt 83 y = cnt 83 a := by
  obtain ⟨x, hx, k, _, rfl⟩ := h
  rw [cnt_spn]
  simp only [four, List.mem_cons, List.not_mem_nil, or_false] at hx
  rcases hx with rfl | rfl | rfl | rfl
  · rfl
  · exact cnt_mir _
  · exact cnt_bak _
  · rw [cnt_mir]; exact cnt_bak _

theorem class_same {a y : List UInt8} (h0 : 0 < a.length) (hl : lett a) (h : kin a y) : classL y = classL a := by
  have hy := kin_lett hl h
  have h1 := class_kin h0
  have h2 := class_kin (show 0 < y.length by rw [kin_len h]; exact h0)
  have a1 := h1.2 _ (kin_trans hl h h2.1)
  have a2 := h2.2 _ (kin_trans hy (kin_sym hl h) h1.1)
  rcases lt_tri (classL y) (classL a) with g | g | g
  · exact absurd g a1
  · exact g
  · exact absurd g a2

/-- How many variants the first ones have, together: the rings themselves. -/
def sumV (l : List (List UInt8)) : Nat := (l.map varN).sum

theorem sumV_nil : sumV [] = 0 := rfl

theorem sumV_snoc (l : List (List UInt8)) (x : List UInt8) : sumV (l ++ [x]) = sumV l + varN x := by simp [sumV]

theorem sum_all (n : Nat) : ∀ R : List (List UInt8), R.Nodup → (∀ r ∈ R, 0 < r.length ∧ lett r ∧ classL r = r) → ∃ V : List (List UInt8), V.Nodup ∧ (∀ a, a ∈ V ↔ ∃ r ∈ R, kin r a) ∧ V.length = sumV R
  | [], _, _ => ⟨[], List.nodup_nil, fun a => by simp, rfl⟩
  | r :: R, hn, h => by
    obtain ⟨V, v1, v2, v3⟩ := sum_all n R (List.nodup_cons.1 hn).2 (fun x hx => h x (by simp [hx]))
    obtain ⟨h0, hl, hc⟩ := h r (by simp)
    obtain ⟨U, u1, u2, u3⟩ := var_list r h0
    refine ⟨U ++ V, ?_, fun a => ?_, ?_⟩
    · rw [List.nodup_append]
      refine ⟨u1, v1, fun a ha b hb e => ?_⟩
      subst e
      obtain ⟨r', hr', hk'⟩ := (v2 a).1 hb
      have hk := (u2 a).1 ha
      obtain ⟨h0', hl', hc'⟩ := h r' (by simp [hr'])
      have e1 := class_same h0 hl hk
      have e2 := class_same h0' hl' hk'
      rw [e1, hc, hc'] at e2
      subst e2
      exact (List.nodup_cons.1 hn).1 hr'
    · rw [List.mem_append, u2, v2]
      simp
    · rw [List.length_append, u3, v3, sumV, sumV, List.map_cons, List.sum_cons]

theorem nodup_lt {l : List (List UInt8)} (h : l.Pairwise fun a b => a < b) : l.Nodup := h.imp fun hab e => by subst e; exact lt_irr _ hab

theorem rings_sum (s c : Nat) : sumV (bxF s c) = (bxR s c).length := by
  have hF : ∀ r ∈ bxF s c, r ∈ bxR s c ∧ classL r = r := fun r hr => by
    rw [bxF, List.mem_filter, isFst, decide_eq_true_eq] at hr
    exact hr
  obtain ⟨V, v1, v2, v3⟩ := sum_all 0 (bxF s c) ((nodup_lt (bxR_lt s c)).filter _) fun r hr => by
    have h := bxR_iff.1 (hF r hr).1
    exact ⟨h.2.1, h.1.1.2, (hF r hr).2⟩
  rw [← v3]
  refine List.Perm.length_eq ((List.perm_ext_iff_of_nodup v1 (nodup_lt (bxR_lt s c))).2 fun y => ?_)
  rw [v2]
  constructor
  · rintro ⟨r, hr, hk⟩
    have h := bxR_iff.1 (hF r hr).1
    have hc := cls_iffA.1 (cls_kin (cls_iffA.2 ⟨h.1.1, h.2.2⟩) hk)
    exact bxR_iff.2 ⟨⟨hc.1, by rw [cnt_kin hk]; exact h.1.2⟩, by rw [hc.1.1, ← h.1.1.1]; exact h.2.1, hc.2⟩
  · intro hy
    have h := bxR_iff.1 hy
    have hk := (class_kin h.2.1).1
    have hk' := kin_sym h.1.1.2 hk
    refine ⟨classL y, ?_, hk'⟩
    have hc := cls_iffA.1 (cls_kin (cls_iffA.2 ⟨h.1.1, h.2.2⟩) hk)
    rw [bxF, List.mem_filter, isFst, decide_eq_true_eq]
    exact ⟨bxR_iff.2 ⟨⟨hc.1, by rw [cnt_kin hk]; exact h.1.2⟩, by rw [hc.1.1, ← h.1.1.1]; exact h.2.1, hc.2⟩, class_same h.2.1 h.1.1.2 hk⟩

end Go.Proofs.YtkmgcmgnaeamaaaGreatDoor

/- A map of told arrays: what it holds. -/
namespace Go.Proofs.YtkmgcmgnaeamaaaGreatDoor
open Go Go.ChangeMaps Go.MapKept Go.ChangeShapes Go.WideShapes Go.RowKit
open Go.WideMaps (KeyLaw)
open Go.Maps (Keyed)

theorem lpArr : Go.WideMaps.ArrKey Tryz.prog 38 5 40 where
  hu := Tryz.underlying38
  plain := by kernel_rfl
  one := by kernel_rfl
  size := by kernel_rfl

theorem lpLaw : KeyLaw Tryz.prog 38 := lpArr.law

theorem mapM_all {α β : Type} (f : α → Option β) : ∀ l : List α, (∀ a ∈ l, ∃ b, f a = some b) → ∃ bs, l.mapM f = some bs
  | [], _ => ⟨[], by simp⟩
  | a :: l, h => by
    obtain ⟨b, hb⟩ := h a (by simp)
    obtain ⟨bs, hbs⟩ := mapM_all f l (fun x hx => h x (by simp [hx]))
    exact ⟨b :: bs, by simp [hb, hbs]⟩

theorem byV_wf (c : UInt8) : (Lit.int .u8 (c.toNat : Int)).wf = true := by
  have := c.toNat_lt
  have h1 : IntKind.u8.min = 0 := by decide
  have h2 : IntKind.u8.max = 255 := by decide
  simp only [Lit.wf, h1, h2, Bool.and_eq_true, decide_eq_true_eq]
  omega

set_option maxRecDepth 100000 in
theorem lpKey (x : Lp) : ∃ l, keyOf Tryz.prog 38 (.agg (arr x)) = some l := by
  have hkt : Tryz.prog.keyType 38 = true := by kernel_rfl
  have hc : Tryz.prog.cellsOf 38 = 40 := by kernel_rfl
  have hc1 : Tryz.prog.cellsOf 5 = 1 := by kernel_rfl
  obtain ⟨m, hm⟩ : ∃ m, Tryz.prog.types.size = m + 1 := ⟨Tryz.prog.types.size - 1, (Nat.sub_add_cancel (of_decide_eq_true (by kernel_rfl))).symm⟩
  have hfm : (Value.agg (arr x)).formed Tryz.prog 38 = true := by simp [Value.formed, Tryz.underlying38, hc, arr_size]
  have hL : ∃ ls, Tryz.prog.keyLits (m + 2) 38 (encLp x) = some ls := by
    have hall : ∃ bs, (List.range 40).mapM (fun i => Tryz.prog.keyLits (m + 1) 5 (((encLp x).drop (i * 1)).take 1)) = some bs := by
      refine mapM_all _ _ fun i hi => ?_
      have hi : i < 40 := List.mem_range.1 hi
      have hlen := encLp_len x
      have e : ((encLp x).drop (i * 1)).take 1 = [byV (x.1[i]'(by rw [x.2]; exact hi))] := by
        rw [Nat.mul_one, List.drop_eq_getElem_cons (by omega), List.take_succ_cons, List.take_zero]
        simp [encLp]
      rw [e]
      exact ⟨_, by simp [Program.keyLits, Tryz.underlying5, byV, byV_wf]; rfl⟩
    obtain ⟨bs, hbs⟩ := hall
    refine ⟨bs.flatten, ?_⟩
    unfold Program.keyLits
    rw [Tryz.underlying38]
    simp only [hc, hc1, encLp_len, if_true, hbs, Option.map_some]
  obtain ⟨ls, hls⟩ := hL
  unfold keyOf
  rw [Tryz.underlying38]
  simp only [hkt, hfm, Bool.and_self, if_true]
  rw [hm, show (Value.agg (arr x)).cells.toList = encLp x by simp [Value.cells, arr], hls]
  exact ⟨_, rfl⟩

/-- The key that an array is. -/
noncomputable def klL (x : Lp) : Lit := (keyOf Tryz.prog 38 (.agg (arr x))).getD (.string [])
theorem klL_key (x : Lp) : keyOf Tryz.prog 38 (.agg (arr x)) = some (klL x) := by
  obtain ⟨l, hl⟩ := lpKey x
  simp [klL, hl]

theorem arr_inj {x y : Lp} (h : arr x = arr y) : x = y := by
  have h1 := congrArg Array.toList h
  simp only [arr] at h1
  refine Subtype.ext (List.ext_getElem (by rw [x.2, y.2]) fun i hi hj => ?_)
  have h2 := congrArg (fun l : List Value => l[i]?) h1
  simp [encLp, byV, hi, hj] at h2
  exact UInt8.toNat_inj.1 (by omega)

set_option maxRecDepth 100000 in
theorem klL_inj {x y : Lp} (e : klL x = klL y) : x = y := by
  have a := klL_key x
  have b := klL_key y
  rw [e] at a
  have := lpLaw.inj a b
  injection this with h
  exact arr_inj h

set_option maxRecDepth 100000 in
theorem klL_lit (x : Lp) : WideAt.IsKeyLit (klL x) := (Keyed.of_law lpLaw).key (klL_key x)

theorem plainElem_bool_inv {e : TypeId} (he : Tryz.prog.underlying e = some .bool) {v : Value} {z : DataW Unit × List MemPlace} (h : plainElem Tryz.prog e v = some z) : ∃ b, v = .bool b ∧ z = (.lit (.bool b), []) := by
  unfold plainElem at h
  rw [he] at h
  cases v <;> simp at h
  subst h
  exact ⟨_, rfl, rfl⟩

/-- Block b is a map that holds true at the arrays T, and nothing else. -/
def ToldAt (w : World) (b m : Nat) (T : List Lp) : Prop :=
  ∃ D : DataW Unit, w.ownsMap Tryz.prog 38 (plainElem Tryz.prog 4) b m D ∧ ∀ x, D.atKey (klL x) (.lit (.bool false)) = .lit (.bool (decide (x ∈ T)))

theorem ToldAt_start (w : World) : ToldAt (w.alloc (.map #[] 0)) w.heap.size 0 [] :=
  ⟨.map [], World.ownsMap_made _ _ _ _, fun x => by simp [DataW.atKey]⟩

theorem ToldAt.kept {w w' : World} {b m : Nat} {T : List Lp} {row : Option Nat} (h : ToldAt w b m T) (hg : w.grownBy w' row) (hb : some b ≠ row) : ToldAt w' b m T := by
  obtain ⟨D, hM, hD⟩ := h
  exact ⟨D, hM.kept hg hb, hD⟩

theorem ToldAt.lt {w : World} {b m : Nat} {T : List Lp} (h : ToldAt w b m T) : b < w.heap.size := by
  obtain ⟨D, hM, hD⟩ := h
  exact hM.lt

theorem ToldAt.below {w w' : World} {b m : Nat} {T : List Lp} (h : ToldAt w b m T) (hb : Below w.heap.size w w') : ToldAt w' b m T := by
  obtain ⟨D, hM, hD⟩ := h
  exact ⟨D, hM.kept (row := none) ⟨hb.os, hb.tape, hb.output, hb.size, fun k hk _ => hb.block k hk⟩ (by simp), hD⟩

set_option maxRecDepth 100000 in
theorem ToldAt.look {w : World} {b m : Nat} {T : List Lp} (h : ToldAt w b m T) (x : Lp) : (Instr.lookup 69 (.map (some b)) (.agg (arr x)) false).run Tryz.prog w = .ok (.bool (decide (x ∈ T))) w := by
  obtain ⟨D, hM, hD⟩ := h
  obtain ⟨v, ps, hrun, hv⟩ := hM.lookup (Keyed.of_law lpLaw) Tryz.underlying69 (z := .bool false) (by kernel_rfl) (plainElem_bool Tryz.underlying4 false) (klL_key x)
  obtain ⟨b', rfl, hz⟩ := plainElem_bool_inv Tryz.underlying4 hv
  rw [hD x] at hz
  injection hz with hz _
  injection hz with hz
  injection hz with hz
  rw [hz]
  exact hrun

set_option maxRecDepth 100000 in
theorem ToldAt.put {w : World} {b m : Nat} {T : List Lp} (h : ToldAt w b m T) (hm : m < maxLen) (x : Lp) :
    ∃ w', (Instr.mapUpdate 69 (.map (some b)) (.agg (arr x)) (.bool true)).run Tryz.prog w = .ok () w' ∧ ToldAt w' b (m + 1) (T ++ [x]) ∧ w.grownBy w' (some b) := by
  obtain ⟨D, hM, hD⟩ := h
  obtain ⟨w', hrun, h2, h3⟩ := hM.update (Keyed.of_law lpLaw) Tryz.underlying69 hm (klL_key x) (plainElem_bool Tryz.underlying4 true)
  refine ⟨w', hrun, ⟨D.put (klL x) (.lit (.bool true)), h2, fun y => ?_⟩, h3⟩
  by_cases e : x = y
  · subst e
    rw [Maps.atKey_put_same hM.isMap (klL_lit x)]
    simp
  · rw [Maps.atKey_put_other (fun h => e (klL_inj h.symm)), hD y]
    congr 2
    have : ¬ y = x := fun h => e h.symm
    simp [this]

end Go.Proofs.YtkmgcmgnaeamaaaGreatDoor

/- A row of arrays held: loads, stores, the sort's worlds. -/
namespace Go.Proofs.YtkmgcmgnaeamaaaGreatDoor
open Go.ChangeShapes Go.WideShapes Go.ChangeAt Go.RowKit Go.Lib

set_option linter.unusedVariables false

def HoldsLp (W : World) (g : Nat) (d : Array Lp) : Prop := Sort.HoldsK encLp 40 W g 0 d

theorem HoldsLp.load {W : World} {g i K : Nat} {d : Array Lp} (h : HoldsLp W g d) (hK : K = 40) (hi : i < d.size) : Sem.run Tryz.prog (loadCellsFrom ⟨g, i * K, none⟩ 0 K #[]) W = .ok (arr d[i]!) W := by
  subst hK
  have := run_loadCellsFrom_list Tryz.prog W ⟨g, 0 + i * 40, none⟩ (encLp d[i]!) 40 (encLp_len _) (HoldsK.cells h encLp_len hi)
  rwa [Nat.zero_add] at this

theorem lp_bnd {i n : Nat} (h : i < n) : i * 40 + 40 ≤ n * 40 := by
  have := Nat.mul_le_mul_right 40 (show i + 1 ≤ n from h); rwa [Nat.add_mul, Nat.one_mul] at this

theorem HoldsLp.store {W : World} {g i K : Nat} {d : Array Lp} (h : HoldsLp W g d) (hK : K = 40) (hi : i < d.size) (y : Lp) : Sem.run Tryz.prog (storeCells ⟨g, i * K, none⟩ (arr y).toList) W = .ok () (W.setCells g (i * K) (encLp y)) := by
  subst hK
  have := stores_of_holds Tryz.prog h (i * 40) (encLp y) (by rw [Sort.size_flatK, encLp_len]; exact lp_bnd hi) (enc_one y)
  rw [Nat.zero_add] at this
  simpa [arr] using this

theorem setMany_one (d : Array Lp) (i : Nat) (hi : i < d.size) (y : Lp) : Sort.setMany (Sort.flatK encLp 40 d) (i * 40) (encLp y) = Sort.flatK encLp 40 (d.setIfInBounds i y) := by
  refine Sort.ext_get! (by simp) fun t ht => ?_
  have ht' : t < d.size * 40 := by simpa using ht
  rw [Sort.get_setMany _ _ _ t (by simpa using ht'), Sort.get_flatK _ _ _ t ht', Sort.get_flatK _ _ _ t (by simpa using ht'), encLp_len]
  have m : ∀ q, t / 40 = q → t - q * 40 = t % 40 := fun q h => by subst h; rw [Nat.mod_eq_sub_div_mul]
  by_cases a : t / 40 = i
  · rw [if_pos ((Sort.blk_iff 40 i t (by decide)).2 a), m i a, a, Sort.getElem!_set_same d i y hi]
  · rw [if_neg (fun h => a ((Sort.blk_iff 40 i t (by decide)).1 h)), Sort.getElem!_set_other d i (t / 40) y a]

theorem HoldsLp.set {W : World} {g i K : Nat} {d : Array Lp} (h : HoldsLp W g d) (hK : K = 40) (hi : i < d.size) (y : Lp) : HoldsLp (W.setCells g (i * K) (encLp y)) g (d.setIfInBounds i y) := by
  subst hK
  have := holds_setCells_c h (i * 40) (encLp y) (by rw [Sort.size_flatK, encLp_len]; exact lp_bnd hi)
  rw [Nat.zero_add, setMany_one d i hi y] at this
  exact this

theorem HoldsLp.drewN {W : World} {g : Nat} {d : Array Lp} (h : HoldsLp W g d) (q : Nat) : HoldsLp (W.drewN q) g d := h

theorem below_setCells : ∀ (vs : List Value) (o : Nat) {m g : Nat} {a w : World}, Below m a w → m ≤ g → Below m a (w.setCells g o vs)
  | [], _, _, _, _, _, h, _ => h
  | v :: r, o, _, g, _, _, h, hg => below_setCells r (o + 1) (h.setCell (p := ⟨g, o, none⟩) hg v) hg

theorem below_sort {w : World} {m g n : Nat} {d : Array Lp} (os : Array Obj) (hg : m ≤ g) (hl : g < w.heap.size) : Below m w (sortWorldK encLp 40 w g 0 n d os) := by
  unfold sortWorldK
  refine ⟨rfl, rfl, rfl, ?_, fun k hk => ?_⟩
  · rw [Sort.size_grow, Sort.size_putRowK]; exact Nat.le_add_right _ _
  · rw [Sort.heap_grow_old _ os (by rw [Sort.size_putRowK]; show k < w.heap.size; omega)]
    show (w.heap.modify g _)[k]? = _
    rw [Array.getElem?_modify, if_neg (by omega)]

theorem HoldsLp.own {W : World} {B n g cap : Nat} {d : Array Lp} (h : W.ownsRow B 38 40 (.slice (some ⟨g, 0, none⟩) n cap) n (lpCells d.toList)) (hn : d.size = n) : HoldsLp W g d := fun j hj => by
  rw [Sort.size_flatK] at hj
  have hq : j / 40 < d.size := Nat.div_lt_of_lt_mul (by omega)
  have hr : j % 40 < 40 := Nat.mod_lt _ (by decide)
  refine ⟨?_, h.frozenAt _⟩
  rw [Nat.zero_add, h.cellAt j (by omega), Sort.get_flatK _ _ _ _ hj]
  have hx : d.toList[j / 40]? = some d[j / 40]! := by rw [getElem!_pos d _ hq, List.getElem?_eq_getElem (by simpa using hq)]; simp
  have hv : (encLp d[j / 40]!)[j % 40]? = some (encLp d[j / 40]!)[j % 40]! := by
    rw [getElem!_pos (encLp d[j / 40]!) _ (by rw [encLp_len]; exact hr), List.getElem?_eq_getElem]
  have := lpCells_at d.toList _ _ hx _ _ hv
  rw [show j / 40 * 40 + j % 40 = j by omega] at this
  exact this

theorem HoldsLp.row {W : World} {g : Nat} {d : Array Lp} (h : HoldsLp W g d) : RowLp W g d.toList := fun j x hx i v hv => by
  have hj : j < d.size := by have := (List.getElem?_eq_some_iff.1 hx).1; simpa using this
  have e : d[j]! = x := by
    rw [getElem!_pos d j hj]
    have := (List.getElem?_eq_some_iff.1 hx).2
    simpa using this
  have := HoldsK.cells h encLp_len hj i v (by rw [e]; exact hv)
  rw [Addr.add_lit, Nat.zero_add] at this
  exact this

/-- The program's order of arrays. -/
def cfL (x y : Lp) : Int := Lib.compareBytes x.1 y.1

theorem ltL (x y : Lp) : ltOf cfL x y = decide (x.1 < y.1) := cmp_neg x y

theorem swoL : Sort.SWO (ltOf cfL) where
  irrefl x := by rw [ltL]; exact decide_eq_false (lt_irr _)
  trans x y z h1 h2 := by
    rw [ltL] at h1 h2 ⊢
    exact decide_eq_true (lt_trn (of_decide_eq_true h1) (of_decide_eq_true h2))
  ntrans x y z h1 h2 := by
    rw [ltL] at h1 h2 ⊢
    have a := of_decide_eq_false h1
    have b := of_decide_eq_false h2
    refine decide_eq_false fun h => ?_
    rcases lt_tri x.1 y.1 with g | g | g
    · exact a g
    · rw [g] at h; exact b h
    · exact b (lt_trn g h)

theorem totL (x y : Lp) (h1 : ltOf cfL x y = false) (h2 : ltOf cfL y x = false) : x = y := by
  rw [ltL] at h1 h2
  rcases lt_tri x.1 y.1 with g | g | g
  · exact absurd g (of_decide_eq_false h1)
  · exact Subtype.ext g
  · exact absurd g (of_decide_eq_false h2)

def srtL (d : Array Lp) : Array Lp := (d.toList.mergeSort fun x y => !(ltOf cfL) y x).toArray

theorem srtL_size (d : Array Lp) : (srtL d).size = d.size := by simp [srtL, List.length_mergeSort]

theorem srtL_mem (d : Array Lp) (x : Lp) : (∃ j, j < d.size ∧ (srtL d)[j]! = x) ↔ x ∈ d.toList := by
  have h : ∀ x, x ∈ (srtL d).toList ↔ x ∈ d.toList := fun x => (List.mergeSort_perm _ _).mem_iff
  rw [← h x, List.mem_iff_getElem]
  constructor
  · rintro ⟨j, hj, rfl⟩
    rw [← srtL_size] at hj
    exact ⟨j, by simpa using hj, by rw [getElem!_pos _ j hj]; simp⟩
  · rintro ⟨j, hj, rfl⟩
    have hj' : j < (srtL d).size := by simpa using hj
    exact ⟨j, by rw [← srtL_size]; exact hj', by rw [getElem!_pos _ j hj']; simp⟩

theorem srtL_sorted (d : Array Lp) (i j : Nat) (hij : i < j) (hj : j < (srtL d).size) : ¬ (srtL d)[j]!.1 < (srtL d)[i]!.1 := by
  have hp : (srtL d).toList.Pairwise fun x y => (!(ltOf cfL) y x) = true := by
    have hS := swoL
    refine List.pairwise_mergeSort (fun a b c h1 h2 => ?_) (fun a b => ?_) _
    · simp only [Bool.not_eq_true'] at h1 h2 ⊢
      exact hS.ntrans _ _ _ h2 h1
    · cases h1 : ltOf cfL b a with
      | false => simp
      | true =>
        have : ltOf cfL a b = false := by
          cases h2 : ltOf cfL a b with
          | false => rfl
          | true => have := hS.trans _ _ _ h1 h2; rw [hS.irrefl] at this; cases this
        simp [this]
  have := List.pairwise_iff_getElem.1 hp i j (by simp; omega) (by simpa using hj) hij
  rw [getElem!_pos _ j hj, getElem!_pos _ i (by omega)]
  simp only [Bool.not_eq_true', ltL] at this
  simpa using of_decide_eq_false this

set_option maxRecDepth 100000 in
theorem sortFunc_any (d : Array Lp) (n : Nat) (hn : d.size = n) (hb5 : n ≤ 5000) (g cap : Nat) (w : World) (hH : HoldsLp w g d) (hg : g < w.heap.size) :
    Calls Tryz.prog 31 #[.slice (some ⟨g, 0, none⟩) n cap, .func (.func 32) #[] #[]] w fun e w' => e = .returned (.tuple #[]) ∧ HoldsLp w' g (srtL d) ∧ Below g w w' := by
  subst hn
  have h := AnyQ.slices_SortFunc_total Tryz.sortLoop 40 Tryz.isAgg38 Tryz.sizeOf38 encLp encLp_len enc_one cfL swoL 32 #[] g 0 cap d w
    (enters_of Tryz.func32 (by kernel_rfl) rfl) (fun m os dk _ x y => compare_gr x y _) hH hg (by omega) totL
  refine h.mono fun e w' ⟨h1, q, os, h2⟩ => ⟨h1, ?_, ?_⟩
  · rw [h2]
    exact holdsK_sortWorldK encLp 40 w g 0 q d (srtL d) os hg hH (srtL_size d)
  · rw [h2]
    exact below_sort os (Nat.le_refl _) hg

end Go.Proofs.YtkmgcmgnaeamaaaGreatDoor

/- Contract: the library's slices.Compact at arrays of forty bytes. -/
namespace Go.Proofs.YtkmgcmgnaeamaaaGreatDoor
open Go.ChangeShapes Go.WideShapes Go.ChangeAt Go.RowKit Go.Lib

set_option linter.unusedVariables false

theorem zero_one : ∀ v ∈ (Builtin.zeroCells (arr zLp) 0).toList, v.oneCell' = true := by simp [Builtin.zeroCells]

theorem zeroCells_size (m : Nat) : (Builtin.zeroCells (arr zLp) m).toList.length = m * 40 := by simp [Builtin.zeroCells, arr_size]

theorem zeroCells_one (m : Nat) : ∀ v ∈ (Builtin.zeroCells (arr zLp) m).toList, v.oneCell' = true := by
  intro v hv
  simp only [Builtin.zeroCells, Array.toList_map, List.mem_map, arr_size] at hv
  obtain ⟨t, _, rfl⟩ := hv
  have hr : t % 40 < 40 := Nat.mod_lt _ (by decide)
  have h := arr_at zLp (t % 40) hr
  rw [getElem!_pos (arr zLp) (t % 40) (by rw [arr_size]; exact hr)]
  obtain ⟨_, h2⟩ := Array.getElem?_eq_some_iff.1 h
  rw [h2]
  rfl

theorem clear_run {W : World} {g i n K : Nat} {d : Array Lp} (h : HoldsLp W g d) (hK : K = 40) (hi : i < n) (hn : d.size = n) (ty : TypeId) (c : Nat) :
    (Builtin.clear_ #[36] ty #[.slice (some ⟨g, i * K, none⟩) (n - i) c]).run Tryz.prog W = .ok (.tuple #[]) (W.setCells g (i * K) (Builtin.zeroCells (arr zLp) (n - i)).toList) := by
  subst hK
  have hz := (zero_of_info (P := Tryz.prog) lpInfo).1
  have hc : ∀ j, j < (n - i) * 40 → W.cell? ⟨g, i * 40 + j, none⟩ = some (Sort.flatK encLp 40 d)[i * 40 + j]! ∧ W.frozen? ⟨g, i * 40 + j, none⟩ = false := fun j hj => by
    have := h (i * 40 + j) (by rw [Sort.size_flatK, hn]; have := Nat.sub_mul n i 40; omega)
    rw [Nat.zero_add] at this
    exact this
  have hst := run_storeCells_cells (P := Tryz.prog) g (i * 40) (Builtin.zeroCells (arr zLp) (n - i)).toList 0 W
    (fun j hj => by rw [zeroCells_size] at hj; rw [Nat.add_zero, (hc j hj).1]; rfl) (fun j hj => by rw [zeroCells_size] at hj; rw [Nat.add_zero]; exact (hc j hj).2) (zeroCells_one _)
  rw [Nat.add_zero] at hst
  obtain ⟨m, hm⟩ : ∃ m, n - i = m + 1 := ⟨n - i - 1, by omega⟩
  rw [hm] at hst ⊢
  simp [Builtin.clear_, run_underlying Tryz.underlying36, hz, Value.cells, hst]

theorem row_cut {W : World} {g n k : Nat} {d dk : Array Lp} (h : HoldsLp W g dk) (hI : CompInv d n k dk) (hk : k ≤ dk.size) (vs : List Value) {K : Nat} (hK : K = 40) : RowLp (W.setCells g (k * K) vs) g (compactUpTo d n) := fun j x hx i v hv => by
  subst hK
  have hj : j < k := by have := (List.getElem?_eq_some_iff.1 hx).1; rw [hI.len] at this; exact this
  rw [hI.low j hj] at hx
  simp only [Option.some.injEq] at hx
  have hi : i < 40 := by have := (List.getElem?_eq_some_iff.1 hv).1; rwa [encLp_len] at this
  have hjk := lp_bnd hj
  rw [World.cell?_setCells_out g vs (k * 40) W ⟨g, j * 40 + i, none⟩ (fun _ _ => .inl (show j * 40 + i < k * 40 by omega))]
  have := HoldsK.cells h encLp_len (i := j) (by omega) i v (by rw [hx]; exact hv)
  rw [Addr.add_lit, Nat.zero_add] at this
  exact this

theorem eqL_t {x y : Lp} (h : x = y) : eqL x y = true := (eqL_iff x y).2 h

theorem eqL_f {x y : Lp} (h : ¬ x = y) : eqL x y = false := by
  cases he : eqL x y with
  | false => rfl
  | true => exact absurd ((eqL_iff x y).1 he) h

theorem guardLp : ∀ (op : BinOp) (a b : Operand) (x y : Lp) (w : World), Sem.run Tryz.prog (eqGuard op 38 a b (.agg (arr x)) (.agg (arr y))) w = .ok () w := eqlLp.2

set_option maxRecDepth 100000 in
set_option maxHeartbeats 1600000 in
theorem compact_any (d : Array Lp) (n : Nat) (hn : d.size = n) (hb5 : n ≤ 5000) (g cap : Nat) (hcap : n ≤ cap) (w : World) (hH : HoldsLp w g d) (hg : g < w.heap.size) :
    Calls Tryz.prog 33 #[.slice (some ⟨g, 0, none⟩) n cap] w fun e w' => e = .returned (.slice (some ⟨g, 0, none⟩) (compactUpTo d n).length cap) ∧ RowLp w' g (compactUpTo d n) ∧ Below g w w' := by
  have all : ∀ W, HoldsLp W g d → (∀ j, j < n → keeps d j = true) → (compactUpTo d n).length = n ∧ RowLp W g (compactUpTo d n) := fun W hW h => by
    have e : compactUpTo d n = d.toList := by rw [← hn] at h ⊢; rw [compactUpTo_all d _ h, range_map_get]
    rw [e]
    exact ⟨by simpa using hn, hW.row⟩
  have ALL := Lib.hid all
  have HH := Lib.hid hH
  clear all hH
  by_cases h2 : n < 2
  · have h2i : (n : Int) < 2 := by omega
    have hA := Lib.hid (ALL.out w HH.out (fun j hj => keeps_lt_one d j (by omega)))
    go_enter Tryz.func33, Tryz.ntmps33
    go_wp2_with fail
    go_ret
    exact ⟨by rw [hA.out.1]; rfl, hA.out.2, Below.refl _ _⟩
  have mixed : Tryz.prog.follows .mixedOrders = true := by kernel_rfl
  obtain ⟨K, hK⟩ : ∃ K, K = 40 := ⟨_, rfl⟩
  have HK := Lib.hid hK
  have zE := zK hK
  have HN := Lib.hid hn
  have h2i : ¬ (n : Int) < 2 := by omega
  clear hK hn
  go_enter Tryz.func33, Tryz.ntmps33
  go_wp2_with fail
  go_loopw [3] (fun i wr => ∃ k q : Nat, k + 1 ≤ n ∧ i = .int .i64 ((k : Int) + 1) ∧ wr = w.drewN q ∧ ∀ j, j < k + 1 → keeps d j = true) (fun i _ => n - (intOf i).toNat)
  case atStart => exact ⟨0, 0, by omega, rfl, rfl, keeps_lt_one d⟩
  case round =>
    obtain ⟨k, q, hk, rfl, rfl, hall⟩ := hrel
    have A := Lib.hid hall
    clear hall
    have i0 : (0 : Int) ≤ (k : Int) := by omega
    have i1 : (0 : Int) ≤ (k : Int) + 1 := by omega
    have i9 : ((k : Int) + 1).toNat = k + 1 := by omega
    have i8 : IntKind.i64.wrap (k : Int) = (k : Int) := by rw [IntKind.wrap_i64]; omega
    by_cases hlt : k + 1 < n
    · have i2 : (k : Int) + 1 < (n : Int) := by omega
      have i3 : (k : Int) < (n : Int) := by omega
      have i5 : (k : Int) + 1 ≤ (n : Int) := by omega
      have i6 : (n : Int) ≤ (cap : Int) := by omega
      have HQ := Lib.hid (HH.out.drewN q)
      have l1 : ∀ m, Sem.run Tryz.prog (loadCellsFrom ⟨g, (k + 1) * K, none⟩ 0 K #[]) ((w.drewN q).drewN m) = .ok (arr d[k + 1]!) ((w.drewN q).drewN m) := fun m => (HQ.out.drewN m).load HK.out (by rw [HN.out]; exact hlt)
      have l2 : ∀ m, Sem.run Tryz.prog (loadCellsFrom ⟨g, k * K, none⟩ 0 K #[]) ((w.drewN q).drewN m) = .ok (arr d[k]!) ((w.drewN q).drewN m) := fun m => (HQ.out.drewN m).load HK.out (by rw [HN.out]; omega)
      have HB := Lib.hid ((show Below g w (w.drewN q) from below_drewC (Below.refl g w) q))
      by_cases hdup : d[k + 1]! = d[k]!
      · have he := fun w => eql_run d[k + 1]! d[k]! w
        rw [eqL_t hdup] at he
        have hgd := fun op a b w => guardLp op a b d[k + 1]! d[k]! w
        have D := Lib.hid (show d[k + 1]! = d[k + 1 - 1]! from hdup)
        clear hdup
        obtain ⟨x, hx⟩ : ∃ x, d[k + 1]! = x := ⟨_, rfl⟩
        obtain ⟨y, hy⟩ : ∃ y, d[k]! = y := ⟨_, rfl⟩
        rw [hx] at l1; rw [hy] at l2; rw [hx, hy] at he hgd
        clear hx hy
        generalize w.drewN q = w1 at *
        go_wp2_with fail
        go_quiet_o (fail)
        have H2 := Lib.hid (HQ.out.drewN nq)
        have B2 := Lib.hid (below_drewC HB.out nq)
        clear l1 l2 he hgd
        generalize w1.drewN nq = w2 at *
        go_wp2_with fail
        go_loopw [3, 5] (fun i j wr => ∃ (kk c : Nat) (dk : Array Lp), i = .int .i64 kk ∧ j = .int .i64 ((c : Int) + 1) ∧ (k + 1) + (c + 1) ≤ n ∧ HoldsLp wr g dk ∧ CompInv d ((k + 1) + (c + 1)) kk dk ∧ Below g w wr) (fun _ j _ => n - (intOf j).toNat)
        case atStart => exact ⟨k + 1, 0, d, by go_num, rfl, by omega, H2.out, CompInv.start A.out (keeps_neg (by omega) D.out), B2.out⟩
        case round =>
          obtain ⟨kk, c, dk, rfl, rfl, hle, hHk, hI, hb⟩ := hrel
          have hkk := hI.lt
          have hds := hI.size
          have HI := Lib.hid hI
          have HB3 := Lib.hid hb
          have HH3 := Lib.hid hHk
          have j1 : (0 : Int) ≤ (c : Int) := by omega
          have j2 : (0 : Int) ≤ (kk : Int) := by omega
          have j3 : (kk : Int) ≤ (n : Int) := by omega
          have j4 : (0 : Int) ≤ (c : Int) + 1 := by omega
          have j9 : ((c : Int) + 1).toNat = c + 1 := by omega
          have j8 : IntKind.i64.wrap (c : Int) = (c : Int) := by rw [IntKind.wrap_i64]; omega
          by_cases hlt2 : (k + 1) + (c + 1) < n
          · have m1 : (c : Int) + 1 < ((n - (k + 1) : Nat) : Int) := by omega
            have m2 : (c : Int) < ((n - (k + 1) : Nat) : Int) := by omega
            have m3 : (kk : Int) < (n : Int) := by omega
            have l3 : ∀ m, Sem.run Tryz.prog (loadCellsFrom ⟨g, (k + 1) * K + (c + 1) * K, none⟩ 0 K #[]) (wr.drewN m) = .ok (arr d[(k + 1) + (c + 1)]!) (wr.drewN m) := fun m => by
              have := (HH3.out.drewN m).load HK.out (i := (k + 1) + (c + 1)) (by rw [hds, HN.out]; exact hlt2)
              rw [HI.out.high ((k + 1) + (c + 1)) (by omega), Nat.add_mul (k + 1)] at this
              exact this
            have l4 : ∀ m, Sem.run Tryz.prog (loadCellsFrom ⟨g, (k + 1) * K + c * K, none⟩ 0 K #[]) (wr.drewN m) = .ok (arr d[(k + 1) + c]!) (wr.drewN m) := fun m => by
              have := (HH3.out.drewN m).load HK.out (i := (k + 1) + c) (by rw [hds, HN.out]; omega)
              rw [HI.out.high ((k + 1) + c) (by omega), Nat.add_mul (k + 1)] at this
              exact this
            have hds' : kk < dk.size := by rw [hds, HN.out]; omega
            by_cases huv : d[(k + 1) + (c + 1)]! = d[(k + 1) + c]!
            · have hne := fun w => neq_run d[(k + 1) + (c + 1)]! d[(k + 1) + c]! w
              rw [eqL_t huv] at hne
              have hgd := fun op a b w => guardLp op a b d[(k + 1) + (c + 1)]! d[(k + 1) + c]! w
              have D3 := Lib.hid (HI.out.skip (keeps_neg (by omega) (show d[(k + 1) + (c + 1)]! = d[(k + 1) + (c + 1) - 1]! from huv)))
              clear huv hI hHk hb
              generalize d[(k + 1) + (c + 1)]! = u at *
              generalize d[(k + 1) + c]! = v at *
              go_wp2_with fail
              go_quiet_o (fail)
              have H4 := Lib.hid (HH3.out.drewN nq)
              have B4 := Lib.hid (below_drewC HB3.out nq)
              clear l3 l4
              generalize wr.drewN nq = w3 at *
              go_wp2_with fail
              go_roundw
              case rel => exact ⟨kk, c + 1, dk, rfl, by go_num, by omega, H4.out, D3.out, B4.out⟩
              case measure => simp [intOf]; omega
            · have hne := fun w => neq_run d[(k + 1) + (c + 1)]! d[(k + 1) + c]! w
              rw [eqL_f huv] at hne
              have hgd := fun op a b w => guardLp op a b d[(k + 1) + (c + 1)]! d[(k + 1) + c]! w
              have D3 := Lib.hid (HI.out.keep (by rw [HN.out]; exact hlt2) (keeps_pos (show ¬ d[(k + 1) + (c + 1)]! = d[(k + 1) + (c + 1) - 1]! from huv)))
              clear huv hI hHk hb
              generalize d[(k + 1) + (c + 1)]! = u at *
              generalize d[(k + 1) + c]! = v at *
              have hAu := aK HK.out u
              go_wp2_with fail
              go_quiet_o (fail)
              have H4 := Lib.hid (HH3.out.drewN nq)
              have B4 := Lib.hid (below_drewC HB3.out nq)
              have l5 := l3 nq
              clear l3 l4 hne hgd
              generalize wr.drewN nq = w3 at *
              have st := H4.out.store HK.out hds' u
              have H5 := Lib.hid (H4.out.set HK.out hds' u)
              have B5 := Lib.hid (below_setCells (encLp u) (kk * K) B4.out (Nat.le_refl g))
              go_wp2_with fail
              go_roundw
              case rel => exact ⟨kk + 1, c + 1, dk.setIfInBounds kk u, by go_num, by go_num, by omega, H5.out, D3.out, B5.out⟩
              case measure => simp [intOf]; omega
          · have hend : (k + 1) + (c + 1) = n := by omega
            have m1 : ¬ (c : Int) + 1 < ((n - (k + 1) : Nat) : Int) := by omega
            have hkn : kk < n := by omega
            have hcl := fun ty c => clear_run HH3.out HK.out hkn (by rw [hds, HN.out]) ty c
            have HI2 := Lib.hid (show CompInv d n kk dk from hend ▸ HI.out)
            have HR := Lib.hid (row_cut HH3.out HI2.out (by rw [hds, HN.out]; omega) (Builtin.zeroCells (arr zLp) (n - kk)).toList HK.out)
            have B5 := Lib.hid (below_setCells (Builtin.zeroCells (arr zLp) (n - kk)).toList (kk * K) HB3.out (Nat.le_refl g))
            clear hI hHk hb
            generalize (Builtin.zeroCells (arr zLp) (n - kk)).toList = zs at *
            go_wp2_with fail
            go_ret
            exact ⟨by rw [HI2.out.len]; rfl, HR.out, B5.out⟩
      · have he := fun w => eql_run d[k + 1]! d[k]! w
        rw [eqL_f hdup] at he
        have hgd := fun op a b w => guardLp op a b d[k + 1]! d[k]! w
        have D := Lib.hid (show ¬ d[k + 1]! = d[k + 1 - 1]! from hdup)
        clear hdup
        obtain ⟨x, hx⟩ : ∃ x, d[k + 1]! = x := ⟨_, rfl⟩
        obtain ⟨y, hy⟩ : ∃ y, d[k]! = y := ⟨_, rfl⟩
        rw [hx] at l1; rw [hy] at l2; rw [hx, hy] at he hgd
        clear hx hy
        obtain ⟨w1, hw1⟩ : ∃ w1, w.drewN q = w1 := ⟨_, rfl⟩
        rw [hw1] at l1 l2 ⊢
        have HW := Lib.hid hw1
        clear hw1
        go_wp2_with fail
        go_quiet_o (fail)
        clear l1 l2 he hgd
        go_wp2_with fail
        go_roundw
        case rel => exact ⟨k + 1, q + nq, by omega, by go_num, by rw [← HW.out, World.drewN_drewN], fun j hj => by
          by_cases e : j = k + 1
          · subst e; exact keeps_pos D.out
          · exact A.out j (by omega)⟩
        case measure => simp [intOf]; omega
    · have hkn : k + 1 = n := by omega
      have i2 : ¬ (k : Int) + 1 < (n : Int) := by omega
      have hA := Lib.hid (ALL.out (w.drewN q) (HH.out.drewN q) (fun j hj => A.out j (by omega)))
      have HB := Lib.hid ((show Below g w (w.drewN q) from below_drewC (Below.refl g w) q))
      clear hkn
      go_wp2_with fail
      go_ret
      exact ⟨by rw [hA.out.1]; rfl, hA.out.2, HB.out⟩

end Go.Proofs.YtkmgcmgnaeamaaaGreatDoor

/- Contracts: the least one of the spun rings, and the period of a ring, in the program and in the model. -/
namespace Go.Proofs.YtkmgcmgnaeamaaaGreatDoor
open Go.ChangeShapes Go.WideShapes Go.ChangeAt Go.RowKit

set_option linter.unusedVariables false

theorem own_capR {W : World} {B n g cap size : Nat} {e : TypeId} {xs : List Value} (h : W.ownsRow B e size (.slice (some ⟨g, 0, none⟩) n cap) n xs) : n ≤ cap := by
  rcases h.2 with ⟨h, _⟩ | ⟨g', cap', cur, h, _, _, h1, h2, _⟩
  · cases h
  · injection h with _ _ h3
    subst h3
    exact h1

def lrS (s : ByteArray) : ByteArray := cond (clB s) (ofL (leastL s.data.toList)) ⟨#[]⟩

def prI (s : ByteArray) : Int := cond (clB s) (perN s.data.toList : Nat) 0

theorem lr_no {s : ByteArray} (h : clB s = false) : Ending.returned (.tuple #[.string ⟨#[]⟩, .bool false]) = Ending.returned (.tuple #[.string (lrS s), .bool false]) := by simp [lrS, h]

theorem lr_yes {s : ByteArray} (h : clB s = true) : Ending.returned (.tuple #[.string (ofL (leastL s.data.toList)), .bool true]) = Ending.returned (.tuple #[.string (lrS s), .bool true]) := by simp [lrS, h]

theorem pr_no {s : ByteArray} (h : clB s = false) : Ending.returned (.tuple #[.int .i64 0, .bool false]) = Ending.returned (.tuple #[.int .i64 (prI s), .bool false]) := by simp [prI, h]

theorem pr_yes {s : ByteArray} (h : clB s = true) : Ending.returned (.tuple #[.int .i64 (perN s.data.toList : Nat), .bool true]) = Ending.returned (.tuple #[.int .i64 (prI s), .bool true]) := by simp [prI, h]

theorem cl_data {s : ByteArray} (h : clB s = true) : tkB (ofL s.data.toList) = true ∧ 0 < s.data.toList.length := by
  have ht := clB_tk h
  rw [clB_yes ht] at h
  simp only [Bool.and_eq_true, decide_eq_true_eq] at h
  exact ⟨by rw [ofL_data]; exact ht, by rw [size_list]; exact h.1⟩

end Go.Proofs.YtkmgcmgnaeamaaaGreatDoor

/- Contracts of the program: the variants of a ring, and the first of them. -/
namespace Go.Proofs.YtkmgcmgnaeamaaaGreatDoor
open Go.ChangeShapes Go.WideShapes Go.ChangeAt Go.RowKit Go.Lib

set_option linter.unusedVariables false
set_option linter.unusedSimpArgs false

/-- The spun ones of the ring and of its first j changes. -/
def vsL (l : List UInt8) (j : Nat) : List (List UInt8) := ((four l).take (j + 1)).flatMap rot1

theorem vsL_zero (l : List UInt8) : vsL l 0 = rot1 l := by simp [vsL, four]

theorem vsL_next {l x : List UInt8} {j : Nat} (h : (four l)[j + 1]? = some x) : vsL l (j + 1) = vsL l j ++ rot1 x := by
  rw [vsL, List.take_add_one, h]
  simp [vsL, List.flatMap_append]

theorem vsL_len (l : List UInt8) : ∀ j, j ≤ 3 → (vsL l j).length = (j + 1) * l.length
  | 0, _ => by rw [vsL_zero, rot1_len]; omega
  | j + 1, h => by
    obtain ⟨x, hx⟩ : ∃ x, (four l)[j + 1]? = some x := ⟨_, List.getElem?_eq_getElem (by simp [four]; omega)⟩
    rw [vsL_next hx, List.length_append, rot1_len, vsL_len l j (by omega), four_len (List.mem_of_getElem? hx), Nat.succ_mul (j + 1)]

theorem vsL_mem {l a : List UInt8} (h0 : 0 < l.length) : a ∈ vsL l 3 ↔ ∃ x ∈ four l, orb x a := by
  have ht : (four l).take 4 = four l := rfl
  rw [vsL, show 3 + 1 = 4 from rfl, ht, List.mem_flatMap]
  constructor
  · rintro ⟨x, hx, h⟩; exact ⟨x, hx, (rot1_mem (by rw [four_len hx]; exact h0)).1 h⟩
  · rintro ⟨x, hx, h⟩; exact ⟨x, hx, (rot1_mem (by rw [four_len hx]; exact h0)).2 h⟩

theorem var_of {l : List UInt8} (h0 : 0 < l.length) (d : Array Lp) (hd : d.toList = (vsL l 3).map mkLp) (n : Nat) (hn : d.size = n) : IsVar l (compactUpTo (srtL d) n) := by
  subst hn
  refine ⟨compact_sorted (srtL d) (srtL_sorted d) d.size (by rw [srtL_size]; exact Nat.le_refl _), fun y => ?_⟩
  rw [compact_mem, srtL_mem, hd, List.mem_map]
  constructor
  · rintro ⟨a, ha, rfl⟩
    obtain ⟨x, hx, ho⟩ := (vsL_mem h0).1 ha
    exact ⟨x, hx, a, ho, rfl⟩
  · rintro ⟨x, hx, a, ho, rfl⟩
    exact ⟨a, (vsL_mem h0).2 ⟨x, hx, ho⟩, rfl⟩

theorem var_ne {l : List UInt8} {V : List Lp} (h : IsVar l V) (h0 : 0 < l.length) : 0 < V.length := by
  have := (h.mem (mkLp l)).2 ⟨l, by simp [four], l, orb_refl l, rfl⟩
  exact List.length_pos_of_mem this

def VarPost (l : List UInt8) (w : World) (e : Ending) (w' : World) : Prop :=
  ∃ (g cap : Nat) (V : List Lp), e = .returned (.slice (some ⟨g, 0, none⟩) V.length cap) ∧ IsVar l V ∧ RowLp w' g V ∧ w.heap.size ≤ g ∧ g < w'.heap.size ∧ Below w.heap.size w w'

def fnsA : Array Value := #[.func (.func 28) #[] #[], .func (.func 29) #[] #[], .func (.func 30) #[] #[]]

theorem news_own {W : World} {B n g cap : Nat} {e : TypeId} {xs : List Value} (h : W.ownsRow B e 40 (.slice (some ⟨g, 0, none⟩) n cap) n xs) : ∀ j u, xs[j]? = some u → W.cell? ((⟨g, 0, none⟩ : Addr).add j) = some u := fun j u hu => by
  have hj : j < n * 40 := by rw [← h.1]; exact (List.getElem?_eq_some_iff.1 hu).1
  rw [Addr.add_lit, Nat.zero_add, h.cellAt j hj]
  exact hu

theorem lpCells_ones (L : List Lp) : ∀ u ∈ lpCells L, u.oneCell' = true := by
  intro u hu
  simp only [lpCells, List.mem_flatMap] at hu
  obtain ⟨x, _, hx⟩ := hu
  exact enc_one x u hx

theorem fns_blk {W : World} {F : Nat} {t : TypeId} (h : W.heap[F]? = some (.cells fnsA t (0, 0))) :
    W.cell? ⟨F, 0, none⟩ = some (.func (.func 28) #[] #[]) ∧ W.cell? ⟨F, 1, none⟩ = some (.func (.func 29) #[] #[]) ∧ W.cell? ⟨F, 2, none⟩ = some (.func (.func 30) #[] #[]) := by
  simp [World.cell?, h, fnsA]

theorem HR0 {W : World} {g : Nat} {L : List Lp} {x : Lp} (h : RowLp W g L) (hx : L[0]? = some x) {K : Nat} (hK : K = 40) : Sem.run Tryz.prog (loadCellsFrom ⟨g, 0, none⟩ 0 K #[]) W = .ok (arr x) W := by
  have := h.load (j := 0) hx hK
  rwa [Nat.zero_mul] at this

set_option maxRecDepth 100000 in
set_option maxHeartbeats 3200000 in
theorem variants_any (l : List UInt8) (ht : tkB (ofL l) = true) (h0 : 0 < l.length) (w : World) :
    Calls Tryz.prog 16 #[.agg (arr (mkLp l))] w (VarPost l w) := by
  obtain ⟨i0, hi, iz0, iz1, iz2⟩ := info_parts lpInfo3
  have hl := tk_le ht
  obtain ⟨n, hn⟩ : ∃ n, l.length = n := ⟨_, rfl⟩
  have SP := Lib.hid (fun x (hx : x ∈ four l) (W : World) => spins_any x (tk_le (four_tk ht x hx)) (tk_nz (four_tk ht x hx)) W)
  have S0 := Lib.hid (fun W => spins_any l hl (tk_nz ht) W)
  have C1 := Lib.hid (fun W => mirror_any l ht W)
  have C2 := Lib.hid (fun W => back_anyL l ht W)
  have C3 := Lib.hid (fun W => mirrorBack_any l ht W)
  have HN := Lib.hid hn
  have a0 := LpAt.new w (mkLp l)
  obtain ⟨K, hK⟩ : ∃ K, K = 40 := ⟨_, rfl⟩
  have hld := a0.loadK hK
  have zE := zK hK
  have hA := aK hK (mkLp l)
  have HK := Lib.hid hK
  have A0 := Lib.hid a0
  clear hK a0
  have hn40 : n ≤ 40 := by omega
  have hn0 : 0 < n := by omega
  go_enter Tryz.func16, Tryz.ntmps16
  go_wp2_with fail
  refine (S0.out _).mono ?_
  rintro e w1 ⟨v1, rfl, hO1, hb1⟩
  have a1 := A0.out.below hb1 (by simp)
  have B1 := Lib.hid (ba (by go_grown) hb1 : Below w.heap.size w w1)
  rw [show (w.alloc (.cells (arr (mkLp l)) 38)).heap.size = w.heap.size + 1 by simp, HN.out] at hO1
  have hz1 := hb1.size
  simp at hz1
  have hlt1 := hO1.lt
  have hO1' := hO1.alloc (.cells fnsA 54)
  have A1 := Lib.hid (a1.alloc (.cells fnsA 54))
  have O1 := Lib.hid (by rw [← vsL_zero] at hO1'; exact hO1' : (w1.alloc (.cells fnsA 54)).ownsRow (w.heap.size + 1) 38 40 v1 n (lpCells ((vsL l 0).map mkLp)))
  have hnb1 : v1.ownBlock ≠ some w1.heap.size := fun e => by have := (hlt1 _ e).2; omega
  have B2 := Lib.hid (B1.out.alloc (by omega) (.cells fnsA 54))
  have F1 := Lib.hid (heap_alloc_last w1 (.cells fnsA 54))
  clear hb1 hld hO1 hO1' hlt1 a1
  go_wp2_with fail
  go_loopw [3, 10] (fun t i wr => ∃ (k : Nat) (v : Value), k ≤ 3 ∧ i = .int .i64 k ∧ v = t ∧ wr.ownsRow (w.heap.size + 1) 38 40 v ((k + 1) * n) (lpCells ((vsL l k).map mkLp)) ∧ LpAt wr w.heap.size (mkLp l) ∧ wr.heap[w1.heap.size]? = some (.cells fnsA 54 (0, 0)) ∧ v.ownBlock ≠ some w1.heap.size ∧ Below w.heap.size w wr) (fun _ i _ => 3 - (intOf i).toNat)
  case atStart => exact ⟨0, v1, by omega, rfl, rfl, by rw [Nat.zero_add, Nat.one_mul]; exact O1.out, A1.out, F1.out, hnb1, B2.out⟩
  case round =>
    obtain ⟨k, v, hk, rfl, rfl, hO, hA2, hF, hnb, hb⟩ := hrel
    have hFl : w1.heap.size < wr.heap.size := (Array.getElem?_eq_some_iff.1 hF).1
    have hld := hA2.loadK HK.out
    obtain ⟨c0, c1, c2⟩ := fns_blk hF
    have HO := Lib.hid hO
    have HA2 := Lib.hid hA2
    have HF := Lib.hid hF
    have HNB := Lib.hid hnb
    have HB := Lib.hid hb
    clear hO hA2 hF hnb hb
    by_cases hlt : k < 3
    · have hk3 : k = 0 ∨ k = 1 ∨ k = 2 := by omega
      rcases hk3 with rfl | rfl | rfl
      · have hAx := aK HK.out (mkLp (l.map mir))
        have SX := Lib.hid (fun W => SP.out (l.map mir) (by simp [four]) W)
        have HV := Lib.hid (show lpCells ((vsL l 1).map mkLp) = lpCells ((vsL l 0).map mkLp) ++ lpCells ((rot1 (l.map mir)).map mkLp) by rw [vsL_next (x := (l.map mir)) rfl, List.map_append, lpCells_append])
        have hxl : (l.map mir).length = n := by rw [← HN.out]; simp [bak]
        have HXL := Lib.hid hxl
        clear hxl
        go_wp2_with fail
        refine (C1.out _).mono ?_
        rintro e wA ⟨rfl, hbA⟩
        have hzA := hbA.size
        have OA := Lib.hid (HO.out.kept (bgr hbA) (by cases v.ownBlock <;> simp))
        have AA := Lib.hid (HA2.out.below hbA HA2.out.lt)
        have FA := Lib.hid ((hbA.block w1.heap.size hFl).trans HF.out)
        have BA := Lib.hid (HB.out.trans (hbA.mono HB.out.size))
        clear hbA hld c0 c1 c2
        go_wp2_with fail
        refine (SX.out _).mono ?_
        rintro e wB ⟨v2, rfl, hO2, hbB⟩
        rw [HXL.out] at hO2
        obtain ⟨g2, cap2, rfl, hg20, hcp2⟩ := hO2.form (by omega)
        have hzB := hbB.size
        have OB := Lib.hid (OA.out.kept (bgr hbB) (by cases v.ownBlock <;> simp))
        have AB := Lib.hid (AA.out.below hbB AA.out.lt)
        have FB := Lib.hid ((hbB.block w1.heap.size (by omega)).trans FA.out)
        have BB := Lib.hid (BA.out.trans (hbB.mono BA.out.size))
        have HO2 := Lib.hid hO2
        have hszw : w.heap.size ≤ w1.heap.size := B1.out.size
        clear hbB hO2
        go_wp2_with (at_builtin; refine wpList_append_own_at _ rfl _ _ 36 rfl (w.heap.size + 1) 38 i0 (.agg (arr zLp)) 40 40 Tryz.underlying36 hi iz0 iz1 iz2 (arr_size _) (by decide) v _ _ rfl OB.out ⟨g2, 0, none⟩ n cap2 (lpCells ((rot1 (l.map mir)).map mkLp)) rfl (by rw [lpCells_len, List.length_map, rot1_len, HXL.out]) (news_own HO2.out) (lpCells_ones _) (by unfold maxLen; omega) (by omega) (by omega) ?_; intro v' wC hown' hgrow hnil hloc)
        have hlt' := OB.out.lt
        have HB8 := Lib.hid (BB.out.grown hgrow (by omega) (fun k hk => Nat.le_of_succ_le (hlt' k hk).1))
        have F8 := Lib.hid ((hgrow.block w1.heap.size (by omega) (fun e => HNB.out e.symm)).trans FB.out)
        have A8 := Lib.hid (show LpAt wC w.heap.size (mkLp l) from (hgrow.block w.heap.size (by omega) (fun e => by have := (hlt' _ e.symm).1; omega)).trans AB.out)
        have N8 := Lib.hid (show v'.ownBlock ≠ some w1.heap.size from fun e => by
          rcases hloc with h | h
          · rw [h] at e; exact HNB.out e
          · rw [h] at e; injection e with e; omega)
        have O8 := Lib.hid hown'
        clear hlt' hgrow hown' hnil hloc
        go_roundw
        case rel => exact ⟨1, v', by omega, by go_num, rfl, by rw [HV.out, show (1 + 1) * n = (0 + 1) * n + n by omega]; exact O8.out, A8.out, F8.out, N8.out, HB8.out⟩
        case measure => simp [intOf]
      · have hAx := aK HK.out (mkLp (bak l))
        have SX := Lib.hid (fun W => SP.out (bak l) (by simp [four]) W)
        have HV := Lib.hid (show lpCells ((vsL l 2).map mkLp) = lpCells ((vsL l 1).map mkLp) ++ lpCells ((rot1 (bak l)).map mkLp) by rw [vsL_next (x := (bak l)) rfl, List.map_append, lpCells_append])
        have hxl : (bak l).length = n := by rw [← HN.out]; simp [bak]
        have HXL := Lib.hid hxl
        clear hxl
        go_wp2_with fail
        refine (C2.out _).mono ?_
        rintro e wA ⟨rfl, hbA⟩
        have hzA := hbA.size
        have OA := Lib.hid (HO.out.kept (bgr hbA) (by cases v.ownBlock <;> simp))
        have AA := Lib.hid (HA2.out.below hbA HA2.out.lt)
        have FA := Lib.hid ((hbA.block w1.heap.size hFl).trans HF.out)
        have BA := Lib.hid (HB.out.trans (hbA.mono HB.out.size))
        clear hbA hld c0 c1 c2
        go_wp2_with fail
        refine (SX.out _).mono ?_
        rintro e wB ⟨v2, rfl, hO2, hbB⟩
        rw [HXL.out] at hO2
        obtain ⟨g2, cap2, rfl, hg20, hcp2⟩ := hO2.form (by omega)
        have hzB := hbB.size
        have OB := Lib.hid (OA.out.kept (bgr hbB) (by cases v.ownBlock <;> simp))
        have AB := Lib.hid (AA.out.below hbB AA.out.lt)
        have FB := Lib.hid ((hbB.block w1.heap.size (by omega)).trans FA.out)
        have BB := Lib.hid (BA.out.trans (hbB.mono BA.out.size))
        have HO2 := Lib.hid hO2
        have hszw : w.heap.size ≤ w1.heap.size := B1.out.size
        clear hbB hO2
        go_wp2_with (at_builtin; refine wpList_append_own_at _ rfl _ _ 36 rfl (w.heap.size + 1) 38 i0 (.agg (arr zLp)) 40 40 Tryz.underlying36 hi iz0 iz1 iz2 (arr_size _) (by decide) v _ _ rfl OB.out ⟨g2, 0, none⟩ n cap2 (lpCells ((rot1 (bak l)).map mkLp)) rfl (by rw [lpCells_len, List.length_map, rot1_len, HXL.out]) (news_own HO2.out) (lpCells_ones _) (by unfold maxLen; omega) (by omega) (by omega) ?_; intro v' wC hown' hgrow hnil hloc)
        have hlt' := OB.out.lt
        have HB8 := Lib.hid (BB.out.grown hgrow (by omega) (fun k hk => Nat.le_of_succ_le (hlt' k hk).1))
        have F8 := Lib.hid ((hgrow.block w1.heap.size (by omega) (fun e => HNB.out e.symm)).trans FB.out)
        have A8 := Lib.hid (show LpAt wC w.heap.size (mkLp l) from (hgrow.block w.heap.size (by omega) (fun e => by have := (hlt' _ e.symm).1; omega)).trans AB.out)
        have N8 := Lib.hid (show v'.ownBlock ≠ some w1.heap.size from fun e => by
          rcases hloc with h | h
          · rw [h] at e; exact HNB.out e
          · rw [h] at e; injection e with e; omega)
        have O8 := Lib.hid hown'
        clear hlt' hgrow hown' hnil hloc
        go_roundw
        case rel => exact ⟨2, v', by omega, by go_num, rfl, by rw [HV.out, show (2 + 1) * n = (1 + 1) * n + n by omega]; exact O8.out, A8.out, F8.out, N8.out, HB8.out⟩
        case measure => simp [intOf]
      · have hAx := aK HK.out (mkLp ((bak l).map mir))
        have SX := Lib.hid (fun W => SP.out ((bak l).map mir) (by simp [four]) W)
        have HV := Lib.hid (show lpCells ((vsL l 3).map mkLp) = lpCells ((vsL l 2).map mkLp) ++ lpCells ((rot1 ((bak l).map mir)).map mkLp) by rw [vsL_next (x := ((bak l).map mir)) rfl, List.map_append, lpCells_append])
        have hxl : ((bak l).map mir).length = n := by rw [← HN.out]; simp [bak]
        have HXL := Lib.hid hxl
        clear hxl
        go_wp2_with fail
        refine (C3.out _).mono ?_
        rintro e wA ⟨rfl, hbA⟩
        have hzA := hbA.size
        have OA := Lib.hid (HO.out.kept (bgr hbA) (by cases v.ownBlock <;> simp))
        have AA := Lib.hid (HA2.out.below hbA HA2.out.lt)
        have FA := Lib.hid ((hbA.block w1.heap.size hFl).trans HF.out)
        have BA := Lib.hid (HB.out.trans (hbA.mono HB.out.size))
        clear hbA hld c0 c1 c2
        go_wp2_with fail
        refine (SX.out _).mono ?_
        rintro e wB ⟨v2, rfl, hO2, hbB⟩
        rw [HXL.out] at hO2
        obtain ⟨g2, cap2, rfl, hg20, hcp2⟩ := hO2.form (by omega)
        have hzB := hbB.size
        have OB := Lib.hid (OA.out.kept (bgr hbB) (by cases v.ownBlock <;> simp))
        have AB := Lib.hid (AA.out.below hbB AA.out.lt)
        have FB := Lib.hid ((hbB.block w1.heap.size (by omega)).trans FA.out)
        have BB := Lib.hid (BA.out.trans (hbB.mono BA.out.size))
        have HO2 := Lib.hid hO2
        have hszw : w.heap.size ≤ w1.heap.size := B1.out.size
        clear hbB hO2
        go_wp2_with (at_builtin; refine wpList_append_own_at _ rfl _ _ 36 rfl (w.heap.size + 1) 38 i0 (.agg (arr zLp)) 40 40 Tryz.underlying36 hi iz0 iz1 iz2 (arr_size _) (by decide) v _ _ rfl OB.out ⟨g2, 0, none⟩ n cap2 (lpCells ((rot1 ((bak l).map mir)).map mkLp)) rfl (by rw [lpCells_len, List.length_map, rot1_len, HXL.out]) (news_own HO2.out) (lpCells_ones _) (by unfold maxLen; omega) (by omega) (by omega) ?_; intro v' wC hown' hgrow hnil hloc)
        have hlt' := OB.out.lt
        have HB8 := Lib.hid (BB.out.grown hgrow (by omega) (fun k hk => Nat.le_of_succ_le (hlt' k hk).1))
        have F8 := Lib.hid ((hgrow.block w1.heap.size (by omega) (fun e => HNB.out e.symm)).trans FB.out)
        have A8 := Lib.hid (show LpAt wC w.heap.size (mkLp l) from (hgrow.block w.heap.size (by omega) (fun e => by have := (hlt' _ e.symm).1; omega)).trans AB.out)
        have N8 := Lib.hid (show v'.ownBlock ≠ some w1.heap.size from fun e => by
          rcases hloc with h | h
          · rw [h] at e; exact HNB.out e
          · rw [h] at e; injection e with e; omega)
        have O8 := Lib.hid hown'
        clear hlt' hgrow hown' hnil hloc
        go_roundw
        case rel => exact ⟨3, v', by omega, by go_num, rfl, by rw [HV.out, show (3 + 1) * n = (2 + 1) * n + n by omega]; exact O8.out, A8.out, F8.out, N8.out, HB8.out⟩
        case measure => simp [intOf]
    · obtain rfl : k = 3 := by omega
      clear c0 c1 c2 hld
      have hO3 := HO.out
      obtain ⟨g, cap, rfl, hg0, hcp⟩ := hO3.form (by omega)
      have hcap := own_capR hO3
      obtain ⟨d, hd⟩ : ∃ d : Array Lp, d = ((vsL l 3).map mkLp).toArray := ⟨_, rfl⟩
      have hdl : d.toList = (vsL l 3).map mkLp := by rw [hd]
      rw [← hdl] at hO3
      have hds : d.size = (3 + 1) * n := by rw [hd, List.size_toArray, List.length_map, vsL_len l 3 (by omega), HN.out]
      have HH := Lib.hid (HoldsLp.own hO3 hds)
      have hg := (hO3.lt g rfl)
      obtain ⟨hgw, hgl⟩ := hg
      have HV := Lib.hid (var_of h0 d hdl ((3 + 1) * n) hds)
      have HSF := Lib.hid (fun W hH hg => sortFunc_any d ((3 + 1) * n) hds (by omega) g cap W hH hg)
      have HCO := Lib.hid (fun W hH hg => compact_any (srtL d) ((3 + 1) * n) (by rw [srtL_size]; exact hds) (by omega) g cap hcap W hH hg)
      clear hO3 hd hdl hds
      generalize (3 + 1) * n = N at *
      go_wp2_with fail
      refine (HSF.out _ HH.out hgl).mono ?_
      rintro e w2 ⟨rfl, hH2, hb2⟩
      have H2 := Lib.hid hH2
      have hz2 := hb2.size
      have B3 := Lib.hid (show Below w.heap.size w w2 from HB.out.trans (hb2.mono (by omega)))
      clear hH2 hb2
      go_wp2_with fail
      refine (HCO.out _ H2.out (by omega)).mono ?_
      rintro e w3 ⟨rfl, hR, hb3⟩
      have hz3 := hb3.size
      have B4 := Lib.hid (show Below w.heap.size w w3 from B3.out.trans (hb3.mono (by omega)))
      have HR := Lib.hid hR
      clear hR hb3
      go_wp2_with fail
      go_ret
      exact ⟨g, cap, _, rfl, HV.out, HR.out, by omega, by omega, B4.out⟩

end Go.Proofs.YtkmgcmgnaeamaaaGreatDoor

/- Contracts of the model: how many variants a ring has. -/
namespace Go.Proofs.YtkmgcmgnaeamaaaGreatDoor
open Go.ChangeShapes Go.WideShapes Go.ChangeAt Go.RowKit

set_option linter.unusedVariables false

def scV (F : List (List UInt8)) : List Value := F.map fun x => Value.string (ofL x)

theorem eq_text (x y : List UInt8) : ((ofL x).toList == (ofL y).toList) = decide (x = y) := by
  rw [ByteArray.toList_eq, ByteArray.toList_eq]
  exact (show (x == y) = decide (x = y) by by_cases h : x = y <;> simp [h])

theorem scInfo : (Tryz.prog.info? 9).map (fun i => (i.zero, i.size, i.bytes)) = some (some (.string ByteArray.empty), 1, 16) := by kernel_rfl

theorem own_formS {W : World} {B n size : Nat} {e : TypeId} {v : Value} {xs : List Value} (h : W.ownsRow B e size v n xs) : ∃ av cv, v = .slice av n cv := by
  rcases h.2 with ⟨h, h0⟩ | ⟨g, cap, cur, h, _⟩
  · exact ⟨none, 0, by rw [h, h0]⟩
  · exact ⟨_, _, h⟩

theorem own_cellS {W : World} {B n cap : Nat} {e : TypeId} {av : Option Addr} {F : List (List UInt8)} (h : W.ownsRow B e 1 (.slice av n cap) n (scV F)) {k : Nat} {x : List UInt8} (hx : F[k]? = some x) : ∃ g, av = some ⟨g, 0, none⟩ ∧ W.cell? ⟨g, k, none⟩ = some (.string (ofL x)) ∧ k < n := by
  have hl := h.1
  have hk := (List.getElem?_eq_some_iff.1 hx).1
  simp only [scV, List.length_map, Nat.mul_one] at hl
  rcases h.2 with ⟨h1, h0⟩ | ⟨g, cap', cur, h1, h2⟩
  · omega
  · injection h1 with h1 _ h3
    subst h1; subst h3
    refine ⟨g, rfl, ?_, by omega⟩
    rw [h.cellAt k (by omega)]
    simp [scV, hx]

theorem vfold_go : ∀ (X : List (List UInt8)) (s : List (List UInt8) × Nat), (∀ x ∈ X, 0 < x.length ∧ x.length ≤ 40) → (X.foldl vstep s).1.length ≤ s.1.length + X.length ∧ (X.foldl vstep s).2 ≤ s.2 + 40 * X.length
  | [], s, _ => by simp
  | x :: X, s, h => by
    have ih := vfold_go X (vstep s x) (fun y hy => h y (by simp [hy]))
    have hx := h x (by simp)
    have hp := per_le hx.1
    have hs : (vstep s x).1.length ≤ s.1.length + 1 ∧ (vstep s x).2 ≤ s.2 + 40 := by
      unfold vstep
      split
      · omega
      · simp only [List.length_append, List.length_singleton]; omega
    simp only [List.foldl_cons, List.length_cons]
    omega

theorem vfold_le (X : List (List UInt8)) (h : ∀ x ∈ X, 0 < x.length ∧ x.length ≤ 40) : (vfold X).1.length ≤ X.length ∧ (vfold X).2 ≤ 40 * X.length := by
  have := vfold_go X ([], 0) h
  simpa [vfold] using this

def crS (s : ByteArray) : ByteArray := cond (clB s) (ofL (classL s.data.toList)) ⟨#[]⟩

def cvI (s : ByteArray) : Int := cond (clB s) (varN s.data.toList : Nat) 0

def omB (s : ByteArray) : Bool := cond (clB s) (decide (leastL (s.data.toList.map mir) = leastL s.data.toList)) false

def obB (s : ByteArray) : Bool := cond (clB s) (decide (leastL (bak s.data.toList) = leastL s.data.toList)) false

def aoB (a b : ByteArray) : Bool := cond (clB a && clB b) (decide (classL a.data.toList = classL b.data.toList)) false

theorem cr_no {s : ByteArray} (h : clB s = false) : Ending.returned (.tuple #[.string ⟨#[]⟩, .bool false]) = Ending.returned (.tuple #[.string (crS s), .bool false]) := by simp [crS, h]

theorem cr_yes {s : ByteArray} (h : clB s = true) : Ending.returned (.tuple #[.string (ofL (classL s.data.toList)), .bool true]) = Ending.returned (.tuple #[.string (crS s), .bool true]) := by simp [crS, h]

theorem cv_no {s : ByteArray} (h : clB s = false) : Ending.returned (.tuple #[.int .i64 0, .bool false]) = Ending.returned (.tuple #[.int .i64 (cvI s), .bool false]) := by simp [cvI, h]

theorem cv_yes {s : ByteArray} (h : clB s = true) : Ending.returned (.tuple #[.int .i64 (varN s.data.toList : Nat), .bool true]) = Ending.returned (.tuple #[.int .i64 (cvI s), .bool true]) := by simp [cvI, h]

theorem om_no {s : ByteArray} (h : clB s = false) : omB s = false := by simp [omB, h]

theorem om_yes {s : ByteArray} (h : clB s = true) : omB s = decide (leastL (s.data.toList.map mir) = leastL s.data.toList) := by simp [omB, h]

theorem ob_no {s : ByteArray} (h : clB s = false) : obB s = false := by simp [obB, h]

theorem ob_yes {s : ByteArray} (h : clB s = true) : obB s = decide (leastL (bak s.data.toList) = leastL s.data.toList) := by simp [obB, h]

end Go.Proofs.YtkmgcmgnaeamaaaGreatDoor

/- Contract of the program: the first rings of all classes. -/
namespace Go.Proofs.YtkmgcmgnaeamaaaGreatDoor
open Go.ChangeShapes Go.WideShapes Go.ChangeAt Go.RowKit Go.Sort

set_option linter.unusedVariables false

def flA (n j : Nat) : List (List UInt8) := ((clsL sp0 n).take j).filter isFst

theorem flA_end (n : Nat) : flA n (clsL sp0 n).length = acL n := by rw [flA, List.take_length]; rfl

theorem flA_skip {n j : Nat} {r : List UInt8} (h : (clsL sp0 n)[j]? = some r) (hf : isFst r = false) : flA n (j + 1) = flA n j := by simp [flA, List.take_add_one, h, hf]

theorem flA_next {n j : Nat} {r : List UInt8} (h : (clsL sp0 n)[j]? = some r) (hf : isFst r = true) : flA n (j + 1) = flA n j ++ [r] := by simp [flA, List.take_add_one, h, hf]

theorem flA_le (n j : Nat) : (flA n j).length ≤ j := Nat.le_trans (List.length_filter_le _ _) (List.length_take_le _ _)

theorem clsA_le {n : Nat} (hn : n ≤ 12) : (clsL sp0 n).length ≤ 531441 := by
  refine Nat.le_trans (List.length_filter_le _ _) ?_
  rw [words_count]
  exact Nat.pow_le_pow_right (by decide) hn

theorem cls_tk {n j : Nat} (h0 : 0 < n) (hn : n ≤ 12) {r : List UInt8} (h : (clsL sp0 n)[j]? = some r) : r.length = n ∧ tkB (ofL r) = true := by
  have h1 := cls_lenA h
  refine ⟨h1, tk_of (by omega) fun c hc => ?_⟩
  have := cls_lett h c hc
  simp only [ltr, List.mem_cons, List.not_mem_nil, or_false] at this
  rcases this with rfl | rfl | rfl <;> decide

theorem var_le {l : List UInt8} {V : List Lp} (h : IsVar l V) (h0 : 0 < l.length) (h40 : l.length ≤ 40) : V.length ≤ 160 := by
  rw [h.len h0 h40]
  have := (vfold_le (four l) (fun x hx => by rw [four_len hx]; exact ⟨h0, h40⟩)).2
  have e : (four l).length = 4 := rfl
  rw [e] at this
  exact this

theorem RowLp.keptA {W W' : World} {g : Nat} {L : List Lp} (h : RowLp W g L) (hb : W'.heap[g]? = W.heap[g]?) : RowLp W' g L := fun j x hx i v hv => by
  have := h j x hx i v hv
  simp only [World.cell?] at this ⊢
  rw [hb]
  exact this

theorem new_lp (W : World) (x y : Lp) : Below W.heap.size W ((W.alloc (.cells (arr x) 38)).setRow W.heap.size (arr y)) :=
  below_setRow ((Below.refl W.heap.size W).alloc (Nat.le_refl _) (.cells (arr x) 38)) (Nat.le_refl _) (arr y)

set_option maxRecDepth 100000 in
set_option maxHeartbeats 6400000 in
theorem imAll_any (n : Nat) (h0 : 0 < n) (hn : n ≤ 12) (w : World) : Calls Tryz.prog 21 #[.int .i64 (n : Nat)] w (STPost (acL n) true w) := by
  obtain ⟨i0, hi, iz0, iz1, iz2⟩ := info_parts srInfo
  have hz := (zero_of_info (P := Tryz.prog) lpInfo).1
  have hmm := @run_makeMap Tryz.prog
  obtain ⟨K, hK⟩ : ∃ K, K = 40 := ⟨_, rfl⟩
  have zE := zK hK
  have HK := Lib.hid hK
  have CL := Lib.hid (fun w => (closings_any sp0 (sp0_ok.mono (by omega)) n (by omega) w : Calls Tryz.prog 40 #[.agg #[.int .i64 0, .int .i64 0, .int .i64 0, .int .i64 0, .int .i64 0], .int .i64 (n : Nat)] w (StrPost (clsL sp0 n) w)))
  have h1 : inB (n : Int) 1 12 = true := by simp [inB]; omega
  have HE := Lib.hid (flA_end n)
  have hlen := clsA_le hn
  have FA := Lib.hid (fun j r (h : (clsL sp0 n)[j]? = some r) => And.intro (cls_tk h0 hn h) (And.intro (fun T (t : TD n j T) => TD_told t h0 (show n ≤ 40 by omega) h) (And.intro (fun (hf : isFst r = false) => And.intro (flA_skip h hf) (fun T (t : TD n j T) => TD_skip t h0 (show n ≤ 40 by omega) h hf)) (fun (hf : isFst r = true) => And.intro (flA_next h hf) (fun T V (t : TD n j T) (v : IsVar r V) => TD_next t h v)))))
  have HT0 := Lib.hid (TD_start n)
  have HFL := Lib.hid (flA_le n)
  have HF0 := Lib.hid (show flA n 0 = [] by simp [flA])
  generalize clsL sp0 n = R at *
  obtain ⟨N, hN⟩ : ∃ N, R.length = N := ⟨_, rfl⟩
  have HN := Lib.hid hN
  rw [hN] at hlen HE
  clear hK hN
  go_enter Tryz.func21, Tryz.ntmps21
  go_wp2_with (go_at_call 39; refine (isInRange_any _ _ _ _).mono ?_; rintro e w' ⟨rfl, rfl⟩)
  refine (CL.out _).mono ?_
  rintro e w1 ⟨vR, rfl, oR, hb1⟩
  rw [HN.out] at oR
  obtain ⟨av, cv, rfl⟩ := own_formC oR
  have hM0 := (ToldAt_start w).below hb1
  have hzM := hM0.lt
  have HB1 := Lib.hid (show Below w.heap.size w w1 from ((Below.refl w.heap.size w).alloc (Nat.le_refl _) (.map #[] 0)).trans (hb1.mono (by simp)))
  have HM0 := Lib.hid hM0
  have HOR := Lib.hid oR
  obtain ⟨bm, hbm⟩ : ∃ bm, w.heap.size = bm := ⟨_, rfl⟩
  have HBM := Lib.hid hbm
  rw [hbm] at hzM HM0
  rw [hbm]
  clear hb1 oR hM0 hbm
  go_wp2_with fail
  go_loopw [4, 19] (fun t i wr => ∃ (j : Nat) (v : Value) (T : List Lp) (mm : Nat), j ≤ N ∧ i = .int .i64 j ∧ v = t ∧ wr.ownsRow w1.heap.size 9 1 v (flA n j).length (strV (flA n j)) ∧ ToldAt wr bm mm T ∧ TD n j T ∧ mm ≤ j * 160 ∧ w1.grownBy wr (some bm)) (fun _ i _ => N - (intOf i).toNat)
  case atStart => exact ⟨0, _, [], 0, Nat.zero_le _, rfl, rfl, by rw [HF0.out]; exact World.ownsRow_nil _ _ _ _, HM0.out, HT0.out, by omega, World.grownBy.refl _ _⟩
  case round =>
    obtain ⟨j, v, T, mm, hj, rfl, rfl, hO, hT, hTD, hmj, hgr⟩ := hrel
    by_cases hlt : j < N
    · obtain ⟨r, hr⟩ : ∃ r, R[j]? = some r := ⟨_, List.getElem?_eq_getElem (by rw [HN.out]; exact hlt)⟩
      obtain ⟨⟨hrl, hrt⟩, htold, hskip, hnext⟩ := FA.out j r hr
      have hhit := htold T hTD
      obtain ⟨g, rfl⟩ : ∃ g, av = some ⟨g, 0, none⟩ := by
        rcases HOR.out.2 with ⟨h, h0⟩ | ⟨g, cap, _, h, _⟩
        · omega
        · injection h with h; exact ⟨g, h⟩
      have hgb : g ≠ bm := by have h1 := (HOR.out.lt g rfl).1; have h2 := HBM.out; simp at h1; omega
      have c0 := hgr.cell (str_of HOR.out HN.out j r hr) (by simpa using hgb)
      have LF := Lib.hid (fun W => loopFrom_any r (by omega) W)
      have VA := Lib.hid (fun W => variants_any r hrt (by omega) W)
      have VL := Lib.hid (fun V (h : IsVar r V) => var_le h (by omega) (by omega))
      obtain ⟨y, hy⟩ : ∃ y, mkLp r = y := ⟨_, rfl⟩
      rw [hy] at LF VA hhit
      have hAy := aK HK.out y
      have hnb : v.ownBlock ≠ some bm := fun e => by have := (hO.lt bm e).1; omega
      have HO := Lib.hid hO
      have HT := Lib.hid hT
      have HG := Lib.hid hgr
      have HTD := Lib.hid hTD
      have HHIT := Lib.hid hhit
      have HSK := Lib.hid hskip
      have HNX := Lib.hid hnext
      have HFLJ := HFL.out j
      have hzi : w1.heap.size ≤ wr.heap.size := hgr.size
      obtain ⟨wi, rfl⟩ : ∃ wi : World, wi = wr := ⟨_, rfl⟩
      clear hO hT hgr hTD hhit hskip hnext htold hr hy hrt
      go_wp2_with fail
      refine (LF.out _).mono ?_
      rintro e wa ⟨rfl, hba⟩
      have st := (LpAt.new wa zLp).store y
      have l1 := ((LpAt.new wa zLp).set y).loadK HK.out
      have hbb := ba hba (new_lp wa zLp y)
      have hT1 := HT.out.below hbb
      have lk := hT1.look y
      rw [HHIT.out] at lk
      have HT1 := Lib.hid hT1
      have HBB := Lib.hid hbb
      clear hba hbb hT1
      cases hf : isFst r
      · rw [hf] at lk
        have HO1 := Lib.hid (HO.out.kept (below_grown HBB.out) (by cases v.ownBlock <;> simp))
        have HG1 := Lib.hid (grown_row HG.out (below_grown HBB.out) (by simp))
        obtain ⟨hs1, hs2⟩ := HSK.out hf
        have HS1 := Lib.hid hs1
        have HS2 := Lib.hid (hs2 T HTD.out)
        clear hs1 hs2
        go_wp2_with fail
        go_roundw
        case rel => exact ⟨j + 1, v, T, mm, by omega, by go_num, rfl, by rw [HS1.out]; exact HO1.out, HT1.out, HS2.out, by omega, HG1.out⟩
        case measure => simp [intOf]; omega
      · rw [hf] at lk
        obtain ⟨hn1, hn2⟩ := HNX.out hf
        have HN1 := Lib.hid hn1
        have HN2 := Lib.hid (fun V => hn2 T V HTD.out)
        have HO1 := Lib.hid (HO.out.kept (below_grown HBB.out) (by cases v.ownBlock <;> simp))
        have HG1 := Lib.hid (grown_row HG.out (below_grown HBB.out) (by simp))
        clear hn1 hn2
        go_wp2_with fail
        generalize (wa.alloc (.cells (arr zLp) 38)).setRow wa.heap.size (arr y) = W1 at *
        refine (VA.out _).mono ?_
        rintro e w2 ⟨g2, cap2, V, rfl, hV, hR2, hg2w, hg2l, hb2⟩
        have hvl := VL.out V hV
        have HR2 := Lib.hid hR2
        have HO2 := Lib.hid (HO1.out.kept (below_grown hb2) (by cases v.ownBlock <;> simp))
        have HT2 := Lib.hid (HT1.out.below hb2)
        have HG2 := Lib.hid (grown_row HG1.out (below_grown hb2) (by simp))
        have HTE := Lib.hid (HN2.out V hV)
        have hgm : g2 ≠ bm := by have := HT1.out.lt; omega
        obtain ⟨M, hM⟩ : ∃ M, V.length = M := ⟨_, rfl⟩
        have HM := Lib.hid hM
        rw [hM] at hvl ⊢
        clear st l1 lk hb2 hR2 hV hM
        go_wp2_with fail
        go_loopw [31] (fun i wr => ∃ k : Nat, k ≤ M ∧ i = .int .i64 k ∧ ToldAt wr bm (mm + k) (T ++ V.take k) ∧ w2.grownBy wr (some bm)) (fun i _ => M - (intOf i).toNat)
        case atStart => exact ⟨0, Nat.zero_le _, rfl, by simpa using HT2.out, World.grownBy.refl _ _⟩
        case round =>
          obtain ⟨k, hk, rfl, hTk, hgk⟩ := hrel
          by_cases hkm : k < M
          · obtain ⟨x, hx⟩ : ∃ x, V[k]? = some x := ⟨_, List.getElem?_eq_getElem (by rw [HM.out]; exact hkm)⟩
            have hRk := HR2.out.keptA (hgk.block g2 hg2l (by simpa using hgm))
            have ld := hRk.load hx HK.out
            have st := (LpAt.new wr zLp).store x
            have l1 := ((LpAt.new wr zLp).set x).loadK HK.out
            have hAx := aK HK.out x
            obtain ⟨W4, rP, hT4, g4⟩ := (hTk.below (new_lp wr zLp x)).put (by unfold maxLen; omega) x
            have HTK := Lib.hid (show V.take (k + 1) = V.take k ++ [x] by rw [List.take_add_one, hx]; rfl)
            have HT4 := Lib.hid hT4
            have HG4 := Lib.hid (grown_row (grown_row hgk (below_grown (new_lp wr zLp x)) (by simp)) g4 (fun k hk => .inr hk))
            clear hx hRk hTk hgk hT4 g4
            go_wp2_with fail
            go_roundw
            case rel => exact ⟨k + 1, by omega, by go_num, by rw [HTK.out, ← List.append_assoc]; exact HT4.out, HG4.out⟩
            case measure => simp [intOf]; omega
          · obtain rfl : k = M := by omega
            have hta : V.take k = V := List.take_of_length_le (by rw [HM.out]; exact Nat.le_refl _)
            rw [hta] at hTk
            have HTk := Lib.hid hTk
            have hOk := HO2.out.kept hgk (.inr hnb)
            have HOk := Lib.hid (hOk.alloc (.cells #[.string (ofL r)] 9))
            have HGk := Lib.hid (grown_row (grown_row HG2.out hgk (fun k hk => .inr hk)) (World.grownBy_alloc wr (.cells #[.string (ofL r)] 9) none) (by simp))
            have HTa := Lib.hid (HTk.out.kept (World.grownBy_alloc wr (.cells #[.string (ofL r)] 9) none) (by simp))
            have hzk := HGk.out.size
            clear hTk hgk hOk hta
            go_wp2_with (at_builtin; refine wpList_append_own_at _ rfl _ _ 29 rfl w1.heap.size 9 i0 (.string ByteArray.empty) 1 16 Tryz.underlying29 hi iz0 iz1 iz2 rfl (by decide) v _ _ rfl HOk.out ⟨wr.heap.size, 0, none⟩ 1 1 [.string (ofL r)] rfl rfl (cell_one_new _ _ _) (by intro u hu; simp at hu; subst hu; rfl) (by unfold maxLen; omega) (by omega) hzk ?_; intro v' w5 hown' hgrow hnil hloc)
            have hlt' := HOk.out.lt
            have HO5 := Lib.hid hown'
            have HT5 := Lib.hid (HTa.out.kept hgrow (fun e => hnb e.symm))
            have HG5 := Lib.hid (grown_row HGk.out hgrow (fun k hk => .inl (hlt' k hk).1))
            clear hlt' hgrow hown' hnil hloc
            go_roundw
            case rel => exact ⟨j + 1, v', T ++ V, mm + k, by omega, by go_num, rfl, by rw [HN1.out, strV_append, List.length_append]; exact HO5.out, HT5.out, HTE.out, by omega, HG5.out⟩
            case measure => simp [intOf]; omega
    · obtain rfl : j = N := by omega
      rw [HE.out] at hO
      have HO := Lib.hid (own_lessP hO HB1.out.size)
      have HB := Lib.hid (HB1.out.grown hgr HB1.out.size (fun k hk => by injection hk with hk; have := HBM.out; omega))
      obtain ⟨av', cv', rfl⟩ := own_formC hO
      clear hO hT hTD hgr
      go_wp2_with fail
      go_ret2
      exact ⟨_, rfl, HO.out, HB.out⟩

end Go.Proofs.YtkmgcmgnaeamaaaGreatDoor

/- What the model's search for first rings finds behind a beginning. -/
namespace Go.Proofs.YtkmgcmgnaeamaaaGreatDoor

set_option linter.unusedVariables false

/-- What is found behind a beginning u that has led to s, with m pieces more. -/
def fdL (u : List UInt8) (s : Sp) (m : Nat) : List (List UInt8) := ((words m).filter fun w => spE (fin s w) sp0 && isFst (u ++ w)).map (u ++ ·)

theorem fdL_zero (u : List UInt8) (s : Sp) : fdL u s 0 = if spE s sp0 && isFst u then [u] else [] := by
  simp only [fdL, words, List.filter_cons, List.filter_nil, List.append_nil]
  have e : fin s [] = s := rfl
  rw [e]
  split <;> simp

theorem fdL_succ (u : List UInt8) (s : Sp) (m : Nat) : fdL u s (m + 1) = ltr.flatMap fun c => fdL (u ++ [c]) (s.next c) m := by
  simp only [fdL, words_cons, List.filter_flatMap, List.map_flatMap]
  congr 1
  funext c
  rw [List.filter_map, List.map_map]
  have e1 : ((fun w => spE (fin s w) sp0 && isFst (u ++ w)) ∘ fun x => c :: x) = fun w => spE (fin (s.next c) w) sp0 && isFst (u ++ [c] ++ w) := by
    funext w
    simp [fin_cons]
  have e2 : ((fun x => u ++ x) ∘ fun x => c :: x) = fun x => u ++ [c] ++ x := by
    funext w
    simp
  rw [e1, e2]

theorem fdL_top (n : Nat) : fdL [] sp0 n = acL n := by
  simp only [fdL, acL, clsL, List.nil_append, List.map_id']
  rw [List.filter_filter]
  congr 1
  funext w
  rw [Bool.and_comm]

def fdA (u : List UInt8) (s : Sp) (m c : Nat) : List (List UInt8) := (ltr.take c).flatMap fun ch => fdL (u ++ [ch]) (s.next ch) m

theorem fdA_end (u : List UInt8) (s : Sp) (m : Nat) : fdA u s m 3 = fdL u s (m + 1) := by rw [fdL_succ]; rfl

theorem fdA_next {u : List UInt8} {s : Sp} {m c : Nat} {ch : UInt8} (h : ltr.take (c + 1) = ltr.take c ++ [ch]) : fdA u s m (c + 1) = fdA u s m c ++ fdL (u ++ [ch]) (s.next ch) m := by
  simp [fdA, h, List.flatMap_append]

theorem fdL_le (u : List UInt8) (s : Sp) (m : Nat) : (fdL u s m).length ≤ 3 ^ m := by
  rw [fdL, List.length_map]
  refine Nat.le_trans (List.length_filter_le _ _) ?_
  have : ∀ m, (words m).length = 3 ^ m := fun m => by
    induction m with
    | zero => rfl
    | succ m ih => rw [words_cons]; simp [ltr, ih, Nat.pow_succ]; omega
  rw [this]
  exact Nat.le_refl _

theorem acL_mem {n : Nat} {r : List UInt8} (h : r ∈ acL n) : (r.length = n ∧ ∀ c ∈ r, c ∈ ltr) ∧ fin sp0 r = sp0 := cls_iffA.1 (List.mem_filter.1 h).1

end Go.Proofs.YtkmgcmgnaeamaaaGreatDoor

/- Contract of the model: the search for the first rings of all classes. -/
namespace Go.Proofs.YtkmgcmgnaeamaaaGreatDoor
open Go.ChangeShapes Go.WideShapes Go.ChangeAt Go.RowKit

set_option linter.unusedVariables false

structure FdFr (w w' : World) (F : Nat) (v : Value) : Prop where
  os : w'.os = w.os
  tape : w'.tape = w.tape
  output : w'.output = w.output
  size : w.heap.size ≤ w'.heap.size
  block : ∀ k, k < w.heap.size → k ≠ F → v.ownBlock ≠ some k → w'.heap[k]? = w.heap[k]?

/-- A row that lies where it lay, or in a new block. -/
def Stays (m : Nat) (v v' : Value) : Prop := v'.ownBlock = v.ownBlock ∨ ∀ k, v'.ownBlock = some k → m ≤ k

theorem Stays.refl (m : Nat) (v : Value) : Stays m v v := .inl rfl

theorem Stays.trans {m m2 : Nat} {v v1 v2 : Value} (h : Stays m v v1) (g : Stays m2 v1 v2) (hm : m ≤ m2) : Stays m v v2 := by
  rcases g with g | g
  · rcases h with h | h
    · exact .inl (g.trans h)
    · exact .inr fun k hk => h k (g ▸ hk)
  · exact .inr fun k hk => Nat.le_trans hm (g k hk)

theorem FdFr.of_below {w w' : World} {F : Nat} {v : Value} (h : Below w.heap.size w w') : FdFr w w' F v := ⟨h.os, h.tape, h.output, h.size, fun k hk _ _ => h.block k hk⟩

theorem FdFr.refl (w : World) (F : Nat) (v : Value) : FdFr w w F v := FdFr.of_below (Below.refl _ _)

theorem FdFr.trans {w w1 w2 : World} {F : Nat} {v v1 : Value} (h : FdFr w w1 F v) (g : FdFr w1 w2 F v1) (hs : Stays w.heap.size v v1) : FdFr w w2 F v :=
  ⟨g.os.trans h.os, g.tape.trans h.tape, g.output.trans h.output, Nat.le_trans h.size g.size, fun k hk hF hv => by
    have hv1 : v1.ownBlock ≠ some k := fun e => by
      rcases hs with hs | hs
      · exact hv (hs ▸ e)
      · have := hs k e; omega
    rw [g.block k (Nat.lt_of_lt_of_le hk h.size) hF hv1, h.block k hk hF hv]⟩

theorem FdFr.then {w w1 w2 : World} {F : Nat} {v : Value} (h : FdFr w w1 F v) (g : Below w1.heap.size w1 w2) : FdFr w w2 F v := h.trans (FdFr.of_below g) (.refl _ _)

theorem FdFr.below {w w' : World} {F m : Nat} {v : Value} (h : FdFr w w' F v) (hF : m ≤ F) (hv : ∀ k, v.ownBlock = some k → m ≤ k) (hm : m ≤ w.heap.size) : Below m w w' :=
  ⟨h.os, h.tape, h.output, h.size, fun k hk => h.block k (by omega) (by omega) (fun e => by have := hv k e; omega)⟩

theorem own_bys {W : World} {B n cap g : Nat} {e : TypeId} {l : List UInt8} (h : W.ownsRow B e 1 (.slice (some ⟨g, 0, none⟩) n cap) n (l.map byV)) (hn : l.length = n) : ∀ j (hj : j < l.length), W.cell? ((⟨g, 0, none⟩ : Addr).add j) = some (.int .u8 (l[j].toNat : Int)) := fun j hj => by
  rw [Addr.add_lit, Nat.zero_add, h.cellAt j (by omega)]
  simp [byV, hj]

theorem own_conv {W : World} {B n : Nat} {v : Value} {e : TypeId} {l : List UInt8} (h : W.ownsRow B e 1 v n (l.map byV)) (hn : l.length = n) : (convert 53 9 v).run Tryz.prog W = .ok (.string (ofL l)) W := by
  subst hn
  rcases h.2 with ⟨rfl, h0⟩ | ⟨g, cap, cur, rfl, h2⟩
  · have hl : l = [] := List.eq_nil_of_length_eq_zero h0
    subst hl
    rw [run_convert_bytes_string W 53 9 5 none 0 0 Tryz.underlying53 Tryz.underlying5 Tryz.underlying9]
    rfl
  · exact run_convert_bytes_back W 53 9 5 ⟨g, 0, none⟩ cap l Tryz.underlying53 Tryz.underlying5 Tryz.underlying9 (own_bys h rfl)

/-- '!=' on two points. -/
@[go_sem high] theorem neqPt (a0 a1 a2 a3 : Int) (b0 b1 b2 b3 : Int) (w : World) : (binOp .neq 64 (.agg #[.int .i64 a0, .int .i64 a1, .int .i64 a2, .int .i64 a3]) (.agg #[.int .i64 b0, .int .i64 b1, .int .i64 b2, .int .i64 b3])).run Tryz.prog w = .ok (.bool (!(a0 == b0 && (a1 == b1 && (a2 == b2 && a3 == b3))))) w := by
  have h := eqPt a0 a1 a2 a3 b0 b1 b2 b3 w
  rw [run_eql_struct] at h
  rw [run_neq_struct]
  obtain ⟨r, hr⟩ : ∃ r, (Op.equalIn 10000 64 (.agg #[.int .i64 a0, .int .i64 a1, .int .i64 a2, .int .i64 a3]) (.agg #[.int .i64 b0, .int .i64 b1, .int .i64 b2, .int .i64 b3])).run Tryz.prog w = r := ⟨_, rfl⟩
  rw [hr] at h ⊢
  cases r with
  | ok b w' =>
    simp only [Result.andThen_ok, Result.ok.injEq, Value.bool.injEq] at h ⊢
    obtain ⟨rfl, rfl⟩ := h
    simp
  | _ => simp at h

end Go.Proofs.YtkmgcmgnaeamaaaGreatDoor

/- Contract of the model: one step of the search for the first rings of all classes. -/
namespace Go.Proofs.YtkmgcmgnaeamaaaGreatDoor
open Go.ChangeShapes Go.WideShapes Go.ChangeAt Go.RowKit

set_option linter.unusedVariables false

theorem own_fr {w w' : World} {F : Nat} {v vb : Value} {B n size : Nat} {e : TypeId} {xs : List Value} (h : w.ownsRow B e size vb n xs) (hne : ∀ k, vb.ownBlock = some k → k ≠ F ∧ v.ownBlock ≠ some k) (hf : FdFr w w' F v) : w'.ownsRow B e size vb n xs := by
  refine ⟨h.1, ?_⟩
  rcases h.2 with h2 | ⟨g, cap, cur, rfl, h3, h4, h5⟩
  · exact .inl h2
  · obtain ⟨a, b⟩ := hne g rfl
    exact .inr ⟨g, cap, cur, rfl, h3, (hf.block g (Array.getElem?_eq_some_iff.1 h4).1 a b).trans h4, h5⟩

theorem own_lowF {w w' : World} {m : Nat} {vb : Value} {B n size : Nat} {e : TypeId} {xs : List Value} (h : w.ownsRow B e size vb n xs) (hne : ∀ k, vb.ownBlock = some k → k < m) (hf : Below m w w') : w'.ownsRow B e size vb n xs := by
  refine ⟨h.1, ?_⟩
  rcases h.2 with h2 | ⟨g, cap, cur, rfl, h3, h4, h5⟩
  · exact .inl h2
  · exact .inr ⟨g, cap, cur, rfl, h3, (hf.block g (hne g rfl)).trans h4, h5⟩

theorem u8Info : (Tryz.prog.info? 5).map (fun i => (i.zero, i.size, i.bytes)) = some (some (.int .u8 0), 1, 1) := by kernel_rfl

theorem app_run {W : World} {B Bx n m : Nat} {v vx : Value} {xs ys : List Value} (ty : TypeId) (h1 : W.ownsRow B 5 1 v n xs) (h2 : W.ownsRow Bx 5 1 vx m ys) (hy : ∀ u ∈ ys, u.oneCell' = true) (hl : n + m ≤ 1000) (hB : B ≤ W.heap.size) :
    ∃ v' w', (Builtin.append_ #[53, 53] ty #[v, vx]).run Tryz.prog W = .ok v' w' ∧ w'.ownsRow B 5 1 v' (n + m) (xs ++ ys) ∧ W.grownBy w' v.ownBlock ∧ (v'.ownBlock = v.ownBlock ∨ v'.ownBlock = some W.heap.size) := by
  obtain ⟨i0, hi, iz0, iz1, iz2⟩ := info_parts u8Info
  rcases h2.2 with ⟨rfl, rfl⟩ | ⟨g, cap, cur, rfl, hb⟩
  · have hys : ys = [] := List.eq_nil_of_length_eq_zero (by simpa using h2.1)
    subst hys
    refine ⟨v, W, ?_, by simpa using h1, ⟨rfl, rfl, rfl, Nat.le_refl _, fun _ _ _ => rfl⟩, .inl rfl⟩
    obtain ⟨av, cv, rfl⟩ := own_formC h1
    have hcap : n ≤ cv := by
      rcases h1.2 with ⟨h, h0⟩ | ⟨g, cap, cur, h, _, _, h4, _⟩
      · injection h with _ _ h; omega
      · injection h with _ _ h; omega
    cases av with
    | none => simp [Builtin.append_, run_underlying Tryz.underlying53, sizeOf, typeInfo, hi, Builtin.lenOf, Builtin.firstCells, hcap]
    | some ad => simp [Builtin.append_, run_underlying Tryz.underlying53, sizeOf, typeInfo, hi, Builtin.lenOf, Builtin.firstCells, storeCells, hcap, Result.andThen]
  · have hnews : ∀ j u, ys[j]? = some u → W.cell? ((⟨g, 0, none⟩ : Addr).add j) = some u := fun j u hu => by
      have hj : j < m := by have h3 := h2.1; have := (List.getElem?_eq_some_iff.1 hu).1; omega
      rw [Addr.add_lit, Nat.zero_add, h2.cellAt j (by omega)]
      exact hu
    obtain ⟨v', w', hr, a, b, _, d⟩ := run_append_own_at (P := Tryz.prog) W B 53 ty 5 i0 (.int .u8 0) 1 1 Tryz.underlying53 hi iz0 iz1 iz2 rfl (by decide) v n xs h1 ⟨g, 0, none⟩ m cap ys (by rw [h2.1]) hnews hy (by unfold maxLen; omega) (by omega) hB
    exact ⟨v', w', hr, a, b, d⟩

theorem step_app {ops : Array Oper} {op : Oper} {a : Act} {w : World} {K : Act → World → Prop} {Q : Exit → Act → World → Prop} {E : Prop} (hgd : op.guard = none) (s x : Operand) (ho : op.op = .call { callee := .builtin .append, args := #[s, x], argTypes := #[53, 53] })
    {B Bx n m : Nat} {v vx : Value} {xs ys : List Value} (hs : a.eval s = v) (hx : a.eval x = vx) (h1 : w.ownsRow B 5 1 v n xs) (h2 : w.ownsRow Bx 5 1 vx m ys) (hy : ∀ u ∈ ys, u.oneCell' = true) (hl : n + m ≤ 1000) (hB : B ≤ w.heap.size)
    (h : ∀ v' w', w'.ownsRow B 5 1 v' (n + m) (xs ++ ys) → w.grownBy w' v.ownBlock → (v'.ownBlock = v.ownBlock ∨ v'.ownBlock = some w.heap.size) → K (a.put op.dst v') w') :
    if Region.wanted op (yielded ops a.tmps) = true then Oper.wp Tryz.prog op a w K Q else E := by
  have hw : Region.wanted op (yielded ops a.tmps) = true := by simp [Region.wanted, hgd]
  rw [if_pos hw]
  obtain ⟨v', w', hr, h3, h4, h5⟩ := app_run op.type h1 h2 hy hl hB
  unfold Oper.wp execOp
  simp only [ho, resolve, invoke, builtin, Sem.run_bind, Sem.run_pure, Result.andThen_ok, List.map_toArray, List.map_cons, List.map_nil, hs, hx, hr]
  exact h _ _ h3 h4 h5

theorem own_as {W : World} {B n n' size : Nat} {e : TypeId} {v : Value} {xs xs' : List Value} (hn : n' = n) (hx : xs' = xs) (h : W.ownsRow B e size v n xs) : W.ownsRow B e size v n' xs' := by subst hn hx; exact h

theorem fdA_le (u : List UInt8) (s : Sp) (m : Nat) : ∀ c, c ≤ 3 → (fdA u s m c).length ≤ c * 3 ^ m
  | 0, _ => by simp [fdA]
  | c + 1, h => by
    have ih := fdA_le u s m c (by omega)
    obtain ⟨ch, _, _, _, hta⟩ := ltr_at (show c < 3 by omega)
    have := fdL_le (u ++ [ch]) (s.next ch) m
    rw [fdA_next hta, List.length_append, Nat.add_mul]
    omega

theorem one_row {W : World} {n : Nat} (hn : W.heap.size = n) (ch : UInt8) : (W.alloc (.cells #[.int .u8 ((ch.toNat : Nat) : Int)] 5)).ownsRow n 5 1 (.slice (some ⟨n, 0, none⟩) 1 1) 1 ([ch].map byV) := by
  subst hn
  exact ⟨by simp, .inr ⟨W.heap.size, 1, _, rfl, Nat.le_refl _, heap_alloc_new _ _, Nat.le_refl _, by decide, by simp, by simp [byV]⟩⟩

theorem pp_blk {B0 B1 : Nat} {v00 v01 v02 v03 v10 v11 v12 v13 : Value} {W W' : World} (h : W.cell? ⟨B0, 0, none⟩ = some v00 ∧ W.cell? ⟨B0, 1, none⟩ = some v01 ∧ W.cell? ⟨B0, 2, none⟩ = some v02 ∧ W.cell? ⟨B0, 3, none⟩ = some v03 ∧ W.cell? ⟨B1, 0, none⟩ = some v10 ∧ W.cell? ⟨B1, 1, none⟩ = some v11 ∧ W.cell? ⟨B1, 2, none⟩ = some v12 ∧ W.cell? ⟨B1, 3, none⟩ = some v13)
    (e0 : W'.heap[B0]? = W.heap[B0]?) (e1 : W'.heap[B1]? = W.heap[B1]?) :
    W'.cell? ⟨B0, 0, none⟩ = some v00 ∧ W'.cell? ⟨B0, 1, none⟩ = some v01 ∧ W'.cell? ⟨B0, 2, none⟩ = some v02 ∧ W'.cell? ⟨B0, 3, none⟩ = some v03 ∧ W'.cell? ⟨B1, 0, none⟩ = some v10 ∧ W'.cell? ⟨B1, 1, none⟩ = some v11 ∧ W'.cell? ⟨B1, 2, none⟩ = some v12 ∧ W'.cell? ⟨B1, 3, none⟩ = some v13 := by
  simp only [World.cell?] at h ⊢
  rw [e0, e1]
  exact h

theorem pp_low {B0 B1 m : Nat} {v00 v01 v02 v03 v10 v11 v12 v13 : Value} {W W' : World} (h : W.cell? ⟨B0, 0, none⟩ = some v00 ∧ W.cell? ⟨B0, 1, none⟩ = some v01 ∧ W.cell? ⟨B0, 2, none⟩ = some v02 ∧ W.cell? ⟨B0, 3, none⟩ = some v03 ∧ W.cell? ⟨B1, 0, none⟩ = some v10 ∧ W.cell? ⟨B1, 1, none⟩ = some v11 ∧ W.cell? ⟨B1, 2, none⟩ = some v12 ∧ W.cell? ⟨B1, 3, none⟩ = some v13)
    (hb : Below m W W') (h0 : B0 < m) (h1 : B1 < m) :
    W'.cell? ⟨B0, 0, none⟩ = some v00 ∧ W'.cell? ⟨B0, 1, none⟩ = some v01 ∧ W'.cell? ⟨B0, 2, none⟩ = some v02 ∧ W'.cell? ⟨B0, 3, none⟩ = some v03 ∧ W'.cell? ⟨B1, 0, none⟩ = some v10 ∧ W'.cell? ⟨B1, 1, none⟩ = some v11 ∧ W'.cell? ⟨B1, 2, none⟩ = some v12 ∧ W'.cell? ⟨B1, 3, none⟩ = some v13 :=
  pp_blk h (hb.block B0 h0) (hb.block B1 h1)

theorem low_new {W : World} {n : Nat} (o : Obj) (hn : n = W.heap.size) : Below n W (W.alloc o) := (Below.refl _ _).alloc (by omega) o

theorem byV_ones' (l : List UInt8) : ∀ u ∈ l.map byV, u.oneCell' = true := fun u hu => by
  obtain ⟨c, _, rfl⟩ := List.mem_map.1 hu
  rfl

theorem bytes_atF {W : World} {B : Nat} {fz : Nat × Nat} (h : W.heap[B]? = some (.cells #[.int .u8 76, .int .u8 82, .int .u8 83] 5 fz)) {i : Nat} {c : UInt8} (hc : ltr[i]? = some c) : W.cell? ⟨B, i, none⟩ = some (.int .u8 ((c.toNat : Nat) : Int)) := by
  match i, hc with
  | 0, hc => simp [ltr] at hc; subst hc; simp [World.cell?, h]
  | 1, hc => simp [ltr] at hc; subst hc; simp [World.cell?, h]
  | 2, hc => simp [ltr] at hc; subst hc; simp [World.cell?, h]

theorem blk4F {W : World} {g : Nat} {t : TypeId} {a0 a1 a2 a3 : Value} (h : W.heap[g]? = some (.cells #[a0, a1, a2, a3] t (0, 0))) :
    W.cell? ⟨g, 0, none⟩ = some a0 ∧ W.cell? ⟨g, 1, none⟩ = some a1 ∧ W.cell? ⟨g, 2, none⟩ = some a2 ∧ W.cell? ⟨g, 3, none⟩ = some a3 := by
  simp [World.cell?, h]

theorem empty_row {W : World} {n : Nat} (hn : W.heap.size = n) : (W.alloc (.cells #[] 5)).ownsRow n 5 1 (.slice (some ⟨n, 0, none⟩) 0 0) 0 [] := by
  subst hn
  exact ⟨by simp, .inr ⟨W.heap.size, 0, #[], rfl, Nat.le_refl _, heap_alloc_new _ _, Nat.le_refl _, by decide, by simp, by simp⟩⟩

end Go.Proofs.YtkmgcmgnaeamaaaGreatDoor

/- Contracts of the model: the first rings of all classes, and how many there are. -/
namespace Go.Proofs.YtkmgcmgnaeamaaaGreatDoor
open Go.ChangeShapes Go.WideShapes Go.ChangeAt Go.RowKit

set_option linter.unusedVariables false

theorem acL_le {n : Nat} (hn : n ≤ 12) : (acL n).length ≤ 531441 := by
  rw [← fdL_top]
  exact Nat.le_trans (fdL_le _ _ _) (Nat.pow_le_pow_right (by decide) hn)

def acB (n : Int) : Bool := inB n 1 12

def acR (n : Int) : List (List UInt8) := cond (acB n) (acL n.toNat) []

theorem ac_no {n : Int} (h : acB n = false) : acR n = [] := by simp [acR, h]

theorem ac_yes {n : Int} (h : acB n = true) : acR n = acL n.toNat := by simp [acR, h]

theorem ac_num {n : Int} (h : acB n = true) : ∃ m : Nat, n = m ∧ 0 < m ∧ m ≤ 12 := by
  have g1 : 1 ≤ n ∧ n ≤ 12 := by simpa [acB, inB] using h
  exact ⟨n.toNat, by omega, by omega, by omega⟩

theorem AllClasses_len (n : Int) : (acR n).length ≤ 900000 := by
  cases h : acB n
  · rw [ac_no h]; exact Nat.zero_le _
  · obtain ⟨m, rfl, _, hm⟩ := ac_num h
    rw [ac_yes h]
    have := acL_le hm
    simp only [Int.toNat_natCast]
    omega

end Go.Proofs.YtkmgcmgnaeamaaaGreatDoor

/- Contracts of the program: the period of a ring; whether a ring is its own mirror or its own back. -/
namespace Go.Proofs.YtkmgcmgnaeamaaaGreatDoor
open Go.ChangeShapes Go.WideShapes Go.ChangeAt Go.RowKit

set_option linter.unusedVariables false
set_option linter.unusedSimpArgs false

theorem eqL_mk {a b : List UInt8} (ha : a.length ≤ 40) (hl : a.length = b.length) : eqL (mkLp a) (mkLp b) = decide (a = b) := by
  by_cases h : a = b
  · subst h; rw [decide_eq_true rfl]; exact (eqL_iff _ _).2 rfl
  · rw [decide_eq_false h]
    cases he : eqL (mkLp a) (mkLp b) with
    | false => rfl
    | true => exact absurd (mk_inj ha hl ((eqL_iff _ _).1 he)) h

theorem rot1_get {l : List UInt8} {k : Nat} (hk : k < l.length) : ((rot1 l).map mkLp)[k]! = mkLp (spn l (k + 1)) := by
  rw [getElem!_pos _ k (by rw [List.length_map, rot1_len]; exact hk)]
  simp [rot1]

theorem idx_per {l : List UInt8} (h0 : 0 < l.length) (hl : l.length ≤ 40) : Lib.idxBy eqL ((rot1 l).map mkLp) (mkLp l) = ((perN l - 1 : Nat) : Int) := by
  have hp := per_le h0
  have hp1 : 1 ≤ perN l := by unfold perN; omega
  have hs : spn l (perN l) = l ∧ ∀ j, j < perN l - 1 → spn l (j + 1) ≠ l := by
    have hlt : (rot1 l).findIdx (· == l) < (rot1 l).length := by rw [rot1_len]; unfold perN at hp; omega
    have h1 := List.findIdx_getElem (p := (· == l)) (xs := rot1 l) (w := hlt)
    refine ⟨by simp only [rot1, List.getElem_map, List.getElem_range, beq_iff_eq] at h1; exact h1, fun j hj e => ?_⟩
    have := List.not_of_lt_findIdx (p := (· == l)) (xs := rot1 l) (i := j) (by unfold perN at hj; omega)
    simp only [rot1, List.getElem_map, List.getElem_range, beq_eq_false_iff_ne, ne_eq] at this
    exact this e
  have hlen : ((rot1 l).map mkLp).length = l.length := by rw [List.length_map, rot1_len]
  have h := Lib.idxBy_hit eqL ((rot1 l).map mkLp) l.length (perN l - 1) (mkLp l) (by omega) (by omega)
    (by rw [rot1_get (by omega), show perN l - 1 + 1 = perN l by omega, hs.1]; exact (eqL_iff _ _).2 rfl)
    (fun j hj => by rw [rot1_get (by omega), eqL_mk hl (by rw [spn_len])]; exact decide_eq_false fun e => hs.2 j hj e.symm)
  rwa [List.take_of_length_le (by omega)] at h

section
variable {B : Nat} {x : Lp} {cs : List Value} {W w1 : World}
theorem lpMid (y : Lp) : (Tryz.prog.info? 38).map (·.size) = some (encLp y).length := by
  rw [encLp_len]; kernel_rfl

theorem rg_mk (h : LpAt W B x) (hcs : encLp x = cs) : W.rangeAt B 0 cs ∧ Hid (B < W.heap.size) := ⟨fun j v hv => by
  subst hcs
  rw [Nat.zero_add, cell_of_row _ _ j _ _ (0, 0) h]
  simpa [arr] using hv, Lib.hid h.lt⟩

theorem rg_drew (h : W.rangeAt B 0 cs ∧ Hid (B < W.heap.size)) : W.drew.rangeAt B 0 cs ∧ Hid (B < W.drew.heap.size) := h

theorem rg_undrew (h : W.drew.rangeAt B 0 cs ∧ Hid (B < W.drew.heap.size)) : W.rangeAt B 0 cs ∧ Hid (B < W.heap.size) := h

theorem rg_below (h : W.rangeAt B 0 cs ∧ Hid (B < W.heap.size)) (hb : Below W.heap.size W w1) : w1.rangeAt B 0 cs ∧ Hid (B < w1.heap.size) :=
  ⟨fun j v hv => by rw [hb.cell (p := ⟨B, 0 + j, none⟩) h.2.out]; exact h.1 j v hv, Lib.hid (Nat.lt_of_lt_of_le h.2.out hb.size)⟩
end

theorem any_own {l m : List UInt8} (h0 : 0 < l.length) (hl : l.length ≤ 40) (hm : m.length = l.length) : ((rot1 l).map mkLp).any (fun y => eqL (mkLp m) y) = decide (leastL m = leastL l) := by
  rw [Bool.eq_iff_iff, List.any_eq_true, decide_eq_true_iff]
  constructor
  · rintro ⟨y, hy, e⟩
    obtain ⟨a, ha, rfl⟩ := List.mem_map.1 hy
    have ho := (rot1_mem h0).1 ha
    have := mk_inj (by omega) (by rw [orb_len ho, hm]) ((eqL_iff _ _).1 e)
    subst this
    exact (leastL_eq h0 ho).symm
  · intro h
    have ho := orb_symm ((leastL_iff (by omega) h0).1 h)
    exact ⟨mkLp m, List.mem_map_of_mem ((rot1_mem h0).2 ho), (eqL_iff _ _).2 rfl⟩

end Go.Proofs.YtkmgcmgnaeamaaaGreatDoor

/- Contracts: all classes, how many there are, their sizes, how many of them are their own mirrors or backs. -/
namespace Go.Proofs.YtkmgcmgnaeamaaaGreatDoor
open Go.ChangeShapes Go.WideShapes Go.ChangeAt Go.RowKit Go.Sort

set_option linter.unusedVariables false

theorem ac_ok {m : Nat} (h0 : 0 < m) (hm : m ≤ 12) {r : List UInt8} (h : r ∈ acL m) : r.length = m ∧ tkB (ofL r) = true ∧ clB (ofL r) = true := by
  obtain ⟨⟨h1, h2⟩, h3⟩ := acL_mem h
  have ht : tkB (ofL r) = true := tk_of (by omega) fun c hc => by
    have := h2 c hc
    simp only [ltr, List.mem_cons, List.not_mem_nil, or_false] at this
    rcases this with rfl | rfl | rfl <;> decide
  refine ⟨h1, ht, ?_⟩
  rw [clB_yes ht]
  have he : enS (ofL r) = sp0 := by rw [enS_yes ht]; exact h3
  simp [zS, zP, he, ofL_size, h1, h0, sp0]

set_option maxRecDepth 100000 in
theorem imAllClasses (n : Int) (w : World) : Calls Tryz.prog 21 #[.int .i64 n] w (STPost (acR n) (acB n) w) := by
  cases h : acB n
  · rw [ac_no h]
    have h1 : inB n 1 12 = false := h
    go_enter Tryz.func21, Tryz.ntmps21
    go_wp2_with (go_at_call 39; refine (isInRange_any _ _ _ _).mono ?_; rintro e w' ⟨rfl, rfl⟩)
    go_ret2
    exact stNo (by go_grown)
  · rw [ac_yes h]
    obtain ⟨m, rfl, h0, hm⟩ := ac_num h
    rw [Int.toNat_natCast]
    exact imAll_any m h0 hm w

/-- A list of numbers, perhaps none, and whether there is one. -/
def NSPost (xs : List Int) (b : Bool) (w : World) (e : Ending) (w' : World) : Prop :=
  ∃ v, e = .returned (.tuple #[v, .bool b]) ∧ w'.ownsRow w.heap.size 3 1 v xs.length (xs.map (Value.int .i64)) ∧ Below w.heap.size w w'

def szL (n : Int) : List Int := (acR n).map fun r => ((varN r : Nat) : Int)

theorem nmInfoA : (Tryz.prog.info? 3).map (fun i => (i.zero, i.size, i.bytes)) = some (some (.int .i64 0), 1, 8) := by kernel_rfl

theorem varN_le {r : List UInt8} (h0 : 0 < r.length) (h40 : r.length ≤ 40) : varN r ≤ 160 := (vfold_le (four r) (fun x hx => by rw [four_len hx]; exact ⟨h0, h40⟩)).2

end Go.Proofs.YtkmgcmgnaeamaaaGreatDoor

/- A region that draws its order: loads and calls that leave what was there as it was, walked once in the order of the text; behind them operations that wait for all (a store of the result, an alloc), one after another. -/
namespace Go.Proofs.YtkmgcmgnaeamaaaGreatDoor
open Go.ChangeShapes Go.WideShapes Go.ChangeAt Go.RowKit Go.Sort

section
variable {P : Program} {ops : Array Oper} {md : Region.Mode} {C : World → Prop}

/-- Of the head's operations f are still to come, in whatever order; behind them L. -/
def headQ (P : Program) (md : Region.Mode) (ops : Array Oper) (C : World → Prop) (n : Nat) (L : Array Bool → Act → Prop) : Nat → Array Bool → Act → Prop
  | 0, listed, a => L listed a
  | f + 1, listed, a => Region.ready md ops listed ≠ [] ∧ ∀ i ∈ Region.ready md ops listed, i < n ∧ qOp P ops C i (headQ P md ops C n L f (listed.setIfInBounds i true)) a

theorem any_of_headQ {n g : Nat} {L : Array Bool → Act → Prop} {Q' : Exit → Act → World → Prop} (hL : ∀ listed a w, C w → L listed a → wpAny P md ops Q' g listed a w) (f : Nat) :
    ∀ (listed : Array Bool) (a : Act) (w : World), C w → headQ P md ops C n L f listed a → wpAny P md ops Q' (f + g) listed a w := by
  induction f with
  | zero => intro listed a w hw h; rw [Nat.zero_add]; exact hL _ _ _ hw h
  | succ f ih =>
    intro listed a w hw h
    rw [Nat.add_right_comm]
    exact ⟨fun h0 => absurd h0 h.1, fun i hi => wpOp_of_qOp hw (fun a' w' hw' h' => ih _ a' w' hw' h') (h.2 i hi).2⟩

theorem headQ_first {n i : Nat} {oi : Oper} {v : Value} {L : Array Bool → Act → Prop} (hi : ops[i]? = some oi) (hsel : ∀ (j : Nat) (o : Oper) cs b, ops[j]? = some o → o.op ≠ .select cs b)
    (hs : Region.sinkB md ops n = true) (hc : Region.chainB md ops n = true) (hn : n < ops.size) (hin : i < n)
    (hdone : ∀ listed a, L listed a → ∀ j ∈ Region.ready md ops listed, n ≤ j) (f : Nat) :
    ∀ (listed : Array Bool) (a : Act), HeadInv md ops n listed →
      (∀ j oj, ops[j]? = some oj → j ≠ i → listed.getD j true = false → (∀ e ∈ oj.after, Region.binds md e = true → e.on ≠ i) → oi.apart ops oj = true) →
      i ∈ Region.ready md ops listed → YieldsIn P ops C oi v a →
      headQ P md ops C n L f (listed.setIfInBounds i true) (a.put oi.dst v) → headQ P md ops C n L (f + 1) listed a := by
  induction f with
  | zero =>
    intro listed a inv _ hr hy H
    have hun := (mem_ready.1 hr).1
    refine ⟨List.ne_nil_of_mem hr, fun j hj => ?_⟩
    have hjn : j < n := by
      by_cases h : j < n
      · exact h
      · exact absurd hj (tail_waits hs hc hn inv _ i rfl hin hun j (Nat.le_of_not_lt h))
    by_cases hji : j = i
    · subst hji; exact ⟨hjn, hy.qOp hi H⟩
    · have := hdone _ _ H j (ready_mono hj hji)
      omega
  | succ f ih =>
    intro listed a inv hfree hr hy H
    have hun := (mem_ready.1 hr).1
    refine ⟨List.ne_nil_of_mem hr, fun j hj => ?_⟩
    have hjn : j < n := by
      by_cases h : j < n
      · exact h
      · exact absurd hj (tail_waits hs hc hn inv _ i rfl hin hun j (Nat.le_of_not_lt h))
    by_cases hji : j = i
    · subst hji; exact ⟨hjn, hy.qOp hi H⟩
    · obtain ⟨hjun, oj, hoj, hall⟩ := mem_ready.1 hj
      have hnot : ∀ e ∈ oj.after, Region.binds md e = true → e.on ≠ i := fun e he hb heq => by
        have h1 := hall e he hb
        rw [heq, getD_both hun] at h1
        cases h1
      have h2 := qOp_put hoj (hfree j oj hoj hji hjun hnot) (fun cs b => hsel i oi cs b hi) (fun cs b => hsel j oj cs b hoj) hy (H.2 j (ready_mono hj hji)).2
      refine ⟨hjn, qOp_mono (fun a' h3 => ih (listed.setIfInBounds j true) a' (inv.set hj hjn) (fun k ok hk hki hunk hno => ?_) (ready_mono hr (Ne.symm hji)) h3.1 ?_) h2⟩
      · refine hfree k ok hk hki ?_ hno
        by_cases hjk : j = k
        · subst hjk; exact hjun
        · rw [getD_set_ne true hjk] at hunk; exact hunk
      · rw [Array.setIfInBounds_comm _ _ hji]
        exact h3.2

theorem headQ_lex {n g : Nat} {Lq : Act → Prop} (hsel : Region.noSelect ops = true) (hs : Region.sinkB md ops n = true) (hc : Region.chainB md ops n = true) (hn : n < ops.size) (l : List Oper) :
    ∀ (k : Nat) (listed : Array Bool) (a : Act), (∀ j, j < l.length → l[j]? = ops[k + j]?) → k + l.length = n → HeadInv md ops n listed →
    Region.lexHead md ops g l.length k listed = true → wpQuiet P ops C Lq l a →
    headQ P md ops C n (fun listed' a' => Region.seqB md ops g n listed' = true ∧ Lq a') l.length listed a := by
  induction l with
  | nil =>
    intro k listed a _ hk _ hB h
    have : k = n := by simpa using hk
    subst this
    exact ⟨by simpa [Region.lexHead] using hB, h⟩
  | cons o l ih =>
    intro k listed a hl hk inv hB h
    simp only [List.length_cons] at hk
    have h0 : ops[k]? = some o := by simpa using (hl 0 (by simp)).symm
    simp only [List.length_cons, Region.lexHead, Bool.and_eq_true] at hB
    obtain ⟨⟨hr, hf⟩, hB'⟩ := hB
    have hr' : k ∈ Region.ready md ops listed := by simpa using hr
    have hq : qOp P ops C k (wpQuiet P ops C Lq l) a := by unfold qOp; simp only [h0]; exact h
    obtain ⟨v, hy, hK⟩ := yieldsIn_of_qOp h0 hq
    refine headQ_first h0 (Region.noSelect_spec hsel) hs hc hn (by omega) (fun _ _ hL => seqB_ready hL.1) l.length listed a inv (Region.free_spec h0 hf) hr' hy (ih (k + 1) _ _ (fun j hj => ?_) (by omega) (inv.set hr' (by omega)) hB' hK)
    have := hl (j + 1) (by simp; omega)
    simpa [Nat.add_assoc, Nat.add_comm 1 j] using this

/-- The head once, in the order of the text, every operation quiet in the class; behind it the tail, from every world of the class. -/
theorem region_quiet_tail {id : Nat} {Q : Exit → Act → World → Prop} {a : Act} {w : World} {l : List Oper} (n : Nat) (hm : P.follows .mixedOrders = true) (hB : Region.lexTailB .any l.toArray n = true) (hC : C w.drew)
    (h : wpQuiet P l.toArray C (fun a' => ∀ w', C w' → wpList P l.toArray Q (l.drop n) a' w') (l.take n) a) : (Code.region id l.toArray true).wp P Q a w := by
  simp only [Region.lexTailB, Bool.and_eq_true, decide_eq_true_eq] at hB
  obtain ⟨⟨⟨⟨hsel, hn⟩, hs⟩, hc⟩, hlex⟩ := hB
  have hn' : n < l.length := by simpa using hn
  have htl : (l.take n).length = n := by simp; omega
  have hdl : (l.drop n).length = l.toArray.size - n := by simp
  have H := headQ_lex (C := C) (md := .any) (g := l.toArray.size - n) hsel hs hc hn (l.take n) 0 (Array.replicate l.toArray.size false) a (fun j hj => by
    rw [htl] at hj; simp [hj]) (by simpa using htl)
    ⟨by simp, fun j oj _ hl => (by rw [getD_replicate_false] at hl; cases hl), fun t _ ht => getD_in (by simpa using ht) (getD_replicate_false _ _)⟩ (by rw [htl]; exact hlex) h
  refine wp_region_any hm ?_
  have := any_of_headQ (Q' := Q) (g := l.toArray.size - n) (fun listed a' w' hw' hL => by
    have := wpAny_of_seq (md := .any) (Q' := Q) (l.drop n) n listed a' w' (fun j => by simp [List.getElem?_drop]) (by rw [hdl]; exact hL.1) (hL.2 w' hw')
    rwa [hdl] at this) _ _ _ _ hC H
  rw [htl, show n + (l.toArray.size - n) = l.toArray.size by omega] at this
  exact this
end

/-- The class: what was there is as it was; how often the tape was asked, and what was made behind, is left open. -/
theorem region_below_tail {P : Program} {id : Nat} {Q : Exit → Act → World → Prop} {a : Act} {w : World} {l : List Oper} (n : Nat) (hm : P.follows .mixedOrders = true) (hB : Region.lexTailB .any l.toArray n = true)
    (h : wpQuiet P l.toArray (fun w' => ∃ p : Regrown, w' = grow (redrawn w p.d) p.os) (fun a' => ∀ w', (∃ p : Regrown, w' = grow (redrawn w p.d) p.os) → wpList P l.toArray Q (l.drop n) a' w') (l.take n) a) : (Code.region id l.toArray true).wp P Q a w :=
  region_quiet_tail n hm hB ⟨⟨w.drawn + 1, #[]⟩, by rw [grow_empty]; rfl⟩ h

end Go.Proofs.YtkmgcmgnaeamaaaGreatDoor

/- The world at hand behind a letter; calls that leave the world alone, in regions that draw. -/
namespace Go.Proofs.YtkmgcmgnaeamaaaGreatDoor
open Go.ChangeShapes Go.WideShapes Go.ChangeAt Go.RowKit Go.Sort

theorem absWB {F : World → Prop} {P : Program} {c : Code} {Q : Exit → Act → World → Prop} {a : Act} {W : World} (hF : F W) (h : ∀ W, F W → c.wp P Q a W) : c.wp P Q a W := h W hF

theorem absEB {F : World → Prop} {K : Act → World → Prop} {Q : Exit → Act → World → Prop} {a : Act} {W : World} (hF : F W) (h : ∀ W, F W → Exit.then K Q .normal a W) : Exit.then K Q .normal a W := h W hF

theorem same_regrownB {P : Program} {f : FuncId} {args : Array Value} {w : World} {d : Nat} {os : Array Obj} {v : Value}
    (h : Calls P f args (grow (redrawn w d) os) fun e w' => e = .returned v ∧ grow (redrawn w d) os = w') : Calls P f args (grow (redrawn w d) os) fun e w'' => e = .returned v ∧ ∃ p : Regrown, w'' = grow (redrawn w p.d) p.os :=
  h.mono fun _ _ ⟨he, hb⟩ => ⟨he, ⟨d, os⟩, hb.symm⟩

end Go.Proofs.YtkmgcmgnaeamaaaGreatDoor

/- Contracts: what is laid from a box, what is missing, sums and prices of boxes, in the model and in the program. -/
namespace Go.Proofs.YtkmgcmgnaeamaaaGreatDoor
open Go.ChangeShapes Go.WideShapes Go.ChangeAt Go.RowKit Go.Sort

set_option linter.unusedVariables false
set_option linter.unusedSimpArgs false

def boxOfX (s : ByteArray) : Int := cond (tkB s) (stN s : Int) 0

def boxOfR (s : ByteArray) : Int := cond (tkB s) (cvN s : Int) 0

/-- A box and a track, both good. -/
def btG (b : Bq) (s : ByteArray) : Bool := bxB 40 b && tkB s

def clR (b : Bq) (s : ByteArray) : Bool := btG b s && (decide ((stN s : Int) ≤ b.x) && decide ((cvN s : Int) ≤ b.r))

def msR (b : Bq) (s : ByteArray) : Bq := cond (btG b s) ⟨max 0 ((stN s : Int) - b.x), max 0 ((cvN s : Int) - b.r)⟩ ⟨0, 0⟩

theorem btG_no1 {b : Bq} (h : bxB 40 b = false) (s : ByteArray) : btG b s = false := by simp [btG, h]

theorem btG_no2 (b : Bq) {s : ByteArray} (h : tkB s = false) : btG b s = false := by simp [btG, h]

theorem btG_yes {b : Bq} {s : ByteArray} (h : bxB 40 b = true) (k : tkB s = true) : btG b s = true := by simp [btG, h, k]

theorem most_le {a b c d : Int} : ((max a c == a) && (max b d == b)) = (decide (c ≤ a) && decide (d ≤ b)) := by
  rw [Bool.eq_iff_iff]; simp; omega

/-- The boxes' sum, if there is one. -/
def adG (a b : Bq) : Bool := bxB 40 a && bxB 40 b && bxB 40 ⟨a.x + b.x, a.r + b.r⟩

def adR (a b : Bq) : Bq := cond (adG a b) ⟨a.x + b.x, a.r + b.r⟩ ⟨0, 0⟩

theorem wrSum {a b : Int} (h : 0 ≤ a ∧ a ≤ 1000) (k : 0 ≤ b ∧ b ≤ 1000) : wrap64 (a + b) = a + b := IntWalk.wrap64_in _ ⟨by omega, by omega⟩

def prG (b : Bq) (s c : Int) : Bool := bxB 40 b && (inB s 0 1000 && inB c 0 1000)

def prR (b : Bq) (s c : Int) : Int := cond (prG b s c) (b.x * s + b.r * c) 0

theorem pr_bd {x s : Int} (hx : 0 ≤ x) (hx2 : x ≤ 40) (hs : 0 ≤ s) (hs2 : s ≤ 1000) : 0 ≤ x * s ∧ x * s ≤ 40000 :=
  ⟨Int.mul_nonneg hx hs, Int.le_trans (Int.mul_le_mul hx2 hs2 hs (by decide)) (by decide)⟩

end Go.Proofs.YtkmgcmgnaeamaaaGreatDoor

/- Contracts: how many tracks are laid whole from a box, in the model and in the program. -/
namespace Go.Proofs.YtkmgcmgnaeamaaaGreatDoor
open Go.ChangeShapes Go.WideShapes Go.ChangeAt Go.RowKit

set_option linter.unusedVariables false
set_option linter.unusedSimpArgs false

def ctG (b : Bq) : Bool := bxB 12 b

def ctR (b : Bq) : Int := cond (ctG b) ((ctP b.x.toNat b.r.toNat b.r.toNat : Nat) : Int) 0

theorem w64N (n : Nat) (h : n ≤ 1000000000) : wrap64 (n : Int) = (n : Int) := IntWalk.wrap64_in _ ⟨by omega, by omega⟩

theorem tdivN (P K : Nat) : (P : Int).tdiv (K : Int) = ((P / K : Nat) : Int) := by rw [Int.tdiv_eq_ediv_of_nonneg (by omega), Int.natCast_ediv]

theorem ctM_succ (s c k : Nat) : ctM s c (k + 1) = ctM s c k * (c + (k + 1)) / (k + 1) := rfl

theorem ctP_succ (s c k : Nat) : ctP s c (k + 1) = 2 * ctP s c k * (s + (k + 1)) / (k + 1) := rfl

set_option maxRecDepth 100000 in
theorem spSmB_any (b : Bq) (m : Int) (hm : m ≤ 40) (w : World) : Calls Tryz.prog 13 #[bv b, .int .i64 m] w fun e w' => e = .returned (.bool (bxB m b)) ∧ Below w.heap.size w w' := by
  have PB := Lib.hid (spBox_any b)
  cases hb : bxB 40 b
  · have e : bxB m b = false := by
      rw [← Bool.not_eq_true] at hb ⊢
      intro h
      apply hb
      simp [bxB, inB] at h ⊢
      omega
    rw [hb] at PB
    rw [e]
    clear hb e
    go_enter Tryz.func13, Tryz.ntmps13
    go_wp2_with (go_at_call 26; refine (PB.out _).mono ?_; rintro e w1 ⟨rfl, h1⟩; have hB : Below w.heap.size w w1 := ba (by go_grown) h1; obtain ⟨hc1, hf1⟩ := bcell h1; have hq := h1.size; (try simp at hq); have hz0 : w.heap.size < w1.heap.size := (by omega); have HK1 := Lib.hid h1; clear h1 hq)
    go_returns
    exact ⟨rfl, by go_grown⟩
  · obtain ⟨b0, b1, b2⟩ := bxB_yes hb
    have e : bxB m b = decide (b.x + b.r ≤ m) := by
      rw [Bool.eq_iff_iff]
      simp [bxB, inB]
      omega
    rw [hb] at PB
    rw [e]
    obtain ⟨x, r⟩ := b
    simp only at b0 b1 b2 ⊢
    have e0 := wrSum (a := x) (b := r) (by omega) (by omega)
    clear hb e
    cases hc : decide (x + r ≤ m)
    all_goals
      go_enter Tryz.func13, Tryz.ntmps13
      go_wp2_with (go_at_call 26; (with_reducible refine (PB.out _).mono ?_); rintro e wA ⟨rfl, h1⟩; (try with_reducible replace h1 := undrew h1); have hB : Below w.heap.size w wA := ba (by go_grown) h1; obtain ⟨hcwA, hfwA⟩ := bcell h1; have hqwA := h1.size; (try simp at hqwA); (try have hz0wA : w.heap.size < wA.heap.size := (by omega)); (try have he0wA : w.heap.size ≤ wA.heap.size := (by omega)))
      go_returns
      exact ⟨by first | rfl | simp_all | (simp; omega), by go_grown⟩

end Go.Proofs.YtkmgcmgnaeamaaaGreatDoor

/- Contracts of the model: how many rings are laid whole from a box, and the boxes of n pieces that have one. -/
namespace Go.Proofs.YtkmgcmgnaeamaaaGreatDoor
open Go.ChangeShapes Go.WideShapes Go.ChangeAt Go.RowKit

set_option linter.unusedVariables false
set_option linter.unusedSimpArgs false

theorem ltr_pcb {c : UInt8} (h : c ∈ ltr) : pcb c = true := by
  simp only [ltr, List.mem_cons, List.not_mem_nil, or_false] at h
  rcases h with rfl | rfl | rfl <;> rfl

theorem tkB_ltr {l : List UInt8} (h1 : l.length ≤ 40) (h2 : ∀ c ∈ l, c ∈ ltr) : tkB (ofL l) = true := by
  have e : (ofL l).data.toList = l := by simp [ofL]
  simp only [tkB, Bool.and_eq_true, decide_eq_true_eq, ofL_size, e]
  exact ⟨h1, List.all_eq_true.2 fun c hc => ltr_pcb (h2 c hc)⟩

theorem clB_rgb {w : List UInt8} (h1 : w.length ≤ 40) (h2 : ∀ c ∈ w, c ∈ ltr) : clB (ofL w) = rgb w := by
  have ht := tkB_ltr h1 h2
  have e : (ofL w).data.toList = w := by simp [ofL]
  rw [clB_yes ht, rgb, ofL_size]
  congr 1
  unfold zS zP
  rw [enS_yes ht, e]
  simp only [spE, sp0]

theorem bxW_tk {s c : Nat} (h : s + c ≤ 40) {w : List UInt8} (hw : w ∈ bxW s c) : tkB (ofL w) = true ∧ clB (ofL w) = rgb w ∧ w.length = s + c := by
  have h1 := bxW_iff.1 hw
  exact ⟨tkB_ltr (by omega) h1.1.2, clB_rgb (by omega) h1.1.2, h1.1.1⟩

/-- The first j of them that are rings. -/
def rgU (R : List (List UInt8)) (j : Nat) : List (List UInt8) := (R.take j).filter rgb

theorem rgU_end (R : List (List UInt8)) : rgU R R.length = R.filter rgb := by rw [rgU, List.take_length]

theorem rgU_next {R : List (List UInt8)} {j : Nat} {r : List UInt8} (h : R[j]? = some r) : rgU R (j + 1) = if rgb r then rgU R j ++ [r] else rgU R j := by
  simp only [rgU, List.take_add_one, h, Option.toList_some, List.filter_append, List.filter_cons, List.filter_nil]
  split <;> simp

theorem rgU_le (R : List (List UInt8)) (j : Nat) : (rgU R j).length ≤ j := Nat.le_trans (List.length_filter_le _ _) (List.length_take_le _ _)

set_option maxRecDepth 100000 in
set_option maxHeartbeats 800000 in
theorem spRings_any (s c : Nat) (h : s + c ≤ 12) (w : World) : Calls Tryz.prog 14 #[bv ⟨(s : Int), (c : Int)⟩] w fun e w' => e = .returned (.int .i64 ((bxR s c).length : Nat)) ∧ Below w.heap.size w w' := by
  have P := Lib.hid (spAll_any s c h)
  have hlen : (bxW s c).length ≤ 531441 := Nat.le_trans (bxW_le s c) (Nat.pow_le_pow_right (by decide) h)
  have hE : (rgU (bxW s c) (bxW s c).length).length = (bxR s c).length := by rw [rgU_end]; rfl
  have htk : ∀ r ∈ bxW s c, tkB (ofL r) = true ∧ clB (ofL r) = rgb r ∧ r.length = s + c := fun r hr => bxW_tk (by omega) hr
  unfold AllPost at P
  generalize bxW s c = R at *
  generalize bxR s c = RR at *
  obtain ⟨N, hN⟩ : ∃ N, R.length = N := ⟨_, rfl⟩
  have HN := Lib.hid hN
  have HTK := Lib.hid htk
  rw [hN] at hlen hE
  have HE := Lib.hid hE
  clear hN hE htk
  go_enter Tryz.func14, Tryz.ntmps14
  go_wp2_with fail
  (with_reducible refine Calls.mono (P.out _) ?_)
  rintro e w1 ⟨v, rfl, hO, hb1⟩
  rw [HN.out] at hO
  obtain ⟨av, cv, rfl⟩ := own_formC hO
  have HO := Lib.hid hO
  have HB1 := Lib.hid (ba (by go_grown) hb1 : Below w.heap.size w w1)
  clear hb1 hO
  go_wp2_with fail
  go_loopw [3, 9] (fun t i wr => ∃ j : Nat, j ≤ N ∧ i = .int .i64 j ∧ t = .int .i64 ((rgU R j).length : Nat) ∧ Below w1.heap.size w1 wr) (fun _ i _ => N - (intOf i).toNat)
  case atStart => exact ⟨0, Nat.zero_le _, rfl, by simp [rgU], Below.refl _ _⟩
  case round =>
    obtain ⟨j, hj, rfl, rfl, hb⟩ := hrel
    have hle := rgU_le R j
    have HB := Lib.hid hb
    by_cases hlt : j < N
    · obtain ⟨r, hr⟩ : ∃ r, R[j]? = some r := ⟨_, List.getElem?_eq_getElem (by rw [HN.out]; exact hlt)⟩
      obtain ⟨h1, h2, h3⟩ := HTK.out r (List.mem_of_getElem? hr)
      obtain ⟨g, rfl⟩ : ∃ g, av = some ⟨g, 0, none⟩ := by
        rcases HO.out.2 with ⟨h, h0⟩ | ⟨g, cap, _, h, _⟩
        · omega
        · injection h with h; exact ⟨g, h⟩
      have c0 := (str_of HO.out HN.out).below (HO.out.lt g rfl).2 hb j r hr
      have CR := Lib.hid (csRing_any (ofL r) (by rw [ofL_size]; omega))
      rw [h2] at CR
      have HNX := Lib.hid (rgU_next hr)
      cases hq : rgb r
      all_goals
        rw [hq] at CR HNX
        have HQ := Lib.hid hq
        have hBw : Below w.heap.size w wr := HB1.out.trans (hb.mono HB1.out.size)
        clear hb hr h1 h2 hq
        go_wp2_with fail
        (go_at_call 18; (with_reducible refine (CR.out _).mono ?_); rintro e wA ⟨rfl, h1⟩; (try with_reducible replace h1 := undrew h1); have hB : Below w.heap.size w wA := ba (by go_grown) h1; obtain ⟨hcwA, hfwA⟩ := bcell h1; have hqwA := h1.size; (try simp at hqwA); )
        have HB2 := Lib.hid (HB.out.trans (h1.mono HB.out.size))
        clear h1 hcwA hfwA c0 hBw hB
        go_wp2_with fail
        go_roundw
        case rel => exact ⟨j + 1, by omega, by go_num, by rw [HNX.out]; first | rfl | (simp; done) | (simp; go_num), HB2.out⟩
        case measure => simp [intOf]; omega
    · obtain rfl : j = N := by omega
      rw [HE.out]
      have HB2 := Lib.hid (HB1.out.trans (hb.mono HB1.out.size))
      clear hb
      go_wp2_with fail
      go_ret
      exact ⟨rfl, HB2.out⟩

/-- Boxes, one behind the other. -/
def bxC (b : Bq) : List Value := [.int .i64 b.x, .int .i64 b.r]

def bxCells (l : List Bq) : List Value := l.flatMap bxC

theorem bxCells_append (l m : List Bq) : bxCells (l ++ m) = bxCells l ++ bxCells m := by simp [bxCells]

def BoxAt (w : World) (g : Nat) (l : List Bq) : Prop := ∀ (j : Nat) (b : Bq), l[j]? = some b → w.cell? ⟨g, j * 2, none⟩ = some (.int .i64 b.x) ∧ w.cell? ⟨g, j * 2 + 1, none⟩ = some (.int .i64 b.r)

theorem BoxAt.below {w w' : World} {g m : Nat} {l : List Bq} (h : BoxAt w g l) (hg : g < m) (hb : Below m w w') : BoxAt w' g l := fun j b hj => by
  obtain ⟨a, c⟩ := h j b hj
  rw [hb.cell (p := ⟨g, j * 2, none⟩) hg, hb.cell (p := ⟨g, j * 2 + 1, none⟩) hg]
  exact ⟨a, c⟩

theorem box_of {W : World} {B n g cap : Nat} {e : TypeId} {l : List Bq} (h : W.ownsRow B e 2 (.slice (some ⟨g, 0, none⟩) n cap) n (bxCells l)) (hn : l.length = n) : BoxAt W g l := by
  intro i p hp
  have hi : i < n := by rw [← hn]; exact (List.getElem?_eq_some_iff.1 hp).1
  have a := fun j (hj : j < 2) => (h.cellAt (i * 2 + j) (by omega)).trans ((by rw [Nat.mul_comm]) : _ = (bxCells l)[2 * i + j]?) |>.trans (flat_at bxC 2 (fun _ => rfl) l i p hp j hj)
  exact ⟨a 0 (by omega), a 1 (by omega)⟩

theorem bxInfo : (Tryz.prog.info? 26).map (fun i => (i.zero, i.size, i.bytes)) = some (some (.agg #[.int .i64 0, .int .i64 0]), 2, 16) := by kernel_rfl

/-- The boxes of n pieces from which a ring is laid whole, of fewer than k straights. -/
def rbQ (n k : Nat) : List Bq := (rbL n k).map fun (s : Nat) => ⟨(s : Int), ((n - s : Nat) : Int)⟩

theorem rbQ_zero (n : Nat) : rbQ n 0 = [] := rfl

theorem rbQ_succ (n k : Nat) : rbQ n (k + 1) = if hasR n k then rbQ n k ++ [⟨(k : Int), ((n - k : Nat) : Int)⟩] else rbQ n k := by
  rw [rbQ, rbL_succ]
  split <;> simp [rbQ]

theorem rbQ_le (n k : Nat) : (rbQ n k).length ≤ k := by rw [rbQ, List.length_map]; exact rbL_le n k

def BoxPost (l : List Bq) (w : World) (e : Ending) (w' : World) : Prop :=
  ∃ v, e = .returned v ∧ w'.ownsRow w.heap.size 26 2 v l.length (bxCells l) ∧ Below w.heap.size w w'

end Go.Proofs.YtkmgcmgnaeamaaaGreatDoor

/- Contracts: the sizes of classes in the program; how many classes are their own mirrors or backs, on both sides. -/
namespace Go.Proofs.YtkmgcmgnaeamaaaGreatDoor
open Go.ChangeShapes Go.WideShapes Go.ChangeAt Go.RowKit Go.Sort

set_option linter.unusedVariables false

theorem acR_ok {n : Int} {r : List UInt8} (h : r ∈ acR n) : 0 < r.length ∧ r.length ≤ 12 ∧ tkB (ofL r) = true ∧ clB (ofL r) = true := by
  cases hb : acB n
  · rw [ac_no hb] at h; simp at h
  · obtain ⟨m, rfl, h0, hm⟩ := ac_num hb
    rw [ac_yes hb, Int.toNat_natCast] at h
    obtain ⟨h1, h2, h3⟩ := ac_ok h0 hm h
    exact ⟨by omega, by omega, h2, h3⟩

def omLB (r : List UInt8) : Bool := decide (leastL (r.map mir) = leastL r)

def omL (n : Int) : Int := (((acR n).countP omLB : Nat) : Int)

def obLB (r : List UInt8) : Bool := decide (leastL (bak r) = leastL r)

def obL (n : Int) : Int := (((acR n).countP obLB : Nat) : Int)

end Go.Proofs.YtkmgcmgnaeamaaaGreatDoor
