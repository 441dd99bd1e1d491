/- Contract: a yard read back from its text, in the model. -/
import Derived.Test.YtoaccnpkobbaaaaDoorYpM
import Derived.Test.YtoaccnpkobbaaaaDoorYGd
import Derived.Test.YtoaccnpkobbaaaaDoorLsA
import Derived.Test.YtoaccnpkobbaaaaDoorRdA
import Derived.Test.YtoaccnpkobbaaaaDoorYOw
import Derived.Test.YtoaccnpkobbaaaaDoorYLd
import Derived.Test.YtoaccnpkobbaaaaDoorCl
import Derived.Deep.AppendLies
import Derived.Deep.RegionLaw
import Derived.Laws.OwnMore
import Derived.Laws.AppendOwn
import Derived.Maps.AppendAt
namespace Go.Proofs.YtoaccnpkobbaaaaDoor
open Go.ChangeShapes Go.WideShapes Go.ChangeAt Go.RowKit
open Yd

set_option linter.unusedVariables false

theorem grownS (w : World) (a : Addr) (v : Value) : w.grownBy (w.setCell a v) (some a.block) :=
  ⟨rfl, rfl, rfl, by simp, fun k _ hk => heap_setCell_other w a k v (fun e => hk (by rw [e]))⟩

/-- A list of numbers that is being laid into field o of block b; of what was in W1 that block alone has turned. -/
structure FldAt (W1 wr : World) (b o : Nat) (v u : Value) (xs : List Int) : Prop where
  q : wr.cell? ⟨b, o, none⟩ = some v
  f : wr.frozen? ⟨b, o, none⟩ = false
  q' : wr.cell? ⟨b, 1 - o, none⟩ = some u
  f' : wr.frozen? ⟨b, 1 - o, none⟩ = false
  own : wr.ownsRow W1.heap.size 3 1 v xs.length (xs.map (Value.int .i64))
  bl : b < W1.heap.size
  ap : Apart2 b b W1 wr

theorem FldAt.keep {W1 wr w' : World} {b o : Nat} {v u : Value} {xs : List Int} (h : FldAt W1 wr b o v u xs) (k : Below wr.heap.size wr w') : FldAt W1 w' b o v u xs :=
  have hb : b < wr.heap.size := Nat.lt_of_lt_of_le h.bl h.ap.size
  ⟨(k.cell (p := ⟨b, o, none⟩) hb).trans h.q, (k.frozen (p := ⟨b, o, none⟩) hb).trans h.f, (k.cell (p := ⟨b, 1 - o, none⟩) hb).trans h.q', (k.frozen (p := ⟨b, 1 - o, none⟩) hb).trans h.f',
    h.own.kept (row := none) ⟨k.os, k.tape, k.output, k.size, fun i hi _ => k.block i hi⟩ (by cases v.ownBlock <;> simp), h.bl, h.ap.trans (Apart2.ofB k b b)⟩

theorem FldAt.push {W1 wr wA w3 : World} {b o g cap n : Nat} {v u : Value} {xs : List Int} {x : Int} (ho : o ≤ 1) (hn : xs.length = n) (h : FldAt W1 wr b o v u xs) (kA : Below wr.heap.size wr wA) (hg : wA.grownBy w3 v.ownBlock)
    (hown : w3.ownsRow W1.heap.size 3 1 (.slice (some ⟨g, 0, none⟩) (n + 1) cap) (n + 1) (xs.map (Value.int .i64) ++ [.int .i64 x])) :
    FldAt W1 (w3.setCell ⟨b, o, none⟩ (.slice (some ⟨g, 0, none⟩) (n + 1) cap)) b o (.slice (some ⟨g, 0, none⟩) (n + 1) cap) u (xs ++ [x]) := by
  subst hn
  have hA := h.keep kA
  have hb : b < wA.heap.size := Nat.lt_of_lt_of_le hA.bl hA.ap.size
  have hne : some b ≠ v.ownBlock := fun e => by have := (hA.own.lt b e.symm).1; have := hA.bl; omega
  have hbl := hg.block b hb hne
  have c0 : w3.cell? ⟨b, o, none⟩ = some v := (World.cell?_of_block (w := wA) (a := ⟨b, o, none⟩) hbl).trans hA.q
  have c1 : w3.cell? ⟨b, 1 - o, none⟩ = some u := (World.cell?_of_block (w := wA) (a := ⟨b, 1 - o, none⟩) hbl).trans hA.q'
  have f0 : w3.frozen? ⟨b, o, none⟩ = false := (World.frozen?_of_block (w := wA) (a := ⟨b, o, none⟩) hbl).trans hA.f
  have f1 : w3.frozen? ⟨b, 1 - o, none⟩ = false := (World.frozen?_of_block (w := wA) (a := ⟨b, 1 - o, none⟩) hbl).trans hA.f'
  have ap3 : Apart2 b b W1 w3 := ⟨hg.os.trans hA.ap.os, hg.tape.trans hA.ap.tape, hg.output.trans hA.ap.output, Nat.le_trans hA.ap.size hg.size, fun i hi h1 h2 =>
    (hg.block i (Nat.lt_of_lt_of_le hi hA.ap.size) (fun e => by have := (hA.own.lt i e.symm).1; omega)).trans (hA.ap.block i hi h1 h2)⟩
  refine ⟨World.cell?_setCell_same (h := c0) .., by rw [World.frozen?_setCell]; exact f0, ?_, by rw [World.frozen?_setCell]; exact f1, ?_, hA.bl, ap3.trans (Apart2.of (grownS w3 ⟨b, o, none⟩ _) b)⟩
  · rw [World.cell?_setCell_other (h := fun e => by injection e with _ e; omega)]; exact c1
  · rw [List.length_append, List.map_append]
    exact hown.kept (row := some b) (grownS w3 ⟨b, o, none⟩ _) (Or.inr fun e => by have := (hown.lt _ e).1; have := hA.bl; omega)

theorem RL.of_ownI {w : World} {B n g cap : Nat} {xs : List Int} (h : w.ownsRow B 3 1 (.slice (some ⟨g, 0, none⟩) n cap) n (xs.map (Value.int .i64))) (hn : xs.length = n) : RL w g n xs :=
  ⟨(h.lt g rfl).2, fun j hj => ⟨by
    rw [h.cellAt j (by omega), List.getElem?_map]
    obtain ⟨x, hx⟩ : ∃ x, xs[j]? = some x := ⟨_, List.getElem?_eq_getElem (by omega)⟩
    rw [hx]; simp [hx], h.frozenAt j⟩⟩

/-- A yard read, or none, as a result. -/
def YpPost (q : Option Y2) (w : World) (e : Ending) (w' : World) : Prop :=
  match q with
  | some (ks, rs) => ∃ g c h d, e = .returned (.tuple #[.agg #[.slice (some ⟨g, 0, none⟩) ks.length c, .slice (some ⟨h, 0, none⟩) rs.length d], .bool true]) ∧ w.heap.size ≤ g ∧ w.heap.size ≤ h ∧ g ≠ h ∧ RL w' g ks.length ks ∧ RL w' h rs.length rs ∧ Below w.heap.size w w'
  | none => e = .returned (.tuple #[.agg #[.slice none 0 0, .slice none 0 0], .bool false]) ∧ Below w.heap.size w w'

theorem ydGood_nil (u : Value) (a : Option Addr) (m d : Nat) (w : World) : Calls Tryd.prog 15 #[.agg #[.slice none 0 0, .slice a m d]] w fun e w' => e = .returned (.bool false) ∧ Below w.heap.size w w' := by
  have hi : inB 0 1 6 = false := by decide
  go_enter Tryd.func15, Tryd.ntmps15
  go_wp2_with (go_at_call 32; refine (l1In_any _ _ _ _).mono ?_; rintro e w' ⟨rfl, rfl⟩)
  all_goals go_ret
  all_goals exact ⟨rfl, by go_grown⟩

theorem kd_no {c : UInt8} (h1 : ¬ c = 108) (h2 : ¬ c = 115) (h3 : ¬ c = 116) : kdV c = -1 := by simp [kdV, h1, h2, h3]

theorem u8_ne {c d : UInt8} (h : ¬ c = d) : ((c.toNat : Int) == (d.toNat : Int)) = false := by
  simp only [beq_eq_false_iff_ne, ne_eq]
  exact fun e => h (UInt8.toNat_inj.1 (by omega))

set_option maxRecDepth 100000 in
set_option maxHeartbeats 3200000 in
theorem spParseYard (s : ByteArray) (hs : s.size ≤ 1048576) (w : World) :
    Calls Tryd.prog 10 #[.string s] w (YpPost (ypM s) w) := by
  obtain ⟨i0, hi, iz0, iz1, iz2⟩ := info_of numInfo
  by_cases h100 : 100 < s.size
  · have HR := Lib.hid (show ypM s = none by rw [ypM, if_pos h100])
    have k0 : (s.size : Int) > 100 := by omega
    go_enter Tryd.func10, Tryd.ntmps10
    go_wp2_with fail
    refine bodyPost_ret (by simp [results, Tryd.results10, go_sem, *]; try rfl) rfl ?_
    rw [HR.out]
    exact ⟨rfl, by go_grown⟩
  have k0 : ¬ (s.size : Int) > 100 := by omega
  have SP := Lib.hid (fun w' => l1Split_any s 58 hs w')
  have hlen : ¬ (lsp 58 s.data.toList).length = 2 → ypM s = none := fun h => by
    rw [ypM, if_neg h100]
    split
    · rename_i p0 p1 hp; rw [hp] at h; simp at h
    · rfl
  by_cases h2 : (lsp 58 s.data.toList).length = 2
  case neg =>
    have HR := Lib.hid (hlen h2)
    have hll := lsp_len 58 s.data.toList
    rw [size_list] at hll
    have k1 : ¬ ((lsp 58 s.data.toList).length : Int) = 2 := by omega
    generalize lsp 58 s.data.toList = xs at *
    go_enter Tryd.func10, Tryd.ntmps10
    go_wp2_with fail
    refine (SP.out _).mono ?_
    rintro e w1 ⟨g, cap, rfl, hown, h1⟩
    have hB : Below w.heap.size w w1 := ba (by go_grown) h1
    have hz1 := h1.size
    simp at hz1
    have q0 := cl_below (b := w.heap.size) (o := 0) (v := .slice none 0 0) (by simp [go_sem]) (by simp <;> omega) h1
    have q1 := cl_below (b := w.heap.size) (o := 1) (v := .slice none 0 0) (by simp [go_sem]) (by simp <;> omega) h1
    have f0 := h1.frozen (p := ⟨w.heap.size, 0, none⟩) (by simp <;> omega)
    have f1 := h1.frozen (p := ⟨w.heap.size, 1, none⟩) (by simp <;> omega)
    simp [go_sem] at f0 f1
    clear h1 hown
    go_wp2_with fail
    refine bodyPost_ret (by simp [results, Tryd.results10, go_sem, *]; try rfl) rfl ?_
    rw [HR.out]
    exact ⟨rfl, (hB.setCell (by simp <;> omega) _).setCell (by simp <;> omega) _⟩
  obtain ⟨p0, p1, hp⟩ : ∃ p0 p1, lsp 58 s.data.toList = [p0, p1] := by
    match hm : lsp 58 s.data.toList, h2 with
    | [a, b], _ => exact ⟨a, b, rfl⟩
  have hM := lsp_mem 58 s.data.toList
  rw [hp] at hM SP
  have hl0 : p0.length ≤ s.size := by rw [← size_list]; exact (hM p0 (by simp)).2
  have hl1 : p1.length ≤ s.size := by rw [← size_list]; exact (hM p1 (by simp)).2
  have SQ := Lib.hid (fun w' => l1Split_any (ofL p1) 44 (by rw [ofL_size]; omega) w')
  have hd1 : (ofL p1).data.toList = p1 := by simp [ofL]
  rw [hd1] at SQ
  have hE : ypM s = if (p0.all fun c => decide (kdV c ≠ -1)) = true ∧ ydB (p0.map kdV) ((lsp 44 p1).map rdV) = true then some (p0.map kdV, (lsp 44 p1).map rdV) else none := by
    unfold ypM
    rw [if_neg h100, hp]
  have hR0 : ¬ (p0.all fun c => decide (kdV c ≠ -1)) = true → ypM s = none := fun h => by rw [hE, if_neg (fun hx => h hx.1)]
  have hR1 : (p0.all fun c => decide (kdV c ≠ -1)) = true → ypM s = if ydB (p0.map kdV) ((lsp 44 p1).map rdV) = true then some (p0.map kdV, (lsp 44 p1).map rdV) else none := fun h => by
    rw [hE]; simp only [h, true_and]
  have HR0 := Lib.hid hR0
  have HR1 := Lib.hid hR1
  have hs100 : s.size ≤ 100 := by omega
  have hsz0 : (ofL p0).size = p0.length := ofL_size _
  clear hM hR0 hR1 hE hlen h2 hp hd1 h100 hs
  go_enter Tryd.func10, Tryd.ntmps10
  go_wp2_with fail
  refine (SP.out _).mono ?_
  rintro e w1 ⟨g, cap, rfl, hown, h1⟩
  have hB := Lib.hid (ba (by go_grown) h1 : Below w.heap.size w w1)
  have hz1 := h1.size
  simp at hz1
  have q0 := cl_below (b := w.heap.size) (o := 0) (v := .slice none 0 0) (by simp [go_sem]) (by simp <;> omega) h1
  have q1 := cl_below (b := w.heap.size) (o := 1) (v := .slice none 0 0) (by simp [go_sem]) (by simp <;> omega) h1
  have f0 := h1.frozen (p := ⟨w.heap.size, 0, none⟩) (by simp <;> omega)
  have f1 := h1.frozen (p := ⟨w.heap.size, 1, none⟩) (by simp <;> omega)
  simp [go_sem] at f0 f1
  have hgw := (hown.lt g rfl).2
  have hgl := (hown.lt g rfl).1
  have t0 : w1.cell? ⟨g, 0, none⟩ = some (.string (ofL p0)) := (hown.cellAt 0 (by simp)).trans rfl
  have t1 : w1.cell? ⟨g, 1, none⟩ = some (.string (ofL p1)) := (hown.cellAt 1 (by simp)).trans rfl
  have Q := Lib.hid (And.intro q0 (And.intro q1 (And.intro f0 f1)))
  have T := Lib.hid (And.intro t0 t1)
  clear h1 hown q0 q1 f0 f1
  go_wp2_with fail
  have hz2 : (w1.alloc (.cells #[.slice none 0 0, .slice none 0 0] 28)).heap.size = w1.heap.size + 1 := by simp
  have F0 := Lib.hid (show FldAt (w1.alloc (.cells #[.slice none 0 0, .slice none 0 0] 28)) (w1.alloc (.cells #[.slice none 0 0, .slice none 0 0] 28)) w1.heap.size 0 (.slice none 0 0) (.slice none 0 0) [] from
    ⟨by simp [go_sem], by simp [go_sem], by simp [go_sem], by simp [go_sem], World.ownsRow_nil _ _ _ _, by simp, Apart2.ofB (Below.refl _ _) _ _⟩)
  have B1 := Lib.hid (by go_grown : Below w1.heap.size w1 (w1.alloc (.cells #[.slice none 0 0, .slice none 0 0] 28)))
  generalize hW : w1.alloc (.cells #[.slice none 0 0, .slice none 0 0] 28) = W1 at *
  have HZ2 := Lib.hid hz2
  have hz3 : w1.heap.size < W1.heap.size := by omega
  have T1 := Lib.hid (And.intro (cl_below T.out.1 hgw B1.out) (cl_below T.out.2 hgw B1.out))
  clear hW hz2 t0 t1
  go_loopw [6] (fun i wr => ∃ (k : Nat) (v : Value), k ≤ p0.length ∧ i = .int .i64 k ∧ FldAt W1 wr w1.heap.size 0 v (.slice none 0 0) ((p0.take k).map kdV) ∧ (k = 0 → v = .slice none 0 0) ∧ ((p0.take k).all fun c => decide (kdV c ≠ -1)) = true) (fun i _ => p0.length - (intOf i).toNat)
  case atStart => exact ⟨0, _, Nat.zero_le _, rfl, F0.out, fun _ => rfl, rfl⟩
  case round =>
    obtain ⟨k, v, hk, rfl, hF, hv0, hall⟩ := hrel
    have HF := Lib.hid hF
    have hgsz := hF.ap.size
    have t0 := (hF.ap.cell (a := ⟨g, 0, none⟩) (by show g < _; omega) (by show g ≠ _; omega) (by show g ≠ _; omega)).trans T1.out.1
    have t1 := (hF.ap.cell (a := ⟨g, 1, none⟩) (by show g < _; omega) (by show g ≠ _; omega) (by show g ≠ _; omega)).trans T1.out.2
    have y0 := hF.q
    have hgr : g < wr.heap.size := by omega
    have hbr : w1.heap.size < wr.heap.size := by omega
    by_cases hlt : k < p0.length
    · obtain ⟨c, hc⟩ : ∃ c, p0[k]? = some c := ⟨_, List.getElem?_eq_getElem hlt⟩
      have gd : ∀ h : k < (ofL p0).size, (ofL p0)[k]'h = c := fun h => gt_of (by simpa [ofL] using hc) h
      have k1 : (0 : Int) ≤ (k : Int) := by omega
      have k2 : (k : Int) < ((ofL p0).size : Int) := by omega
      have hne : some w1.heap.size ≠ v.ownBlock := fun e => by have := (hF.own.lt _ e.symm).1; omega
      have HNE := Lib.hid hne
      have hll : ((p0.take k).map kdV).length = k := by rw [List.length_map, List.length_take]; omega
      have HLL := Lib.hid hll
      have HOW := Lib.hid (show wr.ownsRow W1.heap.size 3 1 v k (((p0.take k).map kdV).map (Value.int .i64)) by have h := hF.own; rw [hll] at h; exact h)
      have k3 : k ≤ 100 := by omega
      clear hll
      have htk : ∀ x, kdV c = x → (p0.take (k + 1)).map kdV = (p0.take k).map kdV ++ [x] := fun x e => by rw [List.take_add_one, hc, ← e]; simp
      have hal : kdV c ≠ -1 → ((p0.take (k + 1)).all fun c => decide (kdV c ≠ -1)) = true := fun e => by
        rw [List.take_add_one, hc, List.all_append, hall]; simp [e]
      clear hF hne
      by_cases e1 : c = 108
      · have HTK := Lib.hid (htk 0 (by rw [e1]; rfl))
        have HAL := Lib.hid (hal (by rw [e1]; decide))
        have m1 : ((c.toNat : Int) == 108) = true := by rw [e1]; rfl
        clear htk hal e1 hc hall
        go_wp2_with (at_builtin; refine wpList_append_lies _ rfl _ _ 22 rfl W1.heap.size 3 i0 (.int .i64 0) 1 8 Tryd.underlying22 hi iz0 iz1 iz2 rfl (by decide) v k _ rfl (HOW.out.alloc _) ⟨wr.heap.size, 0, none⟩ 1 1 [.int .i64 0] rfl rfl (cell_one_new _ _ _) (by intro u hu; simp at hu; subst hu; rfl) (by decide) (by unfold maxLen; omega) (by omega) (by simp; omega) (wr.heap.size + 1) (by simp) ?_; intro g2 cap2 w3 hown3 hgrow hat hlt9; have s0 := hgrow.cell (cl_alloc HF.out.q _) HNE.out; have sf := (hgrow.frozen_far ⟨w1.heap.size, 0, none⟩ (by simp; omega) HNE.out).trans ((World.frozen?_alloc_old _ _ ⟨w1.heap.size, 0, none⟩ (by show w1.heap.size ≠ wr.heap.size; omega)).trans HF.out.f); have HP := Lib.hid (HF.out.push (by decide) HLL.out (by go_grown) hgrow hown3); clear hown3 hgrow hat hlt9)
        have HP2 := HP.out
        rw [← HTK.out] at HP2
        have HP3 := Lib.hid HP2
        clear HP2
        go_wp2_with fail
        refine ⟨⟨k + 1, _, by omega, by simp, HP3.out, fun e => by omega, HAL.out⟩, by simp [intOf]; omega⟩
      by_cases e2 : c = 115
      · have HTK := Lib.hid (htk 1 (by rw [e2]; rfl))
        have HAL := Lib.hid (hal (by rw [e2]; decide))
        have m1 : ((c.toNat : Int) == 108) = false := by rw [e2]; rfl
        have m2 : ((c.toNat : Int) == 115) = true := by rw [e2]; rfl
        clear htk hal e1 e2 hc hall
        go_wp2_with (at_builtin; refine wpList_append_lies _ rfl _ _ 22 rfl W1.heap.size 3 i0 (.int .i64 0) 1 8 Tryd.underlying22 hi iz0 iz1 iz2 rfl (by decide) v k _ rfl (HOW.out.alloc _) ⟨wr.heap.size, 0, none⟩ 1 1 [.int .i64 1] rfl rfl (cell_one_new _ _ _) (by intro u hu; simp at hu; subst hu; rfl) (by decide) (by unfold maxLen; omega) (by omega) (by simp; omega) (wr.heap.size + 1) (by simp) ?_; intro g2 cap2 w3 hown3 hgrow hat hlt9; have s0 := hgrow.cell (cl_alloc HF.out.q _) HNE.out; have sf := (hgrow.frozen_far ⟨w1.heap.size, 0, none⟩ (by simp; omega) HNE.out).trans ((World.frozen?_alloc_old _ _ ⟨w1.heap.size, 0, none⟩ (by show w1.heap.size ≠ wr.heap.size; omega)).trans HF.out.f); have HP := Lib.hid (HF.out.push (by decide) HLL.out (by go_grown) hgrow hown3); clear hown3 hgrow hat hlt9)
        have HP2 := HP.out
        rw [← HTK.out] at HP2
        have HP3 := Lib.hid HP2
        clear HP2
        go_wp2_with fail
        refine ⟨⟨k + 1, _, by omega, by simp, HP3.out, fun e => by omega, HAL.out⟩, by simp [intOf]; omega⟩
      by_cases e3 : c = 116
      · have HTK := Lib.hid (htk 2 (by rw [e3]; rfl))
        have HAL := Lib.hid (hal (by rw [e3]; decide))
        have m1 : ((c.toNat : Int) == 108) = false := by rw [e3]; rfl
        have m2 : ((c.toNat : Int) == 115) = false := by rw [e3]; rfl
        have m3 : ((c.toNat : Int) == 116) = true := by rw [e3]; rfl
        clear htk hal e1 e2 e3 hc hall
        go_wp2_with (at_builtin; refine wpList_append_lies _ rfl _ _ 22 rfl W1.heap.size 3 i0 (.int .i64 0) 1 8 Tryd.underlying22 hi iz0 iz1 iz2 rfl (by decide) v k _ rfl (HOW.out.alloc _) ⟨wr.heap.size, 0, none⟩ 1 1 [.int .i64 2] rfl rfl (cell_one_new _ _ _) (by intro u hu; simp at hu; subst hu; rfl) (by decide) (by unfold maxLen; omega) (by omega) (by simp; omega) (wr.heap.size + 1) (by simp) ?_; intro g2 cap2 w3 hown3 hgrow hat hlt9; have s0 := hgrow.cell (cl_alloc HF.out.q _) HNE.out; have sf := (hgrow.frozen_far ⟨w1.heap.size, 0, none⟩ (by simp; omega) HNE.out).trans ((World.frozen?_alloc_old _ _ ⟨w1.heap.size, 0, none⟩ (by show w1.heap.size ≠ wr.heap.size; omega)).trans HF.out.f); have HP := Lib.hid (HF.out.push (by decide) HLL.out (by go_grown) hgrow hown3); clear hown3 hgrow hat hlt9)
        have HP2 := HP.out
        rw [← HTK.out] at HP2
        have HP3 := Lib.hid HP2
        clear HP2
        go_wp2_with fail
        refine ⟨⟨k + 1, _, by omega, by simp, HP3.out, fun e => by omega, HAL.out⟩, by simp [intOf]; omega⟩
      have m1 : ((c.toNat : Int) == 108) = false := u8_ne (d := 108) e1
      have m2 : ((c.toNat : Int) == 115) = false := u8_ne (d := 115) e2
      have m3 : ((c.toNat : Int) == 116) = false := u8_ne (d := 116) e3
      have HR := Lib.hid (HR0.out (fun h => by
        have := List.all_eq_true.1 h c (List.mem_of_getElem? hc)
        rw [kd_no e1 e2 e3] at this
        simp at this))
      have BR := HF.out.ap.below (N := w1.heap.size) (by omega) (Nat.le_refl _) (Nat.le_refl _)
      have BR1 := B1.out.trans BR
      have r0 := cl_below Q.out.1 (by omega) BR1
      have r1 := cl_below Q.out.2.1 (by omega) BR1
      have r2 := (BR1.frozen (p := ⟨w.heap.size, 0, none⟩) (by show w.heap.size < _; omega)).trans Q.out.2.2.1
      have r3 := (BR1.frozen (p := ⟨w.heap.size, 1, none⟩) (by show w.heap.size < _; omega)).trans Q.out.2.2.2
      have HBR := Lib.hid (hB.out.trans (BR1.mono hB.out.size))
      clear BR BR1 htk hal e1 e2 e3 hc hall
      go_wp2_with fail
      refine bodyPost_ret (by simp [results, Tryd.results10, go_sem, *]; try rfl) rfl ?_
      rw [HR.out]
      exact ⟨rfl, (HBR.out.setCell (by simp <;> omega) _).setCell (by simp <;> omega) _⟩
    · obtain rfl : k = p0.length := by omega
      rw [List.take_of_length_le (Nat.le_refl _)] at hF hall HF
      have HR := Lib.hid (HR1.out hall)
      have k4 : ¬ (p0.length : Int) < ((ofL p0).size : Int) := by omega
      clear hall hF
      go_wp2_with fail
      refine (SQ.out _).mono ?_
      rintro e W2 ⟨g2, cap2, rfl, hown2, h2⟩
      have F2 := Lib.hid (HF.out.keep h2)
      have hz4 := h2.size
      have hg2 := hown2.lt g2 rfl
      have hws := lsp_len 44 p1
      have hwm := lsp_mem 44 p1
      have hwn := lsp_ne 44 p1
      obtain ⟨ws, hwseq⟩ : ∃ ws, lsp 44 p1 = ws := ⟨_, rfl⟩
      rw [hwseq] at hown2 hws hwm hwn HR
      rw [hwseq]
      have OW := Lib.hid hown2
      have HWM := Lib.hid hwm
      have HWN := Lib.hid hwn
      have h1cells := Lib.hid (And.intro (F2.out.q) (F2.out.f))
      have FS := Lib.hid (show FldAt W2 W2 w1.heap.size 1 (.slice none 0 0) v [] from ⟨F2.out.q', F2.out.f', F2.out.q, F2.out.f, World.ownsRow_nil _ _ _ _, by omega, Apart2.ofB (Below.refl _ _) _ _⟩)
      have hw100 : ws.length ≤ 101 := by omega
      clear h2 hown2 hws hwm hwn hwseq t0 t1 y0
      go_wp2_with fail
      go_loopw [60] (fun i wr => ∃ (j : Nat) (v1 : Value), j ≤ ws.length ∧ i = .int .i64 j ∧ FldAt W2 wr w1.heap.size 1 v1 v ((ws.take j).map rdV)) (fun i _ => ws.length - (intOf i).toNat)
      case atStart => exact ⟨0, _, Nat.zero_le _, rfl, FS.out⟩
      case round =>
        obtain ⟨j, v1, hj, rfl, hF2⟩ := hrel
        have HF2 := Lib.hid hF2
        have hsz := hF2.ap.size
        by_cases hlt2 : j < ws.length
        · obtain ⟨wj, hwj⟩ : ∃ wj, ws[j]? = some wj := ⟨_, List.getElem?_eq_getElem hlt2⟩
          have hstr : (strC ws)[j]? = some (.string (ofL wj)) := by rw [strC, List.getElem?_map, hwj]; rfl
          have t0 := (hF2.ap.cell (a := ⟨g2, j, none⟩) (by show g2 < _; omega) (by show g2 ≠ _; omega) (by show g2 ≠ _; omega)).trans ((OW.out.cellAt j (by omega)).trans hstr)
          have y1 := hF2.q
          have y2 := hF2.f
          have j1 : (0 : Int) ≤ (j : Int) := by omega
          have j2 : (j : Int) < (ws.length : Int) := by omega
          have j3 : j < ws.length := hlt2
          have hwl := (HWM.out wj (List.mem_of_getElem? hwj)).2
          have RD := Lib.hid (fun w' => l1Read_any (ofL wj) (by rw [ofL_size]; omega) w')
          have hd : (ofL wj).data.toList = wj := by simp [ofL]
          rw [hd] at RD
          have HTK := Lib.hid (show (ws.take (j + 1)).map rdV = (ws.take j).map rdV ++ [rdV wj] by rw [List.take_add_one, hwj]; simp)
          have hll : ((ws.take j).map rdV).length = j := by rw [List.length_map, List.length_take]; omega
          have HLL := Lib.hid hll
          have hbr : w1.heap.size < wr.heap.size := by omega
          have hgr : g2 < wr.heap.size := by omega
          have hne : some w1.heap.size ≠ v1.ownBlock := fun e => by have := (hF2.own.lt _ e.symm).1; omega
          have HNE := Lib.hid hne
          generalize rdV wj = x at *
          clear hF2 hwj hstr hd hll hne
          go_wp2_with fail
          go_region_law (first | (go_simp; go_at_call 25; (with_reducible refine Calls.mono (RD.out _) ?_); rintro e wA ⟨rfl, h1⟩; (try with_reducible replace h1 := undrew h1); have hBA : Below wr.heap.size wr wA := ba (by go_grown) h1; have hqA := hBA.size; have FA := HF2.out.keep hBA; have HOA := Lib.hid (show wA.ownsRow W2.heap.size 3 1 v1 j (((ws.take j).map rdV).map (Value.int .i64)) by (have h := FA.own; rw [HLL.out] at h; exact h)); have c0A := FA.q; have f0A := FA.f; have hbA : w1.heap.size < wA.heap.size := (by omega); clear FA) | ((refine step_append_lies _ (by rfl) _ _ _ (by rfl) W2.heap.size 3 i0 _ 1 8 Tryd.underlying22 hi iz0 iz1 iz2 (by rfl) (by decide) v1 j (((ws.take j).map rdV).map (Value.int .i64)) ?hs ?hown ⟨wA.heap.size, 0, none⟩ 1 1 [.int .i64 x] ?hx (by rfl) ?hnews (by intro u hu; simp at hu; subst hu; rfl) (by decide) (by unfold maxLen; omega) (by omega) ?hbase (wA.heap.size + 1) ?hH ?_); (case hs => first | rfl | simp [Act.eval]); (case hx => first | rfl | simp [Act.eval]); (case hown => exact HOA.out.alloc _); (case hnews => exact cell_one_new _ _ _); (case hbase => (simp; omega)); (case hH => simp); intro g3 cap3 w3 hown3 hgrow hat hlt9; have s0 := hgrow.cell (cl_alloc c0A _) HNE.out; have sf := (hgrow.frozen_far ⟨w1.heap.size, 1, none⟩ (by simp; omega) HNE.out).trans ((World.frozen?_alloc_old _ _ ⟨w1.heap.size, 1, none⟩ (by show w1.heap.size ≠ wA.heap.size; omega)).trans f0A); have HP := Lib.hid (HF2.out.push (by decide) HLL.out (hBA.alloc hqA _) hgrow hown3)))
          all_goals
            have HP2 := HP.out
            rw [← HTK.out] at HP2
            have HP3 := Lib.hid HP2
            clear HP2 HP s0 sf hown3 hgrow hat hlt9 c0A f0A h1 hBA t0 y1 y2
            go_wp2_with fail
            go_roundw
            case rel => exact ⟨j + 1, _, by omega, by go_num, HP3.out⟩
            case measure => simp [intOf]; omega
        · obtain rfl : j = ws.length := by omega
          rw [List.take_of_length_le (Nat.le_refl _)] at hF2
          clear HF2
          have HF2 := Lib.hid hF2
          have hwpos : 0 < (ws.map rdV).length := by rw [List.length_map]; exact List.length_pos_iff.2 HWN.out
          obtain ⟨g3, c3, rfl, hg3, hg3'⟩ := hF2.own.form hwpos
          have RR := Lib.hid (RL.of_ownI hF2.own rfl)
          have y1 := hF2.q
          have y2 := hF2.q'
          have BR := hF2.ap.below (N := w1.heap.size) (by omega) (Nat.le_refl _) (Nat.le_refl _)
          have BF := Lib.hid (B1.out.trans ((F2.out.ap.below (N := w1.heap.size) (by omega) (Nat.le_refl _) (Nat.le_refl _)).trans BR))
          have hapk := Lib.hid hF2.ap
          clear BR hwpos
          by_cases hp0 : p0 = []
          · subst hp0
            obtain rfl := hv0 rfl
            have hRn : ypM s = none := by rw [HR.out]; rfl
            have HRn := Lib.hid hRn
            clear hRn hF2
            generalize hR : ws.map rdV = R at *
            have hbr2 : w1.heap.size < wr.heap.size := by omega
            have j5 : ¬ (ws.length : Int) < (ws.length : Int) := by omega
            clear hR
            go_wp2_with fail
            refine (ydGood_nil .nilIface _ _ _ _).mono ?_
            rintro e w3 ⟨rfl, k1⟩
            have BF2 := BF.out.trans (k1.mono BF.out.size)
            have r0 := cl_below Q.out.1 (by omega) BF2
            have r1 := cl_below Q.out.2.1 (by omega) BF2
            have r2 := (BF2.frozen (p := ⟨w.heap.size, 0, none⟩) (by show w.heap.size < _; omega)).trans Q.out.2.2.1
            have r3 := (BF2.frozen (p := ⟨w.heap.size, 1, none⟩) (by show w.heap.size < _; omega)).trans Q.out.2.2.2
            have HBR := Lib.hid (hB.out.trans (BF2.mono hB.out.size))
            have hzw := k1.size
            have y1' := cl_below y1 hbr2 k1
            have y2' := cl_below y2 hbr2 k1
            clear k1 BF2
            go_wp2_with fail
            refine bodyPost_ret (by simp [results, Tryd.results10, go_sem, *]; try rfl) rfl ?_
            rw [HRn.out]
            exact ⟨rfl, (HBR.out.setCell (by simp <;> omega) _).setCell (by simp <;> omega) _⟩
          · have hkpos : 0 < (p0.map kdV).length := by rw [List.length_map]; exact List.length_pos_iff.2 hp0
            obtain ⟨gk, ck, rfl, hgk, hgk'⟩ := F2.out.own.form hkpos
            have RK := Lib.hid ((RL.of_ownI F2.out.own rfl).apart hapk.out (by omega) (by omega))
            have hl1' : (p0.map kdV).length ≤ 2000000 := by rw [List.length_map]; omega
            have hl2' : (ws.map rdV).length ≤ 2000000 := by rw [List.length_map]; omega
            have hbr2 : w1.heap.size < wr.heap.size := by omega
            clear hF2 hkpos hp0 hv0 HF F2 h1cells FS HF2 hapk
            generalize hK : p0.map kdV = K at *
            generalize hR : ws.map rdV = R at *
            clear hK hR
            go_wp2_with fail
            refine (ydGood_any gk K.length ck g3 R.length c3 K R rfl rfl hl1' hl2' _ RK.out RR.out).mono ?_
            rintro e w3 ⟨rfl, k1⟩
            have BF2 := BF.out.trans (k1.mono BF.out.size)
            have r0 := cl_below Q.out.1 (by omega) BF2
            have r1 := cl_below Q.out.2.1 (by omega) BF2
            have r2 := (BF2.frozen (p := ⟨w.heap.size, 0, none⟩) (by show w.heap.size < _; omega)).trans Q.out.2.2.1
            have r3 := (BF2.frozen (p := ⟨w.heap.size, 1, none⟩) (by show w.heap.size < _; omega)).trans Q.out.2.2.2
            have HBR := Lib.hid (hB.out.trans (BF2.mono hB.out.size))
            have hzw := k1.size
            have y1' := cl_below y1 hbr2 k1
            have y2' := cl_below y2 hbr2 k1
            have RK2 := Lib.hid (RK.out.keep k1)
            have RR2 := Lib.hid (RR.out.keep k1)
            have hbr3 : w1.heap.size < w3.heap.size := by omega
            clear k1 BF2
            cases hy : ydB K R
            · have HRn := Lib.hid (show ypM s = none by rw [HR.out, hy]; rfl)
              go_wp2_with fail
              refine bodyPost_ret (by simp [results, Tryd.results10, go_sem, *]; try rfl) rfl ?_
              rw [HRn.out]
              exact ⟨rfl, (HBR.out.setCell (by simp <;> omega) _).setCell (by simp <;> omega) _⟩
            · have HRn := Lib.hid (show ypM s = some (K, R) by rw [HR.out, hy]; rfl)
              go_wp2_with fail
              refine bodyPost_ret (by simp [results, Tryd.results10, go_sem, *]; try rfl) rfl ?_
              rw [HRn.out]
              exact ⟨gk, ck, g3, c3, rfl, by omega, by omega, by omega, (RK2.out.other (by simp <;> omega) _).other (by simp <;> omega) _, (RR2.out.other (by simp <;> omega) _).other (by simp <;> omega) _, (HBR.out.setCell (by simp <;> omega) _).setCell (by simp <;> omega) _⟩

end Go.Proofs.YtoaccnpkobbaaaaDoor
