/- Contracts and facts, put together (part 5). Conditions: each says its own. -/
import Derived.Test.YtoenkgenoloihaaDoorQ4
import Derived.Maps.OwnOps
import Derived.Maps.OwnSet
import Derived.WideKeyArr
import Derived.WideKeyEntry
import Derived.Shelf.SlSortCmp.NoneTotal
import Derived.Lib.SlicesCompact
import Derived.Maps.AppendAt
import Derived.LoopTactic
import Derived.Outline
import Derived.Deep.QuietTactic
import Derived.BigQuiet
import Derived.Laws.AppendOwn
import Derived.Laws.OwnMore
import Derived.Deep.AppendLies

/- Contract: the way back from a step, in the program. -/
namespace Go.Proofs.YtoenkgenoloihaaDoor
open Go.ChangeShapes Go.WideShapes Go.ChangeAt Go.RowKit

set_option linter.unusedVariables false

theorem times_tuB (k : Int) (h0 : 0 ≤ k) (h7 : k ≤ 7) (a0 a1 a2 a3 : Int) (pa0 : -999999 ≤ a0) (qa0 : a0 ≤ 999999) (pa1 : -999999 ≤ a1) (qa1 : a1 ≤ 999999) (pa2 : -999999 ≤ a2) (qa2 : a2 ≤ 999999) (pa3 : -999999 ≤ a3) (qa3 : a3 ≤ 999999) (w : World) :
    Calls Tryd.prog 106 #[.agg #[.int .i64 a0, .int .i64 a1, .int .i64 a2, .int .i64 a3], .agg #[.int .i64 (tu0 k 1 0 0 0), .int .i64 (tu1 k 1 0 0 0), .int .i64 (tu2 k 1 0 0 0), .int .i64 (tu3 k 1 0 0 0)]] w fun e w' => e = .returned (.agg #[.int .i64 (tu0 k a0 a1 a2 a3), .int .i64 (tu1 k a0 a1 a2 a3), .int .i64 (tu2 k a0 a1 a2 a3), .int .i64 (tu3 k a0 a1 a2 a3)]) ∧ Below w.heap.size w w' := by
  obtain ⟨b0, b0'⟩ := tu_bd0 k h0 h7
  obtain ⟨b1, b1'⟩ := tu_bd1 k h0 h7
  obtain ⟨b2, b2'⟩ := tu_bd2 k h0 h7
  obtain ⟨b3, b3'⟩ := tu_bd3 k h0 h7
  refine (imTimes_any a0 a1 a2 a3 (tu0 k 1 0 0 0) (tu1 k 1 0 0 0) (tu2 k 1 0 0 0) (tu3 k 1 0 0 0) pa0 qa0 pa1 qa1 pa2 qa2 pa3 qa3 b0 b0' b1 b1' b2 b2' b3 b3' w).mono ?_
  rintro e w' ⟨rfl, hb⟩
  exact ⟨by rw [tm_tu0 a0 a1 a2 a3 k h0 h7, tm_tu1 a0 a1 a2 a3 k h0 h7, tm_tu2 a0 a1 a2 a3 k h0 h7, tm_tu3 a0 a1 a2 a3 k h0 h7], hb⟩

theorem turn_back (h : Int) (h0 : 0 ≤ h) (h7 : h ≤ 7) (w : World) :
    Calls Tryd.prog 104 #[.int .i64 0, .int .i64 (-h)] w fun e w' => e = .returned (.int .i64 ((8 - h) % 8)) ∧ w = w' := by
  have h2 : (-h + 8).tmod 8 = (8 - h) % 8 := by rw [Int.tmod_eq_emod_of_nonneg (by omega), show -h + 8 = 8 - h by omega]
  have HM := Lib.hid h2
  clear h2
  go_enter Tryd.func104, Tryd.ntmps104
  go_wp2
  go_ret
  exact ⟨by first | rfl | (rw [← HM.out]; rfl) | (simp; done), rfl⟩

set_option maxRecDepth 100000 in
set_option maxHeartbeats 1600000 in
theorem wayBack_any (s : Sp) (hs : s.okB 999999) (w : World) :
    Calls Tryd.prog 87 #[.agg #[.int .i64 s.x0, .int .i64 s.x1, .int .i64 s.x2, .int .i64 s.x3, .int .i64 s.h]] w fun e w' =>
      e = .returned (.agg #[.int .i64 (wayB s).x0, .int .i64 (wayB s).x1, .int .i64 (wayB s).x2, .int .i64 (wayB s).x3, .int .i64 (wayB s).h]) ∧ Below w.heap.size w w' := by
  obtain ⟨x0, x1, x2, x3, h⟩ := s
  obtain ⟨⟨b0, b0'⟩, ⟨b1, b1'⟩, ⟨b2, b2'⟩, ⟨b3, b3'⟩, b4, b5⟩ := hs
  simp only at b0 b0' b1 b1' b2 b2' b3 b3' b4 b5
  have hc0 : 0 ≤ (8 - h) % 8 := by omega
  have hc7 : (8 - h) % 8 ≤ 7 := by omega
  have T := Lib.hid (times_tuB ((8 - h) % 8) hc0 hc7 (-x0) (-x1) (-x2) (-x3) (by omega) (by omega) (by omega) (by omega) (by omega) (by omega) (by omega) (by omega))
  have PW := Lib.hid (power_any ((8 - h) % 8) hc0 hc7)
  have SC := Lib.hid (scN x0 x1 x2 x3 b0 b0' b1 b1' b2 b2' b3 b3')
  have TB := Lib.hid (turn_back h b4 b5)
  simp only [wayB]
  generalize (8 - h) % 8 = k at *
  go_enter Tryd.func87, Tryd.ntmps87
  go_wp2_with (go_at_call 104; refine (TB.out _).mono ?_; rintro e w' ⟨rfl, rfl⟩)
  (go_at_call 105; (with_reducible refine (SC.out _).mono ?_); rintro e wA ⟨rfl, h1⟩; (try with_reducible replace h1 := undrew h1); have hB : Below w.heap.size w wA := ba (by go_grown) h1; obtain ⟨hcwA, hfwA⟩ := bcell h1; have hqwA := h1.size; (try simp at hqwA); (try have hz0wA : w.heap.size < wA.heap.size := (by omega)); (try have he0wA : w.heap.size ≤ wA.heap.size := (by omega)); (try have hz1wA : w.heap.size + 1 < wA.heap.size := (by omega)); (try have he1wA : w.heap.size + 1 ≤ wA.heap.size := (by omega)))
  go_wp2_with fail
  (go_at_call 107; (with_reducible refine (PW.out _).mono ?_); rintro e wB ⟨rfl, h1⟩; (try with_reducible replace h1 := undrew h1); have hB : Below w.heap.size w wB := ba (by go_grown) h1; obtain ⟨hcwB, hfwB⟩ := bcell h1; have hqwB := h1.size; (try simp at hqwB); (try have hz0wB : w.heap.size < wB.heap.size := (by omega)); (try have he0wB : w.heap.size ≤ wB.heap.size := (by omega)); (try have hz1wB : w.heap.size + 1 < wB.heap.size := (by omega)); (try have he1wB : w.heap.size + 1 ≤ wB.heap.size := (by omega)))
  go_wp2_with fail
  (go_at_call 106; (with_reducible refine (T.out _).mono ?_); rintro e wC ⟨rfl, h1⟩; (try with_reducible replace h1 := undrew h1); have hB : Below w.heap.size w wC := ba (by go_grown) h1; obtain ⟨hcwC, hfwC⟩ := bcell h1; have hqwC := h1.size; (try simp at hqwC); (try have hz0wC : w.heap.size < wC.heap.size := (by omega)); (try have he0wC : w.heap.size ≤ wC.heap.size := (by omega)); (try have hz1wC : w.heap.size + 1 < wC.heap.size := (by omega)); (try have he1wC : w.heap.size + 1 ≤ wC.heap.size := (by omega)))
  go_wp2_with fail
  refine bodyPost_ret (by simp [results, Tryd.results87, go_sem, *]; try rfl) rfl ?_
  exact ⟨rfl, by go_grown⟩

end Go.Proofs.YtoenkgenoloihaaDoor

/- Contract: the program's 'closings'. -/
namespace Go.Proofs.YtoenkgenoloihaaDoor
open Go.ChangeShapes Go.WideShapes Go.ChangeAt Go.RowKit

set_option linter.unusedVariables false

def StrPost (l : List (List UInt8)) (w : World) (e : Ending) (w' : World) : Prop :=
  ∃ v, e = .returned v ∧ w'.ownsRow w.heap.size 9 1 v l.length (strV l) ∧ Below w.heap.size w w'

theorem srInfo : (Tryd.prog.info? 9).map (fun i => (i.zero, i.size, i.bytes)) = some (some (.string ByteArray.empty), 1, 16) := by kernel_rfl

/-- Texts at their place, in a block that was there. -/
def StrAt (w : World) (g : Nat) (l : List (List UInt8)) : Prop := ∀ i u, l[i]? = some u → w.cell? ⟨g, i, none⟩ = some (.string (ofL u))

theorem StrAt.below {w w' : World} {g n : Nat} {l : List (List UInt8)} (h : StrAt w g l) (hg : g < n) (hb : Below n w w') : StrAt w' g l := fun i u hu => by
  rw [hb.cell (p := ⟨g, i, none⟩) hg]; exact h i u hu

theorem str_of {W : World} {B n g cap : Nat} {e : TypeId} {l : List (List UInt8)} (h : W.ownsRow B e 1 (.slice (some ⟨g, 0, none⟩) n cap) n (strV l)) (hn : l.length = n) : StrAt W g l := fun i u hu => by
  have hi : i < n := by rw [← hn]; exact (List.getElem?_eq_some_iff.1 hu).1
  rw [h.cellAt i (by omega)]
  simp [strV, hu]

def accG (l2 l1 : List (Sp × List UInt8)) (j : Nat) : List (List UInt8) := (l2.take j).flatMap fun p => (grp (wayB p.1) l1).map fun v => p.2 ++ v

theorem accG_end (a : Sp) (k0 : 0 ≤ a.h) (k7 : a.h ≤ 7) (m n : Nat) : accG (parts a m) (parts sp0 n) (3 ^ m) = clsL a (m + n) := by
  rw [accG, List.take_of_length_le (by rw [parts_len]; exact Nat.le_refl _), cls_halves a k0 k7]

theorem accG_next {l2 l1 : List (Sp × List UInt8)} {j : Nat} {p : Sp × List UInt8} (h : l2[j]? = some p) : accG l2 l1 (j + 1) = accG l2 l1 j ++ (grp (wayB p.1) l1).map fun v => p.2 ++ v := by
  rw [accG, List.take_add_one, h]
  simp [accG, List.flatMap_append]

theorem accG_le (l2 l1 : List (Sp × List UInt8)) : ∀ j, (accG l2 l1 j).length ≤ j * l1.length
  | 0 => by simp [accG]
  | j + 1 => by
    have ih := accG_le l2 l1 j
    rw [Nat.succ_mul]
    by_cases h : j < l2.length
    · rw [accG_next (List.getElem?_eq_getElem h), List.length_append, List.length_map]
      have := grp_le (wayB l2[j].1) l1
      omega
    · rw [show accG l2 l1 (j + 1) = accG l2 l1 j by rw [accG, accG, List.take_of_length_le (by omega), List.take_of_length_le (by omega)]]
      omega

theorem PrtAt.grown {w w' : World} {g : Nat} {l : List (Sp × List UInt8)} {row : Option Nat} (h : PrtAt w g l) (hg : w.grownBy w' row) (hne : some g ≠ row) : PrtAt w' g l := by
  intro i p hp
  obtain ⟨a, b, c, d, e, f⟩ := h i p hp
  exact ⟨hg.cell a hne, hg.cell b hne, hg.cell c hne, hg.cell d hne, hg.cell e hne, hg.cell f hne⟩

theorem wayB_ok {s : Sp} {n : Int} (h : s.okB n) : (wayB s).okB n := by
  obtain ⟨⟨b0, b0'⟩, ⟨b1, b1'⟩, ⟨b2, b2'⟩, ⟨b3, b3'⟩, b4, b5⟩ := h
  simp only [Sp.okB, wayB]
  refine ⟨?_, ?_, ?_, ?_, by omega, by omega⟩
  · unfold tu0; repeat' split <;> omega
  · unfold tu1; repeat' split <;> omega
  · unfold tu2; repeat' split <;> omega
  · unfold tu3; repeat' split <;> omega

theorem own_blkC {W : World} {B : Nat} {e t : TypeId} {size n : Nat} {v : Value} {xs : List Value} {g : Nat} {cs : Array Value} {fz : Nat × Nat} (h : W.ownsRow B e size v n xs) (hg : W.heap[g]? = some (.cells cs t fz)) (hne : e ≠ t) : some g ≠ v.ownBlock := by
  rcases h.2 with ⟨rfl, _⟩ | ⟨g', cap, cur, rfl, _, hg', _⟩
  · simp [Value.ownBlock]
  · intro he
    simp only [Value.ownBlock, Option.some.injEq] at he
    subst he
    rw [hg] at hg'
    simp only [Option.some.injEq, Obj.cells.injEq] at hg'
    exact hne hg'.2.1.symm

theorem own_formC {W : World} {B n size : Nat} {e : TypeId} {v : Value} {xs : List Value} (h : W.ownsRow B e size v n xs) : ∃ av cv, v = .slice av n cv := by
  rcases h.2 with ⟨h, h0⟩ | ⟨g, cap, cur, h, _⟩
  · exact ⟨none, 0, by rw [h, h0]⟩
  · exact ⟨_, _, h⟩

theorem news_one {W W1 : World} {n : Nat} {row : Option Nat} (hn : W.heap.size = n) (x : Value) (t : TypeId) (hg : (W.alloc (.cells #[x] t)).grownBy W1 row) (hne : some n ≠ row) : ∀ j u, [x][j]? = some u → W1.cell? ((⟨n, 0, none⟩ : Addr).add j) = some u := by
  subst hn
  intro j u hj
  have h := cell_one_new W x t j u hj
  match j, hj, h with
  | 0, _, h => exact hg.cell h (by simpa [Addr.add] using hne)

theorem blk5 {W : World} {g : Nat} {t : TypeId} {a0 a1 a2 a3 a4 : Value} (h : W.heap[g]? = some (.cells #[a0, a1, a2, a3, a4] t (0, 0))) :
    W.cell? ⟨g, 0, none⟩ = some a0 ∧ W.cell? ⟨g, 1, none⟩ = some a1 ∧ W.cell? ⟨g, 2, none⟩ = some a2 ∧ W.cell? ⟨g, 3, none⟩ = some a3 ∧ W.cell? ⟨g, 4, none⟩ = some a4 := by
  simp [World.cell?, h]

theorem grp_mem {k : Sp} {l : List (Sp × List UInt8)} {x : List UInt8} (h : x ∈ grp k l) : ∃ p ∈ l, p.2 = x := by
  simp only [grp, List.mem_map, List.mem_filter] at h
  obtain ⟨p, ⟨hp, _⟩, rfl⟩ := h
  exact ⟨p, hp, rfl⟩

set_option maxRecDepth 100000 in
set_option maxHeartbeats 6400000 in
theorem closings_any (a : Sp) (ha : a.okB 900000) (n : Nat) (hn : n ≤ 14) (w : World) :
    Calls Tryd.prog 66 #[.agg #[.int .i64 a.x0, .int .i64 a.x1, .int .i64 a.x2, .int .i64 a.x3, .int .i64 a.h], .int .i64 n] w (StrPost (clsL a n) w) := by
  obtain ⟨i0, hi, iz0, iz1, iz2⟩ := info_parts srInfo
  obtain ⟨m, hm⟩ : ∃ m, n / 2 = m := ⟨_, rfl⟩
  obtain ⟨k, hk⟩ : ∃ k, n - m = k := ⟨_, rfl⟩
  have hE := Lib.hid (show accG (parts a m) (parts sp0 k) (3 ^ m) = clsL a n by rw [accG_end a ha.2.2.2.2.1 ha.2.2.2.2.2, show m + k = n by omega])
  have hq : (n : Int).tdiv 2 = (m : Int) := by rw [Int.tdiv_eq_ediv_of_nonneg (by omega)]; omega
  have hs : (n : Int) - (m : Int) = (k : Int) := by omega
  have P1 := Lib.hid (fun w => partsFrom_any sp0 (sp0_ok.mono (by decide)) k (by omega) w)
  have P2 := Lib.hid (fun w => partsFrom_any a ha m (by omega) w)
  have hmm := @run_makeMap Tryd.prog
  have K7 : 3 ^ k ≤ 2187 := Nat.pow_le_pow_right (by decide) (show k ≤ 7 by omega)
  have M7 : 3 ^ m ≤ 2187 := Nat.pow_le_pow_right (by decide) (show m ≤ 7 by omega)
  go_enter Tryd.func66, Tryd.ntmps66
  go_wp2_with fail
  refine (P1.out _).mono ?_
  rintro e w1 ⟨g, cap, rfl, hO, hb1⟩
  have hM0 := (World.ownsMap_made (H := Unit) (w.alloc (.cells #[.int .i64 a.x0, .int .i64 a.x1, .int .i64 a.x2, .int .i64 a.x3, .int .i64 a.h] 69)) Tryd.prog 69 hdrR).kept (below_grown hb1) (by simp)
  rw [show (w.alloc (.cells #[.int .i64 a.x0, .int .i64 a.x1, .int .i64 a.x2, .int .i64 a.x3, .int .i64 a.h] 69)).heap.size = w.heap.size + 1 by simp] at hM0
  have hG0 := Lib.hid (GrpAt_begin hM0)
  have hbx : w1.heap[w.heap.size]? = some (.cells #[.int .i64 a.x0, .int .i64 a.x1, .int .i64 a.x2, .int .i64 a.x3, .int .i64 a.h] 69 (0, 0)) := by
    rw [hb1.block w.heap.size (by simp; omega)]
    exact (Below.heap_alloc _ _ _ (by simp)).trans (heap_alloc_new _ _)
  have hl := parts_len sp0 k
  obtain ⟨K, hK⟩ : ∃ K, 3 ^ k = K := ⟨_, rfl⟩
  rw [hK] at hO hl K7 ⊢
  have hok : ∀ p ∈ parts sp0 k, p.1.okB 1000 ∧ p.2.length ≤ 10 := fun p hp => ⟨(parts_ok sp0_ok hp).1.mono (by omega), by rw [(parts_ok sp0_ok hp).2]; omega⟩
  generalize parts sp0 k = l1 at hE hO hl hok
  have hgl := (hO.lt g rfl).1
  simp at hgl
  have hgb : g ≠ w.heap.size + 1 := by omega
  have HP := Lib.hid (prt_of hO hl)
  have HL := Lib.hid hl
  have HOK := Lib.hid hok
  have hsz1 := hb1.size
  simp at hsz1
  have HB1 := Lib.hid (((Below.refl w.heap.size w).alloc (Nat.le_refl _) (.cells #[.int .i64 a.x0, .int .i64 a.x1, .int .i64 a.x2, .int .i64 a.x3, .int .i64 a.h] 69)).alloc (by simp) (.map #[] 0) |>.trans (hb1.mono (by simp; omega)))
  clear hM0 hO hl hok hb1 hK hgl
  go_wp2_with fail
  go_loopw [21] (fun i wr => ∃ j : Nat, j ≤ K ∧ i = .int .i64 j ∧ GrpAt wr (w.heap.size + 1) w1.heap.size j (l1.take j) ∧ w1.grownBy wr (some (w.heap.size + 1))) (fun i _ => K - (intOf i).toNat)
  case atStart => exact ⟨0, Nat.zero_le _, rfl, hG0.out, World.grownBy.refl _ _⟩
  case round =>
    obtain ⟨j, hj, rfl, hG, hgr⟩ := hrel
    by_cases hlt : j < K
    · obtain ⟨p, hp⟩ : ∃ p, l1[j]? = some p := ⟨_, List.getElem?_eq_getElem (by rw [HL.out]; exact hlt)⟩
      obtain ⟨c0, c1, c2, c3, c4, c5⟩ := (HP.out.grown hgr (by simp; omega)) j p hp
      obtain ⟨hpo, hpl⟩ := HOK.out p (List.mem_of_getElem? hp)
      have HTK := Lib.hid (show l1.take (j + 1) = l1.take j ++ [p] by rw [List.take_add_one, hp]; rfl)
      obtain ⟨s, u⟩ := p
      simp only at c0 c1 c2 c3 c4 c5 hpo hpl
      have hwf := wf_of hpo (by decide)
      have hGW := (hG.kept (World.grownBy_alloc wr (.cells #[.int .i64 s.x0, .int .i64 s.x1, .int .i64 s.x2, .int .i64 s.x3, .int .i64 s.h, .string (ofL u)] 90) none) (by simp) (by simp)).kept (World.grownBy_alloc _ (.cells #[.string (ofL u)] 9) none) (by simp) (by simp)
      have hgl := grp_le s (l1.take j)
      rw [List.length_take] at hgl
      obtain ⟨v, st, W1, rE, gE, oE, hE1⟩ := hGW.entry hwf (by unfold maxLen; omega)
      simp only [spV] at rE
      have hnews := news_one (n := wr.heap.size + 1) (by simp) (.string (ofL u)) 9 gE (by simp; have := hgr.size; omega)
      have h2 := grown_row hgr (World.grownBy_alloc wr (.cells #[.int .i64 s.x0, .int .i64 s.x1, .int .i64 s.x2, .int .i64 s.x3, .int .i64 s.h, .string (ofL u)] 90) none) (by simp)
      have h3 := grown_row h2 (World.grownBy_alloc _ (.cells #[.string (ofL u)] 9) none) (by simp)
      have H4 := Lib.hid (grown_row h3 gE (fun k hk => .inr hk))
      have HE1 := Lib.hid hE1
      have HOE := Lib.hid oE
      have hsW : w1.heap.size ≤ W1.heap.size := H4.out.size
      have HLT := Lib.hid (fun k hk => (oE.lt k hk).1)
      clear hp hpo hG hgr hGW hE1 oE gE h2 h3 hwf
      go_wp2_with (first | ((with_reducible refine wpList_mapEntry W1 (.tuple #[v, goInt st]) _ ?_ _ _ ?_ ?_ ?_ rE ?_); rfl; rfl; rfl; rfl) | (at_builtin; refine wpList_append_own_at _ rfl _ _ 31 rfl w1.heap.size 9 i0 (.string ByteArray.empty) 1 16 Tryd.underlying31 hi iz0 iz1 iz2 rfl (by decide) v _ _ rfl HOE.out ⟨wr.heap.size + 1, 0, none⟩ 1 1 [.string (ofL u)] rfl rfl hnews (by intro u hu; simp at hu; subst hu; rfl) (by unfold maxLen; omega) (by omega) hsW ?_; intro v' w2 hown' hgrow hnil hloc; obtain ⟨w3, r3, hG3, g3⟩ := HE1.out w2 v' u hgrow hown' (hloc.imp Eq.symm id); simp only [goInt] at r3))
      have h5 := grown_row H4.out hgrow (fun k hk => .inl (HLT.out k hk))
      have H6 := Lib.hid (grown_row h5 g3 (fun k hk => .inr hk))
      have HG3 := Lib.hid hG3
      clear h5 hgrow g3 hG3 hown' rE r3 hnews hnil hloc c0 c1 c2 c3 c4 c5
      go_roundw
      case rel => exact ⟨j + 1, by omega, by go_num, by rw [HTK.out]; exact HG3.out, H6.out⟩
      case measure => simp [intOf]; omega
    · obtain rfl : j = K := by omega
      have hta : l1.take j = l1 := List.take_of_length_le (by rw [HL.out]; exact Nat.le_refl _)
      rw [hta] at hG
      have hzw : w.heap.size < w1.heap.size := (Array.getElem?_eq_some_iff.1 hbx).1
      obtain ⟨q0, q1, q2, q3, q4⟩ := blk5 ((hgr.block w.heap.size hzw (by simp)).trans hbx)
      have HBW := Lib.hid (show Below w.heap.size w wr from HB1.out.grown hgr (by omega) (fun k hk => by injection hk with hk; omega))
      have HG := Lib.hid hG
      clear hG hta hgr
      go_wp2_with fail
      refine (P2.out _).mono ?_
      rintro e w5 ⟨g2, cap2, rfl, hO2, hb5⟩
      have hG5 := HG.out.below hb5
      have HB5 := Lib.hid (HBW.out.trans (hb5.mono HBW.out.size))
      have hl2 := parts_len a m
      obtain ⟨M, hM⟩ : ∃ M, 3 ^ m = M := ⟨_, rfl⟩
      rw [hM] at hO2 hl2 M7 hE ⊢
      have hok2 : ∀ p ∈ parts a m, p.1.okB 950000 ∧ p.2.length ≤ 10 := fun p hp => ⟨(parts_ok ha hp).1.mono (by omega), by rw [(parts_ok ha hp).2]; omega⟩
      generalize parts a m = l2 at hE hO2 hl2 hok2
      have hg2 := (hO2.lt g2 rfl).2
      have HP2 := Lib.hid (prt_of hO2 hl2)
      have HL2 := Lib.hid hl2
      have HOK2 := Lib.hid hok2
      have HG5 := Lib.hid hG5
      have hz5 := hb5.size
      clear hO2 hl2 hok2 hG5 hb5 hM q0 q1 q2 q3 q4
      go_wp2_with fail
      go_loopw [8, 41] (fun t i wr => ∃ (j2 : Nat) (v : Value), j2 ≤ M ∧ i = .int .i64 j2 ∧ v = t ∧ wr.ownsRow w5.heap.size 9 1 v (accG l2 l1 j2).length (strV (accG l2 l1 j2)) ∧ Below w5.heap.size w5 wr) (fun _ i _ => M - (intOf i).toNat)
      case atStart => exact ⟨0, _, Nat.zero_le _, rfl, rfl, by simpa [accG, strV] using World.ownsRow_nil _ _ _ _, Below.refl _ _⟩
      case round =>
        obtain ⟨j2, v, hj2, rfl, rfl, hT, hb⟩ := hrel
        have hz6 := hb.size
        have hle := accG_le l2 l1 j2
        rw [HL.out] at hle
        by_cases hlt2 : j2 < M
        · obtain ⟨p, hp⟩ : ∃ p, l2[j2]? = some p := ⟨_, List.getElem?_eq_getElem (by rw [HL2.out]; exact hlt2)⟩
          obtain ⟨c0, c1, c2, c3, c4, c5⟩ := (HP2.out.below hg2 hb) j2 p hp
          obtain ⟨hpo, hpl⟩ := HOK2.out p (List.mem_of_getElem? hp)
          have HNX := Lib.hid (accG_next (l1 := l1) hp)
          obtain ⟨s, u⟩ := p
          simp only at c0 c1 c2 c3 c4 c5 hpo hpl HNX
          obtain ⟨vL, oL, rL⟩ := HG5.out.look (wf_of (wayB_ok hpo) (by decide))
          have hgl := grp_le (wayB s) l1
          rw [HL.out] at hgl
          have hxl : ∀ x ∈ grp (wayB s) l1, x.length ≤ 10 := fun x hx => by
            obtain ⟨p, hp, rfl⟩ := grp_mem hx
            exact (HOK.out p hp).2
          have WB := Lib.hid (wayBack_any s (hpo.mono (by decide)))
          obtain ⟨R, hR⟩ : ∃ R, grp (wayB s) l1 = R := ⟨_, rfl⟩
          rw [hR] at oL hgl hxl HNX
          obtain ⟨Lc, hLc⟩ : ∃ Lc, R.length = Lc := ⟨_, rfl⟩
          rw [hLc] at oL hgl
          obtain ⟨av, cv, rfl⟩ := own_formC oL
          simp only [spV] at rL
          generalize wayB s = q at rL WB
          have HXL := Lib.hid hxl
          have HLC := Lib.hid hLc
          have HRL := Lib.hid rL
          have HT := Lib.hid hT
          have HB := Lib.hid hb
          obtain ⟨wi, rfl⟩ : ∃ wi : World, wi = wr := ⟨_, rfl⟩
          clear hp hpo hR hLc hxl rL hT hb
          go_wp2_with fail
          refine (WB.out _).mono ?_
          rintro e wA ⟨rfl, hA⟩
          have hbk := (hA.block wi.heap.size (by simp)).trans (heap_alloc_new _ _)
          have hA2 := (HB.out.alloc hz6 (.cells #[.int .i64 s.x0, .int .i64 s.x1, .int .i64 s.x2, .int .i64 s.x3, .int .i64 s.h, .string (ofL u)] 90)).trans (hA.mono (by simp; omega))
          have rL := HRL.out wA none (below_grown hA2) (by simp)
          have HT2 := Lib.hid ((HT.out.alloc (.cells #[.int .i64 s.x0, .int .i64 s.x1, .int .i64 s.x2, .int .i64 s.x3, .int .i64 s.h, .string (ofL u)] 90)).kept (below_grown hA) (by cases v.ownBlock <;> simp))
          have HA2 := Lib.hid hA2
          have HBK := Lib.hid hbk
          clear hA hA2 hbk c0 c1 c2 c3 c4 c5
          go_wp2_with fail
          go_loopw [8, 51] (fun t i wr => ∃ (c : Nat) (v : Value), c ≤ Lc ∧ i = .int .i64 c ∧ v = t ∧ wr.ownsRow w5.heap.size 9 1 v (accG l2 l1 j2 ++ (R.take c).map fun x => u ++ x).length (strV (accG l2 l1 j2 ++ (R.take c).map fun x => u ++ x)) ∧ wr.heap[wi.heap.size]? = some (.cells #[.int .i64 s.x0, .int .i64 s.x1, .int .i64 s.x2, .int .i64 s.x3, .int .i64 s.h, .string (ofL u)] 90 (0, 0)) ∧ Below w5.heap.size w5 wr) (fun _ i _ => Lc - (intOf i).toNat)
          case atStart => exact ⟨0, v, Nat.zero_le _, rfl, rfl, by simpa using HT2.out, HBK.out, HA2.out⟩
          case round =>
            obtain ⟨c, v, hc, rfl, rfl, hT, hblk, hb⟩ := hrel
            have hz7 := hb.size
            have hzl := blkLt hblk
            by_cases hlc : c < Lc
            · obtain ⟨x, hx⟩ : ∃ x, R[c]? = some x := ⟨_, List.getElem?_eq_getElem (by rw [HLC.out]; exact hlc)⟩
              have hx10 := HXL.out x (List.mem_of_getElem? hx)
              obtain ⟨gL, rfl⟩ : ∃ gL, av = some ⟨gL, 0, none⟩ := by
                rcases oL.2 with ⟨h, h0⟩ | ⟨gL, capL, _, h, _⟩
                · omega
                · injection h with h; exact ⟨gL, h⟩
              have d0 := (str_of oL HLC.out).below (oL.lt gL rfl).2 hb c x hx
              obtain ⟨e0, e1, e2, e3, e4, e5⟩ := blk6 hblk
              have htk : R.take (c + 1) = R.take c ++ [x] := by rw [List.take_add_one, hx]; rfl
              obtain ⟨T, hT0⟩ : ∃ T, ofL (u ++ x) = T := ⟨_, rfl⟩
              have k1 : ∀ w : World, (Op.stringOp .add (ofL u) (ofL x)).run Tryd.prog w = .ok (.string T) w := fun w => concat_run (by rw [ofL_append, hT0]) (by rw [ofL_size, ofL_size]; omega) w
              have hlen : (accG l2 l1 j2 ++ (R.take c).map fun x => u ++ x).length ≤ 6000000 := by
                rw [List.length_append, List.length_map, List.length_take]
                have := Nat.mul_le_mul (show j2 ≤ 2187 by omega) (show j ≤ 2187 by omega)
                omega
              have HV := Lib.hid (show (accG l2 l1 j2 ++ (R.take (c + 1)).map fun x => u ++ x) = (accG l2 l1 j2 ++ (R.take c).map fun x => u ++ x) ++ [u ++ x] by rw [htk, List.map_append, ← List.append_assoc]; rfl)
              generalize hA : (accG l2 l1 j2 ++ (R.take c).map fun x => u ++ x) = A at *
              have HT0 := Lib.hid hT0
              have HT := Lib.hid hT
              have HB7 := Lib.hid hb
              have HK := Lib.hid hblk
              have hnb := own_blkC (hT.alloc (.cells #[.string T] 9)) ((Below.heap_alloc wr (.cells #[.string T] 9) _ hzl).trans hblk) (by decide)
              clear hx hT hblk hb htk hT0 hA
              go_wp2_with (at_builtin; refine wpList_append_own_at _ rfl _ _ 31 rfl w5.heap.size 9 i0 (.string ByteArray.empty) 1 16 Tryd.underlying31 hi iz0 iz1 iz2 rfl (by decide) v _ _ rfl (HT.out.alloc _) ⟨wr.heap.size, 0, none⟩ 1 1 [.string T] rfl rfl (cell_one_new _ _ _) (by intro u hu; simp at hu; subst hu; rfl) (by unfold maxLen; omega) (by omega) (by simp; omega) ?_; intro v' w2 hown' hgrow hnil hloc)
              have hlt' := (HT.out.alloc (.cells #[.string T] 9)).lt
              have HB8 := Lib.hid ((HB7.out.alloc hz7 (.cells #[.string T] 9)).grown hgrow (by simp; omega) (fun k hk => (hlt' k hk).1))
              have HK8 := Lib.hid ((hgrow.block wi.heap.size (by simp; omega) hnb).trans ((Below.heap_alloc wr (.cells #[.string T] 9) _ hzl).trans HK.out))
              have HO8 := Lib.hid hown'
              clear hlt' hgrow hown' hnil hloc hnb
              go_roundw
              case rel => exact ⟨c + 1, v', by omega, by go_num, rfl, by rw [HV.out, strV_append, List.length_append]; simp only [strV, List.map_cons, List.map_nil, HT0.out]; exact HO8.out, HK8.out, HB8.out⟩
              case measure => simp [intOf]; omega
            · obtain rfl : c = Lc := by omega
              have hta : R.take c = R := List.take_of_length_le (by rw [HLC.out]; exact Nat.le_refl _)
              rw [hta] at hT
              have HT := Lib.hid hT
              have HB7 := Lib.hid hb
              clear hT hb hblk hta
              go_wp2_with fail
              go_roundw
              case rel => exact ⟨j2 + 1, v, by omega, by go_num, rfl, by rw [HNX.out]; exact HT.out, HB7.out⟩
              case measure => simp [intOf]; omega
        · obtain rfl : j2 = M := by omega
          have hT2 := own_lessP hT HB5.out.size
          rw [hE.out] at hT2
          have HT2 := Lib.hid hT2
          have HB6 := Lib.hid (HB5.out.trans (hb.mono HB5.out.size))
          clear hT hb hT2
          go_wp2_with fail
          go_ret
          exact ⟨_, rfl, HT2.out, HB6.out⟩

end Go.Proofs.YtoenkgenoloihaaDoor

/- A map of told arrays: what it holds. -/
namespace Go.Proofs.YtoenkgenoloihaaDoor
open Go Go.ChangeMaps Go.MapKept Go.ChangeShapes Go.WideShapes Go.RowKit
open Go.WideMaps (KeyLaw)
open Go.Maps (Keyed)

theorem lpArr : Go.WideMaps.ArrKey Tryd.prog 45 5 40 where
  hu := Tryd.underlying45
  plain := by kernel_rfl
  one := by kernel_rfl
  size := by kernel_rfl

theorem lpLaw : KeyLaw Tryd.prog 45 := lpArr.law

theorem mapM_all {α β : Type} (f : α → Option β) : ∀ l : List α, (∀ a ∈ l, ∃ b, f a = some b) → ∃ bs, l.mapM f = some bs
  | [], _ => ⟨[], by simp⟩
  | a :: l, h => by
    obtain ⟨b, hb⟩ := h a (by simp)
    obtain ⟨bs, hbs⟩ := mapM_all f l (fun x hx => h x (by simp [hx]))
    exact ⟨b :: bs, by simp [hb, hbs]⟩

theorem byV_wf (c : UInt8) : (Lit.int .u8 (c.toNat : Int)).wf = true := by
  have := c.toNat_lt
  have h1 : IntKind.u8.min = 0 := by decide
  have h2 : IntKind.u8.max = 255 := by decide
  simp only [Lit.wf, h1, h2, Bool.and_eq_true, decide_eq_true_eq]
  omega

set_option maxRecDepth 100000 in
theorem lpKey (x : Lp) : ∃ l, keyOf Tryd.prog 45 (.agg (arr x)) = some l := by
  have hkt : Tryd.prog.keyType 45 = true := by kernel_rfl
  have hc : Tryd.prog.cellsOf 45 = 40 := by kernel_rfl
  have hc1 : Tryd.prog.cellsOf 5 = 1 := by kernel_rfl
  obtain ⟨m, hm⟩ : ∃ m, Tryd.prog.types.size = m + 1 := ⟨Tryd.prog.types.size - 1, (Nat.sub_add_cancel (of_decide_eq_true (by kernel_rfl))).symm⟩
  have hfm : (Value.agg (arr x)).formed Tryd.prog 45 = true := by simp [Value.formed, Tryd.underlying45, hc, arr_size]
  have hL : ∃ ls, Tryd.prog.keyLits (m + 2) 45 (encLp x) = some ls := by
    have hall : ∃ bs, (List.range 40).mapM (fun i => Tryd.prog.keyLits (m + 1) 5 (((encLp x).drop (i * 1)).take 1)) = some bs := by
      refine mapM_all _ _ fun i hi => ?_
      have hi : i < 40 := List.mem_range.1 hi
      have hlen := encLp_len x
      have e : ((encLp x).drop (i * 1)).take 1 = [byV (x.1[i]'(by rw [x.2]; exact hi))] := by
        rw [Nat.mul_one, List.drop_eq_getElem_cons (by omega), List.take_succ_cons, List.take_zero]
        simp [encLp]
      rw [e]
      exact ⟨_, by simp [Program.keyLits, Tryd.underlying5, byV, byV_wf]; rfl⟩
    obtain ⟨bs, hbs⟩ := hall
    refine ⟨bs.flatten, ?_⟩
    unfold Program.keyLits
    rw [Tryd.underlying45]
    simp only [hc, hc1, encLp_len, if_true, hbs, Option.map_some]
  obtain ⟨ls, hls⟩ := hL
  unfold keyOf
  rw [Tryd.underlying45]
  simp only [hkt, hfm, Bool.and_self, if_true]
  rw [hm, show (Value.agg (arr x)).cells.toList = encLp x by simp [Value.cells, arr], hls]
  exact ⟨_, rfl⟩

/-- The key that an array is. -/
noncomputable def klL (x : Lp) : Lit := (keyOf Tryd.prog 45 (.agg (arr x))).getD (.string [])
theorem klL_key (x : Lp) : keyOf Tryd.prog 45 (.agg (arr x)) = some (klL x) := by
  obtain ⟨l, hl⟩ := lpKey x
  simp [klL, hl]

theorem arr_inj {x y : Lp} (h : arr x = arr y) : x = y := by
  have h1 := congrArg Array.toList h
  simp only [arr] at h1
  refine Subtype.ext (List.ext_getElem (by rw [x.2, y.2]) fun i hi hj => ?_)
  have h2 := congrArg (fun l : List Value => l[i]?) h1
  simp [encLp, byV, hi, hj] at h2
  exact UInt8.toNat_inj.1 (by omega)

set_option maxRecDepth 100000 in
theorem klL_inj {x y : Lp} (e : klL x = klL y) : x = y := by
  have a := klL_key x
  have b := klL_key y
  rw [e] at a
  have := lpLaw.inj a b
  injection this with h
  exact arr_inj h

set_option maxRecDepth 100000 in
theorem klL_lit (x : Lp) : WideAt.IsKeyLit (klL x) := (Keyed.of_law lpLaw).key (klL_key x)

theorem plainElem_bool_inv {e : TypeId} (he : Tryd.prog.underlying e = some .bool) {v : Value} {z : DataW Unit × List MemPlace} (h : plainElem Tryd.prog e v = some z) : ∃ b, v = .bool b ∧ z = (.lit (.bool b), []) := by
  unfold plainElem at h
  rw [he] at h
  cases v <;> simp at h
  subst h
  exact ⟨_, rfl, rfl⟩

/-- Block b is a map that holds true at the arrays T, and nothing else. -/
def ToldAt (w : World) (b m : Nat) (T : List Lp) : Prop :=
  ∃ D : DataW Unit, w.ownsMap Tryd.prog 45 (plainElem Tryd.prog 4) b m D ∧ ∀ x, D.atKey (klL x) (.lit (.bool false)) = .lit (.bool (decide (x ∈ T)))

theorem ToldAt_start (w : World) : ToldAt (w.alloc (.map #[] 0)) w.heap.size 0 [] :=
  ⟨.map [], World.ownsMap_made _ _ _ _, fun x => by simp [DataW.atKey]⟩

theorem ToldAt.kept {w w' : World} {b m : Nat} {T : List Lp} {row : Option Nat} (h : ToldAt w b m T) (hg : w.grownBy w' row) (hb : some b ≠ row) : ToldAt w' b m T := by
  obtain ⟨D, hM, hD⟩ := h
  exact ⟨D, hM.kept hg hb, hD⟩

theorem ToldAt.lt {w : World} {b m : Nat} {T : List Lp} (h : ToldAt w b m T) : b < w.heap.size := by
  obtain ⟨D, hM, hD⟩ := h
  exact hM.lt

theorem ToldAt.below {w w' : World} {b m : Nat} {T : List Lp} (h : ToldAt w b m T) (hb : Below w.heap.size w w') : ToldAt w' b m T := by
  obtain ⟨D, hM, hD⟩ := h
  exact ⟨D, hM.kept (row := none) ⟨hb.os, hb.tape, hb.output, hb.size, fun k hk _ => hb.block k hk⟩ (by simp), hD⟩

set_option maxRecDepth 100000 in
theorem ToldAt.look {w : World} {b m : Nat} {T : List Lp} (h : ToldAt w b m T) (x : Lp) : (Instr.lookup 64 (.map (some b)) (.agg (arr x)) false).run Tryd.prog w = .ok (.bool (decide (x ∈ T))) w := by
  obtain ⟨D, hM, hD⟩ := h
  obtain ⟨v, ps, hrun, hv⟩ := hM.lookup (Keyed.of_law lpLaw) Tryd.underlying64 (z := .bool false) (by kernel_rfl) (plainElem_bool Tryd.underlying4 false) (klL_key x)
  obtain ⟨b', rfl, hz⟩ := plainElem_bool_inv Tryd.underlying4 hv
  rw [hD x] at hz
  injection hz with hz _
  injection hz with hz
  injection hz with hz
  rw [hz]
  exact hrun

set_option maxRecDepth 100000 in
theorem ToldAt.put {w : World} {b m : Nat} {T : List Lp} (h : ToldAt w b m T) (hm : m < maxLen) (x : Lp) :
    ∃ w', (Instr.mapUpdate 64 (.map (some b)) (.agg (arr x)) (.bool true)).run Tryd.prog w = .ok () w' ∧ ToldAt w' b (m + 1) (T ++ [x]) ∧ w.grownBy w' (some b) := by
  obtain ⟨D, hM, hD⟩ := h
  obtain ⟨w', hrun, h2, h3⟩ := hM.update (Keyed.of_law lpLaw) Tryd.underlying64 hm (klL_key x) (plainElem_bool Tryd.underlying4 true)
  refine ⟨w', hrun, ⟨D.put (klL x) (.lit (.bool true)), h2, fun y => ?_⟩, h3⟩
  by_cases e : x = y
  · subst e
    rw [Maps.atKey_put_same hM.isMap (klL_lit x)]
    simp
  · rw [Maps.atKey_put_other (fun h => e (klL_inj h.symm)), hD y]
    congr 2
    have : ¬ y = x := fun h => e h.symm
    simp [this]

end Go.Proofs.YtoenkgenoloihaaDoor

/- A row of arrays held: loads, stores, the sort's worlds. -/
namespace Go.Proofs.YtoenkgenoloihaaDoor
open Go.ChangeShapes Go.WideShapes Go.ChangeAt Go.RowKit Go.Lib

set_option linter.unusedVariables false

def HoldsLp (W : World) (g : Nat) (d : Array Lp) : Prop := Sort.HoldsK encLp 40 W g 0 d

theorem HoldsLp.load {W : World} {g i K : Nat} {d : Array Lp} (h : HoldsLp W g d) (hK : K = 40) (hi : i < d.size) : Sem.run Tryd.prog (loadCellsFrom ⟨g, i * K, none⟩ 0 K #[]) W = .ok (arr d[i]!) W := by
  subst hK
  have := run_loadCellsFrom_list Tryd.prog W ⟨g, 0 + i * 40, none⟩ (encLp d[i]!) 40 (encLp_len _) (HoldsK.cells h encLp_len hi)
  rwa [Nat.zero_add] at this

theorem lp_bnd {i n : Nat} (h : i < n) : i * 40 + 40 ≤ n * 40 := by
  have := Nat.mul_le_mul_right 40 (show i + 1 ≤ n from h); rwa [Nat.add_mul, Nat.one_mul] at this

theorem HoldsLp.store {W : World} {g i K : Nat} {d : Array Lp} (h : HoldsLp W g d) (hK : K = 40) (hi : i < d.size) (y : Lp) : Sem.run Tryd.prog (storeCells ⟨g, i * K, none⟩ (arr y).toList) W = .ok () (W.setCells g (i * K) (encLp y)) := by
  subst hK
  have := stores_of_holds Tryd.prog h (i * 40) (encLp y) (by rw [Sort.size_flatK, encLp_len]; exact lp_bnd hi) (enc_one y)
  rw [Nat.zero_add] at this
  simpa [arr] using this

theorem setMany_one (d : Array Lp) (i : Nat) (hi : i < d.size) (y : Lp) : Sort.setMany (Sort.flatK encLp 40 d) (i * 40) (encLp y) = Sort.flatK encLp 40 (d.setIfInBounds i y) := by
  refine Sort.ext_get! (by simp) fun t ht => ?_
  have ht' : t < d.size * 40 := by simpa using ht
  rw [Sort.get_setMany _ _ _ t (by simpa using ht'), Sort.get_flatK _ _ _ t ht', Sort.get_flatK _ _ _ t (by simpa using ht'), encLp_len]
  have m : ∀ q, t / 40 = q → t - q * 40 = t % 40 := fun q h => by subst h; rw [Nat.mod_eq_sub_div_mul]
  by_cases a : t / 40 = i
  · rw [if_pos ((Sort.blk_iff 40 i t (by decide)).2 a), m i a, a, Sort.getElem!_set_same d i y hi]
  · rw [if_neg (fun h => a ((Sort.blk_iff 40 i t (by decide)).1 h)), Sort.getElem!_set_other d i (t / 40) y a]

theorem HoldsLp.set {W : World} {g i K : Nat} {d : Array Lp} (h : HoldsLp W g d) (hK : K = 40) (hi : i < d.size) (y : Lp) : HoldsLp (W.setCells g (i * K) (encLp y)) g (d.setIfInBounds i y) := by
  subst hK
  have := holds_setCells_c h (i * 40) (encLp y) (by rw [Sort.size_flatK, encLp_len]; exact lp_bnd hi)
  rw [Nat.zero_add, setMany_one d i hi y] at this
  exact this

theorem HoldsLp.drewN {W : World} {g : Nat} {d : Array Lp} (h : HoldsLp W g d) (q : Nat) : HoldsLp (W.drewN q) g d := h

theorem below_setCells : ∀ (vs : List Value) (o : Nat) {m g : Nat} {a w : World}, Below m a w → m ≤ g → Below m a (w.setCells g o vs)
  | [], _, _, _, _, _, h, _ => h
  | v :: r, o, _, g, _, _, h, hg => below_setCells r (o + 1) (h.setCell (p := ⟨g, o, none⟩) hg v) hg

theorem below_sort {w : World} {m g n : Nat} {d : Array Lp} (os : Array Obj) (hg : m ≤ g) (hl : g < w.heap.size) : Below m w (sortWorldK encLp 40 w g 0 n d os) := by
  unfold sortWorldK
  refine ⟨rfl, rfl, rfl, ?_, fun k hk => ?_⟩
  · rw [Sort.size_grow, Sort.size_putRowK]; exact Nat.le_add_right _ _
  · rw [Sort.heap_grow_old _ os (by rw [Sort.size_putRowK]; show k < w.heap.size; omega)]
    show (w.heap.modify g _)[k]? = _
    rw [Array.getElem?_modify, if_neg (by omega)]

theorem HoldsLp.own {W : World} {B n g cap : Nat} {d : Array Lp} (h : W.ownsRow B 45 40 (.slice (some ⟨g, 0, none⟩) n cap) n (lpCells d.toList)) (hn : d.size = n) : HoldsLp W g d := fun j hj => by
  rw [Sort.size_flatK] at hj
  have hq : j / 40 < d.size := Nat.div_lt_of_lt_mul (by omega)
  have hr : j % 40 < 40 := Nat.mod_lt _ (by decide)
  refine ⟨?_, h.frozenAt _⟩
  rw [Nat.zero_add, h.cellAt j (by omega), Sort.get_flatK _ _ _ _ hj]
  have hx : d.toList[j / 40]? = some d[j / 40]! := by rw [getElem!_pos d _ hq, List.getElem?_eq_getElem (by simpa using hq)]; simp
  have hv : (encLp d[j / 40]!)[j % 40]? = some (encLp d[j / 40]!)[j % 40]! := by
    rw [getElem!_pos (encLp d[j / 40]!) _ (by rw [encLp_len]; exact hr), List.getElem?_eq_getElem]
  have := lpCells_at d.toList _ _ hx _ _ hv
  rw [show j / 40 * 40 + j % 40 = j by omega] at this
  exact this

theorem HoldsLp.row {W : World} {g : Nat} {d : Array Lp} (h : HoldsLp W g d) : RowLp W g d.toList := fun j x hx i v hv => by
  have hj : j < d.size := by have := (List.getElem?_eq_some_iff.1 hx).1; simpa using this
  have e : d[j]! = x := by
    rw [getElem!_pos d j hj]
    have := (List.getElem?_eq_some_iff.1 hx).2
    simpa using this
  have := HoldsK.cells h encLp_len hj i v (by rw [e]; exact hv)
  rw [Addr.add_lit, Nat.zero_add] at this
  exact this

/-- The program's order of arrays. -/
def cfL (x y : Lp) : Int := Lib.compareBytes x.1 y.1

theorem ltL (x y : Lp) : ltOf cfL x y = decide (x.1 < y.1) := cmp_neg x y

theorem swoL : Sort.SWO (ltOf cfL) where
  irrefl x := by rw [ltL]; exact decide_eq_false (lt_irr _)
  trans x y z h1 h2 := by
    rw [ltL] at h1 h2 ⊢
    exact decide_eq_true (lt_trn (of_decide_eq_true h1) (of_decide_eq_true h2))
  ntrans x y z h1 h2 := by
    rw [ltL] at h1 h2 ⊢
    have a := of_decide_eq_false h1
    have b := of_decide_eq_false h2
    refine decide_eq_false fun h => ?_
    rcases lt_tri x.1 y.1 with g | g | g
    · exact a g
    · rw [g] at h; exact b h
    · exact b (lt_trn g h)

theorem totL (x y : Lp) (h1 : ltOf cfL x y = false) (h2 : ltOf cfL y x = false) : x = y := by
  rw [ltL] at h1 h2
  rcases lt_tri x.1 y.1 with g | g | g
  · exact absurd g (of_decide_eq_false h1)
  · exact Subtype.ext g
  · exact absurd g (of_decide_eq_false h2)

def srtL (d : Array Lp) : Array Lp := (d.toList.mergeSort fun x y => !(ltOf cfL) y x).toArray

theorem srtL_size (d : Array Lp) : (srtL d).size = d.size := by simp [srtL, List.length_mergeSort]

theorem srtL_mem (d : Array Lp) (x : Lp) : (∃ j, j < d.size ∧ (srtL d)[j]! = x) ↔ x ∈ d.toList := by
  have h : ∀ x, x ∈ (srtL d).toList ↔ x ∈ d.toList := fun x => (List.mergeSort_perm _ _).mem_iff
  rw [← h x, List.mem_iff_getElem]
  constructor
  · rintro ⟨j, hj, rfl⟩
    rw [← srtL_size] at hj
    exact ⟨j, by simpa using hj, by rw [getElem!_pos _ j hj]; simp⟩
  · rintro ⟨j, hj, rfl⟩
    have hj' : j < (srtL d).size := by simpa using hj
    exact ⟨j, by rw [← srtL_size]; exact hj', by rw [getElem!_pos _ j hj']; simp⟩

theorem srtL_sorted (d : Array Lp) (i j : Nat) (hij : i < j) (hj : j < (srtL d).size) : ¬ (srtL d)[j]!.1 < (srtL d)[i]!.1 := by
  have hp : (srtL d).toList.Pairwise fun x y => (!(ltOf cfL) y x) = true := by
    have hS := swoL
    refine List.pairwise_mergeSort (fun a b c h1 h2 => ?_) (fun a b => ?_) _
    · simp only [Bool.not_eq_true'] at h1 h2 ⊢
      exact hS.ntrans _ _ _ h2 h1
    · cases h1 : ltOf cfL b a with
      | false => simp
      | true =>
        have : ltOf cfL a b = false := by
          cases h2 : ltOf cfL a b with
          | false => rfl
          | true => have := hS.trans _ _ _ h1 h2; rw [hS.irrefl] at this; cases this
        simp [this]
  have := List.pairwise_iff_getElem.1 hp i j (by simp; omega) (by simpa using hj) hij
  rw [getElem!_pos _ j hj, getElem!_pos _ i (by omega)]
  simp only [Bool.not_eq_true', ltL] at this
  simpa using of_decide_eq_false this

set_option maxRecDepth 100000 in
theorem sortFunc_any (d : Array Lp) (n : Nat) (hn : d.size = n) (hb5 : n ≤ 5000) (g cap : Nat) (w : World) (hH : HoldsLp w g d) (hg : g < w.heap.size) :
    Calls Tryd.prog 79 #[.slice (some ⟨g, 0, none⟩) n cap, .func (.func 50) #[] #[]] w fun e w' => e = .returned (.tuple #[]) ∧ HoldsLp w' g (srtL d) ∧ Below g w w' := by
  subst hn
  have h := AnyQ.slices_SortFunc_total Tryd.sortLoop 40 Tryd.isAgg45 Tryd.sizeOf45 encLp encLp_len enc_one cfL swoL 50 #[] g 0 cap d w
    (enters_of Tryd.func50 (by kernel_rfl) rfl) (fun m os dk _ x y => compare_gr x y _) hH hg (by omega) totL
  refine h.mono fun e w' ⟨h1, q, os, h2⟩ => ⟨h1, ?_, ?_⟩
  · rw [h2]
    exact holdsK_sortWorldK encLp 40 w g 0 q d (srtL d) os hg hH (srtL_size d)
  · rw [h2]
    exact below_sort os (Nat.le_refl _) hg

end Go.Proofs.YtoenkgenoloihaaDoor

/- Contract: the library's slices.Compact at arrays of forty bytes. -/
namespace Go.Proofs.YtoenkgenoloihaaDoor
open Go.ChangeShapes Go.WideShapes Go.ChangeAt Go.RowKit Go.Lib

set_option linter.unusedVariables false

theorem zero_one : ∀ v ∈ (Builtin.zeroCells (arr zLp) 0).toList, v.oneCell' = true := by simp [Builtin.zeroCells]

theorem zeroCells_size (m : Nat) : (Builtin.zeroCells (arr zLp) m).toList.length = m * 40 := by simp [Builtin.zeroCells, arr_size]

theorem zeroCells_one (m : Nat) : ∀ v ∈ (Builtin.zeroCells (arr zLp) m).toList, v.oneCell' = true := by
  intro v hv
  simp only [Builtin.zeroCells, Array.toList_map, List.mem_map, arr_size] at hv
  obtain ⟨t, _, rfl⟩ := hv
  have hr : t % 40 < 40 := Nat.mod_lt _ (by decide)
  have h := arr_at zLp (t % 40) hr
  rw [getElem!_pos (arr zLp) (t % 40) (by rw [arr_size]; exact hr)]
  obtain ⟨_, h2⟩ := Array.getElem?_eq_some_iff.1 h
  rw [h2]
  rfl

theorem clear_run {W : World} {g i n K : Nat} {d : Array Lp} (h : HoldsLp W g d) (hK : K = 40) (hi : i < n) (hn : d.size = n) (ty : TypeId) (c : Nat) :
    (Builtin.clear_ #[49] ty #[.slice (some ⟨g, i * K, none⟩) (n - i) c]).run Tryd.prog W = .ok (.tuple #[]) (W.setCells g (i * K) (Builtin.zeroCells (arr zLp) (n - i)).toList) := by
  subst hK
  have hz := (zero_of_info (P := Tryd.prog) lpInfo).1
  have hc : ∀ j, j < (n - i) * 40 → W.cell? ⟨g, i * 40 + j, none⟩ = some (Sort.flatK encLp 40 d)[i * 40 + j]! ∧ W.frozen? ⟨g, i * 40 + j, none⟩ = false := fun j hj => by
    have := h (i * 40 + j) (by rw [Sort.size_flatK, hn]; have := Nat.sub_mul n i 40; omega)
    rw [Nat.zero_add] at this
    exact this
  have hst := run_storeCells_cells (P := Tryd.prog) g (i * 40) (Builtin.zeroCells (arr zLp) (n - i)).toList 0 W
    (fun j hj => by rw [zeroCells_size] at hj; rw [Nat.add_zero, (hc j hj).1]; rfl) (fun j hj => by rw [zeroCells_size] at hj; rw [Nat.add_zero]; exact (hc j hj).2) (zeroCells_one _)
  rw [Nat.add_zero] at hst
  obtain ⟨m, hm⟩ : ∃ m, n - i = m + 1 := ⟨n - i - 1, by omega⟩
  rw [hm] at hst ⊢
  simp [Builtin.clear_, run_underlying Tryd.underlying49, hz, Value.cells, hst]

theorem row_cut {W : World} {g n k : Nat} {d dk : Array Lp} (h : HoldsLp W g dk) (hI : CompInv d n k dk) (hk : k ≤ dk.size) (vs : List Value) {K : Nat} (hK : K = 40) : RowLp (W.setCells g (k * K) vs) g (compactUpTo d n) := fun j x hx i v hv => by
  subst hK
  have hj : j < k := by have := (List.getElem?_eq_some_iff.1 hx).1; rw [hI.len] at this; exact this
  rw [hI.low j hj] at hx
  simp only [Option.some.injEq] at hx
  have hi : i < 40 := by have := (List.getElem?_eq_some_iff.1 hv).1; rwa [encLp_len] at this
  have hjk := lp_bnd hj
  rw [World.cell?_setCells_out g vs (k * 40) W ⟨g, j * 40 + i, none⟩ (fun _ _ => .inl (show j * 40 + i < k * 40 by omega))]
  have := HoldsK.cells h encLp_len (i := j) (by omega) i v (by rw [hx]; exact hv)
  rw [Addr.add_lit, Nat.zero_add] at this
  exact this

theorem eqL_t {x y : Lp} (h : x = y) : eqL x y = true := (eqL_iff x y).2 h

theorem eqL_f {x y : Lp} (h : ¬ x = y) : eqL x y = false := by
  cases he : eqL x y with
  | false => rfl
  | true => exact absurd ((eqL_iff x y).1 he) h

theorem guardLp : ∀ (op : BinOp) (a b : Operand) (x y : Lp) (w : World), Sem.run Tryd.prog (eqGuard op 45 a b (.agg (arr x)) (.agg (arr y))) w = .ok () w := eqlLp.2

set_option maxRecDepth 100000 in
set_option maxHeartbeats 1600000 in
theorem compact_any (d : Array Lp) (n : Nat) (hn : d.size = n) (hb5 : n ≤ 5000) (g cap : Nat) (hcap : n ≤ cap) (w : World) (hH : HoldsLp w g d) (hg : g < w.heap.size) :
    Calls Tryd.prog 80 #[.slice (some ⟨g, 0, none⟩) n cap] w fun e w' => e = .returned (.slice (some ⟨g, 0, none⟩) (compactUpTo d n).length cap) ∧ RowLp w' g (compactUpTo d n) ∧ Below g w w' := by
  have all : ∀ W, HoldsLp W g d → (∀ j, j < n → keeps d j = true) → (compactUpTo d n).length = n ∧ RowLp W g (compactUpTo d n) := fun W hW h => by
    have e : compactUpTo d n = d.toList := by rw [← hn] at h ⊢; rw [compactUpTo_all d _ h, range_map_get]
    rw [e]
    exact ⟨by simpa using hn, hW.row⟩
  have ALL := Lib.hid all
  have HH := Lib.hid hH
  clear all hH
  by_cases h2 : n < 2
  · have h2i : (n : Int) < 2 := by omega
    have hA := Lib.hid (ALL.out w HH.out (fun j hj => keeps_lt_one d j (by omega)))
    go_enter Tryd.func80, Tryd.ntmps80
    go_wp2_with fail
    go_ret
    exact ⟨by rw [hA.out.1]; rfl, hA.out.2, Below.refl _ _⟩
  have mixed := Tryd.indexLoop.mixed
  obtain ⟨K, hK⟩ : ∃ K, K = 40 := ⟨_, rfl⟩
  have HK := Lib.hid hK
  have zE := zK hK
  have HN := Lib.hid hn
  have h2i : ¬ (n : Int) < 2 := by omega
  clear hK hn
  go_enter Tryd.func80, Tryd.ntmps80
  go_wp2_with fail
  go_loopw [3] (fun i wr => ∃ k q : Nat, k + 1 ≤ n ∧ i = .int .i64 ((k : Int) + 1) ∧ wr = w.drewN q ∧ ∀ j, j < k + 1 → keeps d j = true) (fun i _ => n - (intOf i).toNat)
  case atStart => exact ⟨0, 0, by omega, rfl, rfl, keeps_lt_one d⟩
  case round =>
    obtain ⟨k, q, hk, rfl, rfl, hall⟩ := hrel
    have A := Lib.hid hall
    clear hall
    have i0 : (0 : Int) ≤ (k : Int) := by omega
    have i1 : (0 : Int) ≤ (k : Int) + 1 := by omega
    have i9 : ((k : Int) + 1).toNat = k + 1 := by omega
    have i8 : IntKind.i64.wrap (k : Int) = (k : Int) := by rw [IntKind.wrap_i64]; omega
    by_cases hlt : k + 1 < n
    · have i2 : (k : Int) + 1 < (n : Int) := by omega
      have i3 : (k : Int) < (n : Int) := by omega
      have i5 : (k : Int) + 1 ≤ (n : Int) := by omega
      have i6 : (n : Int) ≤ (cap : Int) := by omega
      have HQ := Lib.hid (HH.out.drewN q)
      have l1 : ∀ m, Sem.run Tryd.prog (loadCellsFrom ⟨g, (k + 1) * K, none⟩ 0 K #[]) ((w.drewN q).drewN m) = .ok (arr d[k + 1]!) ((w.drewN q).drewN m) := fun m => (HQ.out.drewN m).load HK.out (by rw [HN.out]; exact hlt)
      have l2 : ∀ m, Sem.run Tryd.prog (loadCellsFrom ⟨g, k * K, none⟩ 0 K #[]) ((w.drewN q).drewN m) = .ok (arr d[k]!) ((w.drewN q).drewN m) := fun m => (HQ.out.drewN m).load HK.out (by rw [HN.out]; omega)
      have HB := Lib.hid ((show Below g w (w.drewN q) from below_drewC (Below.refl g w) q))
      by_cases hdup : d[k + 1]! = d[k]!
      · have he := fun w => eql_run d[k + 1]! d[k]! w
        rw [eqL_t hdup] at he
        have hgd := fun op a b w => guardLp op a b d[k + 1]! d[k]! w
        have D := Lib.hid (show d[k + 1]! = d[k + 1 - 1]! from hdup)
        clear hdup
        obtain ⟨x, hx⟩ : ∃ x, d[k + 1]! = x := ⟨_, rfl⟩
        obtain ⟨y, hy⟩ : ∃ y, d[k]! = y := ⟨_, rfl⟩
        rw [hx] at l1; rw [hy] at l2; rw [hx, hy] at he hgd
        clear hx hy
        generalize w.drewN q = w1 at *
        go_wp2_with fail
        go_quiet_o (fail)
        have H2 := Lib.hid (HQ.out.drewN nq)
        have B2 := Lib.hid (below_drewC HB.out nq)
        clear l1 l2 he hgd
        generalize w1.drewN nq = w2 at *
        go_wp2_with fail
        go_loopw [3, 5] (fun i j wr => ∃ (kk c : Nat) (dk : Array Lp), i = .int .i64 kk ∧ j = .int .i64 ((c : Int) + 1) ∧ (k + 1) + (c + 1) ≤ n ∧ HoldsLp wr g dk ∧ CompInv d ((k + 1) + (c + 1)) kk dk ∧ Below g w wr) (fun _ j _ => n - (intOf j).toNat)
        case atStart => exact ⟨k + 1, 0, d, by go_num, rfl, by omega, H2.out, CompInv.start A.out (keeps_neg (by omega) D.out), B2.out⟩
        case round =>
          obtain ⟨kk, c, dk, rfl, rfl, hle, hHk, hI, hb⟩ := hrel
          have hkk := hI.lt
          have hds := hI.size
          have HI := Lib.hid hI
          have HB3 := Lib.hid hb
          have HH3 := Lib.hid hHk
          have j1 : (0 : Int) ≤ (c : Int) := by omega
          have j2 : (0 : Int) ≤ (kk : Int) := by omega
          have j3 : (kk : Int) ≤ (n : Int) := by omega
          have j4 : (0 : Int) ≤ (c : Int) + 1 := by omega
          have j9 : ((c : Int) + 1).toNat = c + 1 := by omega
          have j8 : IntKind.i64.wrap (c : Int) = (c : Int) := by rw [IntKind.wrap_i64]; omega
          by_cases hlt2 : (k + 1) + (c + 1) < n
          · have m1 : (c : Int) + 1 < ((n - (k + 1) : Nat) : Int) := by omega
            have m2 : (c : Int) < ((n - (k + 1) : Nat) : Int) := by omega
            have m3 : (kk : Int) < (n : Int) := by omega
            have l3 : ∀ m, Sem.run Tryd.prog (loadCellsFrom ⟨g, (k + 1) * K + (c + 1) * K, none⟩ 0 K #[]) (wr.drewN m) = .ok (arr d[(k + 1) + (c + 1)]!) (wr.drewN m) := fun m => by
              have := (HH3.out.drewN m).load HK.out (i := (k + 1) + (c + 1)) (by rw [hds, HN.out]; exact hlt2)
              rw [HI.out.high ((k + 1) + (c + 1)) (by omega), Nat.add_mul (k + 1)] at this
              exact this
            have l4 : ∀ m, Sem.run Tryd.prog (loadCellsFrom ⟨g, (k + 1) * K + c * K, none⟩ 0 K #[]) (wr.drewN m) = .ok (arr d[(k + 1) + c]!) (wr.drewN m) := fun m => by
              have := (HH3.out.drewN m).load HK.out (i := (k + 1) + c) (by rw [hds, HN.out]; omega)
              rw [HI.out.high ((k + 1) + c) (by omega), Nat.add_mul (k + 1)] at this
              exact this
            have hds' : kk < dk.size := by rw [hds, HN.out]; omega
            by_cases huv : d[(k + 1) + (c + 1)]! = d[(k + 1) + c]!
            · have hne := fun w => neq_run d[(k + 1) + (c + 1)]! d[(k + 1) + c]! w
              rw [eqL_t huv] at hne
              have hgd := fun op a b w => guardLp op a b d[(k + 1) + (c + 1)]! d[(k + 1) + c]! w
              have D3 := Lib.hid (HI.out.skip (keeps_neg (by omega) (show d[(k + 1) + (c + 1)]! = d[(k + 1) + (c + 1) - 1]! from huv)))
              clear huv hI hHk hb
              generalize d[(k + 1) + (c + 1)]! = u at *
              generalize d[(k + 1) + c]! = v at *
              go_wp2_with fail
              go_quiet_o (fail)
              have H4 := Lib.hid (HH3.out.drewN nq)
              have B4 := Lib.hid (below_drewC HB3.out nq)
              clear l3 l4
              generalize wr.drewN nq = w3 at *
              go_wp2_with fail
              go_roundw
              case rel => exact ⟨kk, c + 1, dk, rfl, by go_num, by omega, H4.out, D3.out, B4.out⟩
              case measure => simp [intOf]; omega
            · have hne := fun w => neq_run d[(k + 1) + (c + 1)]! d[(k + 1) + c]! w
              rw [eqL_f huv] at hne
              have hgd := fun op a b w => guardLp op a b d[(k + 1) + (c + 1)]! d[(k + 1) + c]! w
              have D3 := Lib.hid (HI.out.keep (by rw [HN.out]; exact hlt2) (keeps_pos (show ¬ d[(k + 1) + (c + 1)]! = d[(k + 1) + (c + 1) - 1]! from huv)))
              clear huv hI hHk hb
              generalize d[(k + 1) + (c + 1)]! = u at *
              generalize d[(k + 1) + c]! = v at *
              have hAu := aK HK.out u
              go_wp2_with fail
              go_quiet_o (fail)
              have H4 := Lib.hid (HH3.out.drewN nq)
              have B4 := Lib.hid (below_drewC HB3.out nq)
              have l5 := l3 nq
              clear l3 l4 hne hgd
              generalize wr.drewN nq = w3 at *
              have st := H4.out.store HK.out hds' u
              have H5 := Lib.hid (H4.out.set HK.out hds' u)
              have B5 := Lib.hid (below_setCells (encLp u) (kk * K) B4.out (Nat.le_refl g))
              go_wp2_with fail
              go_roundw
              case rel => exact ⟨kk + 1, c + 1, dk.setIfInBounds kk u, by go_num, by go_num, by omega, H5.out, D3.out, B5.out⟩
              case measure => simp [intOf]; omega
          · have hend : (k + 1) + (c + 1) = n := by omega
            have m1 : ¬ (c : Int) + 1 < ((n - (k + 1) : Nat) : Int) := by omega
            have hkn : kk < n := by omega
            have hcl := fun ty c => clear_run HH3.out HK.out hkn (by rw [hds, HN.out]) ty c
            have HI2 := Lib.hid (show CompInv d n kk dk from hend ▸ HI.out)
            have HR := Lib.hid (row_cut HH3.out HI2.out (by rw [hds, HN.out]; omega) (Builtin.zeroCells (arr zLp) (n - kk)).toList HK.out)
            have B5 := Lib.hid (below_setCells (Builtin.zeroCells (arr zLp) (n - kk)).toList (kk * K) HB3.out (Nat.le_refl g))
            clear hI hHk hb
            generalize (Builtin.zeroCells (arr zLp) (n - kk)).toList = zs at *
            go_wp2_with fail
            go_ret
            exact ⟨by rw [HI2.out.len]; rfl, HR.out, B5.out⟩
      · have he := fun w => eql_run d[k + 1]! d[k]! w
        rw [eqL_f hdup] at he
        have hgd := fun op a b w => guardLp op a b d[k + 1]! d[k]! w
        have D := Lib.hid (show ¬ d[k + 1]! = d[k + 1 - 1]! from hdup)
        clear hdup
        obtain ⟨x, hx⟩ : ∃ x, d[k + 1]! = x := ⟨_, rfl⟩
        obtain ⟨y, hy⟩ : ∃ y, d[k]! = y := ⟨_, rfl⟩
        rw [hx] at l1; rw [hy] at l2; rw [hx, hy] at he hgd
        clear hx hy
        obtain ⟨w1, hw1⟩ : ∃ w1, w.drewN q = w1 := ⟨_, rfl⟩
        rw [hw1] at l1 l2 ⊢
        have HW := Lib.hid hw1
        clear hw1
        go_wp2_with fail
        go_quiet_o (fail)
        clear l1 l2 he hgd
        go_wp2_with fail
        go_roundw
        case rel => exact ⟨k + 1, q + nq, by omega, by go_num, by rw [← HW.out, World.drewN_drewN], fun j hj => by
          by_cases e : j = k + 1
          · subst e; exact keeps_pos D.out
          · exact A.out j (by omega)⟩
        case measure => simp [intOf]; omega
    · have hkn : k + 1 = n := by omega
      have i2 : ¬ (k : Int) + 1 < (n : Int) := by omega
      have hA := Lib.hid (ALL.out (w.drewN q) (HH.out.drewN q) (fun j hj => A.out j (by omega)))
      have HB := Lib.hid ((show Below g w (w.drewN q) from below_drewC (Below.refl g w) q))
      clear hkn
      go_wp2_with fail
      go_ret
      exact ⟨by rw [hA.out.1]; rfl, hA.out.2, HB.out⟩

end Go.Proofs.YtoenkgenoloihaaDoor

/- Contracts: the least one of the spun rings, and the period of a ring, in the program and in the model. -/
namespace Go.Proofs.YtoenkgenoloihaaDoor
open Go.ChangeShapes Go.WideShapes Go.ChangeAt Go.RowKit

set_option linter.unusedVariables false

theorem own_capR {W : World} {B n g cap size : Nat} {e : TypeId} {xs : List Value} (h : W.ownsRow B e size (.slice (some ⟨g, 0, none⟩) n cap) n xs) : n ≤ cap := by
  rcases h.2 with ⟨h, _⟩ | ⟨g', cap', cur, h, _, _, h1, h2, _⟩
  · cases h
  · injection h with _ _ h3
    subst h3
    exact h1

def lrS (s : ByteArray) : ByteArray := cond (clB s) (ofL (leastL s.data.toList)) ⟨#[]⟩

def prI (s : ByteArray) : Int := cond (clB s) (perN s.data.toList : Nat) 0

theorem lr_no {s : ByteArray} (h : clB s = false) : Ending.returned (.tuple #[.string ⟨#[]⟩, .bool false]) = Ending.returned (.tuple #[.string (lrS s), .bool false]) := by simp [lrS, h]

theorem lr_yes {s : ByteArray} (h : clB s = true) : Ending.returned (.tuple #[.string (ofL (leastL s.data.toList)), .bool true]) = Ending.returned (.tuple #[.string (lrS s), .bool true]) := by simp [lrS, h]

theorem pr_no {s : ByteArray} (h : clB s = false) : Ending.returned (.tuple #[.int .i64 0, .bool false]) = Ending.returned (.tuple #[.int .i64 (prI s), .bool false]) := by simp [prI, h]

theorem pr_yes {s : ByteArray} (h : clB s = true) : Ending.returned (.tuple #[.int .i64 (perN s.data.toList : Nat), .bool true]) = Ending.returned (.tuple #[.int .i64 (prI s), .bool true]) := by simp [prI, h]

theorem cl_data {s : ByteArray} (h : clB s = true) : tkB (ofL s.data.toList) = true ∧ 0 < s.data.toList.length := by
  have ht := clB_tk h
  rw [clB_yes ht] at h
  simp only [Bool.and_eq_true, decide_eq_true_eq] at h
  exact ⟨by rw [ofL_data]; exact ht, by rw [size_list]; exact h.1⟩

set_option maxRecDepth 100000 in
theorem spLeastRing (s : ByteArray) (hs : s.size ≤ 1048576) (w : World) :
    Calls Tryd.prog 15 #[.string s] w fun e w' => e = .returned (.tuple #[.string (lrS s), .bool (clB s)]) ∧ Below w.heap.size w w' := by
  have HC := Lib.hid (csRing_any s hs)
  cases tc : clB s
  · have G := Lib.hid tc
    rw [tc] at HC
    go_enter Tryd.func15, Tryd.ntmps15
    go_wp2_with (go_at_call 45; (with_reducible refine (HC.out _).mono ?_); rintro e wA ⟨rfl, h1⟩; (try with_reducible replace h1 := undrew h1); have hB : Below w.heap.size w wA := ba (by go_grown) h1; obtain ⟨hcwA, hfwA⟩ := bcell h1; have hqwA := h1.size; (try simp at hqwA); )
    go_ret2
    exact ⟨lr_no G.out, by go_grown⟩
  · have G := Lib.hid tc
    have hL := csLeast_any s.data.toList (cl_data tc).1
    rw [ofL_data] at hL
    have HL := Lib.hid hL
    rw [tc] at HC
    clear hL
    go_enter Tryd.func15, Tryd.ntmps15
    go_wp2_with (first | (go_at_call 45; (with_reducible refine (HC.out _).mono ?_); rintro e wA ⟨rfl, h1⟩; (try with_reducible replace h1 := undrew h1); have hB : Below w.heap.size w wA := ba (by go_grown) h1; obtain ⟨hcwA, hfwA⟩ := bcell h1; have hqwA := h1.size; (try simp at hqwA); ) | (go_at_call 46; (with_reducible refine (HL.out _).mono ?_); rintro e wB ⟨rfl, h1⟩; (try with_reducible replace h1 := undrew h1); have hB : Below w.heap.size w wB := ba (by go_grown) h1; obtain ⟨hcwB, hfwB⟩ := bcell h1; have hqwB := h1.size; (try simp at hqwB); (try have hz0wB : wA.heap.size < wB.heap.size := (by omega)); (try have he0wB : wA.heap.size ≤ wB.heap.size := (by omega))))
    go_ret2
    exact ⟨lr_yes G.out, by go_grown⟩

set_option maxRecDepth 100000 in
theorem spPeriodOfRing (s : ByteArray) (hs : s.size ≤ 1048576) (w : World) :
    Calls Tryd.prog 19 #[.string s] w fun e w' => e = .returned (.tuple #[.int .i64 (prI s), .bool (clB s)]) ∧ Below w.heap.size w w' := by
  have HC := Lib.hid (csRing_any s hs)
  cases tc : clB s
  · have G := Lib.hid tc
    rw [tc] at HC
    go_enter Tryd.func19, Tryd.ntmps19
    go_wp2_with (go_at_call 45; (with_reducible refine (HC.out _).mono ?_); rintro e wA ⟨rfl, h1⟩; (try with_reducible replace h1 := undrew h1); have hB : Below w.heap.size w wA := ba (by go_grown) h1; obtain ⟨hcwA, hfwA⟩ := bcell h1; have hqwA := h1.size; (try simp at hqwA); )
    go_ret2
    exact ⟨pr_no G.out, by go_grown⟩
  · have G := Lib.hid tc
    have hL := csPeriod_any s.data.toList (tk_le (cl_data tc).1) (cl_data tc).2
    rw [ofL_data] at hL
    have HL := Lib.hid hL
    rw [tc] at HC
    clear hL
    go_enter Tryd.func19, Tryd.ntmps19
    go_wp2_with (first | (go_at_call 45; (with_reducible refine (HC.out _).mono ?_); rintro e wA ⟨rfl, h1⟩; (try with_reducible replace h1 := undrew h1); have hB : Below w.heap.size w wA := ba (by go_grown) h1; obtain ⟨hcwA, hfwA⟩ := bcell h1; have hqwA := h1.size; (try simp at hqwA); ) | (go_at_call 54; (with_reducible refine (HL.out _).mono ?_); rintro e wB ⟨rfl, h1⟩; (try with_reducible replace h1 := undrew h1); have hB : Below w.heap.size w wB := ba (by go_grown) h1; obtain ⟨hcwB, hfwB⟩ := bcell h1; have hqwB := h1.size; (try simp at hqwB); (try have hz0wB : wA.heap.size < wB.heap.size := (by omega)); (try have he0wB : wA.heap.size ≤ wB.heap.size := (by omega))))
    go_ret2
    exact ⟨pr_yes G.out, by go_grown⟩

set_option maxRecDepth 100000 in
set_option maxHeartbeats 800000 in
theorem imLeastRing (s : ByteArray) (hs : s.size ≤ 1048576) (w : World) :
    Calls Tryd.prog 16 #[.string s] w fun e w' => e = .returned (.tuple #[.string (lrS s), .bool (clB s)]) ∧ Below w.heap.size w w' := by
  have HLO := Lib.hid (loopOf_any s hs)
  have hz := (zero_of_info (P := Tryd.prog) lpInfo).1
  obtain ⟨K, hK⟩ : ∃ K, K = 40 := ⟨_, rfl⟩
  have zE := zK hK
  have HK := Lib.hid hK
  have hAl := aK hK (loL s)
  cases tc : clB s
  · have G := Lib.hid tc
    rw [tc] at HLO
    clear hK
    go_enter Tryd.func16, Tryd.ntmps16
    go_wp2_with fail
    refine (HLO.out _).mono ?_
    rintro e w1 ⟨rfl, hb1⟩
    have a1 := LpAt.new w1 zLp
    have st := a1.store (loL s)
    have HB := Lib.hid (below_setRow ((ba (by go_grown) hb1 : Below w.heap.size w w1).alloc hb1.size (.cells (arr zLp) 45)) hb1.size (arr (loL s)))
    clear a1 hb1
    go_wp2_with fail
    go_ret2
    exact ⟨lr_no G.out, HB.out⟩
  · have G := Lib.hid tc
    obtain ⟨ht, h0⟩ := cl_data tc
    have hl40 := tk_le ht
    have hlo : loL s = mkLp s.data.toList := by simp [loL, tc]
    rw [tc, hlo] at HLO
    rw [hlo] at hAl
    have hSP := spins_any s.data.toList hl40 (tk_nz ht)
    obtain ⟨x, xs, hr, hm⟩ := least_rot1 h0
    have hrl := rot1_len s.data.toList
    have hml := leastL_len h0
    have hxm : x.length ≤ 40 ∧ ∀ y ∈ xs, y.length = x.length := by
      have hall : ∀ y ∈ rot1 s.data.toList, y.length = s.data.toList.length := fun y hy => orb_len ((rot1_mem h0).1 hy)
      rw [hr] at hall
      have hx := hall x (by simp)
      exact ⟨by omega, fun y hy => by rw [hall y (by simp [hy]), hx]⟩
    have hmn := mnL_mk x xs hxm.1 hxm.2
    rw [hm] at hmn
    have hT := text_any (mkLp (leastL s.data.toList))
    rw [txt_mk (by omega) (fun c hc => by
      obtain ⟨k, hk, e⟩ := leastL_orb h0
      rw [e] at hc
      refine tk_nz ht c ?_
      simp only [spn, List.mem_append] at hc
      rcases hc with h | h
      · exact List.mem_of_mem_drop h
      · exact List.mem_of_mem_take h)] at hT
    obtain ⟨n, hn⟩ : ∃ n, s.data.toList.length = n := ⟨_, rfl⟩
    rw [hn] at hSP hl40 hrl h0
    rw [hr, List.map_cons] at hSP
    have hln : (mkLp x :: xs.map mkLp).length = n := by rw [List.length_cons, List.length_map, ← hrl, hr, List.length_cons]
    have HSP := Lib.hid hSP
    have HLN := Lib.hid hln
    have HMN := Lib.hid hmn
    have HT := Lib.hid hT
    clear hSP hln hmn hT hr hm hrl hml hxm hn hlo hK
    go_enter Tryd.func16, Tryd.ntmps16
    go_wp2_with fail
    refine (HLO.out _).mono ?_
    rintro e w1 ⟨rfl, hb1⟩
    have a1 := LpAt.new w1 zLp
    have st := a1.store (mkLp s.data.toList)
    have l1 := (a1.set (mkLp s.data.toList)).loadK HK.out
    have HB := Lib.hid (below_setRow ((ba (by go_grown) hb1 : Below w.heap.size w w1).alloc hb1.size (.cells (arr zLp) 45)) hb1.size (arr (mkLp s.data.toList)))
    clear a1 hb1
    go_wp2_with fail
    generalize (w1.alloc (.cells (arr zLp) 45)).setRow w1.heap.size (arr (mkLp s.data.toList)) = W1 at *
    refine (HSP.out _).mono ?_
    rintro e w2 ⟨v, rfl, hO, hb2⟩
    obtain ⟨g, cap, rfl, hg0, hcp⟩ := hO.form h0
    have hg := (hO.lt g rfl).2
    have hcap := own_capR hO
    have R := Lib.hid (RowLp.of hO HLN.out)
    have HB2 := Lib.hid (HB.out.trans (hb2.mono HB.out.size))
    clear hO hb2 st l1
    go_wp2_with fail
    refine (minFunc_any (mkLp x) (xs.map mkLp) n HLN.out (by omega) g cap hcap _ R.out hg).mono ?_
    rintro e w3 ⟨rfl, hb3⟩
    have HB3 := Lib.hid (HB2.out.trans (hb3.mono HB2.out.size))
    clear hb3
    rw [HMN.out]
    go_wp2_with fail
    refine (HT.out _).mono ?_
    rintro e w4 ⟨rfl, hb4⟩
    have HB4 := Lib.hid (HB3.out.trans (hb4.mono HB3.out.size))
    clear hb4
    go_wp2_with fail
    go_ret2
    exact ⟨lr_yes G.out, HB4.out⟩

end Go.Proofs.YtoenkgenoloihaaDoor

/- Contracts of the program: the variants of a ring, and the first of them. -/
namespace Go.Proofs.YtoenkgenoloihaaDoor
open Go.ChangeShapes Go.WideShapes Go.ChangeAt Go.RowKit Go.Lib

set_option linter.unusedVariables false
set_option linter.unusedSimpArgs false

/-- The spun ones of the ring and of its first j changes. -/
def vsL (l : List UInt8) (j : Nat) : List (List UInt8) := ((four l).take (j + 1)).flatMap rot1

theorem vsL_zero (l : List UInt8) : vsL l 0 = rot1 l := by simp [vsL, four]

theorem vsL_next {l x : List UInt8} {j : Nat} (h : (four l)[j + 1]? = some x) : vsL l (j + 1) = vsL l j ++ rot1 x := by
  rw [vsL, List.take_add_one, h]
  simp [vsL, List.flatMap_append]

theorem vsL_len (l : List UInt8) : ∀ j, j ≤ 3 → (vsL l j).length = (j + 1) * l.length
  | 0, _ => by rw [vsL_zero, rot1_len]; omega
  | j + 1, h => by
    obtain ⟨x, hx⟩ : ∃ x, (four l)[j + 1]? = some x := ⟨_, List.getElem?_eq_getElem (by simp [four]; omega)⟩
    rw [vsL_next hx, List.length_append, rot1_len, vsL_len l j (by omega), four_len (List.mem_of_getElem? hx), Nat.succ_mul (j + 1)]

theorem vsL_mem {l a : List UInt8} (h0 : 0 < l.length) : a ∈ vsL l 3 ↔ ∃ x ∈ four l, orb x a := by
  have ht : (four l).take 4 = four l := rfl
  rw [vsL, show 3 + 1 = 4 from rfl, ht, List.mem_flatMap]
  constructor
  · rintro ⟨x, hx, h⟩; exact ⟨x, hx, (rot1_mem (by rw [four_len hx]; exact h0)).1 h⟩
  · rintro ⟨x, hx, h⟩; exact ⟨x, hx, (rot1_mem (by rw [four_len hx]; exact h0)).2 h⟩

theorem var_of {l : List UInt8} (h0 : 0 < l.length) (d : Array Lp) (hd : d.toList = (vsL l 3).map mkLp) (n : Nat) (hn : d.size = n) : IsVar l (compactUpTo (srtL d) n) := by
  subst hn
  refine ⟨compact_sorted (srtL d) (srtL_sorted d) d.size (by rw [srtL_size]; exact Nat.le_refl _), fun y => ?_⟩
  rw [compact_mem, srtL_mem, hd, List.mem_map]
  constructor
  · rintro ⟨a, ha, rfl⟩
    obtain ⟨x, hx, ho⟩ := (vsL_mem h0).1 ha
    exact ⟨x, hx, a, ho, rfl⟩
  · rintro ⟨x, hx, a, ho, rfl⟩
    exact ⟨a, (vsL_mem h0).2 ⟨x, hx, ho⟩, rfl⟩

theorem var_ne {l : List UInt8} {V : List Lp} (h : IsVar l V) (h0 : 0 < l.length) : 0 < V.length := by
  have := (h.mem (mkLp l)).2 ⟨l, by simp [four], l, orb_refl l, rfl⟩
  exact List.length_pos_of_mem this

def VarPost (l : List UInt8) (w : World) (e : Ending) (w' : World) : Prop :=
  ∃ (g cap : Nat) (V : List Lp), e = .returned (.slice (some ⟨g, 0, none⟩) V.length cap) ∧ IsVar l V ∧ RowLp w' g V ∧ w.heap.size ≤ g ∧ g < w'.heap.size ∧ Below w.heap.size w w'

def fnsA : Array Value := #[.func (.func 60) #[] #[], .func (.func 62) #[] #[], .func (.func 78) #[] #[]]

theorem news_own {W : World} {B n g cap : Nat} {e : TypeId} {xs : List Value} (h : W.ownsRow B e 40 (.slice (some ⟨g, 0, none⟩) n cap) n xs) : ∀ j u, xs[j]? = some u → W.cell? ((⟨g, 0, none⟩ : Addr).add j) = some u := fun j u hu => by
  have hj : j < n * 40 := by rw [← h.1]; exact (List.getElem?_eq_some_iff.1 hu).1
  rw [Addr.add_lit, Nat.zero_add, h.cellAt j hj]
  exact hu

theorem lpCells_ones (L : List Lp) : ∀ u ∈ lpCells L, u.oneCell' = true := by
  intro u hu
  simp only [lpCells, List.mem_flatMap] at hu
  obtain ⟨x, _, hx⟩ := hu
  exact enc_one x u hx

theorem fns_blk {W : World} {F : Nat} {t : TypeId} (h : W.heap[F]? = some (.cells fnsA t (0, 0))) :
    W.cell? ⟨F, 0, none⟩ = some (.func (.func 60) #[] #[]) ∧ W.cell? ⟨F, 1, none⟩ = some (.func (.func 62) #[] #[]) ∧ W.cell? ⟨F, 2, none⟩ = some (.func (.func 78) #[] #[]) := by
  simp [World.cell?, h, fnsA]

theorem HR0 {W : World} {g : Nat} {L : List Lp} {x : Lp} (h : RowLp W g L) (hx : L[0]? = some x) {K : Nat} (hK : K = 40) : Sem.run Tryd.prog (loadCellsFrom ⟨g, 0, none⟩ 0 K #[]) W = .ok (arr x) W := by
  have := h.load (j := 0) hx hK
  rwa [Nat.zero_mul] at this

set_option maxRecDepth 100000 in
set_option maxHeartbeats 3200000 in
theorem variants_any (l : List UInt8) (ht : tkB (ofL l) = true) (h0 : 0 < l.length) (w : World) :
    Calls Tryd.prog 57 #[.agg (arr (mkLp l))] w (VarPost l w) := by
  obtain ⟨i0, hi, iz0, iz1, iz2⟩ := info_parts lpInfo3
  have hl := tk_le ht
  obtain ⟨n, hn⟩ : ∃ n, l.length = n := ⟨_, rfl⟩
  have SP := Lib.hid (fun x (hx : x ∈ four l) (W : World) => spins_any x (tk_le (four_tk ht x hx)) (tk_nz (four_tk ht x hx)) W)
  have S0 := Lib.hid (fun W => spins_any l hl (tk_nz ht) W)
  have C1 := Lib.hid (fun W => mirror_any l ht W)
  have C2 := Lib.hid (fun W => back_anyL l ht W)
  have C3 := Lib.hid (fun W => mirrorBack_any l ht W)
  have HN := Lib.hid hn
  have a0 := LpAt.new w (mkLp l)
  obtain ⟨K, hK⟩ : ∃ K, K = 40 := ⟨_, rfl⟩
  have hld := a0.loadK hK
  have zE := zK hK
  have hA := aK hK (mkLp l)
  have HK := Lib.hid hK
  have A0 := Lib.hid a0
  clear hK a0
  have hn40 : n ≤ 40 := by omega
  have hn0 : 0 < n := by omega
  go_enter Tryd.func57, Tryd.ntmps57
  go_wp2_with fail
  refine (S0.out _).mono ?_
  rintro e w1 ⟨v1, rfl, hO1, hb1⟩
  have a1 := A0.out.below hb1 (by simp)
  have B1 := Lib.hid (ba (by go_grown) hb1 : Below w.heap.size w w1)
  rw [show (w.alloc (.cells (arr (mkLp l)) 45)).heap.size = w.heap.size + 1 by simp, HN.out] at hO1
  have hz1 := hb1.size
  simp at hz1
  have hlt1 := hO1.lt
  have hO1' := hO1.alloc (.cells fnsA 58)
  have A1 := Lib.hid (a1.alloc (.cells fnsA 58))
  have O1 := Lib.hid (by rw [← vsL_zero] at hO1'; exact hO1' : (w1.alloc (.cells fnsA 58)).ownsRow (w.heap.size + 1) 45 40 v1 n (lpCells ((vsL l 0).map mkLp)))
  have hnb1 : v1.ownBlock ≠ some w1.heap.size := fun e => by have := (hlt1 _ e).2; omega
  have B2 := Lib.hid (B1.out.alloc (by omega) (.cells fnsA 58))
  have F1 := Lib.hid (heap_alloc_last w1 (.cells fnsA 58))
  clear hb1 hld hO1 hO1' hlt1 a1
  go_wp2_with fail
  go_loopw [3, 10] (fun t i wr => ∃ (k : Nat) (v : Value), k ≤ 3 ∧ i = .int .i64 k ∧ v = t ∧ wr.ownsRow (w.heap.size + 1) 45 40 v ((k + 1) * n) (lpCells ((vsL l k).map mkLp)) ∧ LpAt wr w.heap.size (mkLp l) ∧ wr.heap[w1.heap.size]? = some (.cells fnsA 58 (0, 0)) ∧ v.ownBlock ≠ some w1.heap.size ∧ Below w.heap.size w wr) (fun _ i _ => 3 - (intOf i).toNat)
  case atStart => exact ⟨0, v1, by omega, rfl, rfl, by rw [Nat.zero_add, Nat.one_mul]; exact O1.out, A1.out, F1.out, hnb1, B2.out⟩
  case round =>
    obtain ⟨k, v, hk, rfl, rfl, hO, hA2, hF, hnb, hb⟩ := hrel
    have hFl : w1.heap.size < wr.heap.size := (Array.getElem?_eq_some_iff.1 hF).1
    have hld := hA2.loadK HK.out
    obtain ⟨c0, c1, c2⟩ := fns_blk hF
    have HO := Lib.hid hO
    have HA2 := Lib.hid hA2
    have HF := Lib.hid hF
    have HNB := Lib.hid hnb
    have HB := Lib.hid hb
    clear hO hA2 hF hnb hb
    by_cases hlt : k < 3
    · have hk3 : k = 0 ∨ k = 1 ∨ k = 2 := by omega
      rcases hk3 with rfl | rfl | rfl
      · have hAx := aK HK.out (mkLp (l.map mir))
        have SX := Lib.hid (fun W => SP.out (l.map mir) (by simp [four]) W)
        have HV := Lib.hid (show lpCells ((vsL l 1).map mkLp) = lpCells ((vsL l 0).map mkLp) ++ lpCells ((rot1 (l.map mir)).map mkLp) by rw [vsL_next (x := (l.map mir)) rfl, List.map_append, lpCells_append])
        have hxl : (l.map mir).length = n := by rw [← HN.out]; simp [bak]
        have HXL := Lib.hid hxl
        clear hxl
        go_wp2_with fail
        refine (C1.out _).mono ?_
        rintro e wA ⟨rfl, hbA⟩
        have hzA := hbA.size
        have OA := Lib.hid (HO.out.kept (bgr hbA) (by cases v.ownBlock <;> simp))
        have AA := Lib.hid (HA2.out.below hbA HA2.out.lt)
        have FA := Lib.hid ((hbA.block w1.heap.size hFl).trans HF.out)
        have BA := Lib.hid (HB.out.trans (hbA.mono HB.out.size))
        clear hbA hld c0 c1 c2
        go_wp2_with fail
        refine (SX.out _).mono ?_
        rintro e wB ⟨v2, rfl, hO2, hbB⟩
        rw [HXL.out] at hO2
        obtain ⟨g2, cap2, rfl, hg20, hcp2⟩ := hO2.form (by omega)
        have hzB := hbB.size
        have OB := Lib.hid (OA.out.kept (bgr hbB) (by cases v.ownBlock <;> simp))
        have AB := Lib.hid (AA.out.below hbB AA.out.lt)
        have FB := Lib.hid ((hbB.block w1.heap.size (by omega)).trans FA.out)
        have BB := Lib.hid (BA.out.trans (hbB.mono BA.out.size))
        have HO2 := Lib.hid hO2
        have hszw : w.heap.size ≤ w1.heap.size := B1.out.size
        clear hbB hO2
        go_wp2_with (at_builtin; refine wpList_append_own_at _ rfl _ _ 49 rfl (w.heap.size + 1) 45 i0 (.agg (arr zLp)) 40 40 Tryd.underlying49 hi iz0 iz1 iz2 (arr_size _) (by decide) v _ _ rfl OB.out ⟨g2, 0, none⟩ n cap2 (lpCells ((rot1 (l.map mir)).map mkLp)) rfl (by rw [lpCells_len, List.length_map, rot1_len, HXL.out]) (news_own HO2.out) (lpCells_ones _) (by unfold maxLen; omega) (by omega) (by omega) ?_; intro v' wC hown' hgrow hnil hloc)
        have hlt' := OB.out.lt
        have HB8 := Lib.hid (BB.out.grown hgrow (by omega) (fun k hk => Nat.le_of_succ_le (hlt' k hk).1))
        have F8 := Lib.hid ((hgrow.block w1.heap.size (by omega) (fun e => HNB.out e.symm)).trans FB.out)
        have A8 := Lib.hid (show LpAt wC w.heap.size (mkLp l) from (hgrow.block w.heap.size (by omega) (fun e => by have := (hlt' _ e.symm).1; omega)).trans AB.out)
        have N8 := Lib.hid (show v'.ownBlock ≠ some w1.heap.size from fun e => by
          rcases hloc with h | h
          · rw [h] at e; exact HNB.out e
          · rw [h] at e; injection e with e; omega)
        have O8 := Lib.hid hown'
        clear hlt' hgrow hown' hnil hloc
        go_roundw
        case rel => exact ⟨1, v', by omega, by go_num, rfl, by rw [HV.out, show (1 + 1) * n = (0 + 1) * n + n by omega]; exact O8.out, A8.out, F8.out, N8.out, HB8.out⟩
        case measure => simp [intOf]
      · have hAx := aK HK.out (mkLp (bak l))
        have SX := Lib.hid (fun W => SP.out (bak l) (by simp [four]) W)
        have HV := Lib.hid (show lpCells ((vsL l 2).map mkLp) = lpCells ((vsL l 1).map mkLp) ++ lpCells ((rot1 (bak l)).map mkLp) by rw [vsL_next (x := (bak l)) rfl, List.map_append, lpCells_append])
        have hxl : (bak l).length = n := by rw [← HN.out]; simp [bak]
        have HXL := Lib.hid hxl
        clear hxl
        go_wp2_with fail
        refine (C2.out _).mono ?_
        rintro e wA ⟨rfl, hbA⟩
        have hzA := hbA.size
        have OA := Lib.hid (HO.out.kept (bgr hbA) (by cases v.ownBlock <;> simp))
        have AA := Lib.hid (HA2.out.below hbA HA2.out.lt)
        have FA := Lib.hid ((hbA.block w1.heap.size hFl).trans HF.out)
        have BA := Lib.hid (HB.out.trans (hbA.mono HB.out.size))
        clear hbA hld c0 c1 c2
        go_wp2_with fail
        refine (SX.out _).mono ?_
        rintro e wB ⟨v2, rfl, hO2, hbB⟩
        rw [HXL.out] at hO2
        obtain ⟨g2, cap2, rfl, hg20, hcp2⟩ := hO2.form (by omega)
        have hzB := hbB.size
        have OB := Lib.hid (OA.out.kept (bgr hbB) (by cases v.ownBlock <;> simp))
        have AB := Lib.hid (AA.out.below hbB AA.out.lt)
        have FB := Lib.hid ((hbB.block w1.heap.size (by omega)).trans FA.out)
        have BB := Lib.hid (BA.out.trans (hbB.mono BA.out.size))
        have HO2 := Lib.hid hO2
        have hszw : w.heap.size ≤ w1.heap.size := B1.out.size
        clear hbB hO2
        go_wp2_with (at_builtin; refine wpList_append_own_at _ rfl _ _ 49 rfl (w.heap.size + 1) 45 i0 (.agg (arr zLp)) 40 40 Tryd.underlying49 hi iz0 iz1 iz2 (arr_size _) (by decide) v _ _ rfl OB.out ⟨g2, 0, none⟩ n cap2 (lpCells ((rot1 (bak l)).map mkLp)) rfl (by rw [lpCells_len, List.length_map, rot1_len, HXL.out]) (news_own HO2.out) (lpCells_ones _) (by unfold maxLen; omega) (by omega) (by omega) ?_; intro v' wC hown' hgrow hnil hloc)
        have hlt' := OB.out.lt
        have HB8 := Lib.hid (BB.out.grown hgrow (by omega) (fun k hk => Nat.le_of_succ_le (hlt' k hk).1))
        have F8 := Lib.hid ((hgrow.block w1.heap.size (by omega) (fun e => HNB.out e.symm)).trans FB.out)
        have A8 := Lib.hid (show LpAt wC w.heap.size (mkLp l) from (hgrow.block w.heap.size (by omega) (fun e => by have := (hlt' _ e.symm).1; omega)).trans AB.out)
        have N8 := Lib.hid (show v'.ownBlock ≠ some w1.heap.size from fun e => by
          rcases hloc with h | h
          · rw [h] at e; exact HNB.out e
          · rw [h] at e; injection e with e; omega)
        have O8 := Lib.hid hown'
        clear hlt' hgrow hown' hnil hloc
        go_roundw
        case rel => exact ⟨2, v', by omega, by go_num, rfl, by rw [HV.out, show (2 + 1) * n = (1 + 1) * n + n by omega]; exact O8.out, A8.out, F8.out, N8.out, HB8.out⟩
        case measure => simp [intOf]
      · have hAx := aK HK.out (mkLp ((bak l).map mir))
        have SX := Lib.hid (fun W => SP.out ((bak l).map mir) (by simp [four]) W)
        have HV := Lib.hid (show lpCells ((vsL l 3).map mkLp) = lpCells ((vsL l 2).map mkLp) ++ lpCells ((rot1 ((bak l).map mir)).map mkLp) by rw [vsL_next (x := ((bak l).map mir)) rfl, List.map_append, lpCells_append])
        have hxl : ((bak l).map mir).length = n := by rw [← HN.out]; simp [bak]
        have HXL := Lib.hid hxl
        clear hxl
        go_wp2_with fail
        refine (C3.out _).mono ?_
        rintro e wA ⟨rfl, hbA⟩
        have hzA := hbA.size
        have OA := Lib.hid (HO.out.kept (bgr hbA) (by cases v.ownBlock <;> simp))
        have AA := Lib.hid (HA2.out.below hbA HA2.out.lt)
        have FA := Lib.hid ((hbA.block w1.heap.size hFl).trans HF.out)
        have BA := Lib.hid (HB.out.trans (hbA.mono HB.out.size))
        clear hbA hld c0 c1 c2
        go_wp2_with fail
        refine (SX.out _).mono ?_
        rintro e wB ⟨v2, rfl, hO2, hbB⟩
        rw [HXL.out] at hO2
        obtain ⟨g2, cap2, rfl, hg20, hcp2⟩ := hO2.form (by omega)
        have hzB := hbB.size
        have OB := Lib.hid (OA.out.kept (bgr hbB) (by cases v.ownBlock <;> simp))
        have AB := Lib.hid (AA.out.below hbB AA.out.lt)
        have FB := Lib.hid ((hbB.block w1.heap.size (by omega)).trans FA.out)
        have BB := Lib.hid (BA.out.trans (hbB.mono BA.out.size))
        have HO2 := Lib.hid hO2
        have hszw : w.heap.size ≤ w1.heap.size := B1.out.size
        clear hbB hO2
        go_wp2_with (at_builtin; refine wpList_append_own_at _ rfl _ _ 49 rfl (w.heap.size + 1) 45 i0 (.agg (arr zLp)) 40 40 Tryd.underlying49 hi iz0 iz1 iz2 (arr_size _) (by decide) v _ _ rfl OB.out ⟨g2, 0, none⟩ n cap2 (lpCells ((rot1 ((bak l).map mir)).map mkLp)) rfl (by rw [lpCells_len, List.length_map, rot1_len, HXL.out]) (news_own HO2.out) (lpCells_ones _) (by unfold maxLen; omega) (by omega) (by omega) ?_; intro v' wC hown' hgrow hnil hloc)
        have hlt' := OB.out.lt
        have HB8 := Lib.hid (BB.out.grown hgrow (by omega) (fun k hk => Nat.le_of_succ_le (hlt' k hk).1))
        have F8 := Lib.hid ((hgrow.block w1.heap.size (by omega) (fun e => HNB.out e.symm)).trans FB.out)
        have A8 := Lib.hid (show LpAt wC w.heap.size (mkLp l) from (hgrow.block w.heap.size (by omega) (fun e => by have := (hlt' _ e.symm).1; omega)).trans AB.out)
        have N8 := Lib.hid (show v'.ownBlock ≠ some w1.heap.size from fun e => by
          rcases hloc with h | h
          · rw [h] at e; exact HNB.out e
          · rw [h] at e; injection e with e; omega)
        have O8 := Lib.hid hown'
        clear hlt' hgrow hown' hnil hloc
        go_roundw
        case rel => exact ⟨3, v', by omega, by go_num, rfl, by rw [HV.out, show (3 + 1) * n = (2 + 1) * n + n by omega]; exact O8.out, A8.out, F8.out, N8.out, HB8.out⟩
        case measure => simp [intOf]
    · obtain rfl : k = 3 := by omega
      clear c0 c1 c2 hld
      have hO3 := HO.out
      obtain ⟨g, cap, rfl, hg0, hcp⟩ := hO3.form (by omega)
      have hcap := own_capR hO3
      obtain ⟨d, hd⟩ : ∃ d : Array Lp, d = ((vsL l 3).map mkLp).toArray := ⟨_, rfl⟩
      have hdl : d.toList = (vsL l 3).map mkLp := by rw [hd]
      rw [← hdl] at hO3
      have hds : d.size = (3 + 1) * n := by rw [hd, List.size_toArray, List.length_map, vsL_len l 3 (by omega), HN.out]
      have HH := Lib.hid (HoldsLp.own hO3 hds)
      have hg := (hO3.lt g rfl)
      obtain ⟨hgw, hgl⟩ := hg
      have HV := Lib.hid (var_of h0 d hdl ((3 + 1) * n) hds)
      have HSF := Lib.hid (fun W hH hg => sortFunc_any d ((3 + 1) * n) hds (by omega) g cap W hH hg)
      have HCO := Lib.hid (fun W hH hg => compact_any (srtL d) ((3 + 1) * n) (by rw [srtL_size]; exact hds) (by omega) g cap hcap W hH hg)
      clear hO3 hd hdl hds
      generalize (3 + 1) * n = N at *
      go_wp2_with fail
      refine (HSF.out _ HH.out hgl).mono ?_
      rintro e w2 ⟨rfl, hH2, hb2⟩
      have H2 := Lib.hid hH2
      have hz2 := hb2.size
      have B3 := Lib.hid (show Below w.heap.size w w2 from HB.out.trans (hb2.mono (by omega)))
      clear hH2 hb2
      go_wp2_with fail
      refine (HCO.out _ H2.out (by omega)).mono ?_
      rintro e w3 ⟨rfl, hR, hb3⟩
      have hz3 := hb3.size
      have B4 := Lib.hid (show Below w.heap.size w w3 from B3.out.trans (hb3.mono (by omega)))
      have HR := Lib.hid hR
      clear hR hb3
      go_wp2_with fail
      go_ret
      exact ⟨g, cap, _, rfl, HV.out, HR.out, by omega, by omega, B4.out⟩

set_option maxRecDepth 100000 in
set_option maxHeartbeats 800000 in
theorem first_any (l : List UInt8) (ht : tkB (ofL l) = true) (h0 : 0 < l.length) (w : World) :
    Calls Tryd.prog 53 #[.agg (arr (mkLp l))] w fun e w' => e = .returned (.agg (arr (mkLp (classL l)))) ∧ Below w.heap.size w w' := by
  have HVA := Lib.hid (fun W => variants_any l ht h0 W)
  have HF := Lib.hid (fun V (h : IsVar l V) => h.first h0 (tk_le ht))
  have HNE := Lib.hid (fun V (h : IsVar l V) => var_ne h h0)
  have hz := (zero_of_info (P := Tryd.prog) lpInfo).1
  have a0 := (LpAt.new w (mkLp l)).alloc (.cells (arr zLp) 45)
  have a1 := LpAt.new (w.alloc (.cells (arr (mkLp l)) 45)) zLp
  rw [show (w.alloc (.cells (arr (mkLp l)) 45)).heap.size = w.heap.size + 1 by simp] at a1
  obtain ⟨K, hK⟩ : ∃ K, K = 40 := ⟨_, rfl⟩
  have hld := a0.loadK hK
  have zE := zK hK
  have hA := aK hK (mkLp l)
  have HK := Lib.hid hK
  have HA1 := Lib.hid a1
  obtain ⟨y, hy⟩ : ∃ y, mkLp (classL l) = y := ⟨_, rfl⟩
  rw [hy] at HF ⊢
  have hAy := aK hK y
  clear hK a0 a1 hy
  go_enter Tryd.func53, Tryd.ntmps53
  go_wp2_with fail
  refine (HVA.out _).mono ?_
  rintro e w1 ⟨g, cap, V, rfl, hV, hR, hgw, hgl, hb1⟩
  have hl0 := HR0 hR (HF.out V hV) HK.out
  have hne := HNE.out V hV
  have i0 : (0 : Int) < ((V.length : Nat) : Int) := by omega
  have hst := (HA1.out.below hb1 (by simp)).store y
  have l1 := ((HA1.out.below hb1 (by simp)).set y).loadK HK.out
  have HB := Lib.hid (below_setRow (ba (by go_grown) hb1 : Below w.heap.size w w1) (Nat.le_succ _) (arr y))
  clear hb1 hld hV hR
  generalize V.length = N at *
  go_wp2_with fail
  refine bodyPost_ret (by simp [results, Tryd.results53, go_sem, *]; try rfl) rfl ?_
  exact ⟨rfl, HB.out⟩

end Go.Proofs.YtoenkgenoloihaaDoor

/- Contracts: lists of numbers compared, marked and looked at again. -/
namespace Go.Proofs.YtoenkgenoloihaaDoor
open Go.ChangeShapes Go.WideShapes Go.ChangeAt Go.RowKit

set_option linter.unusedVariables false

/-- Block g holds the numbers xs from its beginning on. -/
def RowI (w : World) (g : Nat) (xs : List Int) : Prop := ∀ (j : Nat) x, xs[j]? = some x → w.cell? ⟨g, j, none⟩ = some (.int .i64 x)

/-- .. the first n are the numbers from k on. -/
def RowK (w : World) (g n : Nat) (k : Int) : Prop := ∀ j : Nat, j < n → w.cell? ⟨g, j, none⟩ = some (.int .i64 (k + j))

def FreeR (w : World) (g n : Nat) : Prop := ∀ j : Nat, j < n → w.frozen? ⟨g, j, none⟩ = false

theorem RowI.below {w w' : World} {g m : Nat} {xs : List Int} (h : RowI w g xs) (hg : g < m) (hb : Below m w w') : RowI w' g xs := fun j x hx => by
  rw [hb.cell (p := ⟨g, j, none⟩) hg]; exact h j x hx

theorem RowK.below {w w' : World} {g n m : Nat} {k : Int} (h : RowK w g n k) (hg : g < m) (hb : Below m w w') : RowK w' g n k := fun j hj => by
  rw [hb.cell (p := ⟨g, j, none⟩) hg]; exact h j hj

theorem RowI.grown {w w' : World} {g : Nat} {row : Option Nat} {xs : List Int} (h : RowI w g xs) (hg : w.grownBy w' row) (hne : some g ≠ row) : RowI w' g xs := fun j x hx =>
  hg.cell (h j x hx) hne

theorem below_drawn {w : World} (n m : Nat) : Below m w (w.drewN n) := ⟨rfl, rfl, rfl, Nat.le_refl _, fun _ _ => rfl⟩

set_option maxRecDepth 100000 in
set_option maxHeartbeats 800000 in
theorem eqIntS_same (g c g' c' n : Nat) (xs : List Int) (hn : xs.length = n) (hb : n ≤ 1000000) (w : World) (h1 : RowI w g xs) (h2 : RowI w g' xs) :
    Calls Tryd.prog 38 #[.slice (some ⟨g, 0, none⟩) n c, .slice (some ⟨g', 0, none⟩) n c'] w fun e w' => e = .returned (.bool true) ∧ Below w.heap.size w w' := by
  have HN := Lib.hid hn
  have H1 := Lib.hid h1
  have H2 := Lib.hid h2
  clear hn h1 h2
  go_enter Tryd.func38, Tryd.ntmps38
  go_wp2_with fail
  go_loopw [5] (fun i wr => ∃ k : Nat, k ≤ n ∧ i = .int .i64 k ∧ RowI wr g xs ∧ RowI wr g' xs ∧ Below w.heap.size w wr) (fun i _ => n - (intOf i).toNat)
  case atStart => exact ⟨0, Nat.zero_le _, rfl, H1.out, H2.out, Below.refl _ _⟩
  case round =>
    obtain ⟨k, hk, rfl, r1, r2, hB⟩ := hrel
    have R1 := Lib.hid r1
    have R2 := Lib.hid r2
    have HB := Lib.hid hB
    clear hB
    by_cases hlt : k < n
    · obtain ⟨x, hx⟩ : ∃ x, xs[k]? = some x := ⟨_, List.getElem?_eq_getElem (by rw [HN.out]; exact hlt)⟩
      have c0 := r1 k x hx
      have d0 := r2 k x hx
      have i1 : (0 : Int) ≤ (k : Int) := by omega
      have i2 : (k : Int) < (n : Int) := by omega
      clear r1 r2 hx
      go_wp2_with fail
      go_quiet (fail)
      go_wp2_with fail
      go_roundw
      case rel => exact ⟨k + 1, by omega, by go_num, R1.out, R2.out, HB.out.trans (below_drawn _ _)⟩
      case measure => simp [intOf]; omega
    · clear r1 r2
      go_wp2_with fail
      go_ret
      exact ⟨rfl, HB.out⟩

theorem set_grown {w wr : World} {g : Nat} (h : w.grownBy wr (some g)) (j : Nat) (v : Value) : w.grownBy (wr.setCell ⟨g, j, none⟩ v) (some g) :=
  ⟨h.os, h.tape, h.output, by simpa [World.setCell] using h.size, fun k hk hne => by rw [Below.heap_setCell _ _ _ _ (fun e => hne (by simp [e]))]; exact h.block k hk hne⟩

set_option maxRecDepth 100000 in
set_option maxHeartbeats 800000 in
theorem markIntS_any (g c n : Nat) (xs : List Int) (hn : xs.length = n) (hb : n ≤ 1000000) (w : World) (h1 : RowI w g xs) (hf : FreeR w g n) :
    Calls Tryd.prog 39 #[.slice (some ⟨g, 0, none⟩) n c, .int .i64 1] w fun e w' => e = .returned (.int .i64 (1 + (n : Int))) ∧ RowK w' g n 1 ∧ w.grownBy w' (some g) := by
  have HN := Lib.hid hn
  have H1 := Lib.hid h1
  have HF := Lib.hid hf
  clear hn h1 hf
  go_enter Tryd.func39, Tryd.ntmps39
  go_wp2_with fail
  go_loopw [1, 5] (fun t i wr => ∃ k : Nat, k ≤ n ∧ i = .int .i64 k ∧ t = .int .i64 (1 + (k : Int)) ∧ RowK wr g k 1 ∧ (∀ j : Nat, k ≤ j → wr.cell? ⟨g, j, none⟩ = w.cell? ⟨g, j, none⟩) ∧ FreeR wr g n ∧ w.grownBy wr (some g)) (fun _ i _ => n - (intOf i).toNat)
  case atStart => exact ⟨0, Nat.zero_le _, rfl, rfl, fun j hj => absurd hj (by omega), fun _ _ => rfl, HF.out, World.grownBy.refl _ _⟩
  case round =>
    obtain ⟨k, hk, rfl, rfl, r1, r2, r3, hG⟩ := hrel
    have R1 := Lib.hid r1
    have R2 := Lib.hid r2
    have R3 := Lib.hid r3
    have HG := Lib.hid hG
    clear r1 r2 r3 hG
    by_cases hlt : k < n
    · obtain ⟨x, hx⟩ : ∃ x, xs[k]? = some x := ⟨_, List.getElem?_eq_getElem (by rw [HN.out]; exact hlt)⟩
      have c0 := (R2.out k (Nat.le_refl _)).trans (H1.out k x hx)
      have f0 := R3.out k hlt
      have C0 := Lib.hid c0
      clear hx
      go_wp2_with fail
      go_roundw
      case rel =>
        refine ⟨k + 1, by omega, by go_num, by congr 1, fun j hj => ?_, fun j hj => ?_, fun j hj => ?_, set_grown HG.out k _⟩
        · by_cases e : k = j
          · subst e
            rw [World.cell?_setCell_same (h := C0.out)]
          · rw [World.cell?_setCell_other (h := fun h => e (by injection h))]
            exact R1.out j (by omega)
        · rw [World.cell?_setCell_other (h := fun h => absurd (by injection h) (show ¬ k = j by omega))]
          exact R2.out j (by omega)
        · rw [World.frozen?_setCell]
          exact R3.out j hj
      case measure => simp [intOf]; omega
    · obtain rfl : k = n := by omega
      go_wp2_with fail
      go_ret
      exact ⟨rfl, R1.out, HG.out⟩

set_option maxRecDepth 100000 in
set_option maxHeartbeats 800000 in
theorem heldIntS_any (g c n : Nat) (hb : n ≤ 1000000) (w : World) (h1 : RowK w g n 1) :
    Calls Tryd.prog 40 #[.slice (some ⟨g, 0, none⟩) n c, .int .i64 1] w fun e w' => e = .returned (.int .i64 (1 + (n : Int))) ∧ w = w' := by
  have H1 := Lib.hid h1
  clear h1
  go_enter Tryd.func40, Tryd.ntmps40
  go_wp2_with fail
  go_loop [1, 5] (fun t i => ∃ k : Nat, k ≤ n ∧ i = .int .i64 k ∧ t = .int .i64 (1 + (k : Int))) (fun _ i => n - (intOf i).toNat)
  case atStart => exact ⟨0, Nat.zero_le _, rfl, rfl⟩
  case round =>
    obtain ⟨k, hk, rfl, rfl⟩ := hrel
    by_cases hlt : k < n
    · have c0 := H1.out k hlt
      go_wp2_with fail
      go_round
      case rel => exact ⟨k + 1, by omega, by go_num, by congr 1⟩
      case measure => simp [intOf]; omega
    · obtain rfl : k = n := by omega
      go_wp2_with fail
      go_ret
      exact ⟨rfl, rfl⟩

end Go.Proofs.YtoenkgenoloihaaDoor

/- Contracts: lists of texts compared, marked and looked at again, in the laws. -/
namespace Go.Proofs.YtoenkgenoloihaaDoor
open Go.ChangeShapes Go.WideShapes Go.ChangeAt Go.RowKit

set_option linter.unusedVariables false

theorem one_strM (c : UInt8) (B cap : Nat) (w : World) (h : w.cell? ⟨B, 0, none⟩ = some (.int .u8 ((c.toNat : Nat) : Int))) :
    (convert 77 9 (.slice (some ⟨B, 0, none⟩) 1 cap)).run Tryd.prog w = .ok (.string (ofL [c])) w := by
  refine run_convert_bytes_back w 77 9 5 ⟨B, 0, none⟩ cap [c] Tryd.underlying77 Tryd.underlying5 Tryd.underlying9 (fun j hj => ?_)
  obtain rfl : j = 0 := by simpa using hj
  have h3 : ((⟨B, 0, none⟩ : Addr).add 0) = ⟨B, 0, none⟩ := by simp [Addr.add]
  rw [h3, h]
  rfl

def mkR (k : Nat) (acc : List UInt8) : List UInt8 := if k = 0 then acc else mkR (k / 10) (UInt8.ofNat (48 + k % 10) :: acc)
termination_by k
decreasing_by omega

theorem mkR_zero (acc : List UInt8) : mkR 0 acc = acc := by rw [mkR, if_pos rfl]

theorem mkR_pos {k : Nat} (h : k ≠ 0) (acc : List UInt8) : mkR k acc = mkR (k / 10) (UInt8.ofNat (48 + k % 10) :: acc) := by rw [mkR, if_neg h]

/-- The text of a mark. -/
def mkT (k : Nat) : ByteArray := ofL (109 :: mkR k [])

theorem one_strD (d B cap : Nat) (hd : d < 10) (w : World) (h : w.cell? ⟨B, 0, none⟩ = some (.int .u8 (48 + (d : Int)))) :
    (convert 77 9 (.slice (some ⟨B, 0, none⟩) 1 cap)).run Tryd.prog w = .ok (.string (ofL [UInt8.ofNat (48 + d)])) w := by
  refine one_strM (UInt8.ofNat (48 + d)) B cap w (h.trans ?_)
  have h2 : ((UInt8.ofNat (48 + d)).toNat : Int) = 48 + (d : Int) := by
    rw [UInt8.toNat_ofNat']
    omega
  exact congrArg (fun z => some (Value.int .u8 z)) h2.symm

set_option maxRecDepth 100000 in
set_option maxHeartbeats 1600000 in
theorem markText_any (k : Nat) (h1 : 1 ≤ k) (h2 : k ≤ 1000000) (w : World) :
    Calls Tryd.prog 68 #[.int .i64 (k : Nat)] w fun e w' => e = .returned (.string (mkT k)) ∧ Below w.heap.size w w' := by
  go_enter Tryd.func68, Tryd.ntmps68
  go_wp2_with fail
  go_loopw [0, 3] (fun i t wr => ∃ (j d : Nat) (acc : List UInt8), i = .int .i64 (j : Nat) ∧ t = .string (ofL acc) ∧ mkR j acc = mkR k [] ∧ acc.length = d ∧ d ≤ 8 ∧ j < 10 ^ (8 - d) ∧ Below w.heap.size w wr) (fun i _ _ => (intOf i).toNat)
  case atStart => exact ⟨k, 0, [], rfl, rfl, rfl, rfl, by omega, by show k < 100000000; omega, Below.refl _ _⟩
  case round =>
    obtain ⟨j, d, acc, rfl, rfl, hm, hd, hd8, hj, hb⟩ := hrel
    have hz := hb.size
    have HB := Lib.hid hb
    by_cases h0 : j = 0
    · subst h0
      rw [mkR_zero] at hm
      have HM := Lib.hid hm
      have k2 : ∀ w : World, (Op.stringOp .add ⟨#[109]⟩ (ofL acc)).run Tryd.prog w = .ok (.string (mkT k)) w := fun w => concat_run (by rw [mkT, ← hm]; exact ofL_append [109] acc) (by rw [ofL_size]; show 1 + _ ≤ _; omega) w
      clear hm hb
      go_wp2_with fail
      go_ret
      exact ⟨rfl, HB.out⟩
    · have hd7 : d < 8 := by
        refine Nat.lt_of_not_le fun h => ?_
        have : 8 - d = 0 := by omega
        rw [this, Nat.pow_zero] at hj
        omega
      have hj2 : j / 10 < 10 ^ (8 - (d + 1)) := by
        rw [show 8 - d = (8 - (d + 1)) + 1 by omega, Nat.pow_succ] at hj
        omega
      have hj8 : j < 100000000 := Nat.lt_of_lt_of_le hj (Nat.pow_le_pow_right (by decide) (by omega : 8 - d ≤ 8))
      rw [mkR_pos h0] at hm
      obtain ⟨a, ha⟩ : ∃ a : Nat, j / 10 = a := ⟨_, rfl⟩
      obtain ⟨b, hb2⟩ : ∃ b : Nat, j % 10 = b := ⟨_, rfl⟩
      rw [ha] at hm hj2
      rw [hb2] at hm
      have i2 : b < 10 := by omega
      have j1 : (0 : Int) ≤ (b : Int) := by omega
      have j2 : (b : Int) < 10 := by omega
      have j3 : (0 : Int) < (j : Int) := by omega
      have haj : a < j := by omega
      have hA : IntKind.i64.wrap ((j : Int) / 10) = (a : Int) := by rw [IntKind.wrap_i64]; omega
      have hA2 : (j : Int).tdiv 10 = (a : Int) := by rw [Int.tdiv_eq_ediv_of_nonneg (by omega)]; omega
      have hB : (j : Int).tmod 10 = (b : Int) := by rw [Int.tmod_eq_emod_of_nonneg (by omega)]; omega
      have hC : IntKind.i64.wrap (48 + (b : Int)) = 48 + (b : Int) := by rw [IntKind.wrap_i64]; omega
      have hD : IntKind.u8.wrap (48 + (b : Int)) = 48 + (b : Int) := by rw [IntKind.wrap_u8]; omega
      have q := one_strD b wr.heap.size 1 i2 (wr.alloc (.cells #[.int .u8 (48 + (b : Int))] 5)) (by go_simp)
      obtain ⟨ch, hch⟩ : ∃ ch : UInt8, UInt8.ofNat (48 + b) = ch := ⟨_, rfl⟩
      rw [hch] at hm q
      obtain ⟨T, hT⟩ : ∃ T, ofL (ch :: acc) = T := ⟨_, rfl⟩
      have k1 : ∀ w : World, (Op.stringOp .add (ofL [ch]) (ofL acc)).run Tryd.prog w = .ok (.string T) w := fun w => concat_run (by rw [← hT]; exact ofL_append [ch] acc) (by rw [ofL_size, ofL_size]; show 1 + _ ≤ _; omega) w
      have HM := Lib.hid hm
      have HT := Lib.hid hT
      clear hm hb ha hb2 hT hj hch
      go_wp2_with fail
      go_roundw
      case rel => exact ⟨a, d + 1, _, by go_num, by rw [← HT.out], HM.out, by rw [List.length_cons, hd], by omega, hj2, HB.out.alloc hz _⟩
      case measure => simp [intOf]; omega

/-- A list of texts that a call has handed back. -/
def StrV (w : World) (v : Value) (l : List (List UInt8)) : Prop := ∃ av cap, v = .slice av l.length cap ∧ (l = [] ∨ ∃ g, av = some ⟨g, 0, none⟩ ∧ g < w.heap.size ∧ StrAt w g l)

/-- The first n texts are marks from k on. -/
def MkAt (w : World) (g n k : Nat) : Prop := ∀ j : Nat, j < n → w.cell? ⟨g, j, none⟩ = some (.string (mkT (k + j)))

theorem MkAt.below {w w' : World} {g n k m : Nat} (h : MkAt w g n k) (hg : g < m) (hb : Below m w w') : MkAt w' g n k := fun j hj => by
  rw [hb.cell (p := ⟨g, j, none⟩) hg]; exact h j hj

set_option maxRecDepth 100000 in
set_option maxHeartbeats 800000 in
theorem eqStringS_same (v v' : Value) (l : List (List UInt8)) (hb : l.length ≤ 1000000) (w : World) (h1 : StrV w v l) (h2 : StrV w v' l) :
    Calls Tryd.prog 31 #[v, v'] w fun e w' => e = .returned (.bool true) ∧ Below w.heap.size w w' := by
  obtain ⟨av, cap, rfl, h1⟩ := h1
  obtain ⟨av', cap', rfl, h2⟩ := h2
  obtain ⟨n, hn⟩ : ∃ n, l.length = n := ⟨_, rfl⟩
  rw [hn] at hb ⊢
  have HN := Lib.hid hn
  by_cases h0 : n = 0
  · subst h0
    go_enter Tryd.func31, Tryd.ntmps31
    go_wp2_with fail
    refine wp_loop_rounds 1 ?_
    rw [rounds_succ]
    go_wp2_with fail
    go_ret
    exact ⟨rfl, Below.refl _ _⟩
  · have hne : l ≠ [] := fun h => h0 (by rw [← hn, h]; rfl)
    obtain ⟨g, rfl, hg, s1⟩ := h1.resolve_left hne
    obtain ⟨g', rfl, hg', s2⟩ := h2.resolve_left hne
    have H1 := Lib.hid s1
    have H2 := Lib.hid s2
    clear hn h1 h2 s1 s2
    go_enter Tryd.func31, Tryd.ntmps31
    go_wp2_with fail
    go_loopw [5] (fun i wr => ∃ k : Nat, k ≤ n ∧ i = .int .i64 k ∧ Below w.heap.size w wr) (fun i _ => n - (intOf i).toNat)
    case atStart => exact ⟨0, Nat.zero_le _, rfl, Below.refl _ _⟩
    case round =>
      obtain ⟨k, hk, rfl, hB⟩ := hrel
      have HB := Lib.hid hB
      by_cases hlt : k < n
      · obtain ⟨x, hx⟩ : ∃ x, l[k]? = some x := ⟨_, List.getElem?_eq_getElem (by rw [HN.out]; exact hlt)⟩
        have c0 := (H1.out.below hg hB) k x hx
        have d0 := (H2.out.below hg' hB) k x hx
        have i1 : (0 : Int) ≤ (k : Int) := by omega
        have i2 : (k : Int) < (n : Int) := by omega
        clear hB hx
        go_wp2_with fail
        go_quiet (fail)
        go_wp2_with fail
        go_roundw
        case rel => exact ⟨k + 1, by omega, by go_num, HB.out.trans (below_drawn _ _)⟩
        case measure => simp [intOf]; omega
      · clear hB
        go_wp2_with fail
        go_ret
        exact ⟨rfl, HB.out⟩

set_option maxRecDepth 100000 in
set_option maxHeartbeats 1600000 in
theorem markStringS_any (v : Value) (l : List (List UInt8)) (hb : l.length ≤ 900000) (w : World) (h1 : StrV w v l) (hf : ∀ g, v.ownBlock = some g → FreeR w g l.length) :
    Calls Tryd.prog 32 #[v, .int .i64 1] w fun e w' => e = .returned (.int .i64 (1 + (l.length : Int))) ∧ (∀ g, v.ownBlock = some g → MkAt w' g l.length 1) ∧ w.grownBy w' v.ownBlock := by
  obtain ⟨av, cap, rfl, h1⟩ := h1
  obtain ⟨n, hn⟩ : ∃ n, l.length = n := ⟨_, rfl⟩
  rw [hn] at hb hf ⊢
  have HN := Lib.hid hn
  by_cases h0 : n = 0
  · subst h0
    go_enter Tryd.func32, Tryd.ntmps32
    go_wp2_with fail
    refine wp_loop_rounds 1 ?_
    rw [rounds_succ]
    go_wp2_with fail
    go_ret
    exact ⟨rfl, fun _ _ j hj => absurd hj (by omega), World.grownBy.refl _ _⟩
  · have hne : l ≠ [] := fun h => h0 (by rw [← hn, h]; rfl)
    obtain ⟨g, rfl, hg, s1⟩ := h1.resolve_left hne
    have H1 := Lib.hid s1
    have HF := Lib.hid (hf g rfl)
    clear hn h1 s1 hf
    go_enter Tryd.func32, Tryd.ntmps32
    go_wp2_with fail
    go_loopw [1, 5] (fun t i wr => ∃ k : Nat, k ≤ n ∧ i = .int .i64 k ∧ t = .int .i64 (1 + (k : Int)) ∧ MkAt wr g k 1 ∧ (∀ j : Nat, k ≤ j → wr.cell? ⟨g, j, none⟩ = w.cell? ⟨g, j, none⟩) ∧ FreeR wr g n ∧ w.grownBy wr (some g)) (fun _ i _ => n - (intOf i).toNat)
    case atStart => exact ⟨0, Nat.zero_le _, rfl, rfl, fun j hj => absurd hj (by omega), fun _ _ => rfl, HF.out, World.grownBy.refl _ _⟩
    case round =>
      obtain ⟨k, hk, rfl, rfl, r1, r2, r3, hG⟩ := hrel
      have hgr : g < wr.heap.size := Nat.lt_of_lt_of_le hg hG.size
      have R1 := Lib.hid r1
      have R2 := Lib.hid r2
      have R3 := Lib.hid r3
      have HG := Lib.hid hG
      clear r1 r2 r3 hG
      by_cases hlt : k < n
      · obtain ⟨x, hx⟩ : ∃ x, l[k]? = some x := ⟨_, List.getElem?_eq_getElem (by rw [HN.out]; exact hlt)⟩
        have C0 := Lib.hid ((R2.out k (Nat.le_refl _)).trans (H1.out k x hx))
        have MT := Lib.hid (markText_any (1 + k) (by omega) (by omega))
        have hc1 : ((1 + k : Nat) : Int) = 1 + (k : Int) := by omega
        rw [hc1] at MT
        clear hx hc1
        go_wp2_with fail
        refine (MT.out _).mono ?_
        rintro e wA ⟨rfl, hA⟩
        have c0 : wA.cell? ⟨g, k, none⟩ = some (.string (ofL x)) := by rw [hA.cell (p := ⟨g, k, none⟩) hgr]; exact C0.out
        have f0 : wA.frozen? ⟨g, k, none⟩ = false := by rw [hA.frozen (p := ⟨g, k, none⟩) hgr]; exact R3.out k hlt
        have C1 := Lib.hid c0
        have HA := Lib.hid hA
        clear hA
        go_wp2_with fail
        go_roundw
        case rel =>
          refine ⟨k + 1, by omega, by go_num, by congr 1, fun j hj => ?_, fun j hj => ?_, fun j hj => ?_, set_grown (HG.out.trans ((below_grown HA.out).but _)) k _⟩
          · by_cases e : k = j
            · subst e
              rw [World.cell?_setCell_same (h := C1.out)]
            · rw [World.cell?_setCell_other (h := fun h => e (by injection h)), HA.out.cell (p := ⟨g, j, none⟩) hgr]
              exact R1.out j (by omega)
          · rw [World.cell?_setCell_other (h := fun h => absurd (by injection h) (show ¬ k = j by omega)), HA.out.cell (p := ⟨g, j, none⟩) hgr]
            exact R2.out j (by omega)
          · rw [World.frozen?_setCell, HA.out.frozen (p := ⟨g, j, none⟩) hgr]
            exact R3.out j hj
        case measure => simp [intOf]; omega
      · obtain rfl : k = n := by omega
        go_wp2_with fail
        go_ret
        exact ⟨rfl, fun g' h => by simp only [Value.ownBlock, Option.some.injEq] at h; subst h; exact R1.out, HG.out⟩

set_option maxRecDepth 100000 in
set_option maxHeartbeats 1600000 in
theorem heldStringS_any (av : Option Addr) (n cap : Nat) (hb : n ≤ 900000) (w : World) (h1 : n = 0 ∨ ∃ g, av = some ⟨g, 0, none⟩ ∧ g < w.heap.size ∧ MkAt w g n 1) :
    Calls Tryd.prog 33 #[.slice av n cap, .int .i64 1] w fun e w' => e = .returned (.int .i64 (1 + (n : Int))) ∧ Below w.heap.size w w' := by
  by_cases h0 : n = 0
  · subst h0
    go_enter Tryd.func33, Tryd.ntmps33
    go_wp2_with fail
    refine wp_loop_rounds 1 ?_
    rw [rounds_succ]
    go_wp2_with fail
    go_ret
    exact ⟨rfl, Below.refl _ _⟩
  · obtain ⟨g, rfl, hg, s1⟩ := h1.resolve_left h0
    have H1 := Lib.hid s1
    clear h1 s1
    go_enter Tryd.func33, Tryd.ntmps33
    go_wp2_with fail
    go_loopw [1, 5] (fun t i wr => ∃ k : Nat, k ≤ n ∧ i = .int .i64 k ∧ t = .int .i64 (1 + (k : Int)) ∧ Below w.heap.size w wr) (fun _ i _ => n - (intOf i).toNat)
    case atStart => exact ⟨0, Nat.zero_le _, rfl, rfl, Below.refl _ _⟩
    case round =>
      obtain ⟨k, hk, rfl, rfl, hB⟩ := hrel
      have hgr : g < wr.heap.size := Nat.lt_of_lt_of_le hg hB.size
      by_cases hlt : k < n
      · have hS0 := (H1.out.below hg hB) k hlt
        have MT := Lib.hid (markText_any (1 + k) (by omega) (by omega))
        have hc1 : ((1 + k : Nat) : Int) = 1 + (k : Int) := by omega
        rw [hc1] at MT
        have i1 : (0 : Int) ≤ (k : Int) := by omega
        have i2 : (k : Int) < (n : Int) := by omega
        have HB := Lib.hid hB
        clear hB hc1
        generalize mkT (1 + k) = T at *
        go_wp2_with fail
        go_region_held3 (fun w' => w'.cell? ⟨g, k, none⟩ = some (.string T))
          (first | (with_reducible assumption) | (with_reducible exact cl_drew hS0) | (with_reducible refine cl_below ?_ ?_ h1; (first | (with_reducible assumption) | (with_reducible exact cl_drew hS0)); (first | omega | (simp; omega))))
          (((with_reducible refine (MT.out _).mono ?_); rintro e wA ⟨rfl, h1⟩; (try with_reducible replace h1 := undrew h1)))
        all_goals
          have HB2 := Lib.hid (HB.out.trans (h1.mono HB.out.size))
          clear h1 hS0
          go_wp2_with fail
          go_roundw
          case rel => exact ⟨k + 1, by omega, by go_num, by congr 1, HB2.out⟩
          case measure => simp [intOf]; omega
      · obtain rfl : k = n := by omega
        have HB := Lib.hid hB
        clear hB
        go_wp2_with fail
        go_ret
        exact ⟨rfl, HB.out⟩

end Go.Proofs.YtoenkgenoloihaaDoor

/- What a list of texts and whether there is one are, behind a call. -/
namespace Go.Proofs.YtoenkgenoloihaaDoor
open Go.ChangeShapes Go.WideShapes Go.ChangeAt Go.RowKit

def STPost (l : List (List UInt8)) (b : Bool) (w : World) (e : Ending) (w' : World) : Prop :=
  ∃ v, e = .returned (.tuple #[v, .bool b]) ∧ w'.ownsRow w.heap.size 9 1 v l.length (strV l) ∧ Below w.heap.size w w'

theorem stNo {w w' : World} (h : Below w.heap.size w w') : STPost [] false w (.returned (.tuple #[.slice none 0 0, .bool false])) w' := ⟨_, rfl, World.ownsRow_nil _ _ _ _, h⟩

theorem strV_own {W : World} {B : Nat} {v : Value} {l : List (List UInt8)} (h : W.ownsRow B 9 1 v l.length (strV l)) : StrV W v l := by
  have h0 := h
  rcases h.2 with ⟨rfl, h2⟩ | ⟨g, cap, cur, rfl, _⟩
  · exact ⟨none, 0, by rw [h2], .inl (List.eq_nil_of_length_eq_zero h2)⟩
  · exact ⟨_, cap, rfl, .inr ⟨g, rfl, (h0.lt g rfl).2, str_of h0 rfl⟩⟩

theorem StrV.below {w w' : World} {v : Value} {l : List (List UInt8)} (h : StrV w v l) (hb : Below w.heap.size w w') : StrV w' v l := by
  obtain ⟨av, cap, rfl, h⟩ := h
  refine ⟨av, cap, rfl, h.imp id ?_⟩
  rintro ⟨g, rfl, hg, hs⟩
  exact ⟨g, rfl, Nat.lt_of_lt_of_le hg hb.size, hs.below hg hb⟩

theorem StrV.grown {w w' : World} {v : Value} {l : List (List UInt8)} {row : Option Nat} (h : StrV w v l) (hg : w.grownBy w' row) (hne : v.ownBlock = none ∨ v.ownBlock ≠ row) : StrV w' v l := by
  obtain ⟨av, cap, rfl, h⟩ := h
  refine ⟨av, cap, rfl, h.imp id ?_⟩
  rintro ⟨g, rfl, hlt, hs⟩
  refine ⟨g, rfl, Nat.lt_of_lt_of_le hlt hg.size, fun i u hu => hg.cell (hs i u hu) ?_⟩
  rcases hne with h | h
  · cases h
  · exact h

theorem free_own {W : World} {B : Nat} {v : Value} {l : List (List UInt8)} (h : W.ownsRow B 9 1 v l.length (strV l)) : ∀ g, v.ownBlock = some g → FreeR W g l.length := by
  intro g hg j hj
  rcases h.2 with ⟨rfl, _⟩ | ⟨g', cap, cur, rfl, _⟩
  · cases hg
  · simp only [Value.ownBlock, Option.some.injEq] at hg
    subst hg
    exact h.frozenAt j

theorem own_apart {W W' : World} {B B' : Nat} {e e' size size' n n' : Nat} {v v' : Value} {xs xs' : List Value} (h : W.ownsRow B e size v n xs) (h' : W'.ownsRow B' e' size' v' n' xs') (hB : W.heap.size ≤ B') : v.ownBlock = none ∨ v.ownBlock ≠ v'.ownBlock := by
  cases hv : v.ownBlock with
  | none => exact .inl rfl
  | some k =>
    refine .inr fun e => ?_
    have h1 := (h.lt k hv).2
    have h2 := (h'.lt k e.symm).1
    omega

end Go.Proofs.YtoenkgenoloihaaDoor
