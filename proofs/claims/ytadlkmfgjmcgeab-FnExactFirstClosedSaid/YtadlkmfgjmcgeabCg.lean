/- Contract: the program's 'closings'. -/
import Derived.Test.YtadlkmfgjmcgeabGrM
import Derived.Test.YtadlkmfgjmcgeabPf
import Derived.Test.YtadlkmfgjmcgeabWb
import Derived.Maps.OwnOps
namespace Go.Proofs.Ytadlkmfgjmcgeab
open Go.ChangeShapes Go.WideShapes Go.ChangeAt Go.RowKit

set_option linter.unusedVariables false

def StrPost (l : List (List UInt8)) (w : World) (e : Ending) (w' : World) : Prop :=
  ∃ v, e = .returned v ∧ w'.ownsRow w.heap.size 9 1 v l.length (strV l) ∧ Below w.heap.size w w'

theorem srInfo : (Try.prog.info? 9).map (fun i => (i.zero, i.size, i.bytes)) = some (some (.string ByteArray.empty), 1, 16) := by kernel_rfl

/-- Texts at their place, in a block that was there. -/
def StrAt (w : World) (g : Nat) (l : List (List UInt8)) : Prop := ∀ i u, l[i]? = some u → w.cell? ⟨g, i, none⟩ = some (.string (ofL u))
theorem StrAt.below {w w' : World} {g n : Nat} {l : List (List UInt8)} (h : StrAt w g l) (hg : g < n) (hb : Below n w w') : StrAt w' g l := fun i u hu => by
  rw [hb.cell (p := ⟨g, i, none⟩) hg]; exact h i u hu
theorem str_of {W : World} {B n g cap : Nat} {e : TypeId} {l : List (List UInt8)} (h : W.ownsRow B e 1 (.slice (some ⟨g, 0, none⟩) n cap) n (strV l)) (hn : l.length = n) : StrAt W g l := fun i u hu => by
  have hi : i < n := by rw [← hn]; exact (List.getElem?_eq_some_iff.1 hu).1
  rw [h.cellAt i (by omega)]
  simp [strV, hu]

def accG (l2 l1 : List (Sp × List UInt8)) (j : Nat) : List (List UInt8) := (l2.take j).flatMap fun p => (grp (wayB p.1) l1).map fun v => p.2 ++ v
theorem accG_end (a : Sp) (k0 : 0 ≤ a.h) (k7 : a.h ≤ 7) (m n : Nat) : accG (parts a m) (parts sp0 n) (3 ^ m) = clsL a (m + n) := by
  rw [accG, List.take_of_length_le (by rw [parts_len]; exact Nat.le_refl _), cls_halves a k0 k7]
theorem accG_next {l2 l1 : List (Sp × List UInt8)} {j : Nat} {p : Sp × List UInt8} (h : l2[j]? = some p) : accG l2 l1 (j + 1) = accG l2 l1 j ++ (grp (wayB p.1) l1).map fun v => p.2 ++ v := by
  rw [accG, List.take_add_one, h]
  simp [accG, List.flatMap_append]
theorem accG_le (l2 l1 : List (Sp × List UInt8)) : ∀ j, (accG l2 l1 j).length ≤ j * l1.length
  | 0 => by simp [accG]
  | j + 1 => by
    have ih := accG_le l2 l1 j
    rw [Nat.succ_mul]
    by_cases h : j < l2.length
    · rw [accG_next (List.getElem?_eq_getElem h), List.length_append, List.length_map]
      have := grp_le (wayB l2[j].1) l1
      omega
    · rw [show accG l2 l1 (j + 1) = accG l2 l1 j by rw [accG, accG, List.take_of_length_le (by omega), List.take_of_length_le (by omega)]]
      omega

theorem PrtAt.grown {w w' : World} {g : Nat} {l : List (Sp × List UInt8)} {row : Option Nat} (h : PrtAt w g l) (hg : w.grownBy w' row) (hne : some g ≠ row) : PrtAt w' g l := by
  intro i p hp
  obtain ⟨a, b, c, d, e, f⟩ := h i p hp
  exact ⟨hg.cell a hne, hg.cell b hne, hg.cell c hne, hg.cell d hne, hg.cell e hne, hg.cell f hne⟩
theorem wayB_ok {s : Sp} {n : Int} (h : s.okB n) : (wayB s).okB n := by
  obtain ⟨⟨b0, b0'⟩, ⟨b1, b1'⟩, ⟨b2, b2'⟩, ⟨b3, b3'⟩, b4, b5⟩ := h
  simp only [Sp.okB, wayB]
  refine ⟨?_, ?_, ?_, ?_, by omega, by omega⟩
  · unfold tu0; repeat' split <;> omega
  · unfold tu1; repeat' split <;> omega
  · unfold tu2; repeat' split <;> omega
  · unfold tu3; repeat' split <;> omega
theorem own_blkC {W : World} {B : Nat} {e t : TypeId} {size n : Nat} {v : Value} {xs : List Value} {g : Nat} {cs : Array Value} {fz : Nat × Nat} (h : W.ownsRow B e size v n xs) (hg : W.heap[g]? = some (.cells cs t fz)) (hne : e ≠ t) : some g ≠ v.ownBlock := by
  rcases h.2 with ⟨rfl, _⟩ | ⟨g', cap, cur, rfl, _, hg', _⟩
  · simp [Value.ownBlock]
  · intro he
    simp only [Value.ownBlock, Option.some.injEq] at he
    subst he
    rw [hg] at hg'
    simp only [Option.some.injEq, Obj.cells.injEq] at hg'
    exact hne hg'.2.1.symm
theorem own_formC {W : World} {B n size : Nat} {e : TypeId} {v : Value} {xs : List Value} (h : W.ownsRow B e size v n xs) : ∃ av cv, v = .slice av n cv := by
  rcases h.2 with ⟨h, h0⟩ | ⟨g, cap, cur, h, _⟩
  · exact ⟨none, 0, by rw [h, h0]⟩
  · exact ⟨_, _, h⟩
theorem news_one {W W1 : World} {n : Nat} {row : Option Nat} (hn : W.heap.size = n) (x : Value) (t : TypeId) (hg : (W.alloc (.cells #[x] t)).grownBy W1 row) (hne : some n ≠ row) : ∀ j u, [x][j]? = some u → W1.cell? ((⟨n, 0, none⟩ : Addr).add j) = some u := by
  subst hn
  intro j u hj
  have h := cell_one_new W x t j u hj
  match j, hj, h with
  | 0, _, h => exact hg.cell h (by simpa [Addr.add] using hne)
theorem blk5 {W : World} {g : Nat} {t : TypeId} {a0 a1 a2 a3 a4 : Value} (h : W.heap[g]? = some (.cells #[a0, a1, a2, a3, a4] t (0, 0))) :
    W.cell? ⟨g, 0, none⟩ = some a0 ∧ W.cell? ⟨g, 1, none⟩ = some a1 ∧ W.cell? ⟨g, 2, none⟩ = some a2 ∧ W.cell? ⟨g, 3, none⟩ = some a3 ∧ W.cell? ⟨g, 4, none⟩ = some a4 := by
  simp [World.cell?, h]
theorem grp_mem {k : Sp} {l : List (Sp × List UInt8)} {x : List UInt8} (h : x ∈ grp k l) : ∃ p ∈ l, p.2 = x := by
  simp only [grp, List.mem_map, List.mem_filter] at h
  obtain ⟨p, ⟨hp, _⟩, rfl⟩ := h
  exact ⟨p, hp, rfl⟩

set_option maxRecDepth 100000 in
set_option maxHeartbeats 6400000 in
theorem closings_any (a : Sp) (ha : a.okB 900000) (n : Nat) (hn : n ≤ 14) (w : World) :
    Calls Try.prog 21 #[.agg #[.int .i64 a.x0, .int .i64 a.x1, .int .i64 a.x2, .int .i64 a.x3, .int .i64 a.h], .int .i64 n] w (StrPost (clsL a n) w) := by
  obtain ⟨i0, hi, iz0, iz1, iz2⟩ := info_parts srInfo
  obtain ⟨m, hm⟩ : ∃ m, n / 2 = m := ⟨_, rfl⟩
  obtain ⟨k, hk⟩ : ∃ k, n - m = k := ⟨_, rfl⟩
  have hE := Lib.hid (show accG (parts a m) (parts sp0 k) (3 ^ m) = clsL a n by rw [accG_end a ha.2.2.2.2.1 ha.2.2.2.2.2, show m + k = n by omega])
  have hq : (n : Int).tdiv 2 = (m : Int) := by rw [Int.tdiv_eq_ediv_of_nonneg (by omega)]; omega
  have hs : (n : Int) - (m : Int) = (k : Int) := by omega
  have P1 := Lib.hid (fun w => partsFrom_any sp0 (sp0_ok.mono (by decide)) k (by omega) w)
  have P2 := Lib.hid (fun w => partsFrom_any a ha m (by omega) w)
  have hmm := @run_makeMap Try.prog
  have K7 : 3 ^ k ≤ 2187 := Nat.pow_le_pow_right (by decide) (show k ≤ 7 by omega)
  have M7 : 3 ^ m ≤ 2187 := Nat.pow_le_pow_right (by decide) (show m ≤ 7 by omega)
  go_enter Try.func21, Try.ntmps21
  go_wp2_with fail
  refine (P1.out _).mono ?_
  rintro e w1 ⟨g, cap, rfl, hO, hb1⟩
  have hM0 := (World.ownsMap_made (H := Unit) (w.alloc (.cells #[.int .i64 a.x0, .int .i64 a.x1, .int .i64 a.x2, .int .i64 a.x3, .int .i64 a.h] 40)) Try.prog 40 hdrR).kept (below_grown hb1) (by simp)
  rw [show (w.alloc (.cells #[.int .i64 a.x0, .int .i64 a.x1, .int .i64 a.x2, .int .i64 a.x3, .int .i64 a.h] 40)).heap.size = w.heap.size + 1 by simp] at hM0
  have hG0 := Lib.hid (GrpAt_begin hM0)
  have hbx : w1.heap[w.heap.size]? = some (.cells #[.int .i64 a.x0, .int .i64 a.x1, .int .i64 a.x2, .int .i64 a.x3, .int .i64 a.h] 40 (0, 0)) := by
    rw [hb1.block w.heap.size (by simp; omega)]
    exact (Below.heap_alloc _ _ _ (by simp)).trans (heap_alloc_new _ _)
  have hl := parts_len sp0 k
  obtain ⟨K, hK⟩ : ∃ K, 3 ^ k = K := ⟨_, rfl⟩
  rw [hK] at hO hl K7 ⊢
  have hok : ∀ p ∈ parts sp0 k, p.1.okB 1000 ∧ p.2.length ≤ 10 := fun p hp => ⟨(parts_ok sp0_ok hp).1.mono (by omega), by rw [(parts_ok sp0_ok hp).2]; omega⟩
  generalize parts sp0 k = l1 at hE hO hl hok
  have hgl := (hO.lt g rfl).1
  simp at hgl
  have hgb : g ≠ w.heap.size + 1 := by omega
  have HP := Lib.hid (prt_of hO hl)
  have HL := Lib.hid hl
  have HOK := Lib.hid hok
  have hsz1 := hb1.size
  simp at hsz1
  have HB1 := Lib.hid (((Below.refl w.heap.size w).alloc (Nat.le_refl _) (.cells #[.int .i64 a.x0, .int .i64 a.x1, .int .i64 a.x2, .int .i64 a.x3, .int .i64 a.h] 40)).alloc (by simp) (.map #[] 0) |>.trans (hb1.mono (by simp; omega)))
  clear hM0 hO hl hok hb1 hK hgl
  go_wp2_with fail
  go_loopw [21] (fun i wr => ∃ j : Nat, j ≤ K ∧ i = .int .i64 j ∧ GrpAt wr (w.heap.size + 1) w1.heap.size j (l1.take j) ∧ w1.grownBy wr (some (w.heap.size + 1))) (fun i _ => K - (intOf i).toNat)
  case atStart => exact ⟨0, Nat.zero_le _, rfl, hG0.out, World.grownBy.refl _ _⟩
  case round =>
    obtain ⟨j, hj, rfl, hG, hgr⟩ := hrel
    by_cases hlt : j < K
    · obtain ⟨p, hp⟩ : ∃ p, l1[j]? = some p := ⟨_, List.getElem?_eq_getElem (by rw [HL.out]; exact hlt)⟩
      obtain ⟨c0, c1, c2, c3, c4, c5⟩ := (HP.out.grown hgr (by simp; omega)) j p hp
      obtain ⟨hpo, hpl⟩ := HOK.out p (List.mem_of_getElem? hp)
      have HTK := Lib.hid (show l1.take (j + 1) = l1.take j ++ [p] by rw [List.take_add_one, hp]; rfl)
      obtain ⟨s, u⟩ := p
      simp only at c0 c1 c2 c3 c4 c5 hpo hpl
      have hwf := wf_of hpo (by decide)
      have hGW := (hG.kept (World.grownBy_alloc wr (.cells #[.int .i64 s.x0, .int .i64 s.x1, .int .i64 s.x2, .int .i64 s.x3, .int .i64 s.h, .string (ofL u)] 66) none) (by simp) (by simp)).kept (World.grownBy_alloc _ (.cells #[.string (ofL u)] 9) none) (by simp) (by simp)
      have hgl := grp_le s (l1.take j)
      rw [List.length_take] at hgl
      obtain ⟨v, st, W1, rE, gE, oE, hE1⟩ := hGW.entry hwf (by unfold maxLen; omega)
      simp only [spV] at rE
      have hnews := news_one (n := wr.heap.size + 1) (by simp) (.string (ofL u)) 9 gE (by simp; have := hgr.size; omega)
      have h2 := grown_row hgr (World.grownBy_alloc wr (.cells #[.int .i64 s.x0, .int .i64 s.x1, .int .i64 s.x2, .int .i64 s.x3, .int .i64 s.h, .string (ofL u)] 66) none) (by simp)
      have h3 := grown_row h2 (World.grownBy_alloc _ (.cells #[.string (ofL u)] 9) none) (by simp)
      have H4 := Lib.hid (grown_row h3 gE (fun k hk => .inr hk))
      have HE1 := Lib.hid hE1
      have HOE := Lib.hid oE
      have hsW : w1.heap.size ≤ W1.heap.size := H4.out.size
      have HLT := Lib.hid (fun k hk => (oE.lt k hk).1)
      clear hp hpo hG hgr hGW hE1 oE gE h2 h3 hwf
      go_wp2_with (first | ((with_reducible refine wpList_mapEntry W1 (.tuple #[v, goInt st]) _ ?_ _ _ ?_ ?_ ?_ rE ?_); rfl; rfl; rfl; rfl) | (at_builtin; refine wpList_append_own_at _ rfl _ _ 37 rfl w1.heap.size 9 i0 (.string ByteArray.empty) 1 16 Try.underlying37 hi iz0 iz1 iz2 rfl (by decide) v _ _ rfl HOE.out ⟨wr.heap.size + 1, 0, none⟩ 1 1 [.string (ofL u)] rfl rfl hnews (by intro u hu; simp at hu; subst hu; rfl) (by unfold maxLen; omega) (by omega) hsW ?_; intro v' w2 hown' hgrow hnil hloc; obtain ⟨w3, r3, hG3, g3⟩ := HE1.out w2 v' u hgrow hown' (hloc.imp Eq.symm id); simp only [goInt] at r3))
      have h5 := grown_row H4.out hgrow (fun k hk => .inl (HLT.out k hk))
      have H6 := Lib.hid (grown_row h5 g3 (fun k hk => .inr hk))
      have HG3 := Lib.hid hG3
      clear h5 hgrow g3 hG3 hown' rE r3 hnews hnil hloc c0 c1 c2 c3 c4 c5
      go_roundw
      case rel => exact ⟨j + 1, by omega, by go_num, by rw [HTK.out]; exact HG3.out, H6.out⟩
      case measure => simp [intOf]; omega
    · obtain rfl : j = K := by omega
      have hta : l1.take j = l1 := List.take_of_length_le (by rw [HL.out]; exact Nat.le_refl _)
      rw [hta] at hG
      have hzw : w.heap.size < w1.heap.size := (Array.getElem?_eq_some_iff.1 hbx).1
      obtain ⟨q0, q1, q2, q3, q4⟩ := blk5 ((hgr.block w.heap.size hzw (by simp)).trans hbx)
      have HBW := Lib.hid (show Below w.heap.size w wr from HB1.out.grown hgr (by omega) (fun k hk => by injection hk with hk; omega))
      have HG := Lib.hid hG
      clear hG hta hgr
      go_wp2_with fail
      refine (P2.out _).mono ?_
      rintro e w5 ⟨g2, cap2, rfl, hO2, hb5⟩
      have hG5 := HG.out.below hb5
      have HB5 := Lib.hid (HBW.out.trans (hb5.mono HBW.out.size))
      have hl2 := parts_len a m
      obtain ⟨M, hM⟩ : ∃ M, 3 ^ m = M := ⟨_, rfl⟩
      rw [hM] at hO2 hl2 M7 hE ⊢
      have hok2 : ∀ p ∈ parts a m, p.1.okB 950000 ∧ p.2.length ≤ 10 := fun p hp => ⟨(parts_ok ha hp).1.mono (by omega), by rw [(parts_ok ha hp).2]; omega⟩
      generalize parts a m = l2 at hE hO2 hl2 hok2
      have hg2 := (hO2.lt g2 rfl).2
      have HP2 := Lib.hid (prt_of hO2 hl2)
      have HL2 := Lib.hid hl2
      have HOK2 := Lib.hid hok2
      have HG5 := Lib.hid hG5
      have hz5 := hb5.size
      clear hO2 hl2 hok2 hG5 hb5 hM q0 q1 q2 q3 q4
      go_wp2_with fail
      go_loopw [8, 41] (fun t i wr => ∃ (j2 : Nat) (v : Value), j2 ≤ M ∧ i = .int .i64 j2 ∧ v = t ∧ wr.ownsRow w5.heap.size 9 1 v (accG l2 l1 j2).length (strV (accG l2 l1 j2)) ∧ Below w5.heap.size w5 wr) (fun _ i _ => M - (intOf i).toNat)
      case atStart => exact ⟨0, _, Nat.zero_le _, rfl, rfl, by simpa [accG, strV] using World.ownsRow_nil _ _ _ _, Below.refl _ _⟩
      case round =>
        obtain ⟨j2, v, hj2, rfl, rfl, hT, hb⟩ := hrel
        have hz6 := hb.size
        have hle := accG_le l2 l1 j2
        rw [HL.out] at hle
        by_cases hlt2 : j2 < M
        · obtain ⟨p, hp⟩ : ∃ p, l2[j2]? = some p := ⟨_, List.getElem?_eq_getElem (by rw [HL2.out]; exact hlt2)⟩
          obtain ⟨c0, c1, c2, c3, c4, c5⟩ := (HP2.out.below hg2 hb) j2 p hp
          obtain ⟨hpo, hpl⟩ := HOK2.out p (List.mem_of_getElem? hp)
          have HNX := Lib.hid (accG_next (l1 := l1) hp)
          obtain ⟨s, u⟩ := p
          simp only at c0 c1 c2 c3 c4 c5 hpo hpl HNX
          obtain ⟨vL, oL, rL⟩ := HG5.out.look (wf_of (wayB_ok hpo) (by decide))
          have hgl := grp_le (wayB s) l1
          rw [HL.out] at hgl
          have hxl : ∀ x ∈ grp (wayB s) l1, x.length ≤ 10 := fun x hx => by
            obtain ⟨p, hp, rfl⟩ := grp_mem hx
            exact (HOK.out p hp).2
          have WB := Lib.hid (wayBack_any s (hpo.mono (by decide)))
          obtain ⟨R, hR⟩ : ∃ R, grp (wayB s) l1 = R := ⟨_, rfl⟩
          rw [hR] at oL hgl hxl HNX
          obtain ⟨Lc, hLc⟩ : ∃ Lc, R.length = Lc := ⟨_, rfl⟩
          rw [hLc] at oL hgl
          obtain ⟨av, cv, rfl⟩ := own_formC oL
          simp only [spV] at rL
          generalize wayB s = q at rL WB
          have HXL := Lib.hid hxl
          have HLC := Lib.hid hLc
          have HRL := Lib.hid rL
          have HT := Lib.hid hT
          have HB := Lib.hid hb
          obtain ⟨wi, rfl⟩ : ∃ wi : World, wi = wr := ⟨_, rfl⟩
          clear hp hpo hR hLc hxl rL hT hb
          go_wp2_with fail
          refine (WB.out _).mono ?_
          rintro e wA ⟨rfl, hA⟩
          have hbk := (hA.block wi.heap.size (by simp)).trans (heap_alloc_new _ _)
          have hA2 := (HB.out.alloc hz6 (.cells #[.int .i64 s.x0, .int .i64 s.x1, .int .i64 s.x2, .int .i64 s.x3, .int .i64 s.h, .string (ofL u)] 66)).trans (hA.mono (by simp; omega))
          have rL := HRL.out wA none (below_grown hA2) (by simp)
          have HT2 := Lib.hid ((HT.out.alloc (.cells #[.int .i64 s.x0, .int .i64 s.x1, .int .i64 s.x2, .int .i64 s.x3, .int .i64 s.h, .string (ofL u)] 66)).kept (below_grown hA) (by cases v.ownBlock <;> simp))
          have HA2 := Lib.hid hA2
          have HBK := Lib.hid hbk
          clear hA hA2 hbk c0 c1 c2 c3 c4 c5
          go_wp2_with fail
          go_loopw [8, 51] (fun t i wr => ∃ (c : Nat) (v : Value), c ≤ Lc ∧ i = .int .i64 c ∧ v = t ∧ wr.ownsRow w5.heap.size 9 1 v (accG l2 l1 j2 ++ (R.take c).map fun x => u ++ x).length (strV (accG l2 l1 j2 ++ (R.take c).map fun x => u ++ x)) ∧ wr.heap[wi.heap.size]? = some (.cells #[.int .i64 s.x0, .int .i64 s.x1, .int .i64 s.x2, .int .i64 s.x3, .int .i64 s.h, .string (ofL u)] 66 (0, 0)) ∧ Below w5.heap.size w5 wr) (fun _ i _ => Lc - (intOf i).toNat)
          case atStart => exact ⟨0, v, Nat.zero_le _, rfl, rfl, by simpa using HT2.out, HBK.out, HA2.out⟩
          case round =>
            obtain ⟨c, v, hc, rfl, rfl, hT, hblk, hb⟩ := hrel
            have hz7 := hb.size
            have hzl := blkLt hblk
            by_cases hlc : c < Lc
            · obtain ⟨x, hx⟩ : ∃ x, R[c]? = some x := ⟨_, List.getElem?_eq_getElem (by rw [HLC.out]; exact hlc)⟩
              have hx10 := HXL.out x (List.mem_of_getElem? hx)
              obtain ⟨gL, rfl⟩ : ∃ gL, av = some ⟨gL, 0, none⟩ := by
                rcases oL.2 with ⟨h, h0⟩ | ⟨gL, capL, _, h, _⟩
                · omega
                · injection h with h; exact ⟨gL, h⟩
              have d0 := (str_of oL HLC.out).below (oL.lt gL rfl).2 hb c x hx
              obtain ⟨e0, e1, e2, e3, e4, e5⟩ := blk6 hblk
              have htk : R.take (c + 1) = R.take c ++ [x] := by rw [List.take_add_one, hx]; rfl
              obtain ⟨T, hT0⟩ : ∃ T, ofL (u ++ x) = T := ⟨_, rfl⟩
              have k1 : ∀ w : World, (Op.stringOp .add (ofL u) (ofL x)).run Try.prog w = .ok (.string T) w := fun w => concat_run (by rw [ofL_append, hT0]) (by rw [ofL_size, ofL_size]; omega) w
              have hlen : (accG l2 l1 j2 ++ (R.take c).map fun x => u ++ x).length ≤ 6000000 := by
                rw [List.length_append, List.length_map, List.length_take]
                have := Nat.mul_le_mul (show j2 ≤ 2187 by omega) (show j ≤ 2187 by omega)
                omega
              have HV := Lib.hid (show (accG l2 l1 j2 ++ (R.take (c + 1)).map fun x => u ++ x) = (accG l2 l1 j2 ++ (R.take c).map fun x => u ++ x) ++ [u ++ x] by rw [htk, List.map_append, ← List.append_assoc]; rfl)
              generalize hA : (accG l2 l1 j2 ++ (R.take c).map fun x => u ++ x) = A at *
              have HT0 := Lib.hid hT0
              have HT := Lib.hid hT
              have HB7 := Lib.hid hb
              have HK := Lib.hid hblk
              have hnb := own_blkC (hT.alloc (.cells #[.string T] 9)) ((Below.heap_alloc wr (.cells #[.string T] 9) _ hzl).trans hblk) (by decide)
              clear hx hT hblk hb htk hT0 hA
              go_wp2_with (at_builtin; refine wpList_append_own_at _ rfl _ _ 37 rfl w5.heap.size 9 i0 (.string ByteArray.empty) 1 16 Try.underlying37 hi iz0 iz1 iz2 rfl (by decide) v _ _ rfl (HT.out.alloc _) ⟨wr.heap.size, 0, none⟩ 1 1 [.string T] rfl rfl (cell_one_new _ _ _) (by intro u hu; simp at hu; subst hu; rfl) (by unfold maxLen; omega) (by omega) (by simp; omega) ?_; intro v' w2 hown' hgrow hnil hloc)
              have hlt' := (HT.out.alloc (.cells #[.string T] 9)).lt
              have HB8 := Lib.hid ((HB7.out.alloc hz7 (.cells #[.string T] 9)).grown hgrow (by simp; omega) (fun k hk => (hlt' k hk).1))
              have HK8 := Lib.hid ((hgrow.block wi.heap.size (by simp; omega) hnb).trans ((Below.heap_alloc wr (.cells #[.string T] 9) _ hzl).trans HK.out))
              have HO8 := Lib.hid hown'
              clear hlt' hgrow hown' hnil hloc hnb
              go_roundw
              case rel => exact ⟨c + 1, v', by omega, by go_num, rfl, by rw [HV.out, strV_append, List.length_append]; simp only [strV, List.map_cons, List.map_nil, HT0.out]; exact HO8.out, HK8.out, HB8.out⟩
              case measure => simp [intOf]; omega
            · obtain rfl : c = Lc := by omega
              have hta : R.take c = R := List.take_of_length_le (by rw [HLC.out]; exact Nat.le_refl _)
              rw [hta] at hT
              have HT := Lib.hid hT
              have HB7 := Lib.hid hb
              clear hT hb hblk hta
              go_wp2_with fail
              go_roundw
              case rel => exact ⟨j2 + 1, v, by omega, by go_num, rfl, by rw [HNX.out]; exact HT.out, HB7.out⟩
              case measure => simp [intOf]; omega
        · obtain rfl : j2 = M := by omega
          have hT2 := own_lessP hT HB5.out.size
          rw [hE.out] at hT2
          have HT2 := Lib.hid hT2
          have HB6 := Lib.hid (HB5.out.trans (hb.mono HB5.out.size))
          clear hT hb hT2
          go_wp2_with fail
          go_ret
          exact ⟨_, rfl, HT2.out, HB6.out⟩

end Go.Proofs.Ytadlkmfgjmcgeab
