/- Contract: the model's tkLay. -/
import Derived.Test.YtppbbcckijcckaaTkL
import Derived.Test.YtppbbcckijcckaaStM
import Derived.Test.YtppbbcckijcckaaPtSp
import Derived.Laws.AppendOwn
import Derived.Laws.OwnMore
import Derived.Deep.AppendLies
namespace Go.Proofs.Ytppbbcckijcckaa
open Go.ChangeShapes Go.WideShapes Go.ChangeAt Go.RowKit

set_option linter.unusedVariables false
set_option linter.unusedSimpArgs false

theorem ptInfo : (Try.prog.info? 26).map (fun i => (i.zero, i.size, i.bytes)) = some (some (.agg #[.int .i64 0, .int .i64 0, .int .i64 0, .int .i64 0]), 4, 32) := by kernel_rfl

theorem nmInfo : (Try.prog.info? 3).map (fun i => (i.zero, i.size, i.bytes)) = some (some (.int .i64 0), 1, 8) := by kernel_rfl

theorem own_belowL {W w1 : World} {B : Nat} {e : TypeId} {size n : Nat} {v : Value} {xs : List Value} (h : W.ownsRow B e size v n xs) (hb : Below W.heap.size W w1) : w1.ownsRow B e size v n xs :=
  h.kept (row := none) ⟨hb.os, hb.tape, hb.output, hb.size, fun k hk _ => hb.block k hk⟩ (by cases v.ownBlock <;> simp)

theorem own_setL {W : World} {B : Nat} {e : TypeId} {size n : Nat} {v : Value} {xs : List Value} (h : W.ownsRow B e size v n xs) (p : Addr) (u : Value) (hp : p.block < B) : (W.setCell p u).ownsRow B e size v n xs :=
  h.kept (row := some p.block) ⟨rfl, rfl, rfl, by simp [World.setCell], fun k _ hk => Below.heap_setCell _ _ _ _ (fun e => hk (by simp [e]))⟩ (by
    by_cases hv : v.ownBlock = some p.block
    · have := (h.lt _ hv).1; omega
    · exact .inr hv)

theorem own_ne {W : World} {B : Nat} {e e' : TypeId} {size size' n n' : Nat} {v v' : Value} {xs xs' : List Value} (h : W.ownsRow B e size v n xs) (h' : W.ownsRow B e' size' v' n' xs') (hne : e ≠ e') : v.ownBlock = none ∨ v.ownBlock ≠ v'.ownBlock := by
  rcases h.2 with ⟨rfl, _⟩ | ⟨g, cap, cur, rfl, _, hg, _⟩
  · exact .inl rfl
  · refine .inr fun he => ?_
    rcases h'.2 with ⟨rfl, _⟩ | ⟨g', cap', cur', rfl, _, hg', _⟩
    · cases he
    · simp only [Value.ownBlock, Option.some.injEq] at he
      subst he
      rw [hg] at hg'
      simp only [Option.some.injEq, Obj.cells.injEq] at hg'
      exact hne hg'.2.1

theorem blk_set {W : World} {g : Nat} {t : TypeId} {a0 a1 a2 a3 : Value} (h : W.heap[g]? = some (.cells #[a0, a1, a2, a3] t (0, 0))) (b0 b1 b2 b3 : Value) :
    ((((W.setCell ⟨g, 0, none⟩ b0).setCell ⟨g, 1, none⟩ b1).setCell ⟨g, 2, none⟩ b2).setCell ⟨g, 3, none⟩ b3).heap[g]? = some (.cells #[b0, b1, b2, b3] t (0, 0)) := by
  simp [World.setCell, Array.getElem?_modify, h]

theorem blk_cells {W : World} {g : Nat} {t : TypeId} {a0 a1 a2 a3 : Value} (h : W.heap[g]? = some (.cells #[a0, a1, a2, a3] t (0, 0))) :
    W.cell? ⟨g, 0, none⟩ = some a0 ∧ W.cell? ⟨g, 1, none⟩ = some a1 ∧ W.cell? ⟨g, 2, none⟩ = some a2 ∧ W.cell? ⟨g, 3, none⟩ = some a3 := by
  simp [World.cell?, h]

theorem blk_free {W : World} {g : Nat} {t : TypeId} {a0 a1 a2 a3 : Value} (h : W.heap[g]? = some (.cells #[a0, a1, a2, a3] t (0, 0))) :
    W.frozen? ⟨g, 0, none⟩ = false ∧ W.frozen? ⟨g, 1, none⟩ = false ∧ W.frozen? ⟨g, 2, none⟩ = false ∧ W.frozen? ⟨g, 3, none⟩ = false := by
  simp [World.frozen?, h]

theorem blk_lt {W : World} {g : Nat} {o : Obj} (h : W.heap[g]? = some o) : g < W.heap.size := (Array.getElem?_eq_some_iff.1 h).1

theorem spAddP (x0 x1 x2 x3 y0 y1 y2 y3 : Int) (px0 : -9000000 ≤ x0) (qx0 : x0 ≤ 9000000) (px1 : -9000000 ≤ x1) (qx1 : x1 ≤ 9000000) (px2 : -9000000 ≤ x2) (qx2 : x2 ≤ 9000000) (px3 : -9000000 ≤ x3) (qx3 : x3 ≤ 9000000) (py0 : -9000000 ≤ y0) (qy0 : y0 ≤ 9000000) (py1 : -9000000 ≤ y1) (qy1 : y1 ≤ 9000000) (py2 : -9000000 ≤ y2) (qy2 : y2 ≤ 9000000) (py3 : -9000000 ≤ y3) (qy3 : y3 ≤ 9000000) (w : World) :
    Calls Try.prog 132 #[.agg #[.int .i64 x0, .int .i64 x1, .int .i64 x2, .int .i64 x3], .agg #[.int .i64 y0, .int .i64 y1, .int .i64 y2, .int .i64 y3]] w fun e w' => e = .returned (.agg #[.int .i64 (x0 + y0), .int .i64 (x1 + y1), .int .i64 (x2 + y2), .int .i64 (x3 + y3)]) ∧ Below w.heap.size w w' :=
  (spAdd_any x0 x1 x2 x3 y0 y1 y2 y3 w).mono fun e w' ⟨h, hb⟩ => ⟨by rw [h, w64s (x0 + y0) (by omega) (by omega), w64s (x1 + y1) (by omega) (by omega), w64s (x2 + y2) (by omega) (by omega), w64s (x3 + y3) (by omega) (by omega)], hb⟩

def hdCells (l : List Sp) : List Value := l.map fun s => .int .i64 s.h

theorem hdCells_append (l m : List Sp) : hdCells (l ++ m) = hdCells l ++ hdCells m := by simp [hdCells]

theorem hdCells_length (l : List Sp) : (hdCells l).length = l.length := by simp [hdCells]

theorem layT (a : Sp) (s : ByteArray) (k : Nat) (hk : k < s.size) (c : UInt8) (hc : s[k] = c) : lays a (s.data.toList.take (k + 1)) = lays a (s.data.toList.take k) ++ [(fin a (s.data.toList.take k)).next c] := by
  rw [take_snoc s k hk, lays_snoc, hc]

theorem finT (a : Sp) (s : ByteArray) (k : Nat) (hk : k < s.size) (c : UInt8) (hc : s[k] = c) : fin a (s.data.toList.take (k + 1)) = (fin a (s.data.toList.take k)).next c := by
  rw [take_snoc s k hk, fin_snoc, hc]

def LayPost (a : Sp) (s : ByteArray) (w : World) (e : Ending) (w' : World) : Prop :=
  ∃ gj cj gh ch, e = .returned (.tuple #[.slice (some ⟨gj, 0, none⟩) (s.size + 1) cj, .slice (some ⟨gh, 0, none⟩) (s.size + 1) ch]) ∧
    w'.ownsRow (w.heap.size + 1) 26 4 (.slice (some ⟨gj, 0, none⟩) (s.size + 1) cj) (s.size + 1) (ptCells (lays a s.data.toList)) ∧
    w'.ownsRow (w.heap.size + 1) 3 1 (.slice (some ⟨gh, 0, none⟩) (s.size + 1) ch) (s.size + 1) (hdCells (lays a s.data.toList)) ∧ Below w.heap.size w w'

def LayRel (a : Sp) (s : ByteArray) (w : World) (h vj vh i : Value) (wr : World) : Prop :=
  ∃ (k gj cj gh ch : Nat), k ≤ s.size ∧ i = .int .i64 k ∧ h = .int .i64 (fin a (s.data.toList.take k)).h ∧ vj = .slice (some ⟨gj, 0, none⟩) (k + 1) cj ∧ vh = .slice (some ⟨gh, 0, none⟩) (k + 1) ch ∧
    wr.ownsRow (w.heap.size + 1) 26 4 (.slice (some ⟨gj, 0, none⟩) (k + 1) cj) (k + 1) (ptCells (lays a (s.data.toList.take k))) ∧
    wr.ownsRow (w.heap.size + 1) 3 1 (.slice (some ⟨gh, 0, none⟩) (k + 1) ch) (k + 1) (hdCells (lays a (s.data.toList.take k))) ∧
    wr.heap[w.heap.size]? = some (.cells #[.int .i64 (fin a (s.data.toList.take k)).x0, .int .i64 (fin a (s.data.toList.take k)).x1, .int .i64 (fin a (s.data.toList.take k)).x2, .int .i64 (fin a (s.data.toList.take k)).x3] 26 (0, 0)) ∧ Below w.heap.size w wr

theorem ptStep_any (c : UInt8) (hp : pcb c = true) (h : Int) (h0 : 0 ≤ h) (h7 : h ≤ 7) (w : World) :
    Calls Try.prog 150 #[.int .u8 ((c.toNat : Nat) : Int), .int .i64 h] w fun e w' => e = .returned (.tuple #[.agg #[.int .i64 (dd0 c h), .int .i64 (dd1 c h), .int .i64 (dd2 c h), .int .i64 (dd3 c h)], .int .i64 (nh c h)]) ∧ Below w.heap.size w w' := by
  rcases pcb_cases hp with rfl | rfl | rfl
  · exact ptStep_S h h0 h7 w
  · exact ptStep_L h h0 h7 w
  · exact ptStep_R h h0 h7 w

theorem litCells {W : World} {B n : Nat} {e : TypeId} {size : Nat} {cs : Array Value} {xs : List Value} (hn : W.heap.size = n) (hb : B ≤ n) (hs : cs.size = size) (hx : cs.toList = xs) : (W.alloc (.cells cs e)).ownsRow B e size (.slice (some ⟨n, 0, none⟩) 1 1) 1 xs := by
  subst hn hx
  exact World.ownsRow_lit W cs 1 hb (by decide) (by omega)

theorem newc {W : World} {cs : Array Value} {e : TypeId} {n : Nat} (hn : W.heap.size = n) : ∀ (j : Nat) u, cs.toList[j]? = some u → (W.alloc (.cells cs e)).cell? ((⟨n, 0, none⟩ : Addr).add j) = some u := by
  subst hn
  intro j u hu
  have h := Lib.cell_of_heap (heap_alloc_new W (.cells cs e)) j
  have ha : ((⟨W.heap.size, 0, none⟩ : Addr).add j) = ⟨W.heap.size, j, none⟩ := by by_cases e : j = 0 <;> simp [Addr.add, e]
  rw [ha, h, ← hu]
  simp

set_option maxRecDepth 100000 in
set_option maxHeartbeats 3200000 in
theorem tkLay_any (s : ByteArray) (ht : tkB s = true) (a : Sp) (hn : a.okB 1000000) (w : World) :
    Calls Try.prog 116 #[.string s, .agg #[.int .i64 a.x0, .int .i64 a.x1, .int .i64 a.x2, .int .i64 a.x3], .int .i64 a.h] w (LayPost a s w) := by
  have h40 := tkB_size ht
  have hs : s.size ≤ 1048576 := by omega
  have HT := Lib.hid (fun k hk => tkB_at ht (k := k) hk)
  have HK := Lib.hid hn
  obtain ⟨i0, hi, iz0, iz1, iz2⟩ := info_parts ptInfo
  obtain ⟨j0, ji, jz0, jz1, jz2⟩ := info_parts nmInfo
  clear hn
  go_enter Try.func116, Try.ntmps116
  go_wp2_with fail
  go_loopw [2, 8, 9, 10] (fun h vj vh i wr => LayRel a s w h vj vh i wr) (fun _ _ _ i _ => s.size - (intOf i).toNat)
  case atStart =>
    refine ⟨0, w.heap.size + 1, 1, w.heap.size + 1 + 1, 1, Nat.zero_le _, rfl, rfl, rfl, rfl, ?_, ?_, ?_, by go_grown⟩
    · exact (litCells (by simp) (Nat.le_refl _) rfl rfl).alloc _
    · exact litCells (by simp) (Nat.le_succ _) rfl rfl
    · rw [Below.heap_alloc _ _ _ (by simp; omega), Below.heap_alloc _ _ _ (by simp)]
      exact heap_alloc_new w _
  case round =>
    obtain ⟨k, gj, cj, gh, ch, hk, rfl, rfl, rfl, rfl, hJ, hH, hblk, hb⟩ := hrel
    have hz : w.heap.size ≤ wr.heap.size := hb.size
    by_cases hlt : k < s.size
    · have hp := HT.out k hlt
      have hok := fin_ok HK.out (s.data.toList.take k)
      have hl : (s.data.toList.take k).length ≤ 40 := by rw [List.length_take, size_list]; omega
      have hN := layT a s k hlt _ rfl
      have hF := finT a s k hlt _ rfl
      generalize fin a (s.data.toList.take k) = p at hN hF hok hblk
      obtain ⟨x0, x1, x2, x3, h⟩ := p
      simp only [Sp.okB] at hok
      obtain ⟨⟨b0, b0'⟩, ⟨b1, b1'⟩, ⟨b2, b2'⟩, ⟨b3, b3'⟩, b4, b5⟩ := hok
      have hstep := ptStep_any s[k] hp h b4 b5 wr
      have e0 := dd_bd0 s[k] h
      have e1 := dd_bd1 s[k] h
      have e2 := dd_bd2 s[k] h
      have e3 := dd_bd3 s[k] h
      have hnx : (Sp.mk x0 x1 x2 x3 h).next s[k] = ⟨x0 + dd0 s[k] h, x1 + dd1 s[k] h, x2 + dd2 s[k] h, x3 + dd3 s[k] h, nh s[k] h⟩ := rfl
      rw [hnx] at hN hF
      clear hnx
      generalize dd0 s[k] h = d0 at hN hF hstep e0
      generalize dd1 s[k] h = d1 at hN hF hstep e1
      generalize dd2 s[k] h = d2 at hN hF hstep e2
      generalize dd3 s[k] h = d3 at hN hF hstep e3
      generalize nh s[k] h = t at hN hF hstep
      obtain ⟨e0, e0'⟩ := e0
      obtain ⟨e1, e1'⟩ := e1
      obtain ⟨e2, e2'⟩ := e2
      obtain ⟨e3, e3'⟩ := e3
      have HST := Lib.hid hstep
      have HN := Lib.hid hN
      have HF := Lib.hid hF
      have hzl := blk_lt hblk
      have HJ := Lib.hid hJ
      have HH := Lib.hid hH
      have HB := Lib.hid hb
      have HBK := Lib.hid hblk
      clear hJ hH hb hblk hN hF hstep hp
      go_wp2_with fail
      refine HST.out.mono ?_
      rintro e w1 ⟨rfl, hb1⟩
      have hz1 : wr.heap.size ≤ w1.heap.size := hb1.size
      have hzl1 : w.heap.size < w1.heap.size := by omega
      have HJ1 := Lib.hid (own_belowL HJ.out hb1)
      have HH1 := Lib.hid (own_belowL HH.out hb1)
      have hbk1 := (hb1.block _ hzl).trans HBK.out
      have HB1 := Lib.hid (HB.out.trans (hb1.mono hz))
      obtain ⟨c0, c1, c2, c3⟩ := blk_cells hbk1
      have HBK1 := Lib.hid hbk1
      clear hbk1 hb1
      go_wp2_with fail
      refine (spAddP x0 x1 x2 x3 d0 d1 d2 d3 (by omega) (by omega) (by omega) (by omega) (by omega) (by omega) (by omega) (by omega) (by omega) (by omega) (by omega) (by omega) (by omega) (by omega) (by omega) (by omega) _).mono ?_
      rintro e w2 ⟨rfl, hb2⟩
      have hz2' : w1.heap.size + 1 ≤ w2.heap.size := by have := hb2.size; simpa using this
      have hzl2 : w.heap.size < w2.heap.size := by omega
      have HJ2 := Lib.hid (own_belowL (HJ1.out.alloc _) hb2)
      have HH2 := Lib.hid (own_belowL (HH1.out.alloc _) hb2)
      have hbk2 := (hb2.block w.heap.size (by simp; omega)).trans ((Below.heap_alloc _ _ _ hzl1).trans HBK1.out)
      have HB2 := Lib.hid ((HB1.out.alloc (by omega) _).trans (hb2.mono (by simp; omega)))
      clear c0 c1 c2 c3 hb2
      obtain ⟨c0, c1, c2, c3⟩ := blk_cells hbk2
      obtain ⟨f0, f1, f2, f3⟩ := blk_free hbk2
      have HBK2 := Lib.hid (blk_set hbk2 (.int .i64 (x0 + d0)) (.int .i64 (x1 + d1)) (.int .i64 (x2 + d2)) (.int .i64 (x3 + d3)))
      clear hbk2
      have HJ3 := Lib.hid (own_setL (own_setL (own_setL (own_setL HJ2.out ⟨w.heap.size, 0, none⟩ (.int .i64 (x0 + d0)) (by simp)) ⟨w.heap.size, 1, none⟩ (.int .i64 (x1 + d1)) (by simp)) ⟨w.heap.size, 2, none⟩ (.int .i64 (x2 + d2)) (by simp)) ⟨w.heap.size, 3, none⟩ (.int .i64 (x3 + d3)) (by simp))
      have HH3 := Lib.hid (own_setL (own_setL (own_setL (own_setL HH2.out ⟨w.heap.size, 0, none⟩ (.int .i64 (x0 + d0)) (by simp)) ⟨w.heap.size, 1, none⟩ (.int .i64 (x1 + d1)) (by simp)) ⟨w.heap.size, 2, none⟩ (.int .i64 (x2 + d2)) (by simp)) ⟨w.heap.size, 3, none⟩ (.int .i64 (x3 + d3)) (by simp))
      have HB3 := Lib.hid ((((HB2.out.setCell (p := ⟨w.heap.size, 0, none⟩) (Nat.le_refl _) (.int .i64 (x0 + d0))).setCell (p := ⟨w.heap.size, 1, none⟩) (Nat.le_refl _) (.int .i64 (x1 + d1))).setCell (p := ⟨w.heap.size, 2, none⟩) (Nat.le_refl _) (.int .i64 (x2 + d2))).setCell (p := ⟨w.heap.size, 3, none⟩) (Nat.le_refl _) (.int .i64 (x3 + d3)))
      go_wp2_with (at_builtin; refine wpList_append_own _ rfl _ _ 47 rfl (w.heap.size + 1) 26 i0 (.agg #[.int .i64 0, .int .i64 0, .int .i64 0, .int .i64 0]) 4 32 Try.underlying47 hi iz0 iz1 iz2 rfl (by decide) _ _ _ rfl (HJ3.out.alloc _) ⟨w2.heap.size, 0, none⟩ 1 1 [.int .i64 (x0 + d0), .int .i64 (x1 + d1), .int .i64 (x2 + d2), .int .i64 (x3 + d3)] rfl rfl ?c1 ?c2 ?c3 ?c4 ?c5 ?_)
      case c1 => exact newc (by simp [World.setCell])
      case c2 => intro u hu; simp at hu; rcases hu with rfl | rfl | rfl | rfl <;> rfl
      case c3 => unfold maxLen; omega
      case c4 => omega
      case c5 => simp; omega
      intro v' w3 hJ3 hg3 _
      have HJA := Lib.hid (HJ3.out.alloc (.cells #[.int .i64 (x0 + d0), .int .i64 (x1 + d1), .int .i64 (x2 + d2), .int .i64 (x3 + d3)] 26))
      have HHA := Lib.hid (HH3.out.alloc (.cells #[.int .i64 (x0 + d0), .int .i64 (x1 + d1), .int .i64 (x2 + d2), .int .i64 (x3 + d3)] 26))
      have hne : some w.heap.size ≠ (Value.slice (some ⟨gj, 0, none⟩) (k + 1) cj).ownBlock := fun e => by
        have := (HJA.out.lt _ e.symm).1
        omega
      have hz3 : w2.heap.size + 1 ≤ w3.heap.size := by have := hg3.size; simpa [World.setCell] using this
      have HH4 := Lib.hid (HHA.out.kept hg3 (own_ne HHA.out HJA.out (by decide)))
      have hbk3 := (hg3.block w.heap.size (by simp [World.setCell]; omega) hne).trans ((Below.heap_alloc _ _ _ (by simp [World.setCell]; omega)).trans HBK2.out)
      have HBK3 := Lib.hid hbk3
      have HB4 := Lib.hid ((HB3.out.alloc (by simp [World.setCell]; omega) (.cells #[.int .i64 (x0 + d0), .int .i64 (x1 + d1), .int .i64 (x2 + d2), .int .i64 (x3 + d3)] 26)).grown hg3 (by simp [World.setCell]; omega) (fun k hk => by have := (HJA.out.lt k hk).1; omega))
      obtain ⟨gj', cj', rfl, _⟩ := hJ3.form (by omega)
      have HJ4 := Lib.hid hJ3
      clear hJ3 hg3 hne hbk3 c0 c1 c2 c3 f0 f1 f2 f3
      go_wp2_with (at_builtin; refine wpList_append_own _ rfl _ _ 98 rfl (w.heap.size + 1) 3 j0 (.int .i64 0) 1 8 Try.underlying98 ji jz0 jz1 jz2 rfl (by decide) _ _ _ rfl (HH4.out.alloc _) ⟨w3.heap.size, 0, none⟩ 1 1 [.int .i64 t] rfl rfl ?c1 ?c2 ?c3 ?c4 ?c5 ?_)
      case c1 => exact newc rfl
      case c2 => intro u hu; simp at hu; subst hu; rfl
      case c3 => unfold maxLen; omega
      case c4 => omega
      case c5 => simp; omega
      intro v'' w4 hH5 hg4 _
      have HJB := Lib.hid (HJ4.out.alloc (.cells #[.int .i64 t] 3))
      have HHB := Lib.hid (HH4.out.alloc (.cells #[.int .i64 t] 3))
      have hne : some w.heap.size ≠ (Value.slice (some ⟨gh, 0, none⟩) (k + 1) ch).ownBlock := fun e => by
        have := (HHB.out.lt _ e.symm).1
        omega
      have HJ6 := Lib.hid (HJB.out.kept hg4 (own_ne HJB.out HHB.out (by decide)))
      have HBK4 := Lib.hid ((hg4.block w.heap.size (by simp; omega) hne).trans ((Below.heap_alloc _ _ _ (by omega)).trans HBK3.out))
      have HB5 := Lib.hid ((HB4.out.alloc (by omega) (.cells #[.int .i64 t] 3)).grown hg4 (by simp; omega) (fun k hk => by have := (HHB.out.lt k hk).1; omega))
      obtain ⟨gh', ch', rfl, _⟩ := hH5.form (by omega)
      have HH6 := Lib.hid hH5
      clear hH5 hg4 hne
      go_wp2_with fail
      go_roundw
      case rel => exact ⟨k + 1, gj', cj', gh', ch', by omega, by go_num, by rw [HF.out], rfl, rfl, by rw [HN.out, ptCells_append]; exact HJ6.out, by rw [HN.out, hdCells_append]; exact HH6.out, by rw [HF.out]; exact HBK4.out, HB5.out⟩
      case measure => simp [intOf]; omega
    · obtain rfl : k = s.size := by omega
      have hE := take_all s hlt
      rw [hE] at hJ hH
      have HJ := Lib.hid hJ
      have HH := Lib.hid hH
      have HB := Lib.hid hb
      clear hJ hH hb hE hblk
      go_wp2_with fail
      go_ret2
      exact ⟨gj, cj, gh, ch, rfl, HJ.out, HH.out, HB.out⟩

end Go.Proofs.Ytppbbcckijcckaa
