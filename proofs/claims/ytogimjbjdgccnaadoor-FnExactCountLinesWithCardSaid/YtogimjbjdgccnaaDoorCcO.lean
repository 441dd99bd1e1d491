/- Contract of the program: a line laid in blocks. -/
import Derived.Test.YtogimjbjdgccnaaDoorLnG
import Derived.Test.YtogimjbjdgccnaaDoorCrS
import Derived.Deep.AppendLies
import Derived.Maps.AppendAt
namespace Go.Proofs.YtogimjbjdgccnaaDoor
open Go.Conc Go.ChangeShapes Go.WideShapes Go.ChangeAt Go.RowKit
open Ln

set_option linter.unusedVariables false

theorem blInfo : (Tryd.prog.info? 87).map (fun i => (i.zero, i.size, i.bytes)) = some (some (.chan none), 1, 8) := by kernel_rfl

theorem trInfo : (Tryd.prog.info? 89).map (fun i => (i.zero, i.size, i.bytes)) = some (some (.agg #[]), 0, 0) := by kernel_rfl

set_option maxRecDepth 100000 in
theorem mkChan (w : World) : (Instr.makeChan 87 (.int .i64 1)).run Tryd.prog w = .ok (.chan (some w.heap.size)) (w.alloc (.chan 1 #[] false 0 0 false)) := by
  obtain ⟨i, hi, _, _, hb⟩ := info_parts trInfo
  simpa using run_makeChan (P := Tryd.prog) (w := w) Tryd.underlying87 hi .i64 1 (by omega) (by rw [hb]; omega)

theorem own_slice {W : World} {B : Nat} {e : TypeId} {size n : Nat} {v : Value} {xs : List Value} (h : W.ownsRow B e size v n xs) : ∃ ao n' cap, v = .slice ao n' cap := by
  rcases h.2 with ⟨hv, _⟩ | ⟨g, cap, cur, hv, _⟩
  · exact ⟨_, _, _, hv⟩
  · exact ⟨_, _, _, hv⟩

/-- k channels made, in a struct at q. -/
structure Bld (w : World) (q k s : Nat) (cs : List Nat) (l : List UInt8) (wr : World) : Prop where
  len : cs.length = k
  ch : ∀ (i : Nat) c, cs[i]? = some c → ∃ s r, wr.heap[c]? = some (Obj.chan 1 (bufOf (tr l i)) false s r false)
  dis : ∀ (i j : Nat) c, cs[i]? = some c → cs[j]? = some c → i = j
  at' : ∀ (i : Nat) c, cs[i]? = some c → q < c ∧ c < wr.heap.size
  row : ∃ v, wr.cell? ⟨q, 0, none⟩ = some v ∧ wr.ownsRow (q + 1) 87 1 v k (cs.map fun c => Value.chan (some c))
  c1 : wr.cell? ⟨q, 1, none⟩ = some (.int .i64 s)
  f0 : wr.frozen? ⟨q, 0, none⟩ = false
  lt : q < wr.heap.size
  low : Below q w wr

theorem Bld.next {w wr Wc W4 : World} {q k s : Nat} {cs : List Nat} {l : List UInt8} (h : Bld w q k s cs l wr) {v v' : Value} (hv : wr.cell? ⟨q, 0, none⟩ = some v) (hown : wr.ownsRow (q + 1) 87 1 v k (cs.map fun c => Value.chan (some c)))
    (hsz : wr.heap.size < Wc.heap.size) (hcc : ∃ s r, Wc.heap[wr.heap.size]? = some (Obj.chan 1 (bufOf (tr l k)) false s r false)) (hold : ∀ j, j < wr.heap.size → Wc.heap[j]? = wr.heap[j]?) (hB : Below q w Wc)
    (o : Obj) (hown' : W4.ownsRow (q + 1) 87 1 v' (k + 1) (cs.map (fun c => Value.chan (some c)) ++ [Value.chan (some wr.heap.size)])) (hgr : (Wc.alloc o).grownBy W4 v.ownBlock) :
    Bld w q (k + 1) s (cs ++ [wr.heap.size]) l (W4.setCell ⟨q, 0, none⟩ v') := by
  have hq := h.lt
  have hnew : ∀ j, j < Wc.heap.size → some j ≠ v.ownBlock → W4.heap[j]? = Wc.heap[j]? := fun j hj hn => by
    rw [hgr.block j (by simp; omega) hn, Below.heap_alloc _ _ _ hj]
  have hset : ∀ j, j ≠ q → (W4.setCell ⟨q, 0, none⟩ v').heap[j]? = W4.heap[j]? := fun j hj => by
    simp [World.setCell, Array.getElem?_modify, Ne.symm hj]
  have hgq : some q ≠ v.ownBlock := fun e => by have := (hown.lt q e.symm).1; omega
  have hgc : ∀ (i : Nat) c, cs[i]? = some c → some c ≠ v.ownBlock := fun i c hc e => by
    obtain ⟨s1, r1, hh⟩ := h.ch i c hc
    rcases hown.2 with ⟨rfl, _⟩ | ⟨g, cap, cur, rfl, _, hg, _⟩
    · cases e
    · simp only [Value.ownBlock, Option.some.injEq] at e
      subst e
      rw [hh] at hg
      cases hg
  have hgn : some wr.heap.size ≠ v.ownBlock := fun e => by have := (hown.lt _ e.symm).2; omega
  have hcell : ∀ o, W4.cell? ⟨q, o, none⟩ = wr.cell? ⟨q, o, none⟩ := fun o => by
    simp only [World.cell?, hnew q (by omega) hgq, hold q hq]
  have hsize : Wc.heap.size ≤ W4.heap.size := by have := hgr.size; simp at this; omega
  have hget : ∀ (i : Nat) c, (cs ++ [wr.heap.size])[i]? = some c → (i < k ∧ cs[i]? = some c) ∨ (i = k ∧ c = wr.heap.size) := fun i c hc => by
    rw [List.getElem?_append, h.len] at hc
    split at hc
    · left; exact ⟨by assumption, hc⟩
    · right
      rw [List.getElem?_singleton] at hc
      split at hc
      · injection hc with hc; exact ⟨by omega, hc.symm⟩
      · cases hc
  refine ⟨by simp [h.len], fun i c hc => ?_, fun i j c hi hj => ?_, fun i c hc => ?_, ⟨v', ?_, ?_⟩, ?_, ?_, by simp; omega, ?_⟩
  · rcases hget i c hc with ⟨hi, hc⟩ | ⟨rfl, rfl⟩
    · obtain ⟨a1, a2⟩ := h.at' i c hc
      rw [hset c (by omega), hnew c (by omega) (hgc i c hc), hold c a2]
      exact h.ch i c hc
    · rw [hset _ (by omega), hnew _ (by omega) hgn]
      exact hcc
  · rcases hget i c hi with ⟨h1, h2⟩ | ⟨h1, h2⟩ <;> rcases hget j c hj with ⟨k1, k2⟩ | ⟨k1, k2⟩
    · exact h.dis i j c h2 k2
    · have := (h.at' i c h2).2; omega
    · have := (h.at' j c k2).2; omega
    · omega
  · rcases hget i c hc with ⟨hi, hc⟩ | ⟨rfl, rfl⟩
    · have := h.at' i c hc; exact ⟨this.1, by simp; omega⟩
    · exact ⟨hq, by simp; omega⟩
  · rw [World.cell?_setCell_same (h := (hcell 0).trans hv)]
  · rw [List.map_append]
    exact row_same hown' fun j hj _ => hset j (by omega)
  · rw [World.cell?_setCell_other (h := by simp), hcell 1]; exact h.c1
  · rw [World.frozen?_setCell]
    have : W4.frozen? ⟨q, 0, none⟩ = wr.frozen? ⟨q, 0, none⟩ := by simp only [World.frozen?, hnew q (by omega) hgq, hold q hq]
    rw [this]; exact h.f0
  · have hb : Below q w W4 := by
      have := (hB.alloc (show q ≤ Wc.heap.size by omega) o)
      exact this.grown hgr (by simp; omega) (fun j hj => by have := (hown.lt j hj).1; omega)
    exact hb.setCell (p := ⟨q, 0, none⟩) (Nat.le_refl q) v'

theorem Bld.stored {w wr Wc W4 : World} {q k s : Nat} {cs : List Nat} {l : List UInt8} (h : Bld w q k s cs l wr) {v v' : Value} (hv : wr.cell? ⟨q, 0, none⟩ = some v) (hown : wr.ownsRow (q + 1) 87 1 v k (cs.map fun c => Value.chan (some c)))
    (hsz : wr.heap.size < Wc.heap.size) (hcc : ∃ s r, Wc.heap[wr.heap.size]? = some (Obj.chan 1 (bufOf (tr l k)) false s r false)) (hold : ∀ j, j < wr.heap.size → Wc.heap[j]? = wr.heap[j]?) (hB : Below q w Wc)
    (o : Obj) (hown' : W4.ownsRow (q + 1) 87 1 v' (k + 1) (cs.map (fun c => Value.chan (some c)) ++ [Value.chan (some wr.heap.size)])) (hgr : (Wc.alloc o).grownBy W4 v.ownBlock) :
    W4.cell? ⟨q, 0, none⟩ = some v ∧ W4.frozen? ⟨q, 0, none⟩ = false ∧ Bld w q (k + 1) s (cs ++ [wr.heap.size]) l (W4.setCell ⟨q, 0, none⟩ v') := by
  have hq := h.lt
  have hgq : some q ≠ v.ownBlock := fun e => by have := (hown.lt q e.symm).1; omega
  have e : W4.heap[q]? = wr.heap[q]? := by rw [hgr.block q (by simp; omega) hgq, Below.heap_alloc _ _ _ (show q < Wc.heap.size by omega), hold q hq]
  refine ⟨?_, ?_, h.next hv hown hsz hcc hold hB o hown' hgr⟩
  · simp only [World.cell?, e] at hv ⊢; exact hv
  · have := h.f0
    simp only [World.frozen?, e] at this ⊢; exact this

theorem cell_new1 (w : World) (x : Value) (e : TypeId) : ∀ (j : Nat) u, [x][j]? = some u → (w.alloc (.cells #[x] e)).cell? ((⟨w.heap.size, 0, none⟩ : Addr).add j) = some u := by
  intro j u hj
  obtain ⟨hj1, rfl⟩ := List.getElem?_eq_some_iff.1 hj
  obtain rfl : j = 0 := by simpa using hj1
  simp [Addr.add, go_sem]

set_option maxRecDepth 100000 in
set_option maxHeartbeats 1600000 in
theorem circuitOf_no (s : ByteArray) (g : Int) (hs : s.size ≤ 1048576) (hno : (lnB s.data.toList && inB g 1 3) = false) (w : World) :
    Calls Tryd.prog 59 #[.string s, .int .i64 g] w fun e w' => e = .returned (.tuple #[.agg #[.slice none 0 0, .int .i64 0], .bool false]) ∧ Below w.heap.size w w' := by
  have IL := imIsLine s hs
  have HN := Lib.hid hno
  clear hno
  go_enter Tryd.func59, Tryd.ntmps59
  go_wp2_with fail
  refine (IL _).mono ?_
  rintro e w1 ⟨rfl, h1⟩
  have B1 : Below w.heap.size w w1 := ba (by go_grown) h1
  have c0 := (h1.cell (p := ⟨w.heap.size, 0, none⟩) (by simp)).trans (show (w.alloc _).cell? ⟨w.heap.size, 0, none⟩ = some (.slice none 0 0) by go_simp)
  have c1 := (h1.cell (p := ⟨w.heap.size, 1, none⟩) (by simp)).trans (show (w.alloc _).cell? ⟨w.heap.size, 1, none⟩ = some (.int .i64 0) by go_simp)
  have f0 := (h1.frozen (p := ⟨w.heap.size, 0, none⟩) (by simp)).trans (show (w.alloc _).frozen? ⟨w.heap.size, 0, none⟩ = false by go_simp)
  have f1 := (h1.frozen (p := ⟨w.heap.size, 1, none⟩) (by simp)).trans (show (w.alloc _).frozen? ⟨w.heap.size, 1, none⟩ = false by go_simp)
  have HB1 := Lib.hid B1
  clear B1 h1
  have hz := Lib.hid (Nat.le_refl w.heap.size)
  cases hl : lnB s.data.toList
  · have hl2 := hl
    go_wp2_with fail
    refine bodyPost_ret (by simp [results, Tryd.results59, go_sem, *]; try rfl) rfl ?_
    exact ⟨rfl, (HB1.out.setCell (p := ⟨w.heap.size, 0, none⟩) hz.out _).setCell (p := ⟨w.heap.size, 1, none⟩) hz.out _⟩
  · have hg : inB g 1 3 = false := by have := HN.out; rw [hl] at this; simpa using this
    go_wp2_with (go_at_call 53; refine (isInRange_any _ _ _ _).mono ?_; rintro e w' ⟨rfl, rfl⟩)
    refine bodyPost_ret (by simp [results, Tryd.results59, go_sem, *]; try rfl) rfl ?_
    exact ⟨rfl, (HB1.out.setCell (p := ⟨w.heap.size, 0, none⟩) hz.out _).setCell (p := ⟨w.heap.size, 1, none⟩) hz.out _⟩

theorem bld_start (W : World) {l : List UInt8} {s : Nat} : Bld W W.heap.size 0 s [] l (W.alloc (.cells #[.slice none 0 0, .int .i64 s] 54)) :=
  ⟨rfl, fun i c hc => by simp at hc, fun i j c hc => by simp at hc, fun i c hc => by simp at hc, ⟨.slice none 0 0, by go_simp, World.ownsRow_nil _ _ _ _⟩, by go_simp, by go_simp, by simp, (Below.refl _ W).alloc (Nat.le_refl _) _⟩

/-- What circuitOf hands back of a line. -/
def CirPost (w : World) (l : List UInt8) (s : Nat) (e : Ending) (w' : World) : Prop :=
  ∃ g cap cs, e = .returned (.tuple #[.agg #[.slice (some ⟨g, 0, none⟩) l.length cap, .int .i64 s], .bool true]) ∧ Cir w.heap.size w'.heap.size g cs l w' ∧ Below w.heap.size w w'

set_option maxRecDepth 100000 in
set_option maxHeartbeats 1600000 in
theorem circuitOf_yes (s : ByteArray) (gp : Nat) (hl : LnOk s.data.toList) (hg1 : 1 ≤ gp) (hg3 : gp ≤ 3) (w : World) :
    Calls Tryd.prog 59 #[.string s, .int .i64 gp] w (CirPost w s.data.toList (min gp (s.data.toList.length - 1))) := by
  have hz := sz_list s
  have n1 : 1 ≤ s.size := by rw [← hz]; exact hl.n1
  have n24 : s.size ≤ 24 := by rw [← hz]; exact hl.n24
  have IL := imIsLine s (by omega)
  rw [(lnB_iff _).2 hl] at IL
  have hmc := mkChan
  have hin : inB (gp : Int) 1 3 = true := by simp only [inB, decide_eq_true_eq]; omega
  obtain ⟨i0, hi, iz0, iz1, iz2⟩ := info_parts blInfo
  obtain ⟨sg, hsg⟩ : ∃ sg, min gp (s.data.toList.length - 1) = sg := ⟨_, rfl⟩
  have hmin : min (gp : Int) ((s.size : Int) - 1) = (sg : Int) := by rw [hz] at hsg; omega
  have HL := Lib.hid hl
  have HZ := Lib.hid hz
  have HS := Lib.hid hsg
  rw [hsg]
  clear hl hz hsg
  go_enter Tryd.func59, Tryd.ntmps59
  go_wp2_with fail
  refine (IL _).mono ?_
  rintro e w1 ⟨rfl, h1⟩
  have B1 : Below w.heap.size w w1 := ba (by go_grown) h1
  have z1 := h1.size
  simp at z1
  have c0 := (h1.cell (p := ⟨w.heap.size, 0, none⟩) (by simp)).trans (show (w.alloc _).cell? ⟨w.heap.size, 0, none⟩ = some (.slice none 0 0) by go_simp)
  have c1 := (h1.cell (p := ⟨w.heap.size, 1, none⟩) (by simp)).trans (show (w.alloc _).cell? ⟨w.heap.size, 1, none⟩ = some (.int .i64 0) by go_simp)
  have f0 := (h1.frozen (p := ⟨w.heap.size, 0, none⟩) (by simp)).trans (show (w.alloc _).frozen? ⟨w.heap.size, 0, none⟩ = false by go_simp)
  have f1 := (h1.frozen (p := ⟨w.heap.size, 1, none⟩) (by simp)).trans (show (w.alloc _).frozen? ⟨w.heap.size, 1, none⟩ = false by go_simp)
  have D0 := Lib.hid (bld_start w1 (l := s.data.toList) (s := sg))
  have HB1 := Lib.hid B1
  clear B1 h1
  go_wp2_with (go_at_call 53; refine (isInRange_any _ _ _ _).mono ?_; rintro e w' ⟨rfl, rfl⟩)
  have HM := Lib.hid (fun wr (h : Below w1.heap.size w1 wr) => And.intro ((h.cell (p := ⟨w.heap.size, 0, none⟩) (by show w.heap.size < _; omega)).trans c0) (And.intro ((h.cell (p := ⟨w.heap.size, 1, none⟩) (by show w.heap.size < _; omega)).trans c1) (And.intro ((h.frozen (p := ⟨w.heap.size, 0, none⟩) (by show w.heap.size < _; omega)).trans f0) ((h.frozen (p := ⟨w.heap.size, 1, none⟩) (by show w.heap.size < _; omega)).trans f1))))
  have hx := Lib.hid (fun k (h : k < s.size) => show (s.extract k (k + 1)).toList = [s[k]] by rw [ext_one s k h, ByteArray.toList_eq])
  clear c0 c1 f0 f1 hin
  go_loopw [26] (fun i wr => ∃ (k : Nat) (cs : List Nat), k ≤ s.size ∧ i = .int .i64 k ∧ Bld w1 w1.heap.size k sg cs s.data.toList wr) (fun i _ => s.size - (intOf i).toNat)
  case atStart => exact ⟨0, [], Nat.zero_le _, rfl, D0.out⟩
  case round =>
    obtain ⟨k, cs, hk, rfl, hD⟩ := hrel
    have HD := Lib.hid hD
    have i0' : (0 : Int) ≤ (k : Int) := by omega
    clear hD
    by_cases hlt : k < s.size
    · have hxk := hx.out k hlt
      obtain ⟨v, hv, hown⟩ := HD.out.row
      have hqlt := HD.out.lt
      have HV := Lib.hid hv
      have HO := Lib.hid hown
      have bl := Lib.hid (ln_byte HL.out hlt)
      clear hown hv
      rcases bl.out with ⟨h1, h2⟩ | ⟨h1, h2⟩
      · have hq : (s[k] == 84) = true := by rw [h2]; rfl
        have HT := Lib.hid h1
        clear h1 h2
        go_upto_region 9 with fail
        have HD1 : (wr.alloc (.chan 1 #[] false 0 0 false)).heap[wr.heap.size]? = some (Obj.chan 1 #[] false 0 0 false) := heap_alloc_new wr _
        have HD2 := Lib.hid HD1
        clear HD1
        refine wp_region_to ?_
        simp only [List.size_toArray, List.length_cons, List.length_nil, Nat.reduceAdd, Nat.zero_add, List.range, List.range.loop]
        refine OpsTo.op rfl rfl (fun K hK => ?_)
        go_simp
        refine hK _ _ ?_
        clear hK K
        refine OpsTo.op rfl rfl (fun K hK => ?_)
        go_simp
        refine hK _ _ ?_
        clear hK K
        refine OpsTo.comm (cases := #[scase wr.heap.size (.agg #[]) (.tuple #[])]) (blocking := true) (shape := .send) rfl rfl (by simp [go_sem, execOp, scase, Act.eval]) (fun fr cs es h => step_lone_send_room h HD2.out (by simp)) ?_
        have HOLD := Lib.hid (show ∀ j, j < wr.heap.size → ((wr.alloc (.chan 1 #[] false 0 0 false)).setChan wr.heap.size 1 ((#[] : Array Value).push (.agg #[])) false (0 + 1) 0 false).heap[j]? = wr.heap[j]? from fun j hj => (setChan_far _ _ _ _ _ _ _ _ _ (by omega)).trans (Below.heap_alloc _ _ _ hj))
        have HCH := Lib.hid (show ∃ s1 r1, ((wr.alloc (.chan 1 #[] false 0 0 false)).setChan wr.heap.size 1 ((#[] : Array Value).push (.agg #[])) false (0 + 1) 0 false).heap[wr.heap.size]? = some (Obj.chan 1 (bufOf (tr s.data.toList k)) false s1 r1 false) from ⟨0 + 1, 0, by rw [HT.out]; exact heap_setChan _ _ _ _ _ _ _ _ (by simp)⟩)
        have HBC := Lib.hid (show Below w1.heap.size w1 ((wr.alloc (.chan 1 #[] false 0 0 false)).setChan wr.heap.size 1 ((#[] : Array Value).push (.agg #[])) false (0 + 1) 0 false) from (HD.out.low.alloc HD.out.low.size _).trans (below_setChan1 _ (by omega) _ _ _ _ _ _))
        have hcz : wr.heap.size < ((wr.alloc (.chan 1 #[] false 0 0 false)).setChan wr.heap.size 1 ((#[] : Array Value).push (.agg #[])) false (0 + 1) 0 false).heap.size := by rw [size_setChan]; simp
        generalize (wr.alloc (.chan 1 #[] false 0 0 false)).setChan wr.heap.size 1 ((#[] : Array Value).push (.agg #[])) false (0 + 1) 0 false = Wc at *
        go_simp
        refine OpsTo.nil ?_
        clear HD2
        have hvc : Wc.cell? ⟨w1.heap.size, 0, none⟩ = some v := by
          have := HV.out
          simp only [World.cell?, HOLD.out _ hqlt] at this ⊢
          exact this
        have HOc := Lib.hid (World.ownsRow.alloc (row_same HO.out fun j _ hj => HOLD.out j hj) (.cells #[.chan (some wr.heap.size)] 87))
        go_wp2_with (at_builtin; refine wpList_append_own_at _ rfl _ _ 52 rfl (w1.heap.size + 1) 87 i0 (.chan none) 1 8 Tryd.underlying52 hi iz0 iz1 iz2 rfl (by decide) v _ _ rfl HOc.out ⟨Wc.heap.size, 0, none⟩ 1 1 [.chan (some wr.heap.size)] rfl rfl (cell_new1 _ _ _) (by intro u hu; simp at hu; subst hu; rfl) (by unfold maxLen; omega) (by omega) (by simp; omega) ?_; intro v' W4 hown' hgr hnil hloc; obtain ⟨e0, e1, hN⟩ := HD.out.stored HV.out HO.out hcz HCH.out HOLD.out HBC.out _ hown' hgr; have HN := Lib.hid hN; clear hN hgr hnil hloc; obtain ⟨ao, n', cap', rfl⟩ := own_slice hown'; clear hown')
        go_roundw
        case rel => exact ⟨k + 1, _, by omega, by go_num, HN.out⟩
        case measure => simp [intOf]; omega
      · have hq : (s[k] == 84) = false := by rw [h2]; rfl
        have HT := Lib.hid h1
        clear h1 h2
        go_upto_region 10 with fail
        have HOLD := Lib.hid (show ∀ j, j < wr.heap.size → (wr.alloc (.chan 1 #[] false 0 0 false)).heap[j]? = wr.heap[j]? from fun j hj => Below.heap_alloc _ _ _ hj)
        have HCH := Lib.hid (show ∃ s1 r1, (wr.alloc (.chan 1 #[] false 0 0 false)).heap[wr.heap.size]? = some (Obj.chan 1 (bufOf (tr s.data.toList k)) false s1 r1 false) from ⟨0, 0, by rw [HT.out]; exact heap_alloc_new wr _⟩)
        have HBC := Lib.hid (show Below w1.heap.size w1 (wr.alloc (.chan 1 #[] false 0 0 false)) from HD.out.low.alloc HD.out.low.size _)
        have hcz : wr.heap.size < (wr.alloc (.chan 1 #[] false 0 0 false)).heap.size := by simp
        generalize wr.alloc (.chan 1 #[] false 0 0 false) = Wc at *
        have hvc : Wc.cell? ⟨w1.heap.size, 0, none⟩ = some v := by
          have := HV.out
          simp only [World.cell?, HOLD.out _ hqlt] at this ⊢
          exact this
        have HOc := Lib.hid (World.ownsRow.alloc (row_same HO.out fun j _ hj => HOLD.out j hj) (.cells #[.chan (some wr.heap.size)] 87))
        go_wp2_with (at_builtin; refine wpList_append_own_at _ rfl _ _ 52 rfl (w1.heap.size + 1) 87 i0 (.chan none) 1 8 Tryd.underlying52 hi iz0 iz1 iz2 rfl (by decide) v _ _ rfl HOc.out ⟨Wc.heap.size, 0, none⟩ 1 1 [.chan (some wr.heap.size)] rfl rfl (cell_new1 _ _ _) (by intro u hu; simp at hu; subst hu; rfl) (by unfold maxLen; omega) (by omega) (by simp; omega) ?_; intro v' W4 hown' hgr hnil hloc; obtain ⟨e0, e1, hN⟩ := HD.out.stored HV.out HO.out hcz HCH.out HOLD.out HBC.out _ hown' hgr; have HN := Lib.hid hN; clear hN hgr hnil hloc; obtain ⟨ao, n', cap', rfl⟩ := own_slice hown'; clear hown')
        go_roundw
        case rel => exact ⟨k + 1, _, by omega, by go_num, HN.out⟩
        case measure => simp [intOf]; omega
    · obtain rfl : k = s.size := by omega
      obtain ⟨v, hv, hown⟩ := HD.out.row
      have hc1 := HD.out.c1
      obtain ⟨m0, m1, m2, m3⟩ := HM.out wr HD.out.low
      have hqlt := HD.out.lt
      rcases hown.2 with ⟨rfl, h0⟩ | ⟨g, cap, cur, rfl, hgb, hgh, _⟩
      · omega
      have HO := Lib.hid hown
      have HGH := Lib.hid hgh
      have hgl := (Array.getElem?_eq_some_iff.1 hgh).1
      clear hown hgh
      have HB := Lib.hid (HB1.out.trans (HD.out.low.mono (show w.heap.size ≤ w1.heap.size by omega)))
      go_wp2_with fail
      refine bodyPost_ret (by simp [results, Tryd.results59, go_sem, *]; try rfl) rfl ?_
      have hfar : ∀ j, j ≠ w.heap.size → ((wr.setCell ⟨w.heap.size, 0, none⟩ (.slice (some ⟨g, 0, none⟩) s.size cap)).setCell ⟨w.heap.size, 1, none⟩ (.int .i64 sg)).heap[j]? = wr.heap[j]? := fun j hj => by
        simp [World.setCell, Array.getElem?_modify, Ne.symm hj]
      refine ⟨g, cap, cs, by rw [HZ.out], ⟨by rw [HZ.out]; exact HD.out.len, fun i c hc => ?_, fun i c hc => ?_, HD.out.dis, by omega, by simp; omega, fun i c hc => ?_, by simp⟩, (HB.out.setCell (p := ⟨w.heap.size, 0, none⟩) (Nat.le_refl _) _).setCell (p := ⟨w.heap.size, 1, none⟩) (Nat.le_refl _) _⟩
      · have := HO.out.cells (g := g) rfl i (.chan (some c)) (by rw [List.getElem?_map, hc]; rfl)
        have ha : ((⟨g, 0, none⟩ : Addr).add i) = ⟨g, i, none⟩ := by by_cases e : i = 0 <;> simp [Addr.add, e]
        rw [ha] at this
        simp only [World.cell?, hfar g (by omega)] at this ⊢
        exact this
      · have := HD.out.at' i c hc
        rw [hfar c (by omega)]
        exact HD.out.ch i c hc
      · have := HD.out.at' i c hc
        refine ⟨by omega, by simp; omega, fun e => ?_⟩
        subst e
        obtain ⟨s1, r1, hh⟩ := HD.out.ch i c hc
        rw [hh] at HGH
        have := HGH.out
        cases this

end Go.Proofs.YtogimjbjdgccnaaDoor
