/- Contracts and facts, put together (part 3). Conditions: each says its own. -/
import Derived.Test.YtoenkgenoloihaaDoorQ2
import Derived.Laws.AppendOwn
import Derived.Laws.OwnMore
import Derived.Deep.AppendLies
import Derived.Test.YtoenkgenoloihaaDoorShelf
import Derived.Lib.BytesEntry
import Derived.Deep.QuietTactic
import Derived.BigQuiet
import Derived.Laws.Externs
import Derived.Lib.Bytealg
import Derived.Deep.DrawnRows
import Derived.Deep.RegionHeld3
import Derived.Laws.Concat
import Derived.Lib.OthersKept
import Derived.Test.YtoenkgenoloihaaDoorShelfG
import Derived.Shelf.SlSortCmp.QuietGrown

/- Contract: the program's stepsOf. -/
namespace Go.Proofs.YtoenkgenoloihaaDoor
open Go.ChangeShapes Go.WideShapes Go.ChangeAt Go.RowKit

theorem stInfo : (Tryd.prog.info? 69).map (fun i => (i.zero, i.size, i.bytes)) = some (some (.agg #[.int .i64 0, .int .i64 0, .int .i64 0, .int .i64 0, .int .i64 0]), 5, 40) := by kernel_rfl

theorem own_below {W w1 : World} {B : Nat} {e : TypeId} {size n : Nat} {v : Value} {xs : List Value} (h : W.ownsRow B e size v n xs) (hb : Below W.heap.size W w1) : w1.ownsRow B e size v n xs :=
  h.kept (row := none) ⟨hb.os, hb.tape, hb.output, hb.size, fun k hk _ => hb.block k hk⟩ (by cases v.ownBlock <;> simp)

theorem own_sp {W : World} {B n g cap i : Nat} {e : TypeId} {l : List Sp} {s : Sp} (h : W.ownsRow B e 5 (.slice (some ⟨g, 0, none⟩) n cap) n (spCells l)) (hn : l.length = n) (hs : l[i]? = some s) :
    W.cell? ⟨g, i * 5, none⟩ = some (.int .i64 s.x0) ∧ W.cell? ⟨g, i * 5 + 1, none⟩ = some (.int .i64 s.x1) ∧ W.cell? ⟨g, i * 5 + 2, none⟩ = some (.int .i64 s.x2) ∧ W.cell? ⟨g, i * 5 + 3, none⟩ = some (.int .i64 s.x3) ∧ W.cell? ⟨g, i * 5 + 4, none⟩ = some (.int .i64 s.h) := by
  have hi : i < n := by rw [← hn]; exact (List.getElem?_eq_some_iff.1 hs).1
  have a := fun j (hj : j < 5) => (h.cellAt (i * 5 + j) (by omega)).trans ((by rw [Nat.mul_comm]) : _ = (spCells l)[5 * i + j]?) |>.trans (spCells_at l hs j hj)
  exact ⟨a 0 (by omega), a 1 (by omega), a 2 (by omega), a 3 (by omega), a 4 (by omega)⟩

def StepsPost (s : ByteArray) (w : World) (e : Ending) (w' : World) : Prop :=
  ∃ g cap, e = .returned (.tuple #[.slice (some ⟨g, 0, none⟩) (s.size + 1) cap, .bool true]) ∧ w'.ownsRow w.heap.size 69 5 (.slice (some ⟨g, 0, none⟩) (s.size + 1) cap) (s.size + 1) (spCells (lays sp0 s.data.toList)) ∧ Below w.heap.size w w'

theorem lays_take (s : ByteArray) (k : Nat) (hk : k < s.size) (c : UInt8) (hc : s[k] = c) : lays sp0 (s.data.toList.take (k + 1)) = lays sp0 (s.data.toList.take k) ++ [(fin sp0 (s.data.toList.take k)).next c] := by
  rw [take_snoc s k hk, lays_snoc, hc]

theorem lays_at (s : ByteArray) (k : Nat) (hk : k ≤ s.size) : (lays sp0 (s.data.toList.take k))[k]? = some (fin sp0 (s.data.toList.take k)) := by
  have h := lays_last sp0 (s.data.toList.take k)
  rwa [List.length_take, size_list, Nat.min_eq_left hk] at h

theorem lays_len (s : ByteArray) (k : Nat) (hk : k ≤ s.size) : (lays sp0 (s.data.toList.take k)).length = k + 1 := by
  rw [lays_length, List.length_take, size_list, Nat.min_eq_left hk]

set_option maxRecDepth 100000 in
set_option maxHeartbeats 1600000 in
theorem stepsOf_yes (s : ByteArray) (ht : tkB s = true) (w : World) :
    Calls Tryd.prog 127 #[.string s] w (StepsPost s w) := by
  have h40 := tkB_size ht
  have hs : s.size ≤ 1048576 := by omega
  have HT := Lib.hid (fun k hk => tkB_at ht (k := k) hk)
  obtain ⟨i0, hi, hz0, hz1, hz2⟩ := info_parts stInfo
  go_enter Tryd.func127, Tryd.ntmps127
  go_wp2_with (go_at_call 98; refine (imIsTrack_any s hs _).mono ?_; rintro e w' ⟨rfl, rfl⟩)
  go_loopw [4, 14] (fun v i wr => ∃ (k g cap : Nat), k ≤ s.size ∧ i = .int .i64 k ∧ v = .slice (some ⟨g, 0, none⟩) ((k + 1 : Nat)) cap ∧ wr.ownsRow w.heap.size 69 5 (.slice (some ⟨g, 0, none⟩) (k + 1) cap) (k + 1) (spCells (lays sp0 (s.data.toList.take k))) ∧ Below w.heap.size w wr) (fun _ i _ => s.size - (intOf i).toNat)
  case atStart => exact ⟨0, w.heap.size, 1, Nat.zero_le _, rfl, rfl, ⟨rfl, .inr ⟨w.heap.size, 1, _, rfl, Nat.le_refl _, heap_alloc_new w _, Nat.le_refl _, by decide, rfl, rfl⟩⟩, by go_grown⟩
  case round =>
    obtain ⟨k, g, cap, hk, rfl, rfl, hown, hb⟩ := hrel
    have hz : w.heap.size ≤ wr.heap.size := hb.size
    by_cases hlt : k < s.size
    · have HX := Lib.hid (ext_one s k hlt)
      have hp := HT.out k hlt
      have hok := fin_ok sp0_ok (s.data.toList.take k)
      have hl : (s.data.toList.take k).length ≤ 40 := by rw [List.length_take, size_list]; omega
      have hF := lays_at s k hk
      generalize hc : s[k] = c at HX hp
      have HN := Lib.hid (lays_take s k hlt c hc)
      clear hc
      have hcells := own_sp hown (lays_len s k hk) hF
      generalize fin sp0 (s.data.toList.take k) = p at HN hok hcells hF
      obtain ⟨x0, x1, x2, x3, h⟩ := p
      simp only [Sp.okB] at hok
      obtain ⟨⟨b0, b0'⟩, ⟨b1, b1'⟩, ⟨b2, b2'⟩, ⟨b3, b3'⟩, b4, b5⟩ := hok
      obtain ⟨c0, c1, c2, c3, c4⟩ := hcells
      have HO := Lib.hid hown
      have HB := Lib.hid hb
      clear hF hown hb
      rcases pcb_cases hp with rfl | rfl | rfl
      · clear hp
        go_wp2_with (go_at_call 103; refine (lay_S' _ HX.out _).mono ?_; rintro e w' ⟨rfl, rfl⟩)
        refine (straightP x0 x1 x2 x3 h b4 b5 (by omega) (by omega) (by omega) (by omega) (by omega) (by omega) (by omega) (by omega) _).mono ?_
        rintro e w1 ⟨rfl, hb1⟩
        have HO1 := Lib.hid (own_below HO.out hb1)
        have hz1' : wr.heap.size ≤ w1.heap.size := hb1.size
        have HB1 := Lib.hid (HB.out.trans (hb1.mono hz))
        clear hb1 c0 c1 c2 c3 c4
        go_wp2_with (at_builtin; refine wpList_append_own _ rfl _ _ 132 rfl w.heap.size 69 i0 (.agg #[.int .i64 0, .int .i64 0, .int .i64 0, .int .i64 0, .int .i64 0]) 5 40 Tryd.underlying132 hi hz0 hz1 hz2 rfl (by decide) _ _ _ rfl (HO1.out.alloc _) ⟨w1.heap.size, 0, none⟩ 1 1 [.int .i64 (x0 + tu0 h 1 0 0 0), .int .i64 (x1 + tu1 h 1 0 0 0), .int .i64 (x2 + tu2 h 1 0 0 0), .int .i64 (x3 + tu3 h 1 0 0 0), .int .i64 h] rfl rfl ?c1 ?c2 ?c3 ?c4 ?c5 ?_)
        case c1 =>
          intro j u hj
          match j, hj with
          | 0, hj => simp at hj; subst hj; simp [Addr.add]
          | 1, hj => simp at hj; subst hj; simp [Addr.add]
          | 2, hj => simp at hj; subst hj; simp [Addr.add]
          | 3, hj => simp at hj; subst hj; simp [Addr.add]
          | 4, hj => simp at hj; subst hj; simp [Addr.add]
        case c2 => intro u hu; simp at hu; rcases hu with rfl | rfl | rfl | rfl | rfl <;> rfl
        case c3 => unfold maxLen; omega
        case c4 => omega
        case c5 => simp; omega
        intro v' w2 hown' hgrow _
        have hlt' := (HO1.out.alloc (.cells #[.int .i64 (x0 + tu0 h 1 0 0 0), .int .i64 (x1 + tu1 h 1 0 0 0), .int .i64 (x2 + tu2 h 1 0 0 0), .int .i64 (x3 + tu3 h 1 0 0 0), .int .i64 h] 69)).lt
        have HB2 := Lib.hid ((HB1.out.alloc (by omega) (.cells #[.int .i64 (x0 + tu0 h 1 0 0 0), .int .i64 (x1 + tu1 h 1 0 0 0), .int .i64 (x2 + tu2 h 1 0 0 0), .int .i64 (x3 + tu3 h 1 0 0 0), .int .i64 h] 69)).grown hgrow (by simp; omega) (fun k hk => (hlt' k hk).1))
        obtain ⟨g', cap', rfl, _⟩ := hown'.form (by omega)
        have HW := Lib.hid hown'
        clear hown' hgrow hlt'
        go_wp2_with fail
        go_roundw
        case rel => exact ⟨k + 1, g', cap', by omega, by go_num, rfl, by rw [HN.out, spCells_append]; exact HW.out, HB2.out⟩
        case measure => simp [intOf]; omega
      · clear hp
        go_wp2_with (go_at_call 103; refine (lay_L' _ HX.out _).mono ?_; rintro e w' ⟨rfl, rfl⟩)
        refine (leftP x0 x1 x2 x3 h b4 b5 (by omega) (by omega) (by omega) (by omega) (by omega) (by omega) (by omega) (by omega) _).mono ?_
        rintro e w1 ⟨rfl, hb1⟩
        have HO1 := Lib.hid (own_below HO.out hb1)
        have hz1' : wr.heap.size ≤ w1.heap.size := hb1.size
        have HB1 := Lib.hid (HB.out.trans (hb1.mono hz))
        clear hb1 c0 c1 c2 c3 c4
        go_wp2_with (at_builtin; refine wpList_append_own _ rfl _ _ 132 rfl w.heap.size 69 i0 (.agg #[.int .i64 0, .int .i64 0, .int .i64 0, .int .i64 0, .int .i64 0]) 5 40 Tryd.underlying132 hi hz0 hz1 hz2 rfl (by decide) _ _ _ rfl (HO1.out.alloc _) ⟨w1.heap.size, 0, none⟩ 1 1 [.int .i64 (x0 + (tu0 ((h + 7) % 8) 1 0 0 0 - tu0 ((h + 6) % 8) 1 0 0 0)), .int .i64 (x1 + (tu1 ((h + 7) % 8) 1 0 0 0 - tu1 ((h + 6) % 8) 1 0 0 0)), .int .i64 (x2 + (tu2 ((h + 7) % 8) 1 0 0 0 - tu2 ((h + 6) % 8) 1 0 0 0)), .int .i64 (x3 + (tu3 ((h + 7) % 8) 1 0 0 0 - tu3 ((h + 6) % 8) 1 0 0 0)), .int .i64 ((h + 1) % 8)] rfl rfl ?c1 ?c2 ?c3 ?c4 ?c5 ?_)
        case c1 =>
          intro j u hj
          match j, hj with
          | 0, hj => simp at hj; subst hj; simp [Addr.add]
          | 1, hj => simp at hj; subst hj; simp [Addr.add]
          | 2, hj => simp at hj; subst hj; simp [Addr.add]
          | 3, hj => simp at hj; subst hj; simp [Addr.add]
          | 4, hj => simp at hj; subst hj; simp [Addr.add]
        case c2 => intro u hu; simp at hu; rcases hu with rfl | rfl | rfl | rfl | rfl <;> rfl
        case c3 => unfold maxLen; omega
        case c4 => omega
        case c5 => simp; omega
        intro v' w2 hown' hgrow _
        have hlt' := (HO1.out.alloc (.cells #[.int .i64 (x0 + (tu0 ((h + 7) % 8) 1 0 0 0 - tu0 ((h + 6) % 8) 1 0 0 0)), .int .i64 (x1 + (tu1 ((h + 7) % 8) 1 0 0 0 - tu1 ((h + 6) % 8) 1 0 0 0)), .int .i64 (x2 + (tu2 ((h + 7) % 8) 1 0 0 0 - tu2 ((h + 6) % 8) 1 0 0 0)), .int .i64 (x3 + (tu3 ((h + 7) % 8) 1 0 0 0 - tu3 ((h + 6) % 8) 1 0 0 0)), .int .i64 ((h + 1) % 8)] 69)).lt
        have HB2 := Lib.hid ((HB1.out.alloc (by omega) (.cells #[.int .i64 (x0 + (tu0 ((h + 7) % 8) 1 0 0 0 - tu0 ((h + 6) % 8) 1 0 0 0)), .int .i64 (x1 + (tu1 ((h + 7) % 8) 1 0 0 0 - tu1 ((h + 6) % 8) 1 0 0 0)), .int .i64 (x2 + (tu2 ((h + 7) % 8) 1 0 0 0 - tu2 ((h + 6) % 8) 1 0 0 0)), .int .i64 (x3 + (tu3 ((h + 7) % 8) 1 0 0 0 - tu3 ((h + 6) % 8) 1 0 0 0)), .int .i64 ((h + 1) % 8)] 69)).grown hgrow (by simp; omega) (fun k hk => (hlt' k hk).1))
        obtain ⟨g', cap', rfl, _⟩ := hown'.form (by omega)
        have HW := Lib.hid hown'
        clear hown' hgrow hlt'
        go_wp2_with fail
        go_roundw
        case rel => exact ⟨k + 1, g', cap', by omega, by go_num, rfl, by rw [HN.out, spCells_append]; exact HW.out, HB2.out⟩
        case measure => simp [intOf]; omega
      · clear hp
        go_wp2_with (go_at_call 103; refine (lay_R' _ HX.out _).mono ?_; rintro e w' ⟨rfl, rfl⟩)
        refine (rightP x0 x1 x2 x3 h b4 b5 (by omega) (by omega) (by omega) (by omega) (by omega) (by omega) (by omega) (by omega) _).mono ?_
        rintro e w1 ⟨rfl, hb1⟩
        have HO1 := Lib.hid (own_below HO.out hb1)
        have hz1' : wr.heap.size ≤ w1.heap.size := hb1.size
        have HB1 := Lib.hid (HB.out.trans (hb1.mono hz))
        clear hb1 c0 c1 c2 c3 c4
        go_wp2_with (at_builtin; refine wpList_append_own _ rfl _ _ 132 rfl w.heap.size 69 i0 (.agg #[.int .i64 0, .int .i64 0, .int .i64 0, .int .i64 0, .int .i64 0]) 5 40 Tryd.underlying132 hi hz0 hz1 hz2 rfl (by decide) _ _ _ rfl (HO1.out.alloc _) ⟨w1.heap.size, 0, none⟩ 1 1 [.int .i64 (x0 + (tu0 ((h + 1) % 8) 1 0 0 0 - tu0 ((h + 2) % 8) 1 0 0 0)), .int .i64 (x1 + (tu1 ((h + 1) % 8) 1 0 0 0 - tu1 ((h + 2) % 8) 1 0 0 0)), .int .i64 (x2 + (tu2 ((h + 1) % 8) 1 0 0 0 - tu2 ((h + 2) % 8) 1 0 0 0)), .int .i64 (x3 + (tu3 ((h + 1) % 8) 1 0 0 0 - tu3 ((h + 2) % 8) 1 0 0 0)), .int .i64 ((h + 7) % 8)] rfl rfl ?c1 ?c2 ?c3 ?c4 ?c5 ?_)
        case c1 =>
          intro j u hj
          match j, hj with
          | 0, hj => simp at hj; subst hj; simp [Addr.add]
          | 1, hj => simp at hj; subst hj; simp [Addr.add]
          | 2, hj => simp at hj; subst hj; simp [Addr.add]
          | 3, hj => simp at hj; subst hj; simp [Addr.add]
          | 4, hj => simp at hj; subst hj; simp [Addr.add]
        case c2 => intro u hu; simp at hu; rcases hu with rfl | rfl | rfl | rfl | rfl <;> rfl
        case c3 => unfold maxLen; omega
        case c4 => omega
        case c5 => simp; omega
        intro v' w2 hown' hgrow _
        have hlt' := (HO1.out.alloc (.cells #[.int .i64 (x0 + (tu0 ((h + 1) % 8) 1 0 0 0 - tu0 ((h + 2) % 8) 1 0 0 0)), .int .i64 (x1 + (tu1 ((h + 1) % 8) 1 0 0 0 - tu1 ((h + 2) % 8) 1 0 0 0)), .int .i64 (x2 + (tu2 ((h + 1) % 8) 1 0 0 0 - tu2 ((h + 2) % 8) 1 0 0 0)), .int .i64 (x3 + (tu3 ((h + 1) % 8) 1 0 0 0 - tu3 ((h + 2) % 8) 1 0 0 0)), .int .i64 ((h + 7) % 8)] 69)).lt
        have HB2 := Lib.hid ((HB1.out.alloc (by omega) (.cells #[.int .i64 (x0 + (tu0 ((h + 1) % 8) 1 0 0 0 - tu0 ((h + 2) % 8) 1 0 0 0)), .int .i64 (x1 + (tu1 ((h + 1) % 8) 1 0 0 0 - tu1 ((h + 2) % 8) 1 0 0 0)), .int .i64 (x2 + (tu2 ((h + 1) % 8) 1 0 0 0 - tu2 ((h + 2) % 8) 1 0 0 0)), .int .i64 (x3 + (tu3 ((h + 1) % 8) 1 0 0 0 - tu3 ((h + 2) % 8) 1 0 0 0)), .int .i64 ((h + 7) % 8)] 69)).grown hgrow (by simp; omega) (fun k hk => (hlt' k hk).1))
        obtain ⟨g', cap', rfl, _⟩ := hown'.form (by omega)
        have HW := Lib.hid hown'
        clear hown' hgrow hlt'
        go_wp2_with fail
        go_roundw
        case rel => exact ⟨k + 1, g', cap', by omega, by go_num, rfl, by rw [HN.out, spCells_append]; exact HW.out, HB2.out⟩
        case measure => simp [intOf]; omega
    · obtain rfl : k = s.size := by omega
      have hE := take_all s hlt
      rw [hE] at hown
      have HO := Lib.hid hown
      have HB := Lib.hid hb
      clear hown hb hE
      go_wp2_with fail
      go_ret2
      exact ⟨g, cap, rfl, HO.out, HB.out⟩

end Go.Proofs.YtoenkgenoloihaaDoor

/- Contracts: the program's stepsOf at what is no track, endOf and EndOf. -/
namespace Go.Proofs.YtoenkgenoloihaaDoor
open Go.ChangeShapes Go.WideShapes Go.ChangeAt Go.RowKit

theorem stepsOf_no (s : ByteArray) (hs : s.size ≤ 1048576) (ht : tkB s = false) (w : World) :
    Calls Tryd.prog 127 #[.string s] w fun e w' => e = .returned (.tuple #[.slice none 0 0, .bool false]) ∧ w = w' := by
  go_enter Tryd.func127, Tryd.ntmps127
  go_wp2_with (go_at_call 98; refine (imIsTrack_any s hs _).mono ?_; rintro e w' ⟨rfl, rfl⟩)
  go_ret2
  exact ⟨rfl, rfl⟩

/-- The end of a track, the step at 0 for what is none. -/
def enS (s : ByteArray) : Sp := cond (tkB s) (fin sp0 s.data.toList) sp0

theorem enS_yes {s : ByteArray} (h : tkB s = true) : enS s = fin sp0 s.data.toList := by simp [enS, h]

theorem enS_no {s : ByteArray} (h : tkB s = false) : enS s = sp0 := by simp [enS, h]

set_option maxRecDepth 100000 in
theorem endOf_any (s : ByteArray) (hs : s.size ≤ 1048576) (w : World) :
    Calls Tryd.prog 108 #[.string s] w fun e w' => e = .returned (.tuple #[.agg #[.int .i64 (enS s).x0, .int .i64 (enS s).x1, .int .i64 (enS s).x2, .int .i64 (enS s).x3, .int .i64 (enS s).h], .bool (tkB s)]) ∧ Below w.heap.size w w' := by
  cases ht : tkB s
  · have HE := Lib.hid (enS_no ht)
    go_enter Tryd.func108, Tryd.ntmps108
    go_wp2_with (go_at_call 127; refine (stepsOf_no s hs ht _).mono ?_; rintro e w' ⟨rfl, rfl⟩)
    refine bodyPost_ret (by simp [results, Tryd.results108, go_sem, *]; try rfl) rfl ?_
    exact ⟨by rw [HE.out]; rfl, by go_grown⟩
  · have h40 := tkB_size ht
    have hL := lays_at s s.size (Nat.le_refl _)
    have hn := lays_len s s.size (Nat.le_refl _)
    rw [take_all s (by omega)] at hL hn
    have HE := Lib.hid (enS_yes ht)
    generalize hf : fin sp0 s.data.toList = p at HE hL
    have HN := Lib.hid hn
    have HL := Lib.hid hL
    clear hf hn hL
    obtain ⟨x0, x1, x2, x3, h⟩ := p
    go_enter Tryd.func108, Tryd.ntmps108
    go_wp2_with fail
    refine (stepsOf_yes s ht _).mono ?_
    rintro e w1 ⟨g, cap, rfl, hO, hb1⟩
    obtain ⟨c0, c1, c2, c3, c4⟩ := own_sp hO HN.out HL.out
    have HB := Lib.hid (ba (by go_grown) hb1 : Below w.heap.size w w1)
    obtain ⟨hc1, hf1⟩ := bcell hb1
    have hz := hb1.size
    simp at hz
    have hz0 : w.heap.size < w1.heap.size := by omega
    clear hO hb1
    go_wp2_with fail
    refine bodyPost_ret (by simp [results, Tryd.results108, go_sem, *]; try rfl) rfl ?_
    have hB := HB.out
    exact ⟨by rw [HE.out], by go_grown⟩

end Go.Proofs.YtoenkgenoloihaaDoor

/- Contracts: the ends of tracks in the model, and ends compared. -/
namespace Go.Proofs.YtoenkgenoloihaaDoor
open Go.ChangeShapes Go.WideShapes Go.ChangeAt Go.RowKit

theorem own_pt {W : World} {B n g cap i : Nat} {e : TypeId} {l : List Sp} {s : Sp} (h : W.ownsRow B e 4 (.slice (some ⟨g, 0, none⟩) n cap) n (ptCells l)) (hn : l.length = n) (hs : l[i]? = some s) :
    W.cell? ⟨g, i * 4, none⟩ = some (.int .i64 s.x0) ∧ W.cell? ⟨g, i * 4 + 1, none⟩ = some (.int .i64 s.x1) ∧ W.cell? ⟨g, i * 4 + 2, none⟩ = some (.int .i64 s.x2) ∧ W.cell? ⟨g, i * 4 + 3, none⟩ = some (.int .i64 s.x3) := by
  have hi : i < n := by rw [← hn]; exact (List.getElem?_eq_some_iff.1 hs).1
  have a := fun j (hj : j < 4) => (h.cellAt (i * 4 + j) (by omega)).trans ((by rw [Nat.mul_comm]) : _ = (ptCells l)[4 * i + j]?) |>.trans (ptCells_at l hs j hj)
  exact ⟨a 0 (by omega), a 1 (by omega), a 2 (by omega), a 3 (by omega)⟩

theorem own_hd {W : World} {B n g cap i : Nat} {e : TypeId} {l : List Sp} {s : Sp} (h : W.ownsRow B e 1 (.slice (some ⟨g, 0, none⟩) n cap) n (hdCells l)) (hn : l.length = n) (hs : l[i]? = some s) :
    W.cell? ⟨g, i, none⟩ = some (.int .i64 s.h) := by
  have hi : i < n := by rw [← hn]; exact (List.getElem?_eq_some_iff.1 hs).1
  rw [h.cellAt i (by omega)]
  simp [hdCells, hs]

theorem lays_lenA (a : Sp) (s : ByteArray) : (lays a s.data.toList).length = s.size + 1 := by rw [lays_length, size_list]

theorem lays_atA (a : Sp) (s : ByteArray) : (lays a s.data.toList)[s.size]? = some (fin a s.data.toList) := by
  have h := lays_last a s.data.toList
  rwa [size_list] at h

set_option maxRecDepth 100000 in
set_option maxHeartbeats 800000 in
theorem tkEnd_yes (s : ByteArray) (ht : tkB s = true) (w : World) :
    Calls Tryd.prog 71 #[.string s] w fun e w' => e = .returned (.tuple #[.agg #[.int .i64 (enS s).x0, .int .i64 (enS s).x1, .int .i64 (enS s).x2, .int .i64 (enS s).x3], .int .i64 (enS s).h]) ∧ Below w.heap.size w w' := by
  have h40 := tkB_size ht
  have hL := lays_atA sp0 s
  have HN := Lib.hid (lays_lenA sp0 s)
  have HE := Lib.hid (enS_yes ht)
  generalize hf : fin sp0 s.data.toList = p at HE hL
  have HL := Lib.hid hL
  clear hf hL
  obtain ⟨x0, x1, x2, x3, h⟩ := p
  have hc := tkLay_any s ht sp0 (sp0_ok.mono (by decide))
  have HC := Lib.hid hc
  clear hc
  go_enter Tryd.func71, Tryd.ntmps71
  go_wp2_with fail
  refine (HC.out _).mono ?_
  rintro e w1 ⟨gj, cj, gh, ch, rfl, hJ, hH, hb1⟩
  obtain ⟨c0, c1, c2, c3⟩ := own_pt hJ HN.out HL.out
  have c4 := own_hd hH HN.out HL.out
  have HB := Lib.hid (ba (by go_grown) hb1 : Below w.heap.size w w1)
  obtain ⟨hc1, hf1⟩ := bcell hb1
  have hz := hb1.size
  simp at hz
  have hz0 : w.heap.size < w1.heap.size := by omega
  have g1 := (hJ.lt gj rfl).1
  have g2 := (hH.lt gh rfl).1
  simp at g1 g2
  have n1 : ¬ gj = w.heap.size := by omega
  have n2 : ¬ gh = w.heap.size := by omega
  have n3 : ¬ w.heap.size = gj := by omega
  have n4 : ¬ w.heap.size = gh := by omega
  clear hJ hH hb1
  go_wp2_with fail
  go_region
  all_goals
    go_wp2_with fail
    refine bodyPost_ret (by simp [results, Tryd.results71, go_sem, *]; try rfl) rfl ?_
    have hB := HB.out
    exact ⟨by rw [HE.out], by go_grown⟩

/-- '==' on two steps. -/
@[go_sem high] theorem eqSt (a0 a1 a2 a3 a4 b0 b1 b2 b3 b4 : Int) (w : World) : (binOp .eql 69 (.agg #[.int .i64 a0, .int .i64 a1, .int .i64 a2, .int .i64 a3, .int .i64 a4]) (.agg #[.int .i64 b0, .int .i64 b1, .int .i64 b2, .int .i64 b3, .int .i64 b4])).run Tryd.prog w = .ok (.bool ((a0 == b0 && (a1 == b1 && (a2 == b2 && a3 == b3))) && a4 == b4)) w := by
  have hS : Tryd.prog.underlying 69 = some (.struct (Tryd.prog.fieldsOf 69)) := by kernel_rfl
  have hp : Tryd.prog.stoodInHeld 69 = false := by kernel_rfl
  rw [run_eql_struct, show (10000 : Nat) = 9999 + 1 from rfl, run_equalIn_agg w 9999 69 _ _ hS hp]
  simp only [Program.fieldsOf, Tryd.underlying69]
  go_simp
  by_cases h0 : a0 = b0 <;> by_cases h1 : a1 = b1 <;> by_cases h2 : a2 = b2 <;> by_cases h3 : a3 = b3 <;> by_cases h4 : a4 = b4 <;> simp [h0, h1, h2, h3, h4]

end Go.Proofs.YtoenkgenoloihaaDoor

/- Contracts: whether two tracks have the same end. -/
namespace Go.Proofs.YtoenkgenoloihaaDoor
open Go.ChangeShapes Go.WideShapes Go.ChangeAt Go.RowKit

def saG (a b : ByteArray) : Bool := tkB a && tkB b

def saR (a b : ByteArray) : Bool := saG a b && (((enS a).x0 == (enS b).x0 && ((enS a).x1 == (enS b).x1 && ((enS a).x2 == (enS b).x2 && (enS a).x3 == (enS b).x3))) && (enS a).h == (enS b).h)

theorem ret_sa {a b : ByteArray} {r g : Bool} (hg : saG a b = g) (hr : saR a b = r) : Ending.returned (.tuple #[.bool r, .bool g]) = Ending.returned (.tuple #[.bool (saR a b), .bool (saG a b)]) := by rw [hg, hr]

end Go.Proofs.YtoenkgenoloihaaDoor

/- Contracts: whether a track is closed. -/
namespace Go.Proofs.YtoenkgenoloihaaDoor
open Go.ChangeShapes Go.WideShapes Go.ChangeAt Go.RowKit

def zP (s : ByteArray) : Bool := (enS s).x0 == 0 && ((enS s).x1 == 0 && ((enS s).x2 == 0 && (enS s).x3 == 0))

def zS (s : ByteArray) : Bool := zP s && (enS s).h == 0

def clB (s : ByteArray) : Bool := tkB s && (decide (0 < s.size) && zS s)

theorem clB_tk {s : ByteArray} (h : clB s = true) : tkB s = true := by
  simp only [clB, Bool.and_eq_true] at h
  exact h.1

theorem clB_no {s : ByteArray} (h : tkB s = false) : clB s = false := by simp [clB, h]

theorem clB_yes {s : ByteArray} (h : tkB s = true) : clB s = (decide (0 < s.size) && zS s) := by simp [clB, h]

set_option maxRecDepth 100000 in
set_option maxHeartbeats 800000 in
theorem isClosed_any (s : ByteArray) (hs : s.size ≤ 1048576) (w : World) :
    Calls Tryd.prog 90 #[.string s] w fun e w' => e = .returned (.bool (clB s)) ∧ Below w.heap.size w w' := by
  have hc := endOf_any s hs
  cases ht : tkB s
  · have R := Lib.hid (clB_no ht)
    rw [ht] at hc
    generalize enS s = p at hc
    obtain ⟨x0, x1, x2, x3, x4⟩ := p
    have HC := Lib.hid hc
    clear hc ht
    go_enter Tryd.func90, Tryd.ntmps90
    go_wp2_with fail
    (go_at_call 108; (with_reducible refine (HC.out _).mono ?_); rintro e wA ⟨rfl, h1⟩; (try with_reducible replace h1 := undrew h1); have hB : Below w.heap.size w wA := ba (by go_grown) h1; obtain ⟨hcwA, hfwA⟩ := bcell h1; have hqwA := h1.size; (try simp at hqwA); )
    go_wp2_with fail
    go_ret
    exact ⟨by rw [R.out]; rfl, by go_grown⟩
  · have hR := clB_yes ht
    unfold zS zP at hR
    rw [ht] at hc
    generalize enS s = p at hR hc
    obtain ⟨x0, x1, x2, x3, x4⟩ := p
    simp only at hR
    have R := Lib.hid hR
    have HC := Lib.hid hc
    clear hc ht hR
    by_cases h0 : s.size = 0
    · have he : s.toList = [] := by rw [ByteArray.toList_eq]; exact List.eq_nil_of_length_eq_zero (by rw [size_list]; exact h0)
      go_enter Tryd.func90, Tryd.ntmps90
      go_wp2_with fail
      (go_at_call 108; (with_reducible refine (HC.out _).mono ?_); rintro e wA ⟨rfl, h1⟩; (try with_reducible replace h1 := undrew h1); have hB : Below w.heap.size w wA := ba (by go_grown) h1; obtain ⟨hcwA, hfwA⟩ := bcell h1; have hqwA := h1.size; (try simp at hqwA); )
      go_wp2_with fail
      go_ret
      exact ⟨by rw [R.out]; simp [h0], by go_grown⟩
    · have hp : 0 < s.size := by omega
      have he : ¬ s.toList = [] := fun h => h0 (by rw [ByteArray.toList_eq] at h; rw [← size_list, h]; rfl)
      go_enter Tryd.func90, Tryd.ntmps90
      go_wp2_with fail
      (go_at_call 108; (with_reducible refine (HC.out _).mono ?_); rintro e wA ⟨rfl, h1⟩; (try with_reducible replace h1 := undrew h1); have hB : Below w.heap.size w wA := ba (by go_grown) h1; obtain ⟨hcwA, hfwA⟩ := bcell h1; have hqwA := h1.size; (try simp at hqwA); )
      go_wp2_with fail
      go_ret
      exact ⟨by rw [R.out]; simp [hp, he], by go_grown⟩

end Go.Proofs.YtoenkgenoloihaaDoor

/- Contracts: whether a text is a ring. -/
namespace Go.Proofs.YtoenkgenoloihaaDoor
open Go.ChangeShapes Go.WideShapes Go.ChangeAt Go.RowKit

set_option maxRecDepth 100000 in
set_option maxHeartbeats 800000 in
theorem csRing_any (s : ByteArray) (hs : s.size ≤ 1048576) (w : World) :
    Calls Tryd.prog 45 #[.string s] w fun e w' => e = .returned (.bool (clB s)) ∧ Below w.heap.size w w' := by
  cases ht : tkB s
  · have R := Lib.hid (clB_no ht)
    go_enter Tryd.func45, Tryd.ntmps45
    go_wp2_with (go_at_call 70; refine (tkGood_any s hs _).mono ?_; rintro e w' ⟨rfl, rfl⟩)
    go_ret
    exact ⟨by rw [R.out]; rfl, by go_grown⟩
  · have hc := tkEnd_yes s ht
    have hR := clB_yes ht
    unfold zS zP at hR
    generalize enS s = p at hR hc
    obtain ⟨x0, x1, x2, x3, x4⟩ := p
    simp only at hR
    have HC := Lib.hid hc
    clear hc
    by_cases h0 : s.size = 0
    · have R := Lib.hid hR
      have he : s.toList = [] := by rw [ByteArray.toList_eq]; exact List.eq_nil_of_length_eq_zero (by rw [size_list]; exact h0)
      clear hR
      go_enter Tryd.func45, Tryd.ntmps45
      go_wp2_with (go_at_call 70; refine (tkGood_any s hs _).mono ?_; rintro e w' ⟨rfl, rfl⟩)
      go_ret
      exact ⟨by rw [R.out]; simp [h0], by go_grown⟩
    · have hp : 0 < s.size := by omega
      have he : ¬ s.toList = [] := fun h => h0 (by rw [ByteArray.toList_eq] at h; rw [← size_list, h]; rfl)
      have hi : s.toList.isEmpty = false := by cases hl : s.toList with
        | nil => exact absurd hl he
        | cons a l => rfl
      cases hq : (x0 == 0 && (x1 == 0 && (x2 == 0 && x3 == 0)))
      all_goals
        rw [hq] at hR
        have R := Lib.hid hR
        clear hR
        go_enter Tryd.func45, Tryd.ntmps45
        go_wp2_with (first | (go_at_call 70; refine (tkGood_any s hs _).mono ?_; rintro e w' ⟨rfl, rfl⟩) | (go_at_call 71; (with_reducible refine (HC.out _).mono ?_); rintro e wA ⟨rfl, h1⟩; (try with_reducible replace h1 := undrew h1); have hB : Below w.heap.size w wA := ba (by go_grown) h1; obtain ⟨hcwA, hfwA⟩ := bcell h1; have hqwA := h1.size; (try simp at hqwA); ))
        go_ret
        exact ⟨by rw [R.out]; simp [hp], by go_grown⟩

theorem imIsRing (s : ByteArray) (hs : s.size ≤ 1048576) (w : World) :
    Calls Tryd.prog 73 #[.string s] w fun e w' => e = .returned (.bool (clB s)) ∧ Below w.heap.size w w' := by
  have HC := Lib.hid (isClosed_any s hs)
  go_enter Tryd.func73, Tryd.ntmps73
  go_wp2_with (go_at_call 90; (with_reducible refine (HC.out _).mono ?_); rintro e wA ⟨rfl, h1⟩; (try with_reducible replace h1 := undrew h1); have hB : Below w.heap.size w wA := ba (by go_grown) h1; obtain ⟨hcwA, hfwA⟩ := bcell h1; have hqwA := h1.size; (try simp at hqwA); )
  go_ret
  exact ⟨rfl, by go_grown⟩

end Go.Proofs.YtoenkgenoloihaaDoor

/- Contracts: arrays out of texts, and texts out of them. -/
namespace Go.Proofs.YtoenkgenoloihaaDoor
open Go.ChangeShapes Go.WideShapes Go.ChangeAt Go.RowKit

theorem LpAt.loadK {W : World} {b K : Nat} {x : Lp} (hK : K = 40) (h : LpAt W b x) : Sem.run Tryd.prog (loadCellsFrom ⟨b, 0, none⟩ 0 K #[]) W = .ok (arr x) W := by subst hK; exact h.load

theorem zK {K : Nat} (hK : K = 40) : ∀ w, Sem.run Tryd.prog (Go.sizeOf 45) w = .ok K w := by subst hK; exact Tryd.sizeOf45

theorem aK {K : Nat} (hK : K = 40) (x : Lp) : (arr x).size = K := by rw [hK, arr_size]

set_option maxRecDepth 100000 in
set_option maxHeartbeats 800000 in
theorem loopFrom_any (l : List UInt8) (hl : l.length ≤ 40) (w : World) :
    Calls Tryd.prog 67 #[.string (ofL l)] w fun e w' => e = .returned (.agg (arr (mkLp l))) ∧ Below w.heap.size w w' := by
  have hz := (zero_of_info (P := Tryd.prog) lpInfo).1
  have hcp := fun ty => copy_text (w.alloc (.cells (arr zLp) 45)) l hl ty
  have hsz : (w.alloc (.cells (arr zLp) 45)).heap.size = w.heap.size + 1 := by simp
  simp only [hsz] at hcp
  have a1 := LpAt.new (w.alloc (.cells (arr zLp) 45)) (mkLp l)
  rw [hsz] at a1
  have a0 := (LpAt.new w zLp).alloc (.cells (arr (mkLp l)) 45)
  obtain ⟨K, hK⟩ : ∃ K, K = 40 := ⟨_, rfl⟩
  have hld := a1.loadK hK
  have hst := a0.store (mkLp l)
  have hl2 := (a0.set (mkLp l)).loadK hK
  have zE := zK hK
  have hA := aK hK (mkLp l)
  have HB := Lib.hid (((((Below.refl w.heap.size w).alloc (Nat.le_refl _) (.cells (arr zLp) 45)).alloc (by simp) (.cells (arr (mkLp l)) 45)).trans (below_setRow (Below.refl _ _) (Nat.le_refl _) (arr (mkLp l)))) : Below w.heap.size w _)
  clear hK hsz a1 a0
  generalize arr (mkLp l) = A at *
  generalize arr zLp = Z at *
  generalize ofL l = s at *
  go_enter Tryd.func67, Tryd.ntmps67
  go_wp2_with fail
  refine bodyPost_ret (by simp [results, Tryd.results67, go_sem, *]; try rfl) rfl ?_
  exact ⟨rfl, HB.out⟩

/-- The text of an array: without the zeros at its end. -/
def txt (x : Lp) : List UInt8 := Lib.trimRightB x.1 0

theorem txt_mk {l : List UInt8} (hl : l.length ≤ 40) (h0 : ∀ c ∈ l, c ≠ 0) : txt (mkLp l) = l := by
  have h1 : (mkLp l).1 = l ++ List.replicate (40 - l.length) 0 := by
    simp only [mkLp]
    rw [List.take_append, List.take_of_length_le hl, List.take_replicate]
    congr 2
    omega
  rw [txt, Lib.trimRightB, h1, List.reverse_append, List.reverse_replicate]
  have h2 : ∀ n : Nat, (List.replicate n (0 : UInt8) ++ l.reverse).dropWhile (· == 0) = l.reverse := by
    intro n
    induction n with
    | zero =>
      simp only [List.replicate_zero, List.nil_append]
      cases hr : l.reverse with
      | nil => rfl
      | cons a r =>
        have : a ∈ l := by rw [← List.mem_reverse, hr]; exact List.mem_cons_self
        rw [List.dropWhile_cons, if_neg (by simpa using h0 a this)]
    | succ n ih => rw [List.replicate_succ, List.cons_append, List.dropWhile_cons, if_pos (by decide)]; exact ih
  rw [h2, List.reverse_reverse]

theorem txt_le (x : Lp) : (txt x).length ≤ 40 := by
  have := x.2
  rw [txt, Lib.trimRightB, List.length_reverse]
  have h := (List.dropWhile_sublist (· == (0 : UInt8)) (l := x.1.reverse)).length_le
  rw [List.length_reverse] at h
  omega

theorem conv_arr {W : World} {b : Nat} {x : Lp} (h : LpAt W b x) : (convert 77 9 (.slice (some ⟨b, 0, none⟩) 40 40)).run Tryd.prog W = .ok (.string (ofL x.1)) W := by
  have := run_convert_bytes_back W 77 9 5 ⟨b, 0, none⟩ 40 x.1 Tryd.underlying77 Tryd.underlying5 Tryd.underlying9 (fun j hj => by
    rw [Addr.add_lit, Nat.zero_add, cell_of_row _ _ j _ _ (0, 0) h]
    simp [arr, encLp, byV, hj])
  rw [x.2] at this
  exact this

set_option maxRecDepth 100000 in
set_option maxHeartbeats 800000 in
theorem text_any (x : Lp) (w : World) :
    Calls Tryd.prog 51 #[.agg (arr x)] w fun e w' => e = .returned (.string (ofL (txt x))) ∧ Below w.heap.size w w' := by
  have hc := conv_arr (LpAt.new w x)
  have hT := fun W => Tryd.strings_TrimRight_one (ofL x.1) 0 (by decide) W (by rw [ofL_size, x.2]; decide)
  have hR : (⟨(Lib.trimRightB (ofL x.1).data.toList 0).toArray⟩ : ByteArray) = ofL (txt x) := rfl
  rw [hR] at hT
  have HT := Lib.hid hT
  clear hT hR
  obtain ⟨K, hK⟩ : ∃ K, K = 40 := ⟨_, rfl⟩
  have zE := zK hK
  have hA := aK hK x
  clear hK
  generalize arr x = A at *
  generalize ofL x.1 = s at *
  generalize ofL (txt x) = t at *
  go_enter Tryd.func51, Tryd.ntmps51
  go_wp2_with (go_at_call 75; refine (HT.out _).mono ?_; rintro e w' ⟨rfl, rfl⟩)
  go_ret
  exact ⟨rfl, by go_grown⟩

theorem loadB {W : World} {b : Nat} {x : Lp} (h : LpAt W b x) : (Extern.Bytes.bytesOf (.slice (some ⟨b, 0, none⟩) 40 40)).run Tryd.prog W = .ok (ofL x.1) W := by
  have hb : Lib.bytesOf (x.1.map fun c => (c.toNat : Int)) = x.1 := by
    simp only [Lib.bytesOf, List.map_map]
    conv => rhs; rw [← List.map_id x.1]
    exact List.map_congr_left fun c _ => by simp
  have := Lib.run_loadBytesX (P := Tryd.prog) W (x.1.map fun c => (c.toNat : Int)) ⟨b, 0, none⟩ ByteArray.empty (fun j y hy => by
    rw [Addr.add_lit, Nat.zero_add, cell_of_row _ _ j _ _ (0, 0) h]
    simp only [List.getElem?_map, Option.map_eq_some_iff] at hy
    obtain ⟨c, hc, rfl⟩ := hy
    simp [arr, encLp, byV, hc])
  rw [hb, List.length_map, x.2] at this
  refine this.trans ?_
  congr 1
  apply ByteArray.ext
  show (#[] : Array UInt8) ++ x.1.toArray = x.1.toArray
  simp

theorem cmp_def (a b : Value) : Extern.BytealgCompare.compare #[a, b] = (do pure (goInt (Extern.BytealgCompare.cmp (← Extern.Bytes.bytesOf a) (← Extern.Bytes.bytesOf b)))) := rfl

set_option maxRecDepth 100000 in
theorem run_cmpLp {W : World} {b c : Nat} {x y : Lp} (hx : LpAt W b x) (hy : LpAt W c y) :
    (Extern.BytealgCompare.compare #[.slice (some ⟨b, 0, none⟩) 40 40, .slice (some ⟨c, 0, none⟩) 40 40]).run Tryd.prog W = .ok (.int .i64 (Lib.compareBytes x.1 y.1)) W := by
  have h := Lib.cmp_eq (ofL x.1) (ofL y.1)
  rw [cmp_def, Sem.run_bind, loadB hx, Result.andThen_ok, Sem.run_bind, loadB hy, Result.andThen_ok, Sem.run_pure]
  have ex : (ofL x.1).data.toList = x.1 := rfl
  have ey : (ofL y.1).data.toList = y.1 := rfl
  rw [ex, ey] at h
  rw [h, goInt]

set_option maxRecDepth 100000 in
theorem bytesCompare_any (b c : Nat) (x y : Lp) (w : World) (hx : LpAt w b x) (hy : LpAt w c y) :
    Calls Tryd.prog 74 #[.slice (some ⟨b, 0, none⟩) 40 40, .slice (some ⟨c, 0, none⟩) 40 40] w fun e w' => e = .returned (.int .i64 (Lib.compareBytes x.1 y.1)) ∧ w' = w := by
  have hr := run_cmpLp hx hy
  clear hx hy
  generalize Lib.compareBytes x.1 y.1 = r at *
  go_enter Tryd.func74, Tryd.ntmps74
  go_wp2
  rw [run_callFunc_extern Tryd.func91 (by kernel_rfl) (by kernel_rfl) (by kernel_rfl) (e := Extern.BytealgCompare.compare) (by kernel_rfl), hr]
  simp only [Result.andThen]
  rw [Oper.upon_value]
  go_wp2
  go_ret
  exact ⟨rfl, rfl⟩

set_option maxRecDepth 100000 in
set_option maxHeartbeats 800000 in
theorem compare_any (x y : Lp) (w : World) :
    Calls Tryd.prog 50 #[.agg (arr x), .agg (arr y)] w fun e w' => e = .returned (.int .i64 (Lib.compareBytes x.1 y.1)) ∧ ∃ q, w' = ((w.alloc (.cells (arr x) 45)).alloc (.cells (arr y) 45)).drewN q := by
  have hsz : (w.alloc (.cells (arr x) 45)).heap.size = w.heap.size + 1 := by simp
  have a1 := LpAt.new (w.alloc (.cells (arr x) 45)) y
  rw [hsz] at a1
  have HC := Lib.hid (fun q => bytesCompare_any w.heap.size (w.heap.size + 1) x y (((w.alloc (.cells (arr x) 45)).alloc (.cells (arr y) 45)).drewN q) (((LpAt.new w x).alloc _).drewN q) (a1.drewN q))
  obtain ⟨K, hK⟩ : ∃ K, K = 40 := ⟨_, rfl⟩
  have zE := zK hK
  have hA := aK hK x
  have hB := aK hK y
  clear hK a1 hsz
  generalize Lib.compareBytes x.1 y.1 = r at *
  generalize arr x = A at *
  generalize arr y = B at *
  go_enter Tryd.func50, Tryd.ntmps50
  go_wp2_with fail
  go_quiet (exact Calls.quiet_of_same (HC.out _))
  go_wp2_with fail
  go_ret
  exact ⟨rfl, _, rfl⟩

end Go.Proofs.YtoenkgenoloihaaDoor

/- Contract: the arrays of a ring spun. -/
namespace Go.Proofs.YtoenkgenoloihaaDoor
open Go.ChangeShapes Go.WideShapes Go.ChangeAt Go.RowKit

set_option linter.unusedVariables false

def lpCells (L : List Lp) : List Value := L.flatMap encLp

theorem lpCells_append (L M : List Lp) : lpCells (L ++ M) = lpCells L ++ lpCells M := by simp [lpCells]

theorem lpCells_one (x : Lp) : lpCells [x] = encLp x := by simp [lpCells]

theorem lpCells_len (L : List Lp) : (lpCells L).length = L.length * 40 := by
  induction L with
  | nil => rfl
  | cons x L ih => simp only [lpCells, List.flatMap_cons, List.length_append, encLp_len, List.length_cons] at ih ⊢; omega

theorem lpCells_at : ∀ (L : List Lp) (j : Nat) (x : Lp), L[j]? = some x → ∀ (i : Nat) (v : Value), (encLp x)[i]? = some v → (lpCells L)[j * 40 + i]? = some v
  | [], _, _, h, _, _, _ => by simp at h
  | y :: L, 0, x, h, i, v, hv => by
    simp only [List.getElem?_cons_zero, Option.some.injEq] at h
    subst h
    have hi : i < (encLp y).length := (List.getElem?_eq_some_iff.1 hv).1
    simp only [lpCells, List.flatMap_cons, Nat.zero_mul, Nat.zero_add]
    rw [List.getElem?_append_left hi]
    exact hv
  | y :: L, j + 1, x, h, i, v, hv => by
    have ih := lpCells_at L j x (by simpa using h) i v hv
    simp only [lpCells, List.flatMap_cons] at ih ⊢
    rw [List.getElem?_append_right (by rw [encLp_len]; omega), encLp_len, show (j + 1) * 40 + i - 40 = j * 40 + i by omega]
    exact ih

theorem own_lessL {W : World} {B B' : Nat} {e : TypeId} {size n : Nat} {v : Value} {xs : List Value} (h : W.ownsRow B e size v n xs) (hB : B' ≤ B) : W.ownsRow B' e size v n xs := by
  refine ⟨h.1, ?_⟩
  rcases h.2 with h2 | ⟨g, cap, cur, h1, h2, h3⟩
  · exact .inl h2
  · exact .inr ⟨g, cap, cur, h1, by omega, h3⟩

theorem lpInfo3 : (Tryd.prog.info? 45).map (fun i => (i.zero, i.size, i.bytes)) = some (some (.agg (arr zLp)), 40, 40) := by kernel_rfl

theorem concat_runL {a b t : ByteArray} (ht : a ++ b = t) (h : a.size + b.size ≤ 1000000) (w : World) : (Op.stringOp .add a b).run Tryd.prog w = .ok (.string t) w := by
  rw [← ht]
  exact run_string_add_sum w a b (by omega)

theorem rot1_take {l : List UInt8} {k : Nat} (hk : k < l.length) : (rot1 l).take (k + 1) = (rot1 l).take k ++ [spn l (k + 1)] := by
  have h : (rot1 l)[k]? = some (spn l (k + 1)) := by simp [rot1, hk]
  obtain ⟨h1, h2⟩ := List.getElem?_eq_some_iff.1 h
  rw [List.take_succ_eq_append_getElem h1, h2]

theorem spn_text (l : List UInt8) (k : Nat) : (ofL l).extract k l.length ++ (ofL l).extract 0 k = ofL (spn l k) := by
  apply ByteArray.ext
  have h1 : ((ofL l).extract k l.length).data.toList = l.drop k := by
    rw [Lib.extract_data]
    show List.take (l.length - k) (List.drop k l) = l.drop k
    exact List.take_of_length_le (by simp)
  have h2 : ((ofL l).extract 0 k).data.toList = l.take k := by
    rw [Lib.extract_data]
    simp [ofL]
  rw [ByteArray.data_append]
  apply Array.toList_inj.1
  rw [Array.toList_append, h1, h2]
  rfl

set_option maxRecDepth 100000 in
set_option maxHeartbeats 1600000 in
theorem spins_any (l : List UInt8) (hl : l.length ≤ 40) (h0 : ∀ c ∈ l, c ≠ 0) (w : World) :
    Calls Tryd.prog 49 #[.agg (arr (mkLp l))] w fun e w' => ∃ v, e = .returned v ∧ w'.ownsRow w.heap.size 45 40 v l.length (lpCells ((rot1 l).map mkLp)) ∧ Below w.heap.size w w' := by
  obtain ⟨i0, hi, iz0, iz1, iz2⟩ := info_parts lpInfo3
  have hT := fun W => text_any (mkLp l) W
  rw [txt_mk hl h0] at hT
  have HT := Lib.hid hT
  have HF := Lib.hid (fun (k : Nat) (W : World) => loopFrom_any (spn l k) (by rw [spn_len]; exact hl) W)
  obtain ⟨n, hn⟩ : ∃ n, l.length = n := ⟨_, rfl⟩
  have HN := Lib.hid hn
  have hz : (ofL l).size = n := by rw [ofL_size, hn]
  have HX := Lib.hid (fun k => spn_text l k)
  have a0 := LpAt.new w (mkLp l)
  obtain ⟨K, hK⟩ : ∃ K, K = 40 := ⟨_, rfl⟩
  have hld := a0.loadK hK
  have zE := zK hK
  have hA := aK hK (mkLp l)
  have HK := Lib.hid hK
  have hzv := (zero_of_info (P := Tryd.prog) lpInfo).1
  generalize arr zLp = Z at hzv
  rw [hn] at hl ⊢
  generalize hs : ofL l = s at *
  generalize arr (mkLp l) = A at *
  clear hT hK a0 hn h0 hs
  go_enter Tryd.func49, Tryd.ntmps49
  go_wp2_with fail
  refine (HT.out _).mono ?_
  rintro e w1 ⟨rfl, hb1⟩
  have HB := Lib.hid (ba (by go_grown) hb1 : Below w.heap.size w w1)
  clear hb1 hld
  go_wp2_with fail
  go_loopw [3, 10] (fun t i wr => ∃ (k : Nat) (v : Value), k ≤ n ∧ i = .int .i64 k ∧ v = t ∧ wr.ownsRow w.heap.size 45 40 v k (lpCells (((rot1 l).take k).map mkLp)) ∧ Below w.heap.size w wr) (fun _ i _ => n - (intOf i).toNat)
  case atStart => exact ⟨0, _, Nat.zero_le _, rfl, rfl, World.ownsRow_nil _ _ _ _, HB.out⟩
  case round =>
    obtain ⟨k, v, hk, rfl, rfl, hO, hb⟩ := hrel
    have HO := Lib.hid hO
    have HB2 := Lib.hid hb
    have hzb := hb.size
    by_cases hlt : k < n
    · have i1 : (0 : Int) ≤ (k : Int) := by omega
      have i2 : (k : Int) + 1 ≤ (n : Int) := by omega
      have i3 : (0 : Int) ≤ (k : Int) + 1 := by omega
      have i4 : k + 1 ≤ n := by omega
      have i5 : ((k + 1 : Nat) : Int) ≤ (n : Int) := by omega
      have hw : IntKind.i64.wrap ((k : Int) + 1) = (k : Int) + 1 := by rw [IntKind.wrap_i64]; omega
      have hx := HX.out (k + 1)
      rw [HN.out] at hx
      have F := Lib.hid (HF.out (k + 1))
      have HV := Lib.hid (show lpCells (((rot1 l).take (k + 1)).map mkLp) = lpCells (((rot1 l).take k).map mkLp) ++ encLp (mkLp (spn l (k + 1))) by
        rw [rot1_take (by rw [HN.out]; exact hlt), List.map_append, lpCells_append]
        simp [lpCells])
      obtain ⟨T, hTt⟩ : ∃ T, ofL (spn l (k + 1)) = T := ⟨_, rfl⟩
      rw [hTt] at hx F
      have k1 : ∀ w : World, (Op.stringOp .add (s.extract (k + 1) n) (s.extract 0 (k + 1))).run Tryd.prog w = .ok (.string T) w := fun w => concat_runL hx (by rw [ByteArray.size_extract, ByteArray.size_extract]; omega) w
      obtain ⟨y, hy⟩ : ∃ y, mkLp (spn l (k + 1)) = y := ⟨_, rfl⟩
      rw [hy] at F HV
      have hAy := aK HK.out y
      have hfy := fold_K HK.out y
      have kb : ¬ 16777216 < K := by rw [HK.out]; decide
      have kz : ¬ K = 0 := by rw [HK.out]; decide
      clear hx hTt hy hO hb
      go_wp2_with fail
      go_region_held3 (fun _ => True) (trivial)
        (first | ((with_reducible refine (F.out _).mono ?_); rintro e wA ⟨rfl, h1⟩; (try with_reducible replace h1 := undrew h1); have HOA := Lib.hid (own_below HO.out h1); have hqA := h1.size; (try simp at hqA)) | ((refine step_append_lies _ (by rfl) _ _ _ (by rfl) w.heap.size 45 i0 (.agg (arr zLp)) 40 40 Tryd.underlying49 hi iz0 iz1 iz2 (arr_size _) (by decide) v k _ (by rfl) (HOA.out.alloc _) ⟨wA.heap.size, 0, none⟩ 1 1 (encLp y) (by rfl) (by rw [encLp_len]) (World.news_of_block (cs := arr y) (heap_alloc_new _ _)) (enc_one y) (by decide) (by unfold maxLen; omega) (by omega) (by simp; omega) (wA.heap.size + 1) (by simp) ?_); intro g2 cap2 w3 hown3 hgrow hat hlt3))
      have hBA := HB2.out.trans (h1.mono hzb)
      have hlt' := (HOA.out.alloc (.cells (arr y) 45)).lt
      have HB4 := Lib.hid ((hBA.alloc (by omega) (.cells (arr y) 45)).grown hgrow (by simp; omega) (fun k hk => (hlt' k hk).1))
      have HN4 := Lib.hid hown3
      clear hBA hlt' hown3 hgrow hat h1
      go_wp2_with fail
      go_roundw
      case rel => exact ⟨k + 1, _, by omega, by go_num, rfl, by rw [HV.out]; exact HN4.out, HB4.out⟩
      case measure => simp [intOf]; omega
    · obtain rfl : k = n := by omega
      have HTA := Lib.hid (show (rot1 l).take k = rot1 l from List.take_of_length_le (by rw [rot1_len, HN.out]; exact Nat.le_refl _))
      clear hO hb
      go_wp2_with fail
      go_ret
      exact ⟨v, rfl, by have := HO.out; rw [HTA.out] at this; exact this, HB2.out⟩

end Go.Proofs.YtoenkgenoloihaaDoor

/- Contracts: the array of a ring, mirrored, laid backward, and both. -/
namespace Go.Proofs.YtoenkgenoloihaaDoor
open Go.ChangeShapes Go.WideShapes Go.ChangeAt Go.RowKit

set_option linter.unusedVariables false

theorem pcb_nz {c : UInt8} (h : pcb c = true) : c ≠ 0 := by rintro rfl; exact absurd h (by decide)

theorem tk_nz {l : List UInt8} (h : tkB (ofL l) = true) : ∀ c ∈ l, c ≠ 0 := fun c hc => pcb_nz (tkB_list h c hc)

theorem tk_le {l : List UInt8} (h : tkB (ofL l) = true) : l.length ≤ 40 := by have := tkB_size h; rwa [ofL_size] at this

theorem pcb_mir {c : UInt8} (h : pcb c = true) : pcb (mir c) = true := by
  rcases pcb_cases h with rfl | rfl | rfl <;> decide

theorem tk_of {l : List UInt8} (h1 : l.length ≤ 40) (h2 : ∀ c ∈ l, pcb c = true) : tkB (ofL l) = true := by
  simp only [tkB, ofL_size, Bool.and_eq_true, decide_eq_true_eq]
  exact ⟨h1, List.all_eq_true.2 h2⟩

theorem tk_all {l : List UInt8} (h : tkB (ofL l) = true) : ∀ c ∈ l, pcb c = true := fun c hc => tkB_list h c hc

theorem tk_mir {l : List UInt8} (h : tkB (ofL l) = true) : tkB (ofL (l.map mir)) = true :=
  tk_of (by rw [List.length_map]; exact tk_le h) (fun c hc => by
    obtain ⟨d, hd, rfl⟩ := List.mem_map.1 hc
    exact pcb_mir (tk_all h d hd))

def bak (l : List UInt8) : List UInt8 := (l.map mir).reverse

theorem bak_len (l : List UInt8) : (bak l).length = l.length := by simp [bak]

theorem tk_bak {l : List UInt8} (h : tkB (ofL l) = true) : tkB (ofL (bak l)) = true :=
  tk_of (by rw [bak_len]; exact tk_le h) (fun c hc => by
    simp only [bak, List.mem_reverse, List.mem_map] at hc
    obtain ⟨d, hd, rfl⟩ := hc
    exact pcb_mir (tk_all h d hd))

set_option maxRecDepth 100000 in
set_option maxHeartbeats 800000 in
theorem mirror_any (l : List UInt8) (ht : tkB (ofL l) = true) (w : World) :
    Calls Tryd.prog 60 #[.agg (arr (mkLp l))] w fun e w' => e = .returned (.agg (arr (mkLp (l.map mir)))) ∧ Below w.heap.size w w' := by
  have hT := fun W => text_any (mkLp l) W
  rw [txt_mk (tk_le ht) (tk_nz ht)] at hT
  have hM := fun W => imMirrorTrack (ofL l) (by have := tkB_size ht; omega) W
  rw [show miR (ofL l) = ofL (l.map mir) by rw [miR, ht]; rfl, ht] at hM
  have HT := Lib.hid hT
  have HM := Lib.hid hM
  have HF := Lib.hid (fun W => loopFrom_any (l.map mir) (by rw [List.length_map]; exact tk_le ht) W)
  have hz := (zero_of_info (P := Tryd.prog) lpInfo).1
  have a0 := (LpAt.new w (mkLp l)).alloc (.cells (arr zLp) 45)
  have a1 := LpAt.new (w.alloc (.cells (arr (mkLp l)) 45)) zLp
  rw [show (w.alloc (.cells (arr (mkLp l)) 45)).heap.size = w.heap.size + 1 by simp] at a1
  obtain ⟨K, hK⟩ : ∃ K, K = 40 := ⟨_, rfl⟩
  have hld := a0.loadK hK
  have zE := zK hK
  have hA := aK hK (mkLp l)
  have HK := Lib.hid hK
  have HA1 := Lib.hid a1
  obtain ⟨y, hy⟩ : ∃ y, mkLp (l.map mir) = y := ⟨_, rfl⟩
  rw [hy] at HF ⊢
  have hAy := aK hK y
  clear hT hM hK a0 a1 hy
  generalize ofL l = s at *
  generalize ofL (l.map mir) = t at *
  go_enter Tryd.func60, Tryd.ntmps60
  go_wp2_with fail
  refine (HT.out _).mono ?_
  rintro e w1 ⟨rfl, hb1⟩
  have HA2 := Lib.hid (HA1.out.below hb1 (by simp))
  have HB1 := Lib.hid (ba (by go_grown) hb1 : Below w.heap.size w w1)
  clear hb1 hld
  go_wp2_with fail
  refine (HM.out _).mono ?_
  rintro e w2 ⟨rfl, hb2⟩
  have HA3 := Lib.hid (HA2.out.below hb2 HA2.out.lt)
  have HB2 := Lib.hid (HB1.out.trans (hb2.mono HB1.out.size))
  clear hb2
  go_wp2_with fail
  refine (HF.out _).mono ?_
  rintro e w3 ⟨rfl, hb3⟩
  have a3 := HA3.out.below hb3 HA3.out.lt
  have hst := a3.store y
  have hl3 := (a3.set y).loadK HK.out
  have HB3 := Lib.hid (below_setRow (HB2.out.trans (hb3.mono HB2.out.size)) (Nat.le_succ _) (arr y))
  clear hb3 a3
  go_wp2_with fail
  refine bodyPost_ret (by simp [results, Tryd.results60, go_sem, *]; try rfl) rfl ?_
  exact ⟨rfl, HB3.out⟩

set_option maxRecDepth 100000 in
set_option maxHeartbeats 800000 in
theorem back_anyL (l : List UInt8) (ht : tkB (ofL l) = true) (w : World) :
    Calls Tryd.prog 62 #[.agg (arr (mkLp l))] w fun e w' => e = .returned (.agg (arr (mkLp (bak l)))) ∧ Below w.heap.size w w' := by
  have hT := fun W => text_any (mkLp l) W
  rw [txt_mk (tk_le ht) (tk_nz ht)] at hT
  have hM := fun W => imBackTrack (ofL l) (by have := tkB_size ht; omega) W
  rw [show baR (ofL l) = ofL (bak l) by rw [baR, ht]; show baS (ofL l) = ofL (bak l); rw [baS, bak, ← List.map_reverse]; rfl, ht] at hM
  have HT := Lib.hid hT
  have HM := Lib.hid hM
  have HF := Lib.hid (fun W => loopFrom_any (bak l) (by rw [bak_len]; exact tk_le ht) W)
  have hz := (zero_of_info (P := Tryd.prog) lpInfo).1
  have a0 := (LpAt.new w (mkLp l)).alloc (.cells (arr zLp) 45)
  have a1 := LpAt.new (w.alloc (.cells (arr (mkLp l)) 45)) zLp
  rw [show (w.alloc (.cells (arr (mkLp l)) 45)).heap.size = w.heap.size + 1 by simp] at a1
  obtain ⟨K, hK⟩ : ∃ K, K = 40 := ⟨_, rfl⟩
  have hld := a0.loadK hK
  have zE := zK hK
  have hA := aK hK (mkLp l)
  have HK := Lib.hid hK
  have HA1 := Lib.hid a1
  obtain ⟨y, hy⟩ : ∃ y, mkLp (bak l) = y := ⟨_, rfl⟩
  rw [hy] at HF ⊢
  have hAy := aK hK y
  clear hT hM hK a0 a1 hy
  generalize ofL l = s at *
  generalize ofL (bak l) = t at *
  go_enter Tryd.func62, Tryd.ntmps62
  go_wp2_with fail
  refine (HT.out _).mono ?_
  rintro e w1 ⟨rfl, hb1⟩
  have HA2 := Lib.hid (HA1.out.below hb1 (by simp))
  have HB1 := Lib.hid (ba (by go_grown) hb1 : Below w.heap.size w w1)
  clear hb1 hld
  go_wp2_with fail
  refine (HM.out _).mono ?_
  rintro e w2 ⟨rfl, hb2⟩
  have HA3 := Lib.hid (HA2.out.below hb2 HA2.out.lt)
  have HB2 := Lib.hid (HB1.out.trans (hb2.mono HB1.out.size))
  clear hb2
  go_wp2_with fail
  refine (HF.out _).mono ?_
  rintro e w3 ⟨rfl, hb3⟩
  have a3 := HA3.out.below hb3 HA3.out.lt
  have hst := a3.store y
  have hl3 := (a3.set y).loadK HK.out
  have HB3 := Lib.hid (below_setRow (HB2.out.trans (hb3.mono HB2.out.size)) (Nat.le_succ _) (arr y))
  clear hb3 a3
  go_wp2_with fail
  refine bodyPost_ret (by simp [results, Tryd.results62, go_sem, *]; try rfl) rfl ?_
  exact ⟨rfl, HB3.out⟩

set_option maxRecDepth 100000 in
set_option maxHeartbeats 800000 in
theorem mirrorBack_any (l : List UInt8) (ht : tkB (ofL l) = true) (w : World) :
    Calls Tryd.prog 78 #[.agg (arr (mkLp l))] w fun e w' => e = .returned (.agg (arr (mkLp ((bak l).map mir)))) ∧ Below w.heap.size w w' := by
  have HT := Lib.hid (back_anyL l ht)
  have HF := Lib.hid (mirror_any (bak l) (tk_bak ht))
  have hz := (zero_of_info (P := Tryd.prog) lpInfo).1
  have a0 := (LpAt.new w (mkLp l)).alloc (.cells (arr zLp) 45)
  have a1 := LpAt.new (w.alloc (.cells (arr (mkLp l)) 45)) zLp
  rw [show (w.alloc (.cells (arr (mkLp l)) 45)).heap.size = w.heap.size + 1 by simp] at a1
  obtain ⟨K, hK⟩ : ∃ K, K = 40 := ⟨_, rfl⟩
  have hld := a0.loadK hK
  have zE := zK hK
  have hA := aK hK (mkLp l)
  have HK := Lib.hid hK
  have HA1 := Lib.hid a1
  have hAb := aK hK (mkLp (bak l))
  obtain ⟨y, hy⟩ : ∃ y, mkLp ((bak l).map mir) = y := ⟨_, rfl⟩
  rw [hy] at HF ⊢
  have hAy := aK hK y
  clear hK a0 a1 hy
  go_enter Tryd.func78, Tryd.ntmps78
  go_wp2_with fail
  refine (HT.out _).mono ?_
  rintro e w1 ⟨rfl, hb1⟩
  have HA2 := Lib.hid (HA1.out.below hb1 (by simp))
  have HB1 := Lib.hid (ba (by go_grown) hb1 : Below w.heap.size w w1)
  clear hb1 hld
  go_wp2_with fail
  refine (HF.out _).mono ?_
  rintro e w3 ⟨rfl, hb3⟩
  have a3 := HA2.out.below hb3 HA2.out.lt
  have hst := a3.store y
  have hl3 := (a3.set y).loadK HK.out
  have HB3 := Lib.hid (below_setRow (HB1.out.trans (hb3.mono HB1.out.size)) (Nat.le_succ _) (arr y))
  clear hb3 a3
  go_wp2_with fail
  refine bodyPost_ret (by simp [results, Tryd.results78, go_sem, *]; try rfl) rfl ?_
  exact ⟨rfl, HB3.out⟩

end Go.Proofs.YtoenkgenoloihaaDoor

/- Contracts of the model: rings spun, least ones, periods, the four that a class is of, first ones. -/
namespace Go.Proofs.YtoenkgenoloihaaDoor
open Go.ChangeShapes Go.WideShapes Go.ChangeAt Go.RowKit

set_option linter.unusedVariables false

theorem concat_runC {a b t : ByteArray} (ht : a ++ b = t) (h : a.size + b.size ≤ 1000000) (w : World) : (Op.stringOp .add a b).run Tryd.prog w = .ok (.string t) w := by
  rw [← ht]
  exact run_string_add_sum w a b (by omega)

theorem spn_textC (l : List UInt8) (k : Nat) : (ofL l).extract k l.length ++ (ofL l).extract 0 k = ofL (spn l k) := by
  have h1 : ((ofL l).extract k l.length).data.toList = l.drop k := by
    rw [Lib.extract_data]
    show List.take (l.length - k) (List.drop k l) = l.drop k
    exact List.take_of_length_le (by simp)
  have h2 : ((ofL l).extract 0 k).data.toList = l.take k := by
    rw [Lib.extract_data]
    simp [ofL]
  apply ByteArray.ext
  rw [ByteArray.data_append]
  apply Array.toList_inj.1
  rw [Array.toList_append, h1, h2]
  rfl

theorem below_drewC {B : Nat} {a w : World} (h : Below B a w) (q : Nat) : Below B a (w.drewN q) := ⟨h.os, h.tape, h.output, h.size, h.block⟩

set_option maxRecDepth 100000 in
theorem csSpin_any (l : List UInt8) (hl : l.length ≤ 40) (k : Nat) (hk : k ≤ l.length) (w : World) :
    Calls Tryd.prog 72 #[.string (ofL l), .int .i64 k] w fun e w' => e = .returned (.string (ofL (spn l k))) ∧ ∃ q, w' = w.drewN q := by
  obtain ⟨n, hn⟩ : ∃ n, l.length = n := ⟨_, rfl⟩
  have hz : (ofL l).size = n := by rw [ofL_size, hn]
  have hx := spn_textC l k
  rw [hn] at hx hl hk
  obtain ⟨T, hT⟩ : ∃ T, ofL (spn l k) = T := ⟨_, rfl⟩
  rw [hT] at hx ⊢
  generalize ofL l = s at *
  have i1 : (0 : Int) ≤ (k : Int) := by omega
  have i2 : (k : Int) ≤ (n : Int) := by omega
  have k1 : ∀ w : World, (Op.stringOp .add (s.extract k n) (s.extract 0 k)).run Tryd.prog w = .ok (.string T) w := fun w => concat_runC hx (by rw [ByteArray.size_extract, ByteArray.size_extract]; omega) w
  clear hx hT hn
  go_enter Tryd.func72, Tryd.ntmps72
  go_wp2_with fail
  go_quiet (fail)
  go_wp2_with fail
  go_ret
  exact ⟨rfl, _, rfl⟩

theorem mn_snoc (x y : List UInt8) (ys : List (List UInt8)) : mn x (ys ++ [y]) = if y < mn x ys then y else mn x ys := by
  unfold mn
  rw [List.foldl_append]
  rfl

theorem less_run (a b : List UInt8) : Op.bytesLess (ofL a).toList (ofL b).toList = decide (a < b) := by
  rw [bytesLess_eq, ByteArray.toList_eq, ByteArray.toList_eq]
  rfl

theorem rot_take {l : List UInt8} {k : Nat} (hk : k < l.length) : (rotA l).take (k + 1) = (rotA l).take k ++ [spn l k] := by
  have h : (rotA l)[k]? = some (spn l k) := by simp [rotA, hk]
  obtain ⟨h1, h2⟩ := List.getElem?_eq_some_iff.1 h
  rw [List.take_succ_eq_append_getElem h1, h2]

set_option maxRecDepth 100000 in
set_option maxHeartbeats 800000 in
theorem csLeast_any (l : List UInt8) (ht : tkB (ofL l) = true) (w : World) :
    Calls Tryd.prog 46 #[.string (ofL l)] w fun e w' => e = .returned (.string (ofL (leastL l))) ∧ Below w.heap.size w w' := by
  have hl := tk_le ht
  obtain ⟨n, hn⟩ : ∃ n, l.length = n := ⟨_, rfl⟩
  have hz : (ofL l).size = n := by rw [ofL_size, hn]
  have hasc : ∀ pos (h : pos < (ofL l).size), ((ofL l)[pos]'h).toNat < 128 := fun pos h => by
    have hm : (ofL l)[pos]'h ∈ l := by
      have : (ofL l)[pos]'h = l[pos]'(by rw [← ofL_size l]; exact h) := rfl
      rw [this]
      exact List.getElem_mem _
    rcases pcb_cases (tk_all ht _ hm) with e | e | e <;> rw [e] <;> decide
  have HS := Lib.hid (fun (k : Nat) (hk : k ≤ l.length) (W : World) => csSpin_any l hl k hk W)
  have HN := Lib.hid hn
  have HR := Lib.hid (show ofL (leastL l) = ofL (mn l (rotA l)) from rfl)
  have hk0 := World.iter_heap w (ofL l) 0
  have hb0 : Below w.heap.size w (w.iter (ofL l) 0) := (Below.refl _ w).alloc (Nat.le_refl _) _
  have HASC := Lib.hid hasc
  have HST := Lib.hid (show ofL l = ofL (mn l ((rotA l).take 0)) from rfl)
  clear hasc
  generalize hs : ofL l = s at *
  clear hs hn
  go_enter Tryd.func46, Tryd.ntmps46
  go_wp2_with fail
  go_loopw [3] (fun t wr => ∃ (pos : Nat), pos ≤ n ∧ t = .string (ofL (mn l ((rotA l).take pos))) ∧ wr.heap[w.heap.size]? = some (.stringIter s pos) ∧ Below w.heap.size w wr) (fun _ wr => n - wr.iterPos w.heap.size)
  case atStart => exact ⟨0, Nat.zero_le _, by rw [HST.out], hk0, hb0⟩
  case round =>
    obtain ⟨pos, hps, rfl, hk, hb⟩ := hrel
    by_cases hp : pos < n
    · have hnext : ∀ ty, (Instr.next (.pointer (some ⟨w.heap.size, 0, none⟩)) true ty).run Tryd.prog wr = _ := fun ty => Lib.run_next_ascii_at wr w.heap.size s pos ty hk (by rw [hz]; exact hp) (HASC.out pos (by rw [hz]; exact hp))
      have hk1 := Lib.iterAt_heap wr w.heap.size s pos (pos + 1) hk
      have hb1 : Below w.heap.size w (wr.iterAt w.heap.size s (pos + 1)) := Lib.below_iterAt hb (Nat.le_refl _) s (pos + 1)
      have hmu : wr.iterPos w.heap.size = pos := by simp [World.iterPos, hk]
      have SP := Lib.hid (HS.out pos (by rw [HN.out]; omega))
      have hsn := mn_snoc l (spn l pos) ((rotA l).take pos)
      rw [← rot_take (by rw [HN.out]; exact hp)] at hsn
      obtain ⟨y, hy⟩ : ∃ y, spn l pos = y := ⟨_, rfl⟩
      rw [hy] at SP hsn
      generalize mn l ((rotA l).take pos) = m at *
      have hless := less_run y m
      have HK1 := Lib.hid hk1
      have HB1 := Lib.hid hb1
      have HMU := Lib.hid hmu
      clear hk hb hk1 hb1 hy hmu
      generalize wr.iterAt w.heap.size s (pos + 1) = W1 at *
      by_cases hyx : y < m
      · rw [decide_eq_true hyx] at hless
        rw [if_pos hyx] at hsn
        have HSN := Lib.hid hsn
        clear hsn hyx
        generalize ofL m = M at *
        go_wp2_with fail
        refine (SP.out _).mono ?_
        rintro e W2 ⟨rfl, q, rfl⟩
        go_wp2_with fail
        go_roundw
        case rel => exact ⟨pos + 1, by omega, by rw [HSN.out], HK1.out, below_drewC HB1.out q⟩
        case measure =>
          have h2 : (W1.drewN q).iterPos w.heap.size = pos + 1 := by simp [World.iterPos, HK1.out]
          rw [HMU.out, h2]; omega
      · rw [decide_eq_false hyx] at hless
        rw [if_neg hyx] at hsn
        have HSN := Lib.hid hsn
        clear hsn hyx
        go_wp2_with fail
        refine (SP.out _).mono ?_
        rintro e W2 ⟨rfl, q, rfl⟩
        go_wp2_with fail
        go_roundw
        case rel => exact ⟨pos + 1, by omega, by rw [HSN.out], HK1.out, below_drewC HB1.out q⟩
        case measure =>
          have h2 : (W1.drewN q).iterPos w.heap.size = pos + 1 := by simp [World.iterPos, HK1.out]
          rw [HMU.out, h2]; omega
    · obtain rfl : pos = n := by omega
      have hnext : ∀ ty, (Instr.next (.pointer (some ⟨w.heap.size, 0, none⟩)) true ty).run Tryd.prog wr = _ := fun ty => Lib.run_next_end_at wr w.heap.size s pos ty hk (by rw [hz]; exact hp)
      have HT := Lib.hid (show (rotA l).take pos = rotA l from List.take_of_length_le (by simp [rotA, HN.out]))
      have HB := Lib.hid hb
      clear hk hb
      go_wp2_with fail
      go_ret
      exact ⟨by rw [HR.out, HT.out]; rfl, HB.out⟩

/-- The least number of pieces that come again. -/
def perN (l : List UInt8) : Nat := (rot1 l).findIdx (· == l) + 1

theorem per_hit {l : List UInt8} {k : Nat} (hk : k < l.length) (h : spn l (k + 1) = l) (hno : ∀ j, j < k → spn l (j + 1) ≠ l) : perN l = k + 1 := by
  have hk' : k < (rot1 l).length := by rw [rot1_len]; exact hk
  have := (List.findIdx_eq (p := (· == l)) hk').2 ⟨by simp [rot1, h], fun j hj => by
    have hj' : j < l.length := by omega
    simp only [rot1, List.getElem_map, List.getElem_range]
    simpa using hno j hj⟩
  rw [perN, this]

theorem per_le {l : List UInt8} (h0 : 0 < l.length) : perN l ≤ l.length := by
  have h1 : l.length - 1 < (rot1 l).length := by rw [rot1_len]; omega
  have h2 : (rot1 l)[l.length - 1]'h1 = l := by
    simp only [rot1, List.getElem_map, List.getElem_range]
    rw [show l.length - 1 + 1 = l.length by omega, spn_full]
  have : (rot1 l).findIdx (· == l) ≤ l.length - 1 := by
    refine Nat.le_of_not_lt fun hlt => ?_
    have := List.not_of_lt_findIdx hlt
    simp [h2] at this
  unfold perN
  omega

set_option maxRecDepth 100000 in
set_option maxHeartbeats 800000 in
theorem csPeriod_any (l : List UInt8) (hl : l.length ≤ 40) (h0 : 0 < l.length) (w : World) :
    Calls Tryd.prog 54 #[.string (ofL l)] w fun e w' => e = .returned (.int .i64 (perN l : Nat)) ∧ Below w.heap.size w w' := by
  obtain ⟨n, hn⟩ : ∃ n, l.length = n := ⟨_, rfl⟩
  have hz : (ofL l).size = n := by rw [ofL_size, hn]
  have HS := Lib.hid (fun (k : Nat) (hk : k ≤ l.length) (W : World) => csSpin_any l hl k hk W)
  have HN := Lib.hid hn
  have HE := Lib.hid (fun (y : List UInt8) => (show ((ofL y).toList == (ofL l).toList) = decide (y = l) by
    rw [ByteArray.toList_eq, ByteArray.toList_eq]
    exact (show (y == l) = decide (y = l) by by_cases h : y = l <;> simp [h])))
  obtain ⟨s, hs⟩ : ∃ s, ofL l = s := ⟨_, rfl⟩
  rw [hs] at HE HS hz ⊢
  have hpos : 0 < n := by omega
  have hn40 : n ≤ 40 := by omega
  clear hn h0
  go_enter Tryd.func54, Tryd.ntmps54
  go_wp2_with fail
  go_loopw [3] (fun i wr => ∃ k : Nat, k < n ∧ i = .int .i64 ((k + 1 : Nat) : Int) ∧ (∀ j, j < k → spn l (j + 1) ≠ l) ∧ Below w.heap.size w wr) (fun i _ => n - (intOf i).toNat)
  case atStart => exact ⟨0, hpos, rfl, fun j hj => absurd hj (Nat.not_lt_zero _), Below.refl _ _⟩
  case round =>
    obtain ⟨k, hk, rfl, hno, hb⟩ := hrel
    have HB := Lib.hid hb
    have HNO := Lib.hid hno
    clear hno hb
    by_cases hlt : k + 1 < n
    · have SP := HS.out (k + 1) (by rw [HN.out]; omega)
      rw [show ((k + 1 : Nat) : Int) = (k : Int) + 1 by omega] at SP
      replace SP := Lib.hid SP
      have he := HE.out (spn l (k + 1))
      have hlt2 : ((k + 1 : Nat) : Int) < (n : Int) := by omega
      by_cases hv : spn l (k + 1) = l
      · have HP := Lib.hid (per_hit (by rw [HN.out]; exact hk) hv HNO.out)
        rw [decide_eq_true hv] at he
        clear hv
        generalize ofL (spn l (k + 1)) = T at *
        go_wp2_with ((with_reducible refine (SP.out _).mono ?_); rintro e W2 ⟨rfl, q, rfl⟩)
        go_ret
        exact ⟨by rw [HP.out]; rfl, below_drewC HB.out q⟩
      · have HV := Lib.hid hv
        rw [decide_eq_false hv] at he
        clear hv
        generalize ofL (spn l (k + 1)) = T at *
        go_wp2_with ((with_reducible refine (SP.out _).mono ?_); rintro e W2 ⟨rfl, q, rfl⟩)
        go_roundw
        case rel => exact ⟨k + 1, by omega, by go_num, fun j hj => by
            by_cases e : j = k
            · subst e; exact HV.out
            · exact HNO.out j (by omega), below_drewC HB.out q⟩
        case measure => simp [intOf]; omega
    · have hkn : k + 1 = n := by omega
      have HP := Lib.hid (per_hit (l := l) (k := k) (by rw [HN.out]; exact hk) (by rw [hkn, ← HN.out]; exact spn_full l) HNO.out)
      have hlt2 : ¬ ((k + 1 : Nat) : Int) < (n : Int) := by omega
      go_wp2_with fail
      go_ret
      exact ⟨by rw [HP.out, hkn]; rfl, HB.out⟩

def four (l : List UInt8) : List (List UInt8) := [l, l.map mir, bak l, (bak l).map mir]

def classL (l : List UInt8) : List UInt8 := mn l ((four l).map leastL)

theorem miS_of (l : List UInt8) : miS (ofL l) = ofL (l.map mir) := rfl

theorem baS_of (l : List UInt8) : baS (ofL l) = ofL (bak l) := by
  rw [baS, bak, ← List.map_reverse]; rfl

theorem four_tk {l : List UInt8} (h : tkB (ofL l) = true) : ∀ x ∈ four l, tkB (ofL x) = true := by
  intro x hx
  simp only [four, List.mem_cons, List.not_mem_nil, or_false] at hx
  rcases hx with rfl | rfl | rfl | rfl
  · exact h
  · exact tk_mir h
  · exact tk_bak h
  · exact tk_mir (tk_bak h)

theorem four_len {l x : List UInt8} (hx : x ∈ four l) : x.length = l.length := by
  simp only [four, List.mem_cons, List.not_mem_nil, or_false] at hx
  rcases hx with rfl | rfl | rfl | rfl <;> simp [bak]

set_option maxRecDepth 100000 in
theorem csFour_any (l : List UInt8) (hl : l.length ≤ 40) (w : World) :
    Calls Tryd.prog 76 #[.string (ofL l)] w fun e w' => e = .returned (.slice (some ⟨w.heap.size, 0, none⟩) 4 4) ∧ w' = w.alloc (.cells #[.string (ofL l), .string (ofL (l.map mir)), .string (ofL (bak l)), .string (ofL ((bak l).map mir))] 9) := by
  have M1 := Lib.hid (fun W => tkMirror_any (ofL l) (by rw [ofL_size]; exact hl) W)
  have B1 := Lib.hid (fun W => tkBack_any (ofL l) (by rw [ofL_size]; exact hl) W)
  have M2 := Lib.hid (fun W => tkMirror_any (ofL (bak l)) (by rw [ofL_size, bak_len]; exact hl) W)
  rw [miS_of] at M1 M2
  rw [baS_of] at B1
  go_enter Tryd.func76, Tryd.ntmps76
  go_wp2_with (first | ((with_reducible refine (M1.out _).mono ?_); rintro e w' ⟨rfl, rfl⟩) | ((with_reducible refine (M2.out _).mono ?_); rintro e w' ⟨rfl, rfl⟩) | ((with_reducible refine (B1.out _).mono ?_); rintro e w' ⟨rfl, rfl⟩))
  go_ret
  exact ⟨rfl, rfl⟩

theorem four_at {W : World} {g : Nat} {a b c d : Value} {t : TypeId} (h : W.heap[g]? = some (.cells #[a, b, c, d] t (0, 0))) (i : Nat) (x : Value) (hx : [a, b, c, d][i]? = some x) : W.cell? ⟨g, i, none⟩ = some x := by
  rw [cell_of_row _ _ i _ _ (0, 0) h]
  simpa using hx

set_option maxRecDepth 100000 in
set_option maxHeartbeats 800000 in
theorem csClass_any (l : List UInt8) (ht : tkB (ofL l) = true) (w : World) :
    Calls Tryd.prog 52 #[.string (ofL l)] w fun e w' => e = .returned (.string (ofL (classL l))) ∧ Below w.heap.size w w' := by
  have FR := Lib.hid (csFour_any l (tk_le ht))
  have LS := Lib.hid (fun x (hx : x ∈ four l) (W : World) => csLeast_any x (four_tk ht x hx) W)
  go_enter Tryd.func52, Tryd.ntmps52
  go_wp2_with fail
  refine (FR.out _).mono ?_
  rintro e w1 ⟨rfl, rfl⟩
  go_wp2_with fail
  go_loopw [3, 11] (fun t i wr => ∃ (k : Nat), k ≤ 4 ∧ i = .int .i64 k ∧ t = .string (ofL (mn l (((four l).take k).map leastL))) ∧ wr.heap[w.heap.size]? = some (.cells #[.string (ofL l), .string (ofL (l.map mir)), .string (ofL (bak l)), .string (ofL ((bak l).map mir))] 9 (0, 0)) ∧ Below w.heap.size w wr) (fun _ i _ => 4 - (intOf i).toNat)
  case atStart => exact ⟨0, by omega, rfl, rfl, heap_alloc_last w _, by go_grown⟩
  case round =>
    obtain ⟨k, hk, rfl, rfl, hblk, hb⟩ := hrel
    have hzl : w.heap.size < wr.heap.size := (Array.getElem?_eq_some_iff.1 hblk).1
    by_cases hlt : k < 4
    · obtain ⟨x, hx⟩ : ∃ x, (four l)[k]? = some x := ⟨_, List.getElem?_eq_getElem (by simpa [four] using hlt)⟩
      have c0 : wr.cell? ⟨w.heap.size, k, none⟩ = some (.string (ofL x)) := four_at hblk k _ (by
        rw [show [Value.string (ofL l), Value.string (ofL (l.map mir)), Value.string (ofL (bak l)), Value.string (ofL ((bak l).map mir))] = (four l).map (fun y => Value.string (ofL y)) from rfl, List.getElem?_map, hx]
        rfl)
      have SP := Lib.hid (LS.out x (List.mem_of_getElem? hx))
      have hsn := mn_snoc l (leastL x) (((four l).take k).map leastL)
      rw [show ((four l).take k).map leastL ++ [leastL x] = ((four l).take (k + 1)).map leastL by rw [List.take_add_one, hx, List.map_append]; rfl] at hsn
      generalize leastL x = y at *
      generalize mn l (((four l).take k).map leastL) = m at *
      have hless := less_run y m
      have HBK := Lib.hid hblk
      have HB := Lib.hid hb
      have i1 : (0 : Int) ≤ (k : Int) := by omega
      have i2 : (k : Int) < 4 := by omega
      clear hx hblk hb
      by_cases hyx : y < m
      · rw [decide_eq_true hyx] at hless
        rw [if_pos hyx] at hsn
        have HSN := Lib.hid hsn
        clear hsn hyx
        generalize ofL x = X at *
        go_wp2_with fail
        refine (SP.out _).mono ?_
        rintro e w2 ⟨rfl, hb2⟩
        have HBK2 := Lib.hid ((hb2.block w.heap.size hzl).trans HBK.out)
        have HB2 := Lib.hid (HB.out.trans (hb2.mono HB.out.size))
        clear hb2
        go_wp2_with fail
        go_roundw
        case rel => exact ⟨k + 1, by omega, by go_num, by rw [HSN.out], HBK2.out, HB2.out⟩
        case measure => simp [intOf]; omega
      · rw [decide_eq_false hyx] at hless
        rw [if_neg hyx] at hsn
        have HSN := Lib.hid hsn
        clear hsn hyx
        generalize ofL x = X at *
        go_wp2_with fail
        refine (SP.out _).mono ?_
        rintro e w2 ⟨rfl, hb2⟩
        have HBK2 := Lib.hid ((hb2.block w.heap.size hzl).trans HBK.out)
        have HB2 := Lib.hid (HB.out.trans (hb2.mono HB.out.size))
        clear hb2
        go_wp2_with fail
        go_roundw
        case rel => exact ⟨k + 1, by omega, by go_num, by rw [HSN.out], HBK2.out, HB2.out⟩
        case measure => simp [intOf]; omega
    · obtain rfl : k = 4 := by omega
      have HB := Lib.hid hb
      clear hb
      go_wp2_with fail
      go_ret
      exact ⟨rfl, HB.out⟩

end Go.Proofs.YtoenkgenoloihaaDoor

/- Contract: the library's slices.MinFunc at arrays of forty bytes. -/
namespace Go.Proofs.YtoenkgenoloihaaDoor
open Go.ChangeShapes Go.WideShapes Go.ChangeAt Go.RowKit

set_option linter.unusedVariables false

theorem compare_gr (x y : Lp) (w : World) :
    Calls Tryd.prog 50 #[.agg (arr x), .agg (arr y)] w fun e w' => e = .returned (.int .i64 (Lib.compareBytes x.1 y.1)) ∧ ∃ q os, w' = Sort.grow (w.drewN q) os :=
  (compare_any x y w).mono fun _ _ ⟨h1, q, h2⟩ => ⟨h1, q, #[.cells (arr x) 45, .cells (arr y) 45], by
    rw [h2, Sort.alloc_eq_grow, Sort.alloc_eq_grow, Sort.grow_grow]
    rfl⟩

def RowLp (w : World) (g : Nat) (L : List Lp) : Prop := ∀ j x, L[j]? = some x → ∀ i v, (encLp x)[i]? = some v → w.cell? ⟨g, j * 40 + i, none⟩ = some v

theorem RowLp.of {W : World} {B n g cap : Nat} {e : TypeId} {L : List Lp} (h : W.ownsRow B e 40 (.slice (some ⟨g, 0, none⟩) n cap) n (lpCells L)) (hn : L.length = n) : RowLp W g L := fun j x hx i v hv => by
  have h1 := lpCells_at L j x hx i v hv
  have h2 : j * 40 + i < n * 40 := by
    have a := (List.getElem?_eq_some_iff.1 hx).1
    have b := (List.getElem?_eq_some_iff.1 hv).1
    rw [encLp_len] at b
    omega
  rw [h.cellAt (j * 40 + i) h2]
  exact h1

theorem RowLp.below {W W' : World} {g m : Nat} {L : List Lp} (h : RowLp W g L) (hg : g < m) (hb : Below m W W') : RowLp W' g L := fun j x hx i v hv => by
  rw [hb.cell (p := ⟨g, j * 40 + i, none⟩) hg]
  exact h j x hx i v hv

theorem RowLp.load {W : World} {g : Nat} {L : List Lp} (h : RowLp W g L) {j : Nat} {x : Lp} (hx : L[j]? = some x) {K : Nat} (hK : K = 40) : Sem.run Tryd.prog (loadCellsFrom ⟨g, j * K, none⟩ 0 K #[]) W = .ok (arr x) W := by
  subst hK
  exact lp_load W g (j * 40) x fun i v hv => h j x hx i v hv

theorem RowLp.set {W : World} {g b : Nat} {L : List Lp} (h : RowLp W g L) (A : Array Value) (hne : b ≠ g) : RowLp (W.setRow b A) g L := fun j x hx i v hv => by
  rw [show (W.setRow b A).cell? ⟨g, j * 40 + i, none⟩ = W.cell? ⟨g, j * 40 + i, none⟩ by simp [World.cell?, World.setRow, Array.getElem?_modify, hne]]
  exact h j x hx i v hv

theorem below_gr {W : World} {m : Nat} (hm : m ≤ W.heap.size) (q : Nat) (os : Array Obj) : Below m W (Sort.grow (W.drewN q) os) :=
  ⟨rfl, rfl, rfl, by rw [Sort.size_grow]; exact Nat.le_add_right _ _, fun k hk => Sort.heap_grow_old (W.drewN q) os (show k < (W.drewN q).heap.size from Nat.lt_of_lt_of_le hk hm)⟩

/-- The first one of those that none comes before. -/
def mnL (m : Lp) (xs : List Lp) : Lp := xs.foldl (fun m y => if y.1 < m.1 then y else m) m

theorem mnL_snoc (m y : Lp) (xs : List Lp) : mnL m (xs ++ [y]) = if y.1 < (mnL m xs).1 then y else mnL m xs := by
  unfold mnL
  rw [List.foldl_append]
  rfl

theorem cmp_neg (x y : Lp) : (decide (Lib.compareBytes x.1 y.1 < 0)) = decide (x.1 < y.1) := by
  by_cases h : x.1 < y.1
  · rw [decide_eq_true h, decide_eq_true ((cmpB_lt _ _).2 h)]
  · rw [decide_eq_false h, decide_eq_false (fun h2 => h ((cmpB_lt _ _).1 h2))]

set_option maxRecDepth 100000 in
set_option maxHeartbeats 1600000 in
theorem minFunc_any (x0 : Lp) (L : List Lp) (n : Nat) (hn : (x0 :: L).length = n) (hb5 : n ≤ 5000) (g cap : Nat) (hcap : n ≤ cap) (w : World) (hr : RowLp w g (x0 :: L)) (hg : g < w.heap.size) :
    Calls Tryd.prog 48 #[.slice (some ⟨g, 0, none⟩) n cap, .func (.func 50) #[] #[]] w fun e w' => e = .returned (.agg (arr (mnL x0 L))) ∧ Below w.heap.size w w' := by
  have mixed := Tryd.indexLoop.mixed
  obtain ⟨K, hK⟩ : ∃ K, K = 40 := ⟨_, rfl⟩
  have HK := Lib.hid hK
  have zE := zK hK
  have hz := (zero_of_info (P := Tryd.prog) lpInfo).1
  have hA0 := aK hK x0
  have hsz : (w.alloc (.cells (arr zLp) 45)).heap.size = w.heap.size + 1 := by simp
  have r1 : RowLp (w.alloc (.cells (arr zLp) 45)) g (x0 :: L) := hr.below hg ((Below.refl _ w).alloc (Nat.le_refl _) _)
  have ld0 := r1.load (j := 0) (x := x0) rfl hK
  rw [Nat.zero_mul] at ld0
  have r2 : RowLp ((w.alloc (.cells (arr zLp) 45)).alloc (.cells (arr zLp) 45)) g (x0 :: L) := r1.below hg ((Below.refl _ (w.alloc (.cells (arr zLp) 45))).alloc (by simp) _)
  have m2 := LpAt.new (w.alloc (.cells (arr zLp) 45)) zLp
  have z2 := (LpAt.new w zLp).alloc (.cells (arr zLp) 45)
  rw [hsz] at m2
  have st0 := m2.store x0
  have m3 := m2.set x0
  have z3 := z2.set_other (arr x0) (show w.heap.size + 1 ≠ w.heap.size by omega)
  have r3 := r2.set (arr x0) (show w.heap.size + 1 ≠ g by omega)
  have b3 : Below w.heap.size w (((w.alloc (.cells (arr zLp) 45)).alloc (.cells (arr zLp) 45)).setRow (w.heap.size + 1) (arr x0)) := below_setRow (((Below.refl _ w).alloc (Nat.le_refl _) _).alloc (by simp) _) (Nat.le_succ _) _
  have n0 : ¬ (n : Int) < 1 := by simp only [List.length_cons] at hn; omega
  have n1 : (0 : Int) < (n : Int) := by simp only [List.length_cons] at hn; omega
  have HN := Lib.hid hn
  have CMP := Lib.hid compare_gr
  have HR3 := Lib.hid r3
  have HM3 := Lib.hid m3
  have HZ3 := Lib.hid z3
  have HB3 := Lib.hid b3
  clear hsz r1 r2 m2 z2 m3 z3 r3 b3 hr hK hn
  go_enter Tryd.func48, Tryd.ntmps48
  go_wp2_with fail
  go_loopw [6] (fun i wr => ∃ k : Nat, 1 ≤ k ∧ k ≤ n ∧ i = .int .i64 k ∧ RowLp wr g (x0 :: L) ∧ LpAt wr (w.heap.size + 1) (mnL x0 (((x0 :: L).take k).drop 1)) ∧ LpAt wr w.heap.size zLp ∧ Below w.heap.size w wr) (fun i _ => n - (intOf i).toNat)
  case atStart => exact ⟨1, Nat.le_refl _, by omega, rfl, HR3.out, HM3.out, HZ3.out, HB3.out⟩
  case round =>
    obtain ⟨k, hk1, hk, rfl, hr, hm, hzz, hb⟩ := hrel
    clear st0 ld0
    by_cases hlt : k < n
    · obtain ⟨y, hy⟩ : ∃ y, (x0 :: L)[k]? = some y := ⟨_, List.getElem?_eq_getElem (by rw [HN.out]; exact hlt)⟩
      have hsn : mnL x0 (((x0 :: L).take (k + 1)).drop 1) = if y.1 < (mnL x0 (((x0 :: L).take k).drop 1)).1 then y else mnL x0 (((x0 :: L).take k).drop 1) := by
        rw [List.take_add_one, hy, List.drop_append_of_le_length (by rw [List.length_take, HN.out]; omega)]
        exact mnL_snoc _ _ _
      generalize mnL x0 (((x0 :: L).take k).drop 1) = m at *
      have hbg : ∀ q os, Below wr.heap.size wr (Sort.grow (wr.drewN q) os) := fun q os => below_gr (Nat.le_refl _) q os
      have hgr : g < wr.heap.size := Nat.lt_of_lt_of_le hg hb.size
      have lj : ∀ q os, Sem.run Tryd.prog (loadCellsFrom ⟨g, k * K, none⟩ 0 K #[]) (Sort.grow (wr.drewN q) os) = .ok (arr y) (Sort.grow (wr.drewN q) os) := fun q os => (hr.below hgr (hbg q os)).load hy HK.out
      have lm : ∀ q os, Sem.run Tryd.prog (loadCellsFrom ⟨w.heap.size + 1, 0, none⟩ 0 K #[]) (Sort.grow (wr.drewN q) os) = .ok (arr m) (Sort.grow (wr.drewN q) os) := fun q os => (hm.below (hbg q os) hm.lt).loadK HK.out
      have hcg : ∀ q os, Calls Tryd.prog 50 #[.agg (arr y), .agg (arr m)] (Sort.grow (wr.drewN q) os) fun e w' => e = .returned (.int .i64 (Lib.compareBytes y.1 m.1)) ∧ ∃ q' os', w' = Sort.grow ((Sort.grow (wr.drewN q) os).drewN q') os' := fun q os => CMP.out y m _
      have hcn := cmp_neg y m
      have i1 : (0 : Int) ≤ (k : Int) := by omega
      have i2 : (k : Int) < (n : Int) := by omega
      have HRR := Lib.hid hr
      have HMM := Lib.hid hm
      have HZZ := Lib.hid hzz
      have HBB := Lib.hid hb
      have HBG := Lib.hid hbg
      have HY := Lib.hid hy
      have hAy := aK HK.out y
      clear hr hm hzz hb hbg hy
      by_cases hv : y.1 < m.1
      · rw [if_pos hv] at hsn
        rw [decide_eq_true hv] at hcn
        have hneg : Lib.compareBytes y.1 m.1 < 0 := of_decide_eq_true hcn
        have HSN := Lib.hid hsn
        clear hsn hcn hv
        generalize Lib.compareBytes y.1 m.1 = c at *
        go_wp2_with fail
        go_quiet_grown (first | (go_at_call 50; refine Calls.grown_of (hcg _ _)))
        have b2 := HBG.out nq osq
        have lj2 := lj nq osq
        have r2 := HRR.out.below hgr b2
        have m2 := HMM.out.below b2 HMM.out.lt
        have z2 := HZZ.out.below b2 HZZ.out.lt
        clear lj lm hcg
        generalize Sort.grow (wr.drewN nq) osq = W2 at *
        have st2 := m2.store y
        have M3 := Lib.hid (m2.set y)
        have Z3 := Lib.hid (z2.set_other (arr y) (show w.heap.size + 1 ≠ w.heap.size by omega))
        have R3 := Lib.hid (r2.set (arr y) (show w.heap.size + 1 ≠ g by omega))
        have B3 := Lib.hid (below_setRow (HBB.out.trans (b2.mono HBB.out.size)) (Nat.le_succ _) (arr y))
        clear b2 r2 m2 z2
        go_wp2_with fail
        go_roundw
        case rel => exact ⟨k + 1, by omega, by omega, by go_num, R3.out, by rw [HSN.out]; exact M3.out, Z3.out, B3.out⟩
        case measure => simp [intOf]; omega
      · rw [if_neg hv] at hsn
        rw [decide_eq_false hv] at hcn
        have hneg : ¬ Lib.compareBytes y.1 m.1 < 0 := of_decide_eq_false hcn
        have HSN := Lib.hid hsn
        clear hsn hcn hv
        generalize Lib.compareBytes y.1 m.1 = c at *
        go_wp2_with fail
        go_quiet_grown (first | (go_at_call 50; refine Calls.grown_of (hcg _ _)))
        have b2 := HBG.out nq osq
        have R2 := Lib.hid (HRR.out.below hgr b2)
        have M2 := Lib.hid (HMM.out.below b2 HMM.out.lt)
        have Z2 := Lib.hid (HZZ.out.below b2 HZZ.out.lt)
        have B2 := Lib.hid (HBB.out.trans (b2.mono HBB.out.size))
        clear lj lm hcg b2
        generalize Sort.grow (wr.drewN nq) osq = W2 at *
        go_wp2_with fail
        go_roundw
        case rel => exact ⟨k + 1, by omega, by omega, by go_num, R2.out, by rw [HSN.out]; exact M2.out, Z2.out, B2.out⟩
        case measure => simp [intOf]; omega
    · obtain rfl : k = n := by omega
      have ht : ((x0 :: L).take k).drop 1 = L := by rw [List.take_of_length_le (by rw [HN.out]; exact Nat.le_refl _)]; rfl
      rw [ht] at hm
      have lm := hm.loadK HK.out
      have st2 := hzz.store (mnL x0 L)
      have l3 := (hzz.set (mnL x0 L)).loadK HK.out
      have hAm := aK HK.out (mnL x0 L)
      have B3 := Lib.hid (below_setRow hb (Nat.le_refl _) (arr (mnL x0 L)))
      clear hm hzz hr hb ht
      go_wp2_with fail
      refine bodyPost_ret (by simp [results, Tryd.results48, go_sem, *]; try rfl) rfl ?_
      exact ⟨rfl, B3.out⟩

end Go.Proofs.YtoenkgenoloihaaDoor
