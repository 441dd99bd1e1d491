/- Contract: the program's stepsOf. -/
import Derived.Test.YtppbbcckijcckaaTkL
import Derived.Test.YtppbbcckijcckaaStM
import Derived.Test.YtppbbcckijcckaaSt
import Derived.Laws.AppendOwn
import Derived.Laws.OwnMore
import Derived.Deep.AppendLies
namespace Go.Proofs.Ytppbbcckijcckaa
open Go.ChangeShapes Go.WideShapes Go.ChangeAt Go.RowKit

theorem stInfo : (Try.prog.info? 108).map (fun i => (i.zero, i.size, i.bytes)) = some (some (.agg #[.int .i64 0, .int .i64 0, .int .i64 0, .int .i64 0, .int .i64 0]), 5, 40) := by kernel_rfl

theorem own_below {W w1 : World} {B : Nat} {e : TypeId} {size n : Nat} {v : Value} {xs : List Value} (h : W.ownsRow B e size v n xs) (hb : Below W.heap.size W w1) : w1.ownsRow B e size v n xs :=
  h.kept (row := none) ⟨hb.os, hb.tape, hb.output, hb.size, fun k hk _ => hb.block k hk⟩ (by cases v.ownBlock <;> simp)

theorem own_sp {W : World} {B n g cap i : Nat} {e : TypeId} {l : List Sp} {s : Sp} (h : W.ownsRow B e 5 (.slice (some ⟨g, 0, none⟩) n cap) n (spCells l)) (hn : l.length = n) (hs : l[i]? = some s) :
    W.cell? ⟨g, i * 5, none⟩ = some (.int .i64 s.x0) ∧ W.cell? ⟨g, i * 5 + 1, none⟩ = some (.int .i64 s.x1) ∧ W.cell? ⟨g, i * 5 + 2, none⟩ = some (.int .i64 s.x2) ∧ W.cell? ⟨g, i * 5 + 3, none⟩ = some (.int .i64 s.x3) ∧ W.cell? ⟨g, i * 5 + 4, none⟩ = some (.int .i64 s.h) := by
  have hi : i < n := by rw [← hn]; exact (List.getElem?_eq_some_iff.1 hs).1
  have a := fun j (hj : j < 5) => (h.cellAt (i * 5 + j) (by omega)).trans ((by rw [Nat.mul_comm]) : _ = (spCells l)[5 * i + j]?) |>.trans (spCells_at l hs j hj)
  exact ⟨a 0 (by omega), a 1 (by omega), a 2 (by omega), a 3 (by omega), a 4 (by omega)⟩

def StepsPost (s : ByteArray) (w : World) (e : Ending) (w' : World) : Prop :=
  ∃ g cap, e = .returned (.tuple #[.slice (some ⟨g, 0, none⟩) (s.size + 1) cap, .bool true]) ∧ w'.ownsRow w.heap.size 108 5 (.slice (some ⟨g, 0, none⟩) (s.size + 1) cap) (s.size + 1) (spCells (lays sp0 s.data.toList)) ∧ Below w.heap.size w w'

theorem lays_take (s : ByteArray) (k : Nat) (hk : k < s.size) (c : UInt8) (hc : s[k] = c) : lays sp0 (s.data.toList.take (k + 1)) = lays sp0 (s.data.toList.take k) ++ [(fin sp0 (s.data.toList.take k)).next c] := by
  rw [take_snoc s k hk, lays_snoc, hc]

theorem lays_at (s : ByteArray) (k : Nat) (hk : k ≤ s.size) : (lays sp0 (s.data.toList.take k))[k]? = some (fin sp0 (s.data.toList.take k)) := by
  have h := lays_last sp0 (s.data.toList.take k)
  rwa [List.length_take, size_list, Nat.min_eq_left hk] at h

theorem lays_len (s : ByteArray) (k : Nat) (hk : k ≤ s.size) : (lays sp0 (s.data.toList.take k)).length = k + 1 := by
  rw [lays_length, List.length_take, size_list, Nat.min_eq_left hk]

set_option maxRecDepth 100000 in
set_option maxHeartbeats 1600000 in
theorem stepsOf_yes (s : ByteArray) (ht : tkB s = true) (w : World) :
    Calls Try.prog 135 #[.string s] w (StepsPost s w) := by
  have h40 := tkB_size ht
  have hs : s.size ≤ 1048576 := by omega
  have HT := Lib.hid (fun k hk => tkB_at ht (k := k) hk)
  obtain ⟨i0, hi, hz0, hz1, hz2⟩ := info_parts stInfo
  go_enter Try.func135, Try.ntmps135
  go_wp2_with (go_at_call 80; refine (imIsTrack_any s hs _).mono ?_; rintro e w' ⟨rfl, rfl⟩)
  go_loopw [4, 14] (fun v i wr => ∃ (k g cap : Nat), k ≤ s.size ∧ i = .int .i64 k ∧ v = .slice (some ⟨g, 0, none⟩) ((k + 1 : Nat)) cap ∧ wr.ownsRow w.heap.size 108 5 (.slice (some ⟨g, 0, none⟩) (k + 1) cap) (k + 1) (spCells (lays sp0 (s.data.toList.take k))) ∧ Below w.heap.size w wr) (fun _ i _ => s.size - (intOf i).toNat)
  case atStart => exact ⟨0, w.heap.size, 1, Nat.zero_le _, rfl, rfl, ⟨rfl, .inr ⟨w.heap.size, 1, _, rfl, Nat.le_refl _, heap_alloc_new w _, Nat.le_refl _, by decide, rfl, rfl⟩⟩, by go_grown⟩
  case round =>
    obtain ⟨k, g, cap, hk, rfl, rfl, hown, hb⟩ := hrel
    have hz : w.heap.size ≤ wr.heap.size := hb.size
    by_cases hlt : k < s.size
    · have HX := Lib.hid (ext_one s k hlt)
      have hp := HT.out k hlt
      have hok := fin_ok sp0_ok (s.data.toList.take k)
      have hl : (s.data.toList.take k).length ≤ 40 := by rw [List.length_take, size_list]; omega
      have hF := lays_at s k hk
      generalize hc : s[k] = c at HX hp
      have HN := Lib.hid (lays_take s k hlt c hc)
      clear hc
      have hcells := own_sp hown (lays_len s k hk) hF
      generalize fin sp0 (s.data.toList.take k) = p at HN hok hcells hF
      obtain ⟨x0, x1, x2, x3, h⟩ := p
      simp only [Sp.okB] at hok
      obtain ⟨⟨b0, b0'⟩, ⟨b1, b1'⟩, ⟨b2, b2'⟩, ⟨b3, b3'⟩, b4, b5⟩ := hok
      obtain ⟨c0, c1, c2, c3, c4⟩ := hcells
      have HO := Lib.hid hown
      have HB := Lib.hid hb
      clear hF hown hb
      rcases pcb_cases hp with rfl | rfl | rfl
      · clear hp
        go_wp2_with (go_at_call 125; refine (lay_S' _ HX.out _).mono ?_; rintro e w' ⟨rfl, rfl⟩)
        refine (straightP x0 x1 x2 x3 h b4 b5 (by omega) (by omega) (by omega) (by omega) (by omega) (by omega) (by omega) (by omega) _).mono ?_
        rintro e w1 ⟨rfl, hb1⟩
        have HO1 := Lib.hid (own_below HO.out hb1)
        have hz1' : wr.heap.size ≤ w1.heap.size := hb1.size
        have HB1 := Lib.hid (HB.out.trans (hb1.mono hz))
        clear hb1 c0 c1 c2 c3 c4
        go_wp2_with (at_builtin; refine wpList_append_own _ rfl _ _ 123 rfl w.heap.size 108 i0 (.agg #[.int .i64 0, .int .i64 0, .int .i64 0, .int .i64 0, .int .i64 0]) 5 40 Try.underlying123 hi hz0 hz1 hz2 rfl (by decide) _ _ _ rfl (HO1.out.alloc _) ⟨w1.heap.size, 0, none⟩ 1 1 [.int .i64 (x0 + tu0 h 1 0 0 0), .int .i64 (x1 + tu1 h 1 0 0 0), .int .i64 (x2 + tu2 h 1 0 0 0), .int .i64 (x3 + tu3 h 1 0 0 0), .int .i64 h] rfl rfl ?c1 ?c2 ?c3 ?c4 ?c5 ?_)
        case c1 =>
          intro j u hj
          match j, hj with
          | 0, hj => simp at hj; subst hj; simp [Addr.add]
          | 1, hj => simp at hj; subst hj; simp [Addr.add]
          | 2, hj => simp at hj; subst hj; simp [Addr.add]
          | 3, hj => simp at hj; subst hj; simp [Addr.add]
          | 4, hj => simp at hj; subst hj; simp [Addr.add]
        case c2 => intro u hu; simp at hu; rcases hu with rfl | rfl | rfl | rfl | rfl <;> rfl
        case c3 => unfold maxLen; omega
        case c4 => omega
        case c5 => simp; omega
        intro v' w2 hown' hgrow _
        have hlt' := (HO1.out.alloc (.cells #[.int .i64 (x0 + tu0 h 1 0 0 0), .int .i64 (x1 + tu1 h 1 0 0 0), .int .i64 (x2 + tu2 h 1 0 0 0), .int .i64 (x3 + tu3 h 1 0 0 0), .int .i64 h] 108)).lt
        have HB2 := Lib.hid ((HB1.out.alloc (by omega) (.cells #[.int .i64 (x0 + tu0 h 1 0 0 0), .int .i64 (x1 + tu1 h 1 0 0 0), .int .i64 (x2 + tu2 h 1 0 0 0), .int .i64 (x3 + tu3 h 1 0 0 0), .int .i64 h] 108)).grown hgrow (by simp; omega) (fun k hk => (hlt' k hk).1))
        obtain ⟨g', cap', rfl, _⟩ := hown'.form (by omega)
        have HW := Lib.hid hown'
        clear hown' hgrow hlt'
        go_wp2_with fail
        go_roundw
        case rel => exact ⟨k + 1, g', cap', by omega, by go_num, rfl, by rw [HN.out, spCells_append]; exact HW.out, HB2.out⟩
        case measure => simp [intOf]; omega
      · clear hp
        go_wp2_with (go_at_call 125; refine (lay_L' _ HX.out _).mono ?_; rintro e w' ⟨rfl, rfl⟩)
        refine (leftP x0 x1 x2 x3 h b4 b5 (by omega) (by omega) (by omega) (by omega) (by omega) (by omega) (by omega) (by omega) _).mono ?_
        rintro e w1 ⟨rfl, hb1⟩
        have HO1 := Lib.hid (own_below HO.out hb1)
        have hz1' : wr.heap.size ≤ w1.heap.size := hb1.size
        have HB1 := Lib.hid (HB.out.trans (hb1.mono hz))
        clear hb1 c0 c1 c2 c3 c4
        go_wp2_with (at_builtin; refine wpList_append_own _ rfl _ _ 123 rfl w.heap.size 108 i0 (.agg #[.int .i64 0, .int .i64 0, .int .i64 0, .int .i64 0, .int .i64 0]) 5 40 Try.underlying123 hi hz0 hz1 hz2 rfl (by decide) _ _ _ rfl (HO1.out.alloc _) ⟨w1.heap.size, 0, none⟩ 1 1 [.int .i64 (x0 + (tu0 ((h + 7) % 8) 1 0 0 0 - tu0 ((h + 6) % 8) 1 0 0 0)), .int .i64 (x1 + (tu1 ((h + 7) % 8) 1 0 0 0 - tu1 ((h + 6) % 8) 1 0 0 0)), .int .i64 (x2 + (tu2 ((h + 7) % 8) 1 0 0 0 - tu2 ((h + 6) % 8) 1 0 0 0)), .int .i64 (x3 + (tu3 ((h + 7) % 8) 1 0 0 0 - tu3 ((h + 6) % 8) 1 0 0 0)), .int .i64 ((h + 1) % 8)] rfl rfl ?c1 ?c2 ?c3 ?c4 ?c5 ?_)
        case c1 =>
          intro j u hj
          match j, hj with
          | 0, hj => simp at hj; subst hj; simp [Addr.add]
          | 1, hj => simp at hj; subst hj; simp [Addr.add]
          | 2, hj => simp at hj; subst hj; simp [Addr.add]
          | 3, hj => simp at hj; subst hj; simp [Addr.add]
          | 4, hj => simp at hj; subst hj; simp [Addr.add]
        case c2 => intro u hu; simp at hu; rcases hu with rfl | rfl | rfl | rfl | rfl <;> rfl
        case c3 => unfold maxLen; omega
        case c4 => omega
        case c5 => simp; omega
        intro v' w2 hown' hgrow _
        have hlt' := (HO1.out.alloc (.cells #[.int .i64 (x0 + (tu0 ((h + 7) % 8) 1 0 0 0 - tu0 ((h + 6) % 8) 1 0 0 0)), .int .i64 (x1 + (tu1 ((h + 7) % 8) 1 0 0 0 - tu1 ((h + 6) % 8) 1 0 0 0)), .int .i64 (x2 + (tu2 ((h + 7) % 8) 1 0 0 0 - tu2 ((h + 6) % 8) 1 0 0 0)), .int .i64 (x3 + (tu3 ((h + 7) % 8) 1 0 0 0 - tu3 ((h + 6) % 8) 1 0 0 0)), .int .i64 ((h + 1) % 8)] 108)).lt
        have HB2 := Lib.hid ((HB1.out.alloc (by omega) (.cells #[.int .i64 (x0 + (tu0 ((h + 7) % 8) 1 0 0 0 - tu0 ((h + 6) % 8) 1 0 0 0)), .int .i64 (x1 + (tu1 ((h + 7) % 8) 1 0 0 0 - tu1 ((h + 6) % 8) 1 0 0 0)), .int .i64 (x2 + (tu2 ((h + 7) % 8) 1 0 0 0 - tu2 ((h + 6) % 8) 1 0 0 0)), .int .i64 (x3 + (tu3 ((h + 7) % 8) 1 0 0 0 - tu3 ((h + 6) % 8) 1 0 0 0)), .int .i64 ((h + 1) % 8)] 108)).grown hgrow (by simp; omega) (fun k hk => (hlt' k hk).1))
        obtain ⟨g', cap', rfl, _⟩ := hown'.form (by omega)
        have HW := Lib.hid hown'
        clear hown' hgrow hlt'
        go_wp2_with fail
        go_roundw
        case rel => exact ⟨k + 1, g', cap', by omega, by go_num, rfl, by rw [HN.out, spCells_append]; exact HW.out, HB2.out⟩
        case measure => simp [intOf]; omega
      · clear hp
        go_wp2_with (go_at_call 125; refine (lay_R' _ HX.out _).mono ?_; rintro e w' ⟨rfl, rfl⟩)
        refine (rightP x0 x1 x2 x3 h b4 b5 (by omega) (by omega) (by omega) (by omega) (by omega) (by omega) (by omega) (by omega) _).mono ?_
        rintro e w1 ⟨rfl, hb1⟩
        have HO1 := Lib.hid (own_below HO.out hb1)
        have hz1' : wr.heap.size ≤ w1.heap.size := hb1.size
        have HB1 := Lib.hid (HB.out.trans (hb1.mono hz))
        clear hb1 c0 c1 c2 c3 c4
        go_wp2_with (at_builtin; refine wpList_append_own _ rfl _ _ 123 rfl w.heap.size 108 i0 (.agg #[.int .i64 0, .int .i64 0, .int .i64 0, .int .i64 0, .int .i64 0]) 5 40 Try.underlying123 hi hz0 hz1 hz2 rfl (by decide) _ _ _ rfl (HO1.out.alloc _) ⟨w1.heap.size, 0, none⟩ 1 1 [.int .i64 (x0 + (tu0 ((h + 1) % 8) 1 0 0 0 - tu0 ((h + 2) % 8) 1 0 0 0)), .int .i64 (x1 + (tu1 ((h + 1) % 8) 1 0 0 0 - tu1 ((h + 2) % 8) 1 0 0 0)), .int .i64 (x2 + (tu2 ((h + 1) % 8) 1 0 0 0 - tu2 ((h + 2) % 8) 1 0 0 0)), .int .i64 (x3 + (tu3 ((h + 1) % 8) 1 0 0 0 - tu3 ((h + 2) % 8) 1 0 0 0)), .int .i64 ((h + 7) % 8)] rfl rfl ?c1 ?c2 ?c3 ?c4 ?c5 ?_)
        case c1 =>
          intro j u hj
          match j, hj with
          | 0, hj => simp at hj; subst hj; simp [Addr.add]
          | 1, hj => simp at hj; subst hj; simp [Addr.add]
          | 2, hj => simp at hj; subst hj; simp [Addr.add]
          | 3, hj => simp at hj; subst hj; simp [Addr.add]
          | 4, hj => simp at hj; subst hj; simp [Addr.add]
        case c2 => intro u hu; simp at hu; rcases hu with rfl | rfl | rfl | rfl | rfl <;> rfl
        case c3 => unfold maxLen; omega
        case c4 => omega
        case c5 => simp; omega
        intro v' w2 hown' hgrow _
        have hlt' := (HO1.out.alloc (.cells #[.int .i64 (x0 + (tu0 ((h + 1) % 8) 1 0 0 0 - tu0 ((h + 2) % 8) 1 0 0 0)), .int .i64 (x1 + (tu1 ((h + 1) % 8) 1 0 0 0 - tu1 ((h + 2) % 8) 1 0 0 0)), .int .i64 (x2 + (tu2 ((h + 1) % 8) 1 0 0 0 - tu2 ((h + 2) % 8) 1 0 0 0)), .int .i64 (x3 + (tu3 ((h + 1) % 8) 1 0 0 0 - tu3 ((h + 2) % 8) 1 0 0 0)), .int .i64 ((h + 7) % 8)] 108)).lt
        have HB2 := Lib.hid ((HB1.out.alloc (by omega) (.cells #[.int .i64 (x0 + (tu0 ((h + 1) % 8) 1 0 0 0 - tu0 ((h + 2) % 8) 1 0 0 0)), .int .i64 (x1 + (tu1 ((h + 1) % 8) 1 0 0 0 - tu1 ((h + 2) % 8) 1 0 0 0)), .int .i64 (x2 + (tu2 ((h + 1) % 8) 1 0 0 0 - tu2 ((h + 2) % 8) 1 0 0 0)), .int .i64 (x3 + (tu3 ((h + 1) % 8) 1 0 0 0 - tu3 ((h + 2) % 8) 1 0 0 0)), .int .i64 ((h + 7) % 8)] 108)).grown hgrow (by simp; omega) (fun k hk => (hlt' k hk).1))
        obtain ⟨g', cap', rfl, _⟩ := hown'.form (by omega)
        have HW := Lib.hid hown'
        clear hown' hgrow hlt'
        go_wp2_with fail
        go_roundw
        case rel => exact ⟨k + 1, g', cap', by omega, by go_num, rfl, by rw [HN.out, spCells_append]; exact HW.out, HB2.out⟩
        case measure => simp [intOf]; omega
    · obtain rfl : k = s.size := by omega
      have hE := take_all s hlt
      rw [hE] at hown
      have HO := Lib.hid hown
      have HB := Lib.hid hb
      clear hown hb hE
      go_wp2_with fail
      go_ret2
      exact ⟨g, cap, rfl, HO.out, HB.out⟩

end Go.Proofs.Ytppbbcckijcckaa
