/- Contracts and facts, put together (part 6). Conditions: each says its own. -/
import Derived.Test.YtppbbcckijcckaaQ5
import Derived.Laws.AppendOwn
import Derived.Laws.OwnMore
import Derived.Deep.AppendLies

/- Contract: the program's stepsOf. -/
namespace Go.Proofs.Ytppbbcckijcckaa
open Go.ChangeShapes Go.WideShapes Go.ChangeAt Go.RowKit

theorem stInfo : (Try.prog.info? 108).map (fun i => (i.zero, i.size, i.bytes)) = some (some (.agg #[.int .i64 0, .int .i64 0, .int .i64 0, .int .i64 0, .int .i64 0]), 5, 40) := by kernel_rfl

theorem own_below {W w1 : World} {B : Nat} {e : TypeId} {size n : Nat} {v : Value} {xs : List Value} (h : W.ownsRow B e size v n xs) (hb : Below W.heap.size W w1) : w1.ownsRow B e size v n xs :=
  h.kept (row := none) ⟨hb.os, hb.tape, hb.output, hb.size, fun k hk _ => hb.block k hk⟩ (by cases v.ownBlock <;> simp)

theorem own_sp {W : World} {B n g cap i : Nat} {e : TypeId} {l : List Sp} {s : Sp} (h : W.ownsRow B e 5 (.slice (some ⟨g, 0, none⟩) n cap) n (spCells l)) (hn : l.length = n) (hs : l[i]? = some s) :
    W.cell? ⟨g, i * 5, none⟩ = some (.int .i64 s.x0) ∧ W.cell? ⟨g, i * 5 + 1, none⟩ = some (.int .i64 s.x1) ∧ W.cell? ⟨g, i * 5 + 2, none⟩ = some (.int .i64 s.x2) ∧ W.cell? ⟨g, i * 5 + 3, none⟩ = some (.int .i64 s.x3) ∧ W.cell? ⟨g, i * 5 + 4, none⟩ = some (.int .i64 s.h) := by
  have hi : i < n := by rw [← hn]; exact (List.getElem?_eq_some_iff.1 hs).1
  have a := fun j (hj : j < 5) => (h.cellAt (i * 5 + j) (by omega)).trans ((by rw [Nat.mul_comm]) : _ = (spCells l)[5 * i + j]?) |>.trans (spCells_at l hs j hj)
  exact ⟨a 0 (by omega), a 1 (by omega), a 2 (by omega), a 3 (by omega), a 4 (by omega)⟩

def StepsPost (s : ByteArray) (w : World) (e : Ending) (w' : World) : Prop :=
  ∃ g cap, e = .returned (.tuple #[.slice (some ⟨g, 0, none⟩) (s.size + 1) cap, .bool true]) ∧ w'.ownsRow w.heap.size 108 5 (.slice (some ⟨g, 0, none⟩) (s.size + 1) cap) (s.size + 1) (spCells (lays sp0 s.data.toList)) ∧ Below w.heap.size w w'

theorem lays_take (s : ByteArray) (k : Nat) (hk : k < s.size) (c : UInt8) (hc : s[k] = c) : lays sp0 (s.data.toList.take (k + 1)) = lays sp0 (s.data.toList.take k) ++ [(fin sp0 (s.data.toList.take k)).next c] := by
  rw [take_snoc s k hk, lays_snoc, hc]

theorem lays_at (s : ByteArray) (k : Nat) (hk : k ≤ s.size) : (lays sp0 (s.data.toList.take k))[k]? = some (fin sp0 (s.data.toList.take k)) := by
  have h := lays_last sp0 (s.data.toList.take k)
  rwa [List.length_take, size_list, Nat.min_eq_left hk] at h

theorem lays_len (s : ByteArray) (k : Nat) (hk : k ≤ s.size) : (lays sp0 (s.data.toList.take k)).length = k + 1 := by
  rw [lays_length, List.length_take, size_list, Nat.min_eq_left hk]

set_option maxRecDepth 100000 in
set_option maxHeartbeats 1600000 in
theorem stepsOf_yes (s : ByteArray) (ht : tkB s = true) (w : World) :
    Calls Try.prog 135 #[.string s] w (StepsPost s w) := by
  have h40 := tkB_size ht
  have hs : s.size ≤ 1048576 := by omega
  have HT := Lib.hid (fun k hk => tkB_at ht (k := k) hk)
  obtain ⟨i0, hi, hz0, hz1, hz2⟩ := info_parts stInfo
  go_enter Try.func135, Try.ntmps135
  go_wp2_with (go_at_call 80; refine (imIsTrack_any s hs _).mono ?_; rintro e w' ⟨rfl, rfl⟩)
  go_loopw [4, 14] (fun v i wr => ∃ (k g cap : Nat), k ≤ s.size ∧ i = .int .i64 k ∧ v = .slice (some ⟨g, 0, none⟩) ((k + 1 : Nat)) cap ∧ wr.ownsRow w.heap.size 108 5 (.slice (some ⟨g, 0, none⟩) (k + 1) cap) (k + 1) (spCells (lays sp0 (s.data.toList.take k))) ∧ Below w.heap.size w wr) (fun _ i _ => s.size - (intOf i).toNat)
  case atStart => exact ⟨0, w.heap.size, 1, Nat.zero_le _, rfl, rfl, ⟨rfl, .inr ⟨w.heap.size, 1, _, rfl, Nat.le_refl _, heap_alloc_new w _, Nat.le_refl _, by decide, rfl, rfl⟩⟩, by go_grown⟩
  case round =>
    obtain ⟨k, g, cap, hk, rfl, rfl, hown, hb⟩ := hrel
    have hz : w.heap.size ≤ wr.heap.size := hb.size
    by_cases hlt : k < s.size
    · have HX := Lib.hid (ext_one s k hlt)
      have hp := HT.out k hlt
      have hok := fin_ok sp0_ok (s.data.toList.take k)
      have hl : (s.data.toList.take k).length ≤ 40 := by rw [List.length_take, size_list]; omega
      have hF := lays_at s k hk
      generalize hc : s[k] = c at HX hp
      have HN := Lib.hid (lays_take s k hlt c hc)
      clear hc
      have hcells := own_sp hown (lays_len s k hk) hF
      generalize fin sp0 (s.data.toList.take k) = p at HN hok hcells hF
      obtain ⟨x0, x1, x2, x3, h⟩ := p
      simp only [Sp.okB] at hok
      obtain ⟨⟨b0, b0'⟩, ⟨b1, b1'⟩, ⟨b2, b2'⟩, ⟨b3, b3'⟩, b4, b5⟩ := hok
      obtain ⟨c0, c1, c2, c3, c4⟩ := hcells
      have HO := Lib.hid hown
      have HB := Lib.hid hb
      clear hF hown hb
      rcases pcb_cases hp with rfl | rfl | rfl
      · clear hp
        go_wp2_with (go_at_call 125; refine (lay_S' _ HX.out _).mono ?_; rintro e w' ⟨rfl, rfl⟩)
        refine (straightP x0 x1 x2 x3 h b4 b5 (by omega) (by omega) (by omega) (by omega) (by omega) (by omega) (by omega) (by omega) _).mono ?_
        rintro e w1 ⟨rfl, hb1⟩
        have HO1 := Lib.hid (own_below HO.out hb1)
        have hz1' : wr.heap.size ≤ w1.heap.size := hb1.size
        have HB1 := Lib.hid (HB.out.trans (hb1.mono hz))
        clear hb1 c0 c1 c2 c3 c4
        go_wp2_with (at_builtin; refine wpList_append_own _ rfl _ _ 123 rfl w.heap.size 108 i0 (.agg #[.int .i64 0, .int .i64 0, .int .i64 0, .int .i64 0, .int .i64 0]) 5 40 Try.underlying123 hi hz0 hz1 hz2 rfl (by decide) _ _ _ rfl (HO1.out.alloc _) ⟨w1.heap.size, 0, none⟩ 1 1 [.int .i64 (x0 + tu0 h 1 0 0 0), .int .i64 (x1 + tu1 h 1 0 0 0), .int .i64 (x2 + tu2 h 1 0 0 0), .int .i64 (x3 + tu3 h 1 0 0 0), .int .i64 h] rfl rfl ?c1 ?c2 ?c3 ?c4 ?c5 ?_)
        case c1 =>
          intro j u hj
          match j, hj with
          | 0, hj => simp at hj; subst hj; simp [Addr.add]
          | 1, hj => simp at hj; subst hj; simp [Addr.add]
          | 2, hj => simp at hj; subst hj; simp [Addr.add]
          | 3, hj => simp at hj; subst hj; simp [Addr.add]
          | 4, hj => simp at hj; subst hj; simp [Addr.add]
        case c2 => intro u hu; simp at hu; rcases hu with rfl | rfl | rfl | rfl | rfl <;> rfl
        case c3 => unfold maxLen; omega
        case c4 => omega
        case c5 => simp; omega
        intro v' w2 hown' hgrow _
        have hlt' := (HO1.out.alloc (.cells #[.int .i64 (x0 + tu0 h 1 0 0 0), .int .i64 (x1 + tu1 h 1 0 0 0), .int .i64 (x2 + tu2 h 1 0 0 0), .int .i64 (x3 + tu3 h 1 0 0 0), .int .i64 h] 108)).lt
        have HB2 := Lib.hid ((HB1.out.alloc (by omega) (.cells #[.int .i64 (x0 + tu0 h 1 0 0 0), .int .i64 (x1 + tu1 h 1 0 0 0), .int .i64 (x2 + tu2 h 1 0 0 0), .int .i64 (x3 + tu3 h 1 0 0 0), .int .i64 h] 108)).grown hgrow (by simp; omega) (fun k hk => (hlt' k hk).1))
        obtain ⟨g', cap', rfl, _⟩ := hown'.form (by omega)
        have HW := Lib.hid hown'
        clear hown' hgrow hlt'
        go_wp2_with fail
        go_roundw
        case rel => exact ⟨k + 1, g', cap', by omega, by go_num, rfl, by rw [HN.out, spCells_append]; exact HW.out, HB2.out⟩
        case measure => simp [intOf]; omega
      · clear hp
        go_wp2_with (go_at_call 125; refine (lay_L' _ HX.out _).mono ?_; rintro e w' ⟨rfl, rfl⟩)
        refine (leftP x0 x1 x2 x3 h b4 b5 (by omega) (by omega) (by omega) (by omega) (by omega) (by omega) (by omega) (by omega) _).mono ?_
        rintro e w1 ⟨rfl, hb1⟩
        have HO1 := Lib.hid (own_below HO.out hb1)
        have hz1' : wr.heap.size ≤ w1.heap.size := hb1.size
        have HB1 := Lib.hid (HB.out.trans (hb1.mono hz))
        clear hb1 c0 c1 c2 c3 c4
        go_wp2_with (at_builtin; refine wpList_append_own _ rfl _ _ 123 rfl w.heap.size 108 i0 (.agg #[.int .i64 0, .int .i64 0, .int .i64 0, .int .i64 0, .int .i64 0]) 5 40 Try.underlying123 hi hz0 hz1 hz2 rfl (by decide) _ _ _ rfl (HO1.out.alloc _) ⟨w1.heap.size, 0, none⟩ 1 1 [.int .i64 (x0 + (tu0 ((h + 7) % 8) 1 0 0 0 - tu0 ((h + 6) % 8) 1 0 0 0)), .int .i64 (x1 + (tu1 ((h + 7) % 8) 1 0 0 0 - tu1 ((h + 6) % 8) 1 0 0 0)), .int .i64 (x2 + (tu2 ((h + 7) % 8) 1 0 0 0 - tu2 ((h + 6) % 8) 1 0 0 0)), .int .i64 (x3 + (tu3 ((h + 7) % 8) 1 0 0 0 - tu3 ((h + 6) % 8) 1 0 0 0)), .int .i64 ((h + 1) % 8)] rfl rfl ?c1 ?c2 ?c3 ?c4 ?c5 ?_)
        case c1 =>
          intro j u hj
          match j, hj with
          | 0, hj => simp at hj; subst hj; simp [Addr.add]
          | 1, hj => simp at hj; subst hj; simp [Addr.add]
          | 2, hj => simp at hj; subst hj; simp [Addr.add]
          | 3, hj => simp at hj; subst hj; simp [Addr.add]
          | 4, hj => simp at hj; subst hj; simp [Addr.add]
        case c2 => intro u hu; simp at hu; rcases hu with rfl | rfl | rfl | rfl | rfl <;> rfl
        case c3 => unfold maxLen; omega
        case c4 => omega
        case c5 => simp; omega
        intro v' w2 hown' hgrow _
        have hlt' := (HO1.out.alloc (.cells #[.int .i64 (x0 + (tu0 ((h + 7) % 8) 1 0 0 0 - tu0 ((h + 6) % 8) 1 0 0 0)), .int .i64 (x1 + (tu1 ((h + 7) % 8) 1 0 0 0 - tu1 ((h + 6) % 8) 1 0 0 0)), .int .i64 (x2 + (tu2 ((h + 7) % 8) 1 0 0 0 - tu2 ((h + 6) % 8) 1 0 0 0)), .int .i64 (x3 + (tu3 ((h + 7) % 8) 1 0 0 0 - tu3 ((h + 6) % 8) 1 0 0 0)), .int .i64 ((h + 1) % 8)] 108)).lt
        have HB2 := Lib.hid ((HB1.out.alloc (by omega) (.cells #[.int .i64 (x0 + (tu0 ((h + 7) % 8) 1 0 0 0 - tu0 ((h + 6) % 8) 1 0 0 0)), .int .i64 (x1 + (tu1 ((h + 7) % 8) 1 0 0 0 - tu1 ((h + 6) % 8) 1 0 0 0)), .int .i64 (x2 + (tu2 ((h + 7) % 8) 1 0 0 0 - tu2 ((h + 6) % 8) 1 0 0 0)), .int .i64 (x3 + (tu3 ((h + 7) % 8) 1 0 0 0 - tu3 ((h + 6) % 8) 1 0 0 0)), .int .i64 ((h + 1) % 8)] 108)).grown hgrow (by simp; omega) (fun k hk => (hlt' k hk).1))
        obtain ⟨g', cap', rfl, _⟩ := hown'.form (by omega)
        have HW := Lib.hid hown'
        clear hown' hgrow hlt'
        go_wp2_with fail
        go_roundw
        case rel => exact ⟨k + 1, g', cap', by omega, by go_num, rfl, by rw [HN.out, spCells_append]; exact HW.out, HB2.out⟩
        case measure => simp [intOf]; omega
      · clear hp
        go_wp2_with (go_at_call 125; refine (lay_R' _ HX.out _).mono ?_; rintro e w' ⟨rfl, rfl⟩)
        refine (rightP x0 x1 x2 x3 h b4 b5 (by omega) (by omega) (by omega) (by omega) (by omega) (by omega) (by omega) (by omega) _).mono ?_
        rintro e w1 ⟨rfl, hb1⟩
        have HO1 := Lib.hid (own_below HO.out hb1)
        have hz1' : wr.heap.size ≤ w1.heap.size := hb1.size
        have HB1 := Lib.hid (HB.out.trans (hb1.mono hz))
        clear hb1 c0 c1 c2 c3 c4
        go_wp2_with (at_builtin; refine wpList_append_own _ rfl _ _ 123 rfl w.heap.size 108 i0 (.agg #[.int .i64 0, .int .i64 0, .int .i64 0, .int .i64 0, .int .i64 0]) 5 40 Try.underlying123 hi hz0 hz1 hz2 rfl (by decide) _ _ _ rfl (HO1.out.alloc _) ⟨w1.heap.size, 0, none⟩ 1 1 [.int .i64 (x0 + (tu0 ((h + 1) % 8) 1 0 0 0 - tu0 ((h + 2) % 8) 1 0 0 0)), .int .i64 (x1 + (tu1 ((h + 1) % 8) 1 0 0 0 - tu1 ((h + 2) % 8) 1 0 0 0)), .int .i64 (x2 + (tu2 ((h + 1) % 8) 1 0 0 0 - tu2 ((h + 2) % 8) 1 0 0 0)), .int .i64 (x3 + (tu3 ((h + 1) % 8) 1 0 0 0 - tu3 ((h + 2) % 8) 1 0 0 0)), .int .i64 ((h + 7) % 8)] rfl rfl ?c1 ?c2 ?c3 ?c4 ?c5 ?_)
        case c1 =>
          intro j u hj
          match j, hj with
          | 0, hj => simp at hj; subst hj; simp [Addr.add]
          | 1, hj => simp at hj; subst hj; simp [Addr.add]
          | 2, hj => simp at hj; subst hj; simp [Addr.add]
          | 3, hj => simp at hj; subst hj; simp [Addr.add]
          | 4, hj => simp at hj; subst hj; simp [Addr.add]
        case c2 => intro u hu; simp at hu; rcases hu with rfl | rfl | rfl | rfl | rfl <;> rfl
        case c3 => unfold maxLen; omega
        case c4 => omega
        case c5 => simp; omega
        intro v' w2 hown' hgrow _
        have hlt' := (HO1.out.alloc (.cells #[.int .i64 (x0 + (tu0 ((h + 1) % 8) 1 0 0 0 - tu0 ((h + 2) % 8) 1 0 0 0)), .int .i64 (x1 + (tu1 ((h + 1) % 8) 1 0 0 0 - tu1 ((h + 2) % 8) 1 0 0 0)), .int .i64 (x2 + (tu2 ((h + 1) % 8) 1 0 0 0 - tu2 ((h + 2) % 8) 1 0 0 0)), .int .i64 (x3 + (tu3 ((h + 1) % 8) 1 0 0 0 - tu3 ((h + 2) % 8) 1 0 0 0)), .int .i64 ((h + 7) % 8)] 108)).lt
        have HB2 := Lib.hid ((HB1.out.alloc (by omega) (.cells #[.int .i64 (x0 + (tu0 ((h + 1) % 8) 1 0 0 0 - tu0 ((h + 2) % 8) 1 0 0 0)), .int .i64 (x1 + (tu1 ((h + 1) % 8) 1 0 0 0 - tu1 ((h + 2) % 8) 1 0 0 0)), .int .i64 (x2 + (tu2 ((h + 1) % 8) 1 0 0 0 - tu2 ((h + 2) % 8) 1 0 0 0)), .int .i64 (x3 + (tu3 ((h + 1) % 8) 1 0 0 0 - tu3 ((h + 2) % 8) 1 0 0 0)), .int .i64 ((h + 7) % 8)] 108)).grown hgrow (by simp; omega) (fun k hk => (hlt' k hk).1))
        obtain ⟨g', cap', rfl, _⟩ := hown'.form (by omega)
        have HW := Lib.hid hown'
        clear hown' hgrow hlt'
        go_wp2_with fail
        go_roundw
        case rel => exact ⟨k + 1, g', cap', by omega, by go_num, rfl, by rw [HN.out, spCells_append]; exact HW.out, HB2.out⟩
        case measure => simp [intOf]; omega
    · obtain rfl : k = s.size := by omega
      have hE := take_all s hlt
      rw [hE] at hown
      have HO := Lib.hid hown
      have HB := Lib.hid hb
      clear hown hb hE
      go_wp2_with fail
      go_ret2
      exact ⟨g, cap, rfl, HO.out, HB.out⟩

end Go.Proofs.Ytppbbcckijcckaa

/- Contracts: the program's stepsOf at what is no track, endOf and EndOf. -/
namespace Go.Proofs.Ytppbbcckijcckaa
open Go.ChangeShapes Go.WideShapes Go.ChangeAt Go.RowKit

theorem stepsOf_no (s : ByteArray) (hs : s.size ≤ 1048576) (ht : tkB s = false) (w : World) :
    Calls Try.prog 135 #[.string s] w fun e w' => e = .returned (.tuple #[.slice none 0 0, .bool false]) ∧ w = w' := by
  go_enter Try.func135, Try.ntmps135
  go_wp2_with (go_at_call 80; refine (imIsTrack_any s hs _).mono ?_; rintro e w' ⟨rfl, rfl⟩)
  go_ret2
  exact ⟨rfl, rfl⟩

/-- The end of a track, the step at 0 for what is none. -/
def enS (s : ByteArray) : Sp := cond (tkB s) (fin sp0 s.data.toList) sp0

theorem enS_yes {s : ByteArray} (h : tkB s = true) : enS s = fin sp0 s.data.toList := by simp [enS, h]

theorem enS_no {s : ByteArray} (h : tkB s = false) : enS s = sp0 := by simp [enS, h]

set_option maxRecDepth 100000 in
theorem endOf_any (s : ByteArray) (hs : s.size ≤ 1048576) (w : World) :
    Calls Try.prog 117 #[.string s] w fun e w' => e = .returned (.tuple #[.agg #[.int .i64 (enS s).x0, .int .i64 (enS s).x1, .int .i64 (enS s).x2, .int .i64 (enS s).x3, .int .i64 (enS s).h], .bool (tkB s)]) ∧ Below w.heap.size w w' := by
  cases ht : tkB s
  · have HE := Lib.hid (enS_no ht)
    go_enter Try.func117, Try.ntmps117
    go_wp2_with (go_at_call 135; refine (stepsOf_no s hs ht _).mono ?_; rintro e w' ⟨rfl, rfl⟩)
    refine bodyPost_ret (by simp [results, Try.results117, go_sem, *]; try rfl) rfl ?_
    exact ⟨by rw [HE.out]; rfl, by go_grown⟩
  · have h40 := tkB_size ht
    have hL := lays_at s s.size (Nat.le_refl _)
    have hn := lays_len s s.size (Nat.le_refl _)
    rw [take_all s (by omega)] at hL hn
    have HE := Lib.hid (enS_yes ht)
    generalize hf : fin sp0 s.data.toList = p at HE hL
    have HN := Lib.hid hn
    have HL := Lib.hid hL
    clear hf hn hL
    obtain ⟨x0, x1, x2, x3, h⟩ := p
    go_enter Try.func117, Try.ntmps117
    go_wp2_with fail
    refine (stepsOf_yes s ht _).mono ?_
    rintro e w1 ⟨g, cap, rfl, hO, hb1⟩
    obtain ⟨c0, c1, c2, c3, c4⟩ := own_sp hO HN.out HL.out
    have HB := Lib.hid (ba (by go_grown) hb1 : Below w.heap.size w w1)
    obtain ⟨hc1, hf1⟩ := bcell hb1
    have hz := hb1.size
    simp at hz
    have hz0 : w.heap.size < w1.heap.size := by omega
    clear hO hb1
    go_wp2_with fail
    refine bodyPost_ret (by simp [results, Try.results117, go_sem, *]; try rfl) rfl ?_
    have hB := HB.out
    exact ⟨by rw [HE.out], by go_grown⟩

end Go.Proofs.Ytppbbcckijcckaa

/- Contracts: the ends of tracks in the model, and ends compared. -/
namespace Go.Proofs.Ytppbbcckijcckaa
open Go.ChangeShapes Go.WideShapes Go.ChangeAt Go.RowKit

theorem own_pt {W : World} {B n g cap i : Nat} {e : TypeId} {l : List Sp} {s : Sp} (h : W.ownsRow B e 4 (.slice (some ⟨g, 0, none⟩) n cap) n (ptCells l)) (hn : l.length = n) (hs : l[i]? = some s) :
    W.cell? ⟨g, i * 4, none⟩ = some (.int .i64 s.x0) ∧ W.cell? ⟨g, i * 4 + 1, none⟩ = some (.int .i64 s.x1) ∧ W.cell? ⟨g, i * 4 + 2, none⟩ = some (.int .i64 s.x2) ∧ W.cell? ⟨g, i * 4 + 3, none⟩ = some (.int .i64 s.x3) := by
  have hi : i < n := by rw [← hn]; exact (List.getElem?_eq_some_iff.1 hs).1
  have a := fun j (hj : j < 4) => (h.cellAt (i * 4 + j) (by omega)).trans ((by rw [Nat.mul_comm]) : _ = (ptCells l)[4 * i + j]?) |>.trans (ptCells_at l hs j hj)
  exact ⟨a 0 (by omega), a 1 (by omega), a 2 (by omega), a 3 (by omega)⟩

theorem own_hd {W : World} {B n g cap i : Nat} {e : TypeId} {l : List Sp} {s : Sp} (h : W.ownsRow B e 1 (.slice (some ⟨g, 0, none⟩) n cap) n (hdCells l)) (hn : l.length = n) (hs : l[i]? = some s) :
    W.cell? ⟨g, i, none⟩ = some (.int .i64 s.h) := by
  have hi : i < n := by rw [← hn]; exact (List.getElem?_eq_some_iff.1 hs).1
  rw [h.cellAt i (by omega)]
  simp [hdCells, hs]

theorem lays_lenA (a : Sp) (s : ByteArray) : (lays a s.data.toList).length = s.size + 1 := by rw [lays_length, size_list]

theorem lays_atA (a : Sp) (s : ByteArray) : (lays a s.data.toList)[s.size]? = some (fin a s.data.toList) := by
  have h := lays_last a s.data.toList
  rwa [size_list] at h

set_option maxRecDepth 100000 in
set_option maxHeartbeats 800000 in
theorem tkEnd_yes (s : ByteArray) (ht : tkB s = true) (w : World) :
    Calls Try.prog 149 #[.string s] w fun e w' => e = .returned (.tuple #[.agg #[.int .i64 (enS s).x0, .int .i64 (enS s).x1, .int .i64 (enS s).x2, .int .i64 (enS s).x3], .int .i64 (enS s).h]) ∧ Below w.heap.size w w' := by
  have h40 := tkB_size ht
  have hL := lays_atA sp0 s
  have HN := Lib.hid (lays_lenA sp0 s)
  have HE := Lib.hid (enS_yes ht)
  generalize hf : fin sp0 s.data.toList = p at HE hL
  have HL := Lib.hid hL
  clear hf hL
  obtain ⟨x0, x1, x2, x3, h⟩ := p
  have hc := tkLay_any s ht sp0 (sp0_ok.mono (by decide))
  have HC := Lib.hid hc
  clear hc
  go_enter Try.func149, Try.ntmps149
  go_wp2_with fail
  refine (HC.out _).mono ?_
  rintro e w1 ⟨gj, cj, gh, ch, rfl, hJ, hH, hb1⟩
  obtain ⟨c0, c1, c2, c3⟩ := own_pt hJ HN.out HL.out
  have c4 := own_hd hH HN.out HL.out
  have HB := Lib.hid (ba (by go_grown) hb1 : Below w.heap.size w w1)
  obtain ⟨hc1, hf1⟩ := bcell hb1
  have hz := hb1.size
  simp at hz
  have hz0 : w.heap.size < w1.heap.size := by omega
  have g1 := (hJ.lt gj rfl).1
  have g2 := (hH.lt gh rfl).1
  simp at g1 g2
  have n1 : ¬ gj = w.heap.size := by omega
  have n2 : ¬ gh = w.heap.size := by omega
  have n3 : ¬ w.heap.size = gj := by omega
  have n4 : ¬ w.heap.size = gh := by omega
  clear hJ hH hb1
  go_wp2_with fail
  go_region
  all_goals
    go_wp2_with fail
    refine bodyPost_ret (by simp [results, Try.results149, go_sem, *]; try rfl) rfl ?_
    have hB := HB.out
    exact ⟨by rw [HE.out], by go_grown⟩

/-- '==' on two steps. -/
@[go_sem high] theorem eqSt (a0 a1 a2 a3 a4 b0 b1 b2 b3 b4 : Int) (w : World) : (binOp .eql 108 (.agg #[.int .i64 a0, .int .i64 a1, .int .i64 a2, .int .i64 a3, .int .i64 a4]) (.agg #[.int .i64 b0, .int .i64 b1, .int .i64 b2, .int .i64 b3, .int .i64 b4])).run Try.prog w = .ok (.bool ((a0 == b0 && (a1 == b1 && (a2 == b2 && a3 == b3))) && a4 == b4)) w := by
  have hS : Try.prog.underlying 108 = some (.struct (Try.prog.fieldsOf 108)) := by kernel_rfl
  have hp : Try.prog.stoodInHeld 108 = false := by kernel_rfl
  rw [run_eql_struct, show (10000 : Nat) = 9999 + 1 from rfl, run_equalIn_agg w 9999 108 _ _ hS hp]
  simp only [Program.fieldsOf, Try.underlying108]
  go_simp
  by_cases h0 : a0 = b0 <;> by_cases h1 : a1 = b1 <;> by_cases h2 : a2 = b2 <;> by_cases h3 : a3 = b3 <;> by_cases h4 : a4 = b4 <;> simp [h0, h1, h2, h3, h4]

end Go.Proofs.Ytppbbcckijcckaa

/- Contracts: whether two tracks have the same end. -/
namespace Go.Proofs.Ytppbbcckijcckaa
open Go.ChangeShapes Go.WideShapes Go.ChangeAt Go.RowKit

def saG (a b : ByteArray) : Bool := tkB a && tkB b

def saR (a b : ByteArray) : Bool := saG a b && (((enS a).x0 == (enS b).x0 && ((enS a).x1 == (enS b).x1 && ((enS a).x2 == (enS b).x2 && (enS a).x3 == (enS b).x3))) && (enS a).h == (enS b).h)

theorem ret_sa {a b : ByteArray} {r g : Bool} (hg : saG a b = g) (hr : saR a b = r) : Ending.returned (.tuple #[.bool r, .bool g]) = Ending.returned (.tuple #[.bool (saR a b), .bool (saG a b)]) := by rw [hg, hr]

end Go.Proofs.Ytppbbcckijcckaa

/- Contracts: whether a track is closed. -/
namespace Go.Proofs.Ytppbbcckijcckaa
open Go.ChangeShapes Go.WideShapes Go.ChangeAt Go.RowKit

def zP (s : ByteArray) : Bool := (enS s).x0 == 0 && ((enS s).x1 == 0 && ((enS s).x2 == 0 && (enS s).x3 == 0))

def zS (s : ByteArray) : Bool := zP s && (enS s).h == 0

def clB (s : ByteArray) : Bool := tkB s && (decide (0 < s.size) && zS s)

theorem clB_tk {s : ByteArray} (h : clB s = true) : tkB s = true := by
  simp only [clB, Bool.and_eq_true] at h
  exact h.1

theorem clB_no {s : ByteArray} (h : tkB s = false) : clB s = false := by simp [clB, h]

theorem clB_yes {s : ByteArray} (h : tkB s = true) : clB s = (decide (0 < s.size) && zS s) := by simp [clB, h]

set_option maxRecDepth 100000 in
set_option maxHeartbeats 800000 in
theorem clClosed_any (s : ByteArray) (ht : tkB s = true) (w : World) :
    Calls Try.prog 115 #[.string s] w fun e w' => e = .returned (.bool (clB s)) ∧ Below w.heap.size w w' := by
  have hc := tkEnd_yes s ht
  have hR := clB_yes ht
  unfold zS zP at hR
  generalize enS s = p at hR hc
  obtain ⟨x0, x1, x2, x3, x4⟩ := p
  simp only at hR
  have HC := Lib.hid hc
  clear hc
  by_cases h0 : 0 < s.size
  · cases hq : (x0 == 0 && (x1 == 0 && (x2 == 0 && x3 == 0)))
    all_goals
      rw [hq] at hR
      have R := Lib.hid hR
      clear hR
      go_enter Try.func115, Try.ntmps115
      go_wp2_with fail
      (go_at_call 149; (with_reducible refine (HC.out _).mono ?_); rintro e wA ⟨rfl, h1⟩; (try with_reducible replace h1 := undrew h1); have hB : Below w.heap.size w wA := ba (by go_grown) h1; obtain ⟨hcwA, hfwA⟩ := bcell h1; have hqwA := h1.size; (try simp at hqwA); )
      go_wp2_with fail
      go_ret
      exact ⟨by rw [R.out]; simp [h0], by go_grown⟩
  · have R := Lib.hid hR
    clear hR
    go_enter Try.func115, Try.ntmps115
    go_wp2_with fail
    (go_at_call 149; (with_reducible refine (HC.out _).mono ?_); rintro e wA ⟨rfl, h1⟩; (try with_reducible replace h1 := undrew h1); have hB : Below w.heap.size w wA := ba (by go_grown) h1; obtain ⟨hcwA, hfwA⟩ := bcell h1; have hqwA := h1.size; (try simp at hqwA); )
    go_wp2_with fail
    go_ret
    exact ⟨by rw [R.out]; simp [h0], by go_grown⟩

theorem clGood_any (s : ByteArray) (hs : s.size ≤ 1048576) (w : World) :
    Calls Try.prog 61 #[.string s] w fun e w' => e = .returned (.bool (clB s)) ∧ Below w.heap.size w w' := by
  cases ht : tkB s
  · have R := Lib.hid (clB_no ht)
    go_enter Try.func61, Try.ntmps61
    go_wp2_with (go_at_call 72; refine (tkGood_any s hs _).mono ?_; rintro e w' ⟨rfl, rfl⟩)
    go_ret
    exact ⟨by rw [R.out]; rfl, by go_grown⟩
  · have HC := Lib.hid (clClosed_any s ht)
    go_enter Try.func61, Try.ntmps61
    go_wp2_with (first | (go_at_call 72; refine (tkGood_any s hs _).mono ?_; rintro e w' ⟨rfl, rfl⟩) | (go_at_call 115; (with_reducible refine (HC.out _).mono ?_); rintro e wA ⟨rfl, h1⟩; (try with_reducible replace h1 := undrew h1); have hB : Below w.heap.size w wA := ba (by go_grown) h1; obtain ⟨hcwA, hfwA⟩ := bcell h1; have hqwA := h1.size; (try simp at hqwA); ))
    go_ret
    exact ⟨rfl, by go_grown⟩

set_option maxRecDepth 100000 in
set_option maxHeartbeats 800000 in
theorem isClosed_any (s : ByteArray) (hs : s.size ≤ 1048576) (w : World) :
    Calls Try.prog 64 #[.string s] w fun e w' => e = .returned (.bool (clB s)) ∧ Below w.heap.size w w' := by
  have hc := endOf_any s hs
  cases ht : tkB s
  · have R := Lib.hid (clB_no ht)
    rw [ht] at hc
    generalize enS s = p at hc
    obtain ⟨x0, x1, x2, x3, x4⟩ := p
    have HC := Lib.hid hc
    clear hc ht
    go_enter Try.func64, Try.ntmps64
    go_wp2_with fail
    (go_at_call 117; (with_reducible refine (HC.out _).mono ?_); rintro e wA ⟨rfl, h1⟩; (try with_reducible replace h1 := undrew h1); have hB : Below w.heap.size w wA := ba (by go_grown) h1; obtain ⟨hcwA, hfwA⟩ := bcell h1; have hqwA := h1.size; (try simp at hqwA); )
    go_wp2_with fail
    go_ret
    exact ⟨by rw [R.out]; rfl, by go_grown⟩
  · have hR := clB_yes ht
    unfold zS zP at hR
    rw [ht] at hc
    generalize enS s = p at hR hc
    obtain ⟨x0, x1, x2, x3, x4⟩ := p
    simp only at hR
    have R := Lib.hid hR
    have HC := Lib.hid hc
    clear hc ht hR
    by_cases h0 : s.size = 0
    · have he : s.toList = [] := by rw [ByteArray.toList_eq]; exact List.eq_nil_of_length_eq_zero (by rw [size_list]; exact h0)
      go_enter Try.func64, Try.ntmps64
      go_wp2_with fail
      (go_at_call 117; (with_reducible refine (HC.out _).mono ?_); rintro e wA ⟨rfl, h1⟩; (try with_reducible replace h1 := undrew h1); have hB : Below w.heap.size w wA := ba (by go_grown) h1; obtain ⟨hcwA, hfwA⟩ := bcell h1; have hqwA := h1.size; (try simp at hqwA); )
      go_wp2_with fail
      go_ret
      exact ⟨by rw [R.out]; simp [h0], by go_grown⟩
    · have hp : 0 < s.size := by omega
      have he : ¬ s.toList = [] := fun h => h0 (by rw [ByteArray.toList_eq] at h; rw [← size_list, h]; rfl)
      go_enter Try.func64, Try.ntmps64
      go_wp2_with fail
      (go_at_call 117; (with_reducible refine (HC.out _).mono ?_); rintro e wA ⟨rfl, h1⟩; (try with_reducible replace h1 := undrew h1); have hB : Below w.heap.size w wA := ba (by go_grown) h1; obtain ⟨hcwA, hfwA⟩ := bcell h1; have hqwA := h1.size; (try simp at hqwA); )
      go_wp2_with fail
      go_ret
      exact ⟨by rw [R.out]; simp [hp, he], by go_grown⟩

end Go.Proofs.Ytppbbcckijcckaa

/- Contracts: the joints and the headings of a track, in the model and in the program. -/
namespace Go.Proofs.Ytppbbcckijcckaa
open Go.ChangeShapes Go.WideShapes Go.ChangeAt Go.RowKit

set_option linter.unusedVariables false

/-- What a list of joints is, behind a call. -/
def JtPost (s : ByteArray) (res : Value → Value) (w : World) (e : Ending) (w' : World) : Prop :=
  ∃ g cap, e = .returned (res (.slice (some ⟨g, 0, none⟩) (s.size + 1) cap)) ∧ w'.ownsRow w.heap.size 26 4 (.slice (some ⟨g, 0, none⟩) (s.size + 1) cap) (s.size + 1) (ptCells (lays sp0 s.data.toList)) ∧ Below w.heap.size w w'

def HdPost (s : ByteArray) (res : Value → Value) (w : World) (e : Ending) (w' : World) : Prop :=
  ∃ g cap, e = .returned (res (.slice (some ⟨g, 0, none⟩) (s.size + 1) cap)) ∧ w'.ownsRow w.heap.size 3 1 (.slice (some ⟨g, 0, none⟩) (s.size + 1) cap) (s.size + 1) (hdCells (lays sp0 s.data.toList)) ∧ Below w.heap.size w w'

theorem own_less {W : World} {B B' : Nat} {e : TypeId} {size n : Nat} {v : Value} {xs : List Value} (h : W.ownsRow B e size v n xs) (hB : B' ≤ B) : W.ownsRow B' e size v n xs := by
  refine ⟨h.1, ?_⟩
  rcases h.2 with h2 | ⟨g, cap, cur, h1, h2, h3⟩
  · exact .inl h2
  · exact .inr ⟨g, cap, cur, h1, by omega, h3⟩

theorem tkJoints_yes (s : ByteArray) (ht : tkB s = true) (w : World) :
    Calls Try.prog 63 #[.string s] w (JtPost s id w) := by
  have hc := tkLay_any s ht sp0 (sp0_ok.mono (by decide))
  have HC := Lib.hid hc
  clear hc
  go_enter Try.func63, Try.ntmps63
  go_wp2_with fail
  refine (HC.out _).mono ?_
  rintro e w1 ⟨gj, cj, gh, ch, rfl, hJ, hH, hb1⟩
  have HJ := Lib.hid (own_less hJ (Nat.le_succ _))
  have HB := Lib.hid hb1
  clear hJ hH hb1
  go_wp2_with fail
  go_ret
  exact ⟨gj, cj, rfl, HJ.out, HB.out⟩

theorem imJointsOf_no (s : ByteArray) (hs : s.size ≤ 1048576) (ht : tkB s = false) (w : World) :
    Calls Try.prog 103 #[.string s] w fun e w' => e = .returned (.tuple #[.slice none 0 0, .bool false]) ∧ w = w' := by
  go_enter Try.func103, Try.ntmps103
  go_wp2_with (go_at_call 135; refine (stepsOf_no s hs ht _).mono ?_; rintro e w' ⟨rfl, rfl⟩)
  go_ret2
  exact ⟨rfl, rfl⟩

def okT (v : Value) : Value := .tuple #[v, .bool true]

theorem take_at {l : List Sp} {k : Nat} {p : Sp} (h : l[k]? = some p) : l.take (k + 1) = l.take k ++ [p] := by
  obtain ⟨hk, rfl⟩ := List.getElem?_eq_some_iff.1 h
  rw [List.take_succ_eq_append_getElem hk]

set_option maxRecDepth 100000 in
set_option maxHeartbeats 1600000 in
theorem imJointsOf_yes (s : ByteArray) (ht : tkB s = true) (w : World) :
    Calls Try.prog 103 #[.string s] w (JtPost s okT w) := by
  have h40 := tkB_size ht
  have HL := Lib.hid (lays_lenA sp0 s)
  obtain ⟨i0, hi, iz0, iz1, iz2⟩ := info_parts ptInfo
  go_enter Try.func103, Try.ntmps103
  go_wp2_with fail
  refine (stepsOf_yes s ht _).mono ?_
  rintro e w1 ⟨gs, cs, rfl, hO, hb1⟩
  have HO := Lib.hid hO
  have HB := Lib.hid hb1
  have hz1 := hb1.size
  generalize hlst : lays sp0 s.data.toList = l at HL HO
  have HLST := Lib.hid hlst
  clear hO hb1 hlst
  go_wp2_with fail
  go_loopw [6, 18] (fun t i wr => ∃ (k : Nat) (v : Value), k ≤ s.size + 1 ∧ i = .int .i64 k ∧ t = v ∧ wr.ownsRow w.heap.size 26 4 v k (ptCells (l.take k)) ∧ wr.ownsRow w.heap.size 108 5 (.slice (some ⟨gs, 0, none⟩) (s.size + 1) cs) (s.size + 1) (spCells l) ∧ Below w.heap.size w wr) (fun _ i _ => s.size + 1 - (intOf i).toNat)
  case atStart => exact ⟨0, _, Nat.zero_le _, rfl, rfl, World.ownsRow_nil _ _ _ _, HO.out, HB.out⟩
  case round =>
    obtain ⟨k, v, hk, rfl, rfl, hJ, hO, hb⟩ := hrel
    have hz : w.heap.size ≤ wr.heap.size := hb.size
    by_cases hlt : k < s.size + 1
    · obtain ⟨p, hp⟩ : ∃ p, l[k]? = some p := ⟨_, List.getElem?_eq_getElem (by rw [HL.out]; exact hlt)⟩
      obtain ⟨c0, c1, c2, c3, c4⟩ := own_sp hO HL.out hp
      have HT := Lib.hid (take_at hp)
      obtain ⟨x0, x1, x2, x3, h⟩ := p
      have HJ := Lib.hid hJ
      have HO1 := Lib.hid hO
      have HB1 := Lib.hid hb
      clear hp hJ hO hb
      go_wp2_with (at_builtin; refine wpList_append_own _ rfl _ _ 47 rfl w.heap.size 26 i0 (.agg #[.int .i64 0, .int .i64 0, .int .i64 0, .int .i64 0]) 4 32 Try.underlying47 hi iz0 iz1 iz2 rfl (by decide) _ _ _ rfl ((HJ.out.alloc _).alloc _) ⟨wr.heap.size + 1, 0, none⟩ 1 1 [.int .i64 x0, .int .i64 x1, .int .i64 x2, .int .i64 x3] rfl rfl (newc (by simp)) (by intro u hu; simp at hu; rcases hu with rfl | rfl | rfl | rfl <;> rfl) (by unfold maxLen; omega) (by omega) (by simp; omega) ?_)
      intro v' w3 hJ3 hg3 _
      have HJA := Lib.hid ((HJ.out.alloc (.cells #[.int .i64 x0, .int .i64 x1, .int .i64 x2, .int .i64 x3, .int .i64 h] 108)).alloc (.cells #[.int .i64 x0, .int .i64 x1, .int .i64 x2, .int .i64 x3] 26))
      have HOA := Lib.hid ((HO1.out.alloc (.cells #[.int .i64 x0, .int .i64 x1, .int .i64 x2, .int .i64 x3, .int .i64 h] 108)).alloc (.cells #[.int .i64 x0, .int .i64 x1, .int .i64 x2, .int .i64 x3] 26))
      have HO3 := Lib.hid (HOA.out.kept hg3 (own_ne HOA.out HJA.out (by decide)))
      have HB3 := Lib.hid ((((HB1.out.alloc hz (.cells #[.int .i64 x0, .int .i64 x1, .int .i64 x2, .int .i64 x3, .int .i64 h] 108)).alloc (by simp; omega) (.cells #[.int .i64 x0, .int .i64 x1, .int .i64 x2, .int .i64 x3] 26)).grown hg3 (by simp; omega) (fun k hk => (HJA.out.lt k hk).1)))
      have HJ3 := Lib.hid hJ3
      clear hJ3 hg3 c0 c1 c2 c3 c4
      go_wp2_with fail
      go_roundw
      case rel => exact ⟨k + 1, v', by omega, by go_num, rfl, by rw [HT.out, ptCells_append]; exact HJ3.out, HO3.out, HB3.out⟩
      case measure => simp [intOf]; omega
    · obtain rfl : k = s.size + 1 := by omega
      have hE : l.take (s.size + 1) = l := List.take_of_length_le (by rw [HL.out]; omega)
      rw [hE] at hJ
      obtain ⟨g, cap, rfl, _⟩ := hJ.form (by omega)
      have HJ := Lib.hid hJ
      have HB1 := Lib.hid hb
      clear hJ hO hb hE
      go_wp2_with fail
      go_ret2
      exact ⟨g, cap, rfl, by rw [HLST.out]; exact HJ.out, HB1.out⟩

end Go.Proofs.Ytppbbcckijcckaa

/- Contracts: sums and products of surds, in the model and in the program. -/
namespace Go.Proofs.Ytppbbcckijcckaa
open Go.ChangeShapes Go.WideShapes Go.ChangeAt Go.RowKit

set_option maxRecDepth 100000 in
set_option maxHeartbeats 400000 in
theorem spSum_any (s0 s1 : Int) (t0 t1 : Int) (w : World) :
    Calls Try.prog 69 #[.agg #[.int .i64 s0, .int .i64 s1], .agg #[.int .i64 t0, .int .i64 t1]] w fun e w' => e = .returned (.agg #[.int .i64 (wrap64 (s0 + t0)), .int .i64 (wrap64 (s1 + t1))]) ∧ Below w.heap.size w w' := by
  go_enter Try.func69, Try.ntmps69
  go_wp2
  go_returns
  exact ⟨rfl, by go_grown⟩

def asG (s0 s1 t0 t1 : Int) : Bool := surdB 1000000000000000 s0 s1 && (surdB 1000000000000000 t0 t1 && surdB 1000000000000000 (wrap64 (s0 + t0)) (wrap64 (s1 + t1)))

def tsG (s0 s1 t0 t1 : Int) : Bool := surdB 1000000 s0 s1 && surdB 1000000 t0 t1

set_option maxRecDepth 100000 in
theorem imSPlus_any (s0 s1 : Int) (t0 t1 : Int) (w : World) :
    Calls Try.prog 119 #[.agg #[.int .i64 s0, .int .i64 s1], .agg #[.int .i64 t0, .int .i64 t1]] w fun e w' => e = .returned (.agg #[.int .i64 (wrap64 (s0 + t0)), .int .i64 (wrap64 (s1 + t1))]) ∧ Below w.heap.size w w' := by
  go_enter Try.func119, Try.ntmps119
  go_wp2
  go_returns
  exact ⟨rfl, by go_grown⟩

set_option maxRecDepth 100000 in
theorem imOnlySurd_any (s0 s1 : Int) (w : World) :
    Calls Try.prog 65 #[.agg #[.int .i64 s0, .int .i64 s1]] w fun e w' => e = .returned (.tuple #[.agg #[.int .i64 (sel (surdB 1000000000000000 s0 s1) s0), .int .i64 (sel (surdB 1000000000000000 s0 s1) s1)], .bool (surdB 1000000000000000 s0 s1)]) ∧ Below w.heap.size w w' := by
  cases hg : surdB 1000000000000000 s0 s1
  all_goals
    go_enter Try.func65, Try.ntmps65
    go_wp2_with (go_at_call 118; refine (imIsSurd_any _ _ _).mono ?_; rintro e w1 ⟨rfl, h1⟩; have hB : Below w.heap.size w w1 := ba (by go_grown) h1; obtain ⟨hc1, hf1⟩ := bcell h1; have hq := h1.size; (try simp at hq); have hz0 : w.heap.size < w1.heap.size := (by omega); have hz1 : w.heap.size + 1 < w1.heap.size := (by omega); have HK1 := Lib.hid h1; clear h1 hq)
    refine bodyPost_ret (by simp [results, Try.results65, go_sem, *]; try rfl) rfl ?_
    exact ⟨by simp [sel], by go_grown⟩

end Go.Proofs.Ytppbbcckijcckaa

/- Contracts: the joints of a track as points; its chords; FourPolygon, in the model and in the program. -/
namespace Go.Proofs.Ytppbbcckijcckaa
open Go.ChangeShapes Go.WideShapes Go.ChangeAt Go.RowKit Go.Sort

set_option linter.unusedVariables false
set_option linter.unusedSimpArgs false

def Sp.pn (s : Sp) : Pn := ⟨s.x0, s.x1, s.x2, s.x3⟩

/-- The joints of a track. -/
def jp (s : ByteArray) : List Pn := (lays sp0 s.data.toList).map Sp.pn

theorem jp_len (s : ByteArray) : (jp s).length = s.size + 1 := by simp [jp, lays_lenA]

theorem lays_ok7 {a : Sp} {n : Int} (h : a.okB n) (l : List UInt8) : ∀ p ∈ lays a l, p.okB (n + 2 * l.length) := by
  induction l generalizing a n with
  | nil => intro p hp; simp [lays] at hp; subst hp; simpa using h
  | cons c l ih =>
    intro p hp
    rcases List.mem_cons.1 hp with hp | hp
    · subst hp; exact h.mono (by omega)
    · have := ih (h.next c) p hp
      exact this.mono (by simp only [List.length_cons]; push_cast; omega)

theorem jp_bd {s : ByteArray} (ht : tkB s = true) : ∀ x ∈ jp s, Bd 100000 x := by
  intro x hx
  simp only [jp, List.mem_map] at hx
  obtain ⟨p, hp, rfl⟩ := hx
  have h := lays_ok7 sp0_ok s.data.toList p hp
  have h40 := tkB_size ht
  have hl : s.data.toList.length = s.size := size_list s
  rw [hl] at h
  obtain ⟨h0, h1, h2, h3, _⟩ := h
  unfold Bd Sp.pn
  simp only
  omega

theorem rowP_own {W : World} {B n g cap : Nat} {e : TypeId} {s : ByteArray} (h : W.ownsRow B e 4 (.slice (some ⟨g, 0, none⟩) (s.size + 1) cap) (s.size + 1) (ptCells (lays sp0 s.data.toList))) : RowP W g (jp s) := fun k p hp => by
  simp only [jp, List.getElem?_map, Option.map_eq_some_iff] at hp
  obtain ⟨q, hq, rfl⟩ := hp
  exact own_pt h (lays_lenA sp0 s) hq

theorem own_lt7 {W : World} {B n g cap size : Nat} {e : TypeId} {xs : List Value} (h : W.ownsRow B e size (.slice (some ⟨g, 0, none⟩) n cap) n xs) : g < W.heap.size := (h.lt g rfl).2

theorem own_less7 {W : World} {B B' : Nat} {e : TypeId} {size n : Nat} {v : Value} {xs : List Value} (h : W.ownsRow B e size v n xs) (hB : B' ≤ B) : W.ownsRow B' e size v n xs := own_less h hB

set_option maxRecDepth 100000 in
set_option maxHeartbeats 800000 in
theorem chordsOfP (s : ByteArray) (ht : tkB s = true) (w : World) :
    Calls Try.prog 67 #[.string s] w fun e w' => ∃ v, e = .returned v ∧ w'.ownsRow w.heap.size 66 8 v s.size (chC (chds (jp s))) ∧ Below w.heap.size w w' := by
  have h40 := tkB_size ht
  go_enter Try.func67, Try.ntmps67
  go_wp2_with fail
  refine (imJointsOf_yes s ht _).mono ?_
  rintro e w1 ⟨g, cap, he, hO, hb1⟩
  replace he : e = .returned (.tuple #[.slice (some ⟨g, 0, none⟩) (s.size + 1) cap, .bool true]) := he
  subst he
  have hR := rowP_own (n := 0) hO
  have hg := own_lt7 hO
  have hz1 := hb1.size
  have C := chordsAlongP g (s.size + 1) cap (jp s) (jp_len s) (by omega) w1 hg hR
  have CC := Lib.hid C
  clear hO hR C
  go_wp2_with fail
  refine CC.out.mono ?_
  rintro e w2 ⟨v, rfl, hV, hb2⟩
  have HV := Lib.hid (own_less hV hz1)
  have HB := Lib.hid (ba hb1 hb2)
  clear hV hb2
  go_wp2_with fail
  go_ret
  exact ⟨_, rfl, HV.out, HB.out⟩

theorem cx_self (p : Pn) : p.cx p = 0 := by
  apply Su.ext' <;> simp only [Pn.cx, Pn.mir, Pn.mul, Pn.ty, Su.zero_x, Su.zero_r] <;> grind

theorem ring_chds (l : List Pn) (a : Pn) (h0 : l.head? = some a) (h1 : l.getLast? = some a) : sumC (ring l) = sumC (chds l) := by
  have hl : 0 < l.length := by cases l with
    | nil => simp at h0
    | cons x l => simp
  have e : ring l = chds l ++ [(a, a)] := by
    apply List.ext_getElem?
    intro i
    by_cases hi : i + 1 < l.length
    · have hp := List.getElem?_eq_getElem (l := l) (i := i) (by omega)
      have hq := List.getElem?_eq_getElem (l := l) (i := i + 1) hi
      rw [List.getElem?_append_left (by rw [chds_length]; omega), chds_get l i _ _ hp hq]
      simp only [ring, List.getElem?_map, List.getElem?_range (show i < l.length by omega), Option.map_some, Nat.mod_eq_of_lt hi]
      rw [getElem!_pos l i (by omega), getElem!_pos l (i + 1) hi]
    · by_cases hi2 : i + 1 = l.length
      · rw [List.getElem?_append_right (by rw [chds_length]; omega), chds_length, show i - (l.length - 1) = 0 by omega]
        simp only [ring, List.getElem?_map, List.getElem?_range (show i < l.length by omega), Option.map_some, hi2, Nat.mod_self]
        have e1 : l[i]! = a := by
          rw [getElem!_pos l i (by omega)]
          rw [List.getLast?_eq_getElem?, show l.length - 1 = i by omega, List.getElem?_eq_getElem (by omega)] at h1
          simpa using h1
        have e2 : l[0]! = a := by
          rw [getElem!_pos l 0 hl]
          rw [List.head?_eq_getElem?, List.getElem?_eq_getElem hl] at h0
          simpa using h0
        rw [e1, e2]; rfl
      · rw [List.getElem?_eq_none (by simp [ring]; omega), List.getElem?_eq_none (by simp [chds_length]; omega)]
  rw [e, sumC_snoc]
  simp only [cx_self]
  apply Su.ext' <;> simp [Su.add_x, Su.add_r, Su.zero_x, Su.zero_r]

/-- A closed track's last joint is its first one. -/
theorem jp_closed {s : ByteArray} (h : clB s = true) : ∃ a, (jp s).head? = some a ∧ (jp s).getLast? = some a ∧ 1 ≤ s.size := by
  have ht := clB_tk h
  rw [clB_yes ht] at h
  simp only [Bool.and_eq_true, decide_eq_true_eq, zS] at h
  have hl : (jp s).getLast? = some (fin sp0 s.data.toList).pn := by
    rw [List.getLast?_eq_getElem?, jp_len, Nat.add_sub_cancel]
    simp only [jp, List.getElem?_map, lays_atA, Option.map_some]
  have hz := h.2.1
  rw [zP, enS_yes ht] at hz
  simp only [Bool.and_eq_true, beq_iff_eq] at hz
  refine ⟨(fin sp0 s.data.toList).pn, ?_, hl, h.1⟩
  have h0 : (jp s).head? = some sp0.pn := by
    unfold jp
    cases hd : s.data.toList <;> rfl
  rw [h0]
  congr 1
  unfold Sp.pn
  rw [hz.1, hz.2.1, hz.2.2.1, hz.2.2.2]
  rfl

/-- Four times the area of the polygon of a closed track. -/
def fpS (s : ByteArray) : Su := cond (clB s) (sumC (chds (jp s))) 0

theorem chds_bd {l : List Pn} (h : ∀ x ∈ l, Bd 100000 x) : ∀ x ∈ chds l, Bd 100000 x.1 ∧ Bd 100000 x.2 := by
  match l with
  | [] => intro x hx; simp [chds] at hx
  | [a] => intro x hx; simp [chds] at hx
  | a :: b :: l =>
    intro x hx
    simp only [chds, List.mem_cons] at hx
    rcases hx with rfl | hx
    · exact ⟨h _ (by simp), h _ (by simp)⟩
    · exact chds_bd (l := b :: l) (fun y hy => h y (by simp at hy ⊢; exact .inr hy)) x hx

theorem fpS_no {s : ByteArray} (h : clB s = false) : fpS s = 0 := by simp [fpS, h]

theorem fpS_yes {s : ByteArray} (h : clB s = true) : fpS s = sumC (chds (jp s)) := by simp [fpS, h]

theorem fp_bd {s : ByteArray} (h : clB s = true) : Bs 100000000000000 (sumC (chds (jp s))) := by
  have ht := clB_tk h
  have h40 := tkB_size ht
  have hm : ∀ x ∈ chds (jp s), Bd 100000 x.1 ∧ Bd 100000 x.2 := chds_bd (jp_bd ht)
  have := sumC_bd (chds (jp s)) hm (chds (jp s)).length (Nat.le_refl _)
  rw [List.take_length] at this
  refine this.mono ?_
  rw [chds_length, jp_len]
  omega

theorem surdB_of {s : Su} (h : Bs 1000000000000000 s) : surdB 1000000000000000 s.x s.r = true := by
  unfold Bs at h
  unfold surdB inB
  simp only [Bool.and_eq_true, decide_eq_true_eq]
  exact h

set_option maxRecDepth 100000 in
set_option maxHeartbeats 800000 in
theorem spFourPolygon (s : ByteArray) (hs : s.size ≤ 1048576) (w : World) :
    Calls Try.prog 24 #[.string s] w fun e w' => e = .returned (.tuple #[.agg #[.int .i64 (fpS s).x, .int .i64 (fpS s).r], .bool (clB s)]) ∧ Below w.heap.size w w' := by
  have CG := clGood_any s hs
  cases hc : clB s <;> rw [hc] at CG
  · rw [fpS_no hc]
    have CG := Lib.hid CG
    go_enter Try.func24, Try.ntmps24
    go_wp2_with (go_at_call 61; (with_reducible refine (CG.out _).mono ?_); rintro e wA ⟨rfl, h1⟩; (try with_reducible replace h1 := undrew h1); have hB : Below w.heap.size w wA := ba (by go_grown) h1; obtain ⟨hcwA, hfwA⟩ := bcell h1; have hqwA := h1.size; (try simp at hqwA); (try have hz0wA : w.heap.size < wA.heap.size := (by omega)); (try have he0wA : w.heap.size ≤ wA.heap.size := (by omega)))
    refine bodyPost_ret (by simp [results, Try.results24, go_sem, *]; try rfl) rfl ?_
    exact ⟨rfl, by go_grown⟩
  · have ht := clB_tk hc
    have h40 := tkB_size ht
    obtain ⟨a, h0, h1, hs1⟩ := jp_closed hc
    rw [fpS_yes hc, ← ring_chds _ a h0 h1]
    have CG := Lib.hid CG
    go_enter Try.func24, Try.ntmps24
    go_wp2_with fail
    (go_at_call 61; (with_reducible refine (CG.out _).mono ?_); rintro e wA ⟨rfl, h1⟩; (try with_reducible replace h1 := undrew h1); have hB : Below w.heap.size w wA := ba (by go_grown) h1; obtain ⟨hcwA, hfwA⟩ := bcell h1; have hqwA := h1.size; (try simp at hqwA); (try have hz0wA : w.heap.size < wA.heap.size := (by omega)); (try have he0wA : w.heap.size ≤ wA.heap.size := (by omega)))
    go_wp2_with fail
    refine (tkJoints_yes s ht _).mono ?_
    rintro er w1 ⟨g, cap, rfl, hO, hb1⟩
    have hR := rowP_own (n := 0) hO
    have hg := own_lt7 hO
    have AP := Lib.hid (arPolygonP g (s.size + 1) cap (jp s) (jp_len s) (by omega) (jp_bd ht) w1 hg hR)
    have hz1 := hb1.size
    have y0 : w.heap.size < w1.heap.size := by omega
    have f0 : ∀ i, w1.frozen? ⟨w.heap.size, i, none⟩ = false := fun i => by rw [hb1.frozen (p := ⟨w.heap.size, i, none⟩) (by omega)]; go_simp
    have q0 : w1.cell? ⟨w.heap.size, 0, none⟩ = some (.int .i64 0) := by rw [hb1.cell (p := ⟨w.heap.size, 0, none⟩) (by omega)]; go_simp
    have q1 : w1.cell? ⟨w.heap.size, 1, none⟩ = some (.int .i64 0) := by rw [hb1.cell (p := ⟨w.heap.size, 1, none⟩) (by omega)]; go_simp
    have hBx : Below w.heap.size w w1 := ba hB hb1
    clear hO hR hcwA hfwA hb1
    go_wp2_with fail
    refine AP.out.mono ?_
    rintro er w2 ⟨rfl, hb2⟩
    obtain ⟨hc2, hf2⟩ := bcell hb2
    have hz2 := hb2.size
    have hB2 : Below w.heap.size w w2 := ba hBx hb2
    go_wp2_with fail
    refine bodyPost_ret (by simp [results, Try.results24, go_sem, *]; try rfl) rfl ?_
    exact ⟨rfl, by go_grown⟩

set_option maxRecDepth 100000 in
set_option maxHeartbeats 800000 in
theorem imFourPolygon (s : ByteArray) (hs : s.size ≤ 1048576) (w : World) :
    Calls Try.prog 25 #[.string s] w fun e w' => e = .returned (.tuple #[.agg #[.int .i64 (fpS s).x, .int .i64 (fpS s).r], .bool (clB s)]) ∧ Below w.heap.size w w' := by
  have CG := isClosed_any s hs
  cases hc : clB s <;> rw [hc] at CG
  · rw [fpS_no hc]
    have CG := Lib.hid CG
    go_enter Try.func25, Try.ntmps25
    go_wp2_with (go_at_call 64; (with_reducible refine (CG.out _).mono ?_); rintro e wA ⟨rfl, h1⟩; (try with_reducible replace h1 := undrew h1); have hB : Below w.heap.size w wA := ba (by go_grown) h1; obtain ⟨hcwA, hfwA⟩ := bcell h1; have hqwA := h1.size; (try simp at hqwA); (try have hz0wA : w.heap.size < wA.heap.size := (by omega)); (try have he0wA : w.heap.size ≤ wA.heap.size := (by omega)))
    refine bodyPost_ret (by simp [results, Try.results25, go_sem, *]; try rfl) rfl ?_
    exact ⟨rfl, by go_grown⟩
  · have ht := clB_tk hc
    have h40 := tkB_size ht
    obtain ⟨a, h0, h1, hs1⟩ := jp_closed hc
    rw [fpS_yes hc]
    have CG := Lib.hid CG
    have SB := surdB_of ((fp_bd hc).mono (by omega))
    have ON := imOnlySurd_any (sumC (chds (jp s))).x (sumC (chds (jp s))).r
    rw [SB] at ON
    have ON := Lib.hid ON
    have HL : (chds (jp s)).length = s.size := by rw [chds_length, jp_len]; omega
    have HM := Lib.hid (chds_bd (jp_bd ht))
    clear SB
    go_enter Try.func25, Try.ntmps25
    go_wp2_with fail
    (go_at_call 64; (with_reducible refine (CG.out _).mono ?_); rintro e wA ⟨rfl, h1⟩; (try with_reducible replace h1 := undrew h1); have hB : Below w.heap.size w wA := ba (by go_grown) h1; obtain ⟨hcwA, hfwA⟩ := bcell h1; have hqwA := h1.size; (try simp at hqwA); (try have hz0wA : w.heap.size < wA.heap.size := (by omega)); (try have he0wA : w.heap.size ≤ wA.heap.size := (by omega)))
    go_wp2_with fail
    refine (chordsOfP s ht _).mono ?_
    rintro er w1 ⟨v, rfl, hO, hb1⟩
    obtain ⟨g, cap, rfl, _⟩ := hO.form (by omega)
    have hR := RowC.own hO HL
    have hg := own_lt7 hO
    have AP := Lib.hid (fourAreaP g s.size cap (chds (jp s)) HL (by omega) HM.out w1 hg hR)
    have hz1 := hb1.size
    have y0 : w.heap.size < w1.heap.size := by omega
    have f0 : ∀ i, w1.frozen? ⟨w.heap.size, i, none⟩ = false := fun i => by rw [hb1.frozen (p := ⟨w.heap.size, i, none⟩) (by omega)]; go_simp
    have q0 : w1.cell? ⟨w.heap.size, 0, none⟩ = some (.int .i64 0) := by rw [hb1.cell (p := ⟨w.heap.size, 0, none⟩) (by omega)]; go_simp
    have q1 : w1.cell? ⟨w.heap.size, 1, none⟩ = some (.int .i64 0) := by rw [hb1.cell (p := ⟨w.heap.size, 1, none⟩) (by omega)]; go_simp
    have hBx : Below w.heap.size w w1 := ba hB hb1
    clear hO hR hcwA hfwA hb1
    go_wp2_with fail
    refine AP.out.mono ?_
    rintro er w2 ⟨rfl, hb2⟩
    obtain ⟨hc2, hf2⟩ := bcell hb2
    have hz2 := hb2.size
    have hB2 : Below w.heap.size w w2 := ba hBx hb2
    have y1 : w.heap.size < w2.heap.size := by omega
    go_wp2_with fail
    (go_at_call 65; (with_reducible refine (ON.out _).mono ?_); rintro e w3 ⟨rfl, h1⟩; (try with_reducible replace h1 := undrew h1); have hB : Below w.heap.size w w3 := ba (by go_grown) h1; obtain ⟨hcw3, hfw3⟩ := bcell h1; have hqw3 := h1.size; (try simp at hqw3); (try have hz0w3 : w.heap.size < w3.heap.size := (by omega)); (try have he0w3 : w.heap.size ≤ w3.heap.size := (by omega)))
    go_wp2_with fail
    refine bodyPost_ret (by simp [results, Try.results25, go_sem, *]; try rfl) rfl ?_
    exact ⟨rfl, by go_grown⟩

end Go.Proofs.Ytppbbcckijcckaa

/- Contracts: WindingAround, in the program. -/
namespace Go.Proofs.Ytppbbcckijcckaa
open Go.ChangeShapes Go.WideShapes Go.ChangeAt Go.RowKit Go.Sort

set_option linter.unusedVariables false
set_option linter.unusedSimpArgs false

def windI (p : Pn) (l : List (Pn × Pn)) : Int := l.foldl (fun n x => n + passI x.1 x.2 p) 0

theorem windI_snoc (p : Pn) (l : List (Pn × Pn)) (x : Pn × Pn) : windI p (l ++ [x]) = windI p l + passI x.1 x.2 p := by simp [windI]

/-- The point is on none of the chords. -/
def freeC (p : Pn) (l : List (Pn × Pn)) : Bool := l.all fun x => !Pn.btw x.1 x.2 p

theorem pass_bd (a b p : Pn) : -1 ≤ passI a b p ∧ passI a b p ≤ 1 := by
  have := sd_three a b p
  unfold passI
  cases lowB a p <;> cases lowB b p <;> simp <;> omega

theorem windI_bd (p : Pn) (l : List (Pn × Pn)) : ∀ k : Nat, -(k : Int) ≤ windI p (l.take k) ∧ windI p (l.take k) ≤ k
  | 0 => by simp [windI]
  | k + 1 => by
    have ih := windI_bd p l k
    cases hx : l[k]? with
    | none =>
      rw [List.getElem?_eq_none_iff] at hx
      rw [List.take_of_length_le (by omega)]
      rw [List.take_of_length_le hx] at ih
      push_cast; omega
    | some x =>
      have e : l.take (k + 1) = l.take k ++ [x] := by rw [List.take_add_one, hx]; rfl
      rw [e, windI_snoc]
      have := pass_bd x.1 x.2 p
      push_cast; omega

/-- What WindingAround says. -/
def waG (s : ByteArray) (p : Pn) : Bool := clB s && (plB p && freeC p (chds (jp s)))

def waR (s : ByteArray) (p : Pn) : Int := cond (waG s p) (windI p (chds (jp s))) 0

set_option maxRecDepth 100000 in
set_option maxHeartbeats 1600000 in
theorem imWindingAround (s : ByteArray) (hs : s.size ≤ 1048576) (p : Pn) (w : World) :
    Calls Try.prog 38 #[.string s, pv p] w fun e w' => e = .returned (.tuple #[.int .i64 (waR s p), .bool (waG s p)]) ∧ Below w.heap.size w w' := by
  have CG := isClosed_any s hs
  cases hc : clB s <;> rw [hc] at CG
  · have e1 : waG s p = false := by simp [waG, hc]
    have e2 : waR s p = 0 := by simp [waR, e1]
    rw [e1, e2]
    have CG := Lib.hid CG
    go_enter Try.func38, Try.ntmps38
    go_wp2_with (go_at_call 64; (with_reducible refine (CG.out _).mono ?_); rintro e wA ⟨rfl, h1⟩; (try with_reducible replace h1 := undrew h1); have hB : Below w.heap.size w wA := ba (by go_grown) h1; obtain ⟨hcwA, hfwA⟩ := bcell h1; have hqwA := h1.size; (try simp at hqwA); (try have hz0wA : w.heap.size < wA.heap.size := (by omega)); (try have he0wA : w.heap.size ≤ wA.heap.size := (by omega)))
    go_returns
    exact ⟨rfl, by go_grown⟩
  have e3 : [p].all plB = plB p := by simp
  cases hp : plB p <;> rw [hp] at e3
  · have e1 : waG s p = false := by simp [waG, hc, hp]
    have e2 : waR s p = 0 := by simp [waR, e1]
    rw [e1, e2]
    have CG := Lib.hid CG
    go_enter Try.func38, Try.ntmps38
    go_wp2_with (first | (go_at_call 64; (with_reducible refine (CG.out _).mono ?_); rintro e wA ⟨rfl, h1⟩; (try with_reducible replace h1 := undrew h1); have hB : Below w.heap.size w wA := ba (by go_grown) h1; obtain ⟨hcwA, hfwA⟩ := bcell h1; have hqwA := h1.size; (try simp at hqwA); (try have hz0wA : w.heap.size < wA.heap.size := (by omega)); (try have he0wA : w.heap.size ≤ wA.heap.size := (by omega))) | (go_at_call 55; (with_reducible refine ((e3 ▸ arePlacesP _ 1 1 [p] rfl (by omega) _ (by simp) (rowP1 (by go_simp) (by go_simp) (by go_simp) (by go_simp)))).mono ?_); rintro e wB ⟨rfl, h1⟩; (try with_reducible replace h1 := undrew h1); have hB : Below w.heap.size w wB := ba (by go_grown) h1; obtain ⟨hcwB, hfwB⟩ := bcell h1; have hqwB := h1.size; (try simp at hqwB); (try have hz0wB : w.heap.size < wB.heap.size := (by omega)); (try have he0wB : w.heap.size ≤ wB.heap.size := (by omega))))
    go_returns
    exact ⟨rfl, by go_grown⟩
  · have ht := clB_tk hc
    have h40 := tkB_size ht
    have bp := plB_bd hp
    obtain ⟨a, h0, h1, hs1⟩ := jp_closed hc
    have eG : waG s p = freeC p (chds (jp s)) := by simp [waG, hc, hp]
    have eR : waR s p = cond (freeC p (chds (jp s))) (windI p (chds (jp s))) 0 := by simp [waR, eG]
    rw [eG, eR]
    have CG := Lib.hid CG
    have HL : (chds (jp s)).length = s.size := by rw [chds_length, jp_len]; omega
    have HLh := Lib.hid HL
    have HM := Lib.hid (chds_bd (jp_bd ht))
    have CO := Lib.hid (chordsOfP s ht)
    generalize chds (jp s) = l at *
    go_enter Try.func38, Try.ntmps38
    go_wp2_with fail
    (go_at_call 64; (with_reducible refine (CG.out _).mono ?_); rintro e wA ⟨rfl, h1⟩; (try with_reducible replace h1 := undrew h1); have hB : Below w.heap.size w wA := ba (by go_grown) h1; obtain ⟨hcwA, hfwA⟩ := bcell h1; have hqwA := h1.size; (try simp at hqwA); (try have hz0wA : w.heap.size < wA.heap.size := (by omega)); (try have he0wA : w.heap.size ≤ wA.heap.size := (by omega)))
    go_wp2_with fail
    (go_at_call 55; (with_reducible refine ((e3 ▸ arePlacesP _ 1 1 [p] rfl (by omega) _ (by simp) (rowP1 (by go_simp) (by go_simp) (by go_simp) (by go_simp)))).mono ?_); rintro e wB ⟨rfl, h1⟩; (try with_reducible replace h1 := undrew h1); have hB : Below w.heap.size w wB := ba (by go_grown) h1; obtain ⟨hcwB, hfwB⟩ := bcell h1; have hqwB := h1.size; (try simp at hqwB); (try have hz0wB : w.heap.size < wB.heap.size := (by omega)); (try have he0wB : w.heap.size ≤ wB.heap.size := (by omega)))
    go_wp2_with fail
    refine (CO.out _).mono ?_
    rintro er w1 ⟨v, rfl, hO, hb1⟩
    obtain ⟨g, cap, rfl, _⟩ := hO.form (by omega)
    have H1 := Lib.hid (RowC.own hO HLh.out)
    have hg := own_lt7 hO
    have hz1 := hb1.size
    have y0 : w.heap.size < w1.heap.size := by omega
    have q0 : w1.cell? ⟨w.heap.size, 0, none⟩ = some (.int .i64 (p).a) ∧ w1.cell? ⟨w.heap.size, 1, none⟩ = some (.int .i64 (p).b) ∧ w1.cell? ⟨w.heap.size, 2, none⟩ = some (.int .i64 (p).c) ∧ w1.cell? ⟨w.heap.size, 3, none⟩ = some (.int .i64 (p).d) := ⟨by rw [hb1.cell (p := ⟨w.heap.size, 0, none⟩) (by omega)]; go_simp, by rw [hb1.cell (p := ⟨w.heap.size, 1, none⟩) (by omega)]; go_simp, by rw [hb1.cell (p := ⟨w.heap.size, 2, none⟩) (by omega)]; go_simp, by rw [hb1.cell (p := ⟨w.heap.size, 3, none⟩) (by omega)]; go_simp⟩
    have HQ := Lib.hid q0
    have HBx := Lib.hid (ba hB hb1)
    clear hO hcwA hfwA hcwB hfwB hb1 q0 hB
    go_wp2_with fail
    go_loopw [6, 21] (fun n i wr => ∃ k : Nat, k ≤ s.size ∧ i = .int .i64 k ∧ n = .int .i64 (windI p (l.take k)) ∧ freeC p (l.take k) = true ∧ Below w1.heap.size w1 wr) (fun _ i _ => s.size - (intOf i).toNat)
    case atStart => exact ⟨0, Nat.zero_le _, rfl, rfl, rfl, Below.refl _ _⟩
    case round =>
      obtain ⟨k, hk, rfl, rfl, hF, hB⟩ := hrel
      have hzr := hB.size
      have z0 : w.heap.size < wr.heap.size := by omega
      have zg : g < wr.heap.size := by omega
      have hF := Lib.hid hF
      have HBr := Lib.hid (ba HBx.out hB)
      by_cases hlt : k < s.size
      · obtain ⟨⟨a, b⟩, hx⟩ : ∃ x, l[k]? = some x := ⟨_, List.getElem?_eq_getElem (by rw [HLh.out]; exact hlt)⟩
        obtain ⟨⟨c0, c1, c2, c3⟩, c4, c5, c6, c7⟩ := (H1.out.below hg hB) k a b hx
        obtain ⟨q0, q1, q2, q3⟩ := HQ.out
        have d0 := (hB.cell (p := ⟨w.heap.size, 0, none⟩) y0).trans q0
        have d1 := (hB.cell (p := ⟨w.heap.size, 1, none⟩) y0).trans q1
        have d2 := (hB.cell (p := ⟨w.heap.size, 2, none⟩) y0).trans q2
        have d3 := (hB.cell (p := ⟨w.heap.size, 3, none⟩) y0).trans q3
        have hm := HM.out (a, b) (List.mem_of_getElem? hx)
        have e : l.take (k + 1) = l.take k ++ [(a, b)] := by rw [List.take_add_one, hx]; rfl
        have HS := Lib.hid (show windI p (l.take (k + 1)) = windI p (l.take k) + passI a b p by rw [e, windI_snoc])
        have HF1 := Lib.hid (show Pn.btw a b p = false → freeC p (l.take (k + 1)) = true from fun h => by
          rw [e]; unfold freeC at *; rw [List.all_append, hF.out]; simp [h])
        have HF0 := Lib.hid (show Pn.btw a b p = true → freeC p l = false from fun h => by
          unfold freeC; rw [List.all_eq_false]; exact ⟨(a, b), List.mem_of_getElem? hx, by simp [h]⟩)
        have nb := windI_bd p l k
        have pb := pass_bd a b p
        have HA := hasP a b p hm.1 hm.2 bp
        have PA := passingP a b p hm.1 hm.2 bp
        have j1 : (0 : Int) ≤ (k : Int) := by omega
        have j2 : (k : Int) < (s.size : Int) := by omega
        have j3 : IntKind.i64.wrap (windI p (l.take k) + passI a b p) = windI p (l.take k) + passI a b p := IntWalk.i64_in _ ⟨by omega, by omega⟩
        have hBw := HBr.out
        generalize windI p (l.take k) = T at *
        generalize passI a b p = U at *
        clear hx hm e q0 q1 q2 q3
        cases hbt : Pn.btw a b p
        · rw [hbt] at HA HF1
          go_wp2_with (first | (go_at_call 58; (with_reducible refine (HA _).mono ?_); rintro e w3 ⟨rfl, h1⟩; (try with_reducible replace h1 := undrew h1); have hB : Below w.heap.size w w3 := ba (by go_grown) h1; obtain ⟨hcw3, hfw3⟩ := bcell h1; have hqw3 := h1.size; (try simp at hqw3); (try have hz0w3 : w.heap.size < w3.heap.size := (by omega)); (try have he0w3 : w.heap.size ≤ w3.heap.size := (by omega)); (try have hz1w3 : g < w3.heap.size := (by omega)); (try have he1w3 : g ≤ w3.heap.size := (by omega)); have hC3 : Below w1.heap.size w1 w3 := ba (by go_grown) h1) | (go_at_call 84; (with_reducible refine (PA _).mono ?_); rintro e w4 ⟨rfl, h1⟩; (try with_reducible replace h1 := undrew h1); have hB : Below w.heap.size w w4 := ba (by go_grown) h1; obtain ⟨hcw4, hfw4⟩ := bcell h1; have hqw4 := h1.size; (try simp at hqw4); (try have hz0w4 : w.heap.size < w4.heap.size := (by omega)); (try have he0w4 : w.heap.size ≤ w4.heap.size := (by omega)); (try have hz1w4 : g < w4.heap.size := (by omega)); (try have he1w4 : g ≤ w4.heap.size := (by omega)); have hC4 : Below w1.heap.size w1 w4 := ba (by go_grown) h1))
          go_roundw
          case rel => exact ⟨k + 1, by omega, by go_num, by rw [HS.out], HF1.out (by simp), by go_grown⟩
          case measure => simp [intOf]; omega
        · rw [hbt] at HA HF0
          go_wp2_with (go_at_call 58; (with_reducible refine (HA _).mono ?_); rintro e w3 ⟨rfl, h1⟩; (try with_reducible replace h1 := undrew h1); have hB : Below w.heap.size w w3 := ba (by go_grown) h1; obtain ⟨hcw3, hfw3⟩ := bcell h1; have hqw3 := h1.size; (try simp at hqw3); (try have hz0w3 : w.heap.size < w3.heap.size := (by omega)); (try have he0w3 : w.heap.size ≤ w3.heap.size := (by omega)); (try have hz1w3 : g < w3.heap.size := (by omega)); (try have he1w3 : g ≤ w3.heap.size := (by omega)); have hC3 : Below w1.heap.size w1 w3 := ba (by go_grown) h1)
          go_ret2
          exact ⟨by rw [HF0.out (by simp)]; rfl, by go_grown⟩
      · have hkn : k = s.size := by omega
        have hr : l.take k = l := List.take_of_length_le (by rw [HLh.out]; omega)
        rw [hr] at hF
        have R := Lib.hid hr
        go_wp2_with fail
        go_ret2
        exact ⟨by rw [hF.out, R.out]; rfl, HBr.out⟩

end Go.Proofs.Ytppbbcckijcckaa

/- Contracts: how often a polygon goes around a point, in the model. -/
namespace Go.Proofs.Ytppbbcckijcckaa
open Go.ChangeShapes Go.WideShapes Go.ChangeAt Go.RowKit Go.Sort

set_option linter.unusedVariables false
set_option linter.unusedSimpArgs false

theorem passI_max {a b p : Pn} (h0 : lowB a p = true) (h1 : lowB b p = false) : passI a b p = max (Pn.sd a b p) 0 := by simp [passI, h0, h1]

theorem passI_min {a b p : Pn} (h0 : lowB a p = false) (h1 : lowB b p = true) : passI a b p = min (Pn.sd a b p) 0 := by simp [passI, h0, h1]

theorem passI_no {a b p : Pn} (h0 : lowB a p = lowB b p) : passI a b p = 0 := by
  unfold passI; rw [h0]; cases lowB b p <;> rfl

theorem spCmpQ (s t : Su) (h : Bs 1900000000000000 s) (k : Bs 1900000000000000 t) (w : World) : Calls Try.prog 97 #[sv s, sv t] w fun e w' => e = .returned (.int .i64 (s - t).sn) ∧ Below w.heap.size w w' := by
  have e1 := sub_w64 h k (by omega)
  have e2 := e1.1
  have e3 := e1.2
  have S := spSignP (s - t) ((h.sub_bd k).mono (by omega))
  go_enter Try.func97, Try.ntmps97
  go_wp2_with (go_at_call 106; (with_reducible refine (S _).mono ?_); rintro e wA ⟨rfl, h1⟩; (try with_reducible replace h1 := undrew h1); have hB : Below w.heap.size w wA := ba (by go_grown) h1; obtain ⟨hcwA, hfwA⟩ := bcell h1; have hqwA := h1.size; (try simp at hqwA); (try have hz0wA : w.heap.size < wA.heap.size := (by omega)); (try have he0wA : w.heap.size ≤ wA.heap.size := (by omega)); (try have hz1wA : w.heap.size + 1 < wA.heap.size := (by omega)); (try have he1wA : w.heap.size + 1 ≤ wA.heap.size := (by omega)))
  go_returns
  exact ⟨rfl, by go_grown⟩

set_option maxRecDepth 100000 in
set_option maxHeartbeats 6400000 in
theorem arAroundP (g n cap : Nat) (l : List Pn) (p : Pn) (hn : l.length = n) (hb : n ≤ 1000) (hbd : ∀ x ∈ l, Bd 100000 x) (bp : Bd 100000 p) (w : World) (hg : g < w.heap.size) (h1 : RowP w g l) :
    Calls Try.prog 83 #[.slice (some ⟨g, 0, none⟩) n cap, pv p] w fun e w' => e = .returned (.int .i64 (windI p (chds l))) ∧ Below w.heap.size w w' := by
  have HN := Lib.hid hn
  have H1 := Lib.hid h1
  have HBD := Lib.hid hbd
  clear hn h1 hbd
  go_enter Try.func83, Try.ntmps83
  go_wp2_with fail
  go_loopw [5, 6] (fun t i wr => ∃ j : Nat, (j < n ∨ j = 0) ∧ i = .int .i64 ((j : Int) + 1) ∧ t = .int .i64 (windI p ((chds l).take j)) ∧ (wr.cell? ⟨w.heap.size, 0, none⟩ = some (.int .i64 (p).a) ∧ wr.cell? ⟨w.heap.size, 1, none⟩ = some (.int .i64 (p).b) ∧ wr.cell? ⟨w.heap.size, 2, none⟩ = some (.int .i64 (p).c) ∧ wr.cell? ⟨w.heap.size, 3, none⟩ = some (.int .i64 (p).d)) ∧ w.heap.size < wr.heap.size ∧ Below w.heap.size w wr) (fun _ i _ => n - (intOf i).toNat)
  case atStart => exact ⟨0, .inr rfl, rfl, rfl, ⟨by go_simp, by go_simp, by go_simp, by go_simp⟩, by simp, by go_grown⟩
  case round =>
    obtain ⟨j, hk1, rfl, rfl, ⟨p0, p1, p2, p3⟩, z0, hB⟩ := hrel
    have zg : g < wr.heap.size := by omega
    by_cases hlt : j + 1 < n
    · obtain ⟨a, ha⟩ : ∃ p, l[j]? = some p := ⟨_, List.getElem?_eq_getElem (by rw [HN.out]; omega)⟩
      obtain ⟨b, hbq⟩ : ∃ q, l[j + 1]? = some q := ⟨_, List.getElem?_eq_getElem (by rw [HN.out]; exact hlt)⟩
      have R := H1.out.below hg hB
      obtain ⟨c0, c1, c2, c3⟩ := R j a ha
      obtain ⟨d0, d1, d2, d3⟩ := R (j + 1) b hbq
      have hx := chds_get l j a b ha hbq
      have hBa := HBD.out a (List.mem_of_getElem? ha)
      have hBb := HBD.out b (List.mem_of_getElem? hbq)
      have HS := Lib.hid (show windI p ((chds l).take (j + 1)) = windI p ((chds l).take j) + passI a b p by
        rw [show (chds l).take (j + 1) = (chds l).take j ++ [(a, b)] by rw [List.take_add_one, hx]; rfl, windI_snoc])
      have nb := windI_bd p (chds l) j
      have s3 := sd_three a b p
      have YA := spYP a (hBa.mono (by omega))
      have YB := spYP b (hBb.mono (by omega))
      have YP := spYP p (bp.mono (by omega))
      have CA := spCmpQ a.ty p.ty (hBa.ty_bd.mono (by omega)) (bp.ty_bd.mono (by omega))
      have CB := spCmpQ b.ty p.ty (hBb.ty_bd.mono (by omega)) (bp.ty_bd.mono (by omega))
      have SD := arSideP a b p hBa hBb bp
      have PX := Lib.hid (@passI_max a b p)
      have PN := Lib.hid (@passI_min a b p)
      have PO := Lib.hid (@passI_no a b p)
      have l1 : lowB a p = decide ((a.ty - p.ty).sn ≤ 0) := rfl
      have l2 : lowB b p = decide ((b.ty - p.ty).sn ≤ 0) := rfl
      generalize lowB a p = la at *
      generalize lowB b p = lb at *
      generalize windI p ((chds l).take j) = T at *
      have ex := tfP ((a.ty - p.ty).sn ≤ 0)
      have ey := tfP ((b.ty - p.ty).sn ≤ 0)
      generalize (a.ty - p.ty).sn = x at *
      generalize (b.ty - p.ty).sn = y at *
      generalize Pn.sd a b p = z at *
      clear R ha hbq hx hBa hBb
      have j1 : (0 : Int) ≤ (j : Int) := by omega
      have j2 : (j : Int) + 1 < (n : Int) := by omega
      have j3 : (j : Int) < (n : Int) := by omega
      have j5 : (0 : Int) ≤ (j : Int) + 1 := by omega
      have j6 : ((j : Int) + 1).toNat = j + 1 := by omega
      have j4 : IntKind.i64.wrap (j : Int) = (j : Int) := IntWalk.i64_in _ ⟨by omega, by omega⟩
      have ne0 : ¬ wr.heap.size = w.heap.size := by omega
      have ne1 : ¬ wr.heap.size + 1 = w.heap.size := by omega
      have neg0 : ¬ wr.heap.size = g := by omega
      have neg1 : ¬ wr.heap.size + 1 = g := by omega
      go_wp2_with fail
      go_region_held3 (fun w' => (w'.cell? ⟨w.heap.size, 0, none⟩ = some (.int .i64 (p).a) ∧ w'.cell? ⟨w.heap.size, 1, none⟩ = some (.int .i64 (p).b) ∧ w'.cell? ⟨w.heap.size, 2, none⟩ = some (.int .i64 (p).c) ∧ w'.cell? ⟨w.heap.size, 3, none⟩ = some (.int .i64 (p).d)) ∧ (w'.cell? ⟨g, j * 4, none⟩ = some (.int .i64 a.a) ∧ w'.cell? ⟨g, j * 4 + 1, none⟩ = some (.int .i64 a.b) ∧ w'.cell? ⟨g, j * 4 + 2, none⟩ = some (.int .i64 a.c) ∧ w'.cell? ⟨g, j * 4 + 3, none⟩ = some (.int .i64 a.d)) ∧ w'.cell? ⟨g, (j + 1) * 4, none⟩ = some (.int .i64 b.a) ∧ w'.cell? ⟨g, (j + 1) * 4 + 1, none⟩ = some (.int .i64 b.b) ∧ w'.cell? ⟨g, (j + 1) * 4 + 2, none⟩ = some (.int .i64 b.c) ∧ w'.cell? ⟨g, (j + 1) * 4 + 3, none⟩ = some (.int .i64 b.d)) (go_keep) (fail)
      · skip
        refine absE (F := fun X => (X.cell? ⟨w.heap.size, 0, none⟩ = some (.int .i64 (p).a) ∧ X.cell? ⟨w.heap.size, 1, none⟩ = some (.int .i64 (p).b) ∧ X.cell? ⟨w.heap.size, 2, none⟩ = some (.int .i64 (p).c) ∧ X.cell? ⟨w.heap.size, 3, none⟩ = some (.int .i64 (p).d)) ∧ (X.cell? ⟨wr.heap.size, 0, none⟩ = some (.int .i64 (a).a) ∧ X.cell? ⟨wr.heap.size, 1, none⟩ = some (.int .i64 (a).b) ∧ X.cell? ⟨wr.heap.size, 2, none⟩ = some (.int .i64 (a).c) ∧ X.cell? ⟨wr.heap.size, 3, none⟩ = some (.int .i64 (a).d)) ∧ (X.cell? ⟨wr.heap.size + 1, 0, none⟩ = some (.int .i64 (b).a) ∧ X.cell? ⟨wr.heap.size + 1, 1, none⟩ = some (.int .i64 (b).b) ∧ X.cell? ⟨wr.heap.size + 1, 2, none⟩ = some (.int .i64 (b).c) ∧ X.cell? ⟨wr.heap.size + 1, 3, none⟩ = some (.int .i64 (b).d)) ∧ (wr.heap.size + 1 < X.heap.size) ∧ Below w.heap.size w X) ⟨⟨by go_simp, by go_simp, by go_simp, by go_simp⟩, ⟨by go_simp, by go_simp, by go_simp, by go_simp⟩, ⟨by go_simp, by go_simp, by go_simp, by go_simp⟩, by first | (simp; done) | (simp; omega), by go_grown⟩ ?_
        rintro X ⟨⟨c0_0, c0_1, c0_2, c0_3⟩, ⟨cA_0, cA_1, cA_2, cA_3⟩, ⟨cB_0, cB_1, cB_2, cB_3⟩, hzX, HB⟩
        have k0_0 := fun d os => cell_regrown c0_0 d os
        have k0_1 := fun d os => cell_regrown c0_1 d os
        have k0_2 := fun d os => cell_regrown c0_2 d os
        have k0_3 := fun d os => cell_regrown c0_3 d os
        have kA_0 := fun d os => cell_regrown cA_0 d os
        have kA_1 := fun d os => cell_regrown cA_1 d os
        have kA_2 := fun d os => cell_regrown cA_2 d os
        have kA_3 := fun d os => cell_regrown cA_3 d os
        have kB_0 := fun d os => cell_regrown cB_0 d os
        have kB_1 := fun d os => cell_regrown cB_1 d os
        have kB_2 := fun d os => cell_regrown cB_2 d os
        have kB_3 := fun d os => cell_regrown cB_3 d os
        have v0 : w.heap.size < X.heap.size := by omega
        have v1 : wr.heap.size < X.heap.size := by omega
        clear c0 c1 c2 c3 d0 d1 d2 d3 p0 p1 p2 p3
        go_wp2_with fail
        refine wp_region_quiet_below (by kernel_rfl) (by kernel_rfl) ?_
        repeat (quiet_step (first | (go_at_call 77; with_reducible exact Calls.regrown_of (YA _)) | (go_at_call 77; with_reducible exact Calls.regrown_of (YP _)) | (go_at_call 97; with_reducible exact Calls.regrown_of (CA _))))
        refine wpQuiet_nil ?_
        rintro _ ⟨⟨dq, osq⟩, rfl⟩
        have hbw1 := below_regrown X dq osq
        generalize grow (redrawn X dq) osq = w1 at hbw1 ⊢
        obtain ⟨hcw1, hfw1⟩ := bcell hbw1
        have hlw1 := hbw1.size
        replace HB := ba HB hbw1
        go_wp2_with fail
        refine absW (F := fun Y => (Y.cell? ⟨w.heap.size, 0, none⟩ = some (.int .i64 (p).a) ∧ Y.cell? ⟨w.heap.size, 1, none⟩ = some (.int .i64 (p).b) ∧ Y.cell? ⟨w.heap.size, 2, none⟩ = some (.int .i64 (p).c) ∧ Y.cell? ⟨w.heap.size, 3, none⟩ = some (.int .i64 (p).d)) ∧ (Y.cell? ⟨wr.heap.size, 0, none⟩ = some (.int .i64 (a).a) ∧ Y.cell? ⟨wr.heap.size, 1, none⟩ = some (.int .i64 (a).b) ∧ Y.cell? ⟨wr.heap.size, 2, none⟩ = some (.int .i64 (a).c) ∧ Y.cell? ⟨wr.heap.size, 3, none⟩ = some (.int .i64 (a).d)) ∧ (Y.cell? ⟨wr.heap.size + 1, 0, none⟩ = some (.int .i64 (b).a) ∧ Y.cell? ⟨wr.heap.size + 1, 1, none⟩ = some (.int .i64 (b).b) ∧ Y.cell? ⟨wr.heap.size + 1, 2, none⟩ = some (.int .i64 (b).c) ∧ Y.cell? ⟨wr.heap.size + 1, 3, none⟩ = some (.int .i64 (b).d)) ∧ (wr.heap.size + 1 < Y.heap.size) ∧ Below w.heap.size w Y) ⟨⟨by go_simp, by go_simp, by go_simp, by go_simp⟩, ⟨by go_simp, by go_simp, by go_simp, by go_simp⟩, ⟨by go_simp, by go_simp, by go_simp, by go_simp⟩, by omega, by go_grown⟩ ?_
        rintro Y ⟨⟨c0_0, c0_1, c0_2, c0_3⟩, ⟨cA_0, cA_1, cA_2, cA_3⟩, ⟨cB_0, cB_1, cB_2, cB_3⟩, hzY, HB⟩
        have k0_0 := fun d os => cell_regrown c0_0 d os
        have k0_1 := fun d os => cell_regrown c0_1 d os
        have k0_2 := fun d os => cell_regrown c0_2 d os
        have k0_3 := fun d os => cell_regrown c0_3 d os
        have kA_0 := fun d os => cell_regrown cA_0 d os
        have kA_1 := fun d os => cell_regrown cA_1 d os
        have kA_2 := fun d os => cell_regrown cA_2 d os
        have kA_3 := fun d os => cell_regrown cA_3 d os
        have kB_0 := fun d os => cell_regrown cB_0 d os
        have kB_1 := fun d os => cell_regrown cB_1 d os
        have kB_2 := fun d os => cell_regrown cB_2 d os
        have kB_3 := fun d os => cell_regrown cB_3 d os
        have t0 : w.heap.size < Y.heap.size := by omega
        have t1 : wr.heap.size < Y.heap.size := by omega
        refine wp_region_quiet_below (by kernel_rfl) (by kernel_rfl) ?_
        repeat (quiet_step (first | (go_at_call 77; with_reducible exact Calls.regrown_of (YB _)) | (go_at_call 77; with_reducible exact Calls.regrown_of (YP _)) | (go_at_call 97; with_reducible exact Calls.regrown_of (CB _))))
        refine wpQuiet_nil ?_
        rintro _ ⟨⟨dq, osq⟩, rfl⟩
        have hbw2 := below_regrown Y dq osq
        generalize grow (redrawn Y dq) osq = w2 at hbw2 ⊢
        obtain ⟨hcw2, hfw2⟩ := bcell hbw2
        have hlw2 := hbw2.size
        replace HB := ba HB hbw2
        have t2 : w.heap.size < w2.heap.size := by omega
        have t3 : wr.heap.size < w2.heap.size := by omega
        have t4 : wr.heap.size + 1 < w2.heap.size := by omega
        clear YA YB YP CA CB
        rcases ex with hx | hx <;> rcases ey with hy | hy
        · have hU := PO.out (by rw [l1, l2]; simp only [hx, hy])
          go_wp2_with fail
          go_roundw
          case rel => exact ⟨j + 1, by omega, by go_num, by rw [HS.out, hU, Int.add_zero], ⟨by go_simp, by go_simp, by go_simp, by go_simp⟩, by omega, by go_grown⟩
          case measure => simp [intOf]; omega
        · have hU := PX.out (by rw [l1]; simp only [hx, decide_true]) (by rw [l2]; simp only [hy, decide_false])
          rcases s3 with rfl | rfl | rfl
          all_goals
            go_wp2_with (go_at_call 54; (with_reducible refine (SD _).mono ?_); rintro e w3 ⟨rfl, h1⟩; (try with_reducible replace h1 := undrew h1); have hB : Below w.heap.size w w3 := ba (by go_grown) h1; obtain ⟨hcw3, hfw3⟩ := bcell h1; have hqw3 := h1.size; (try simp at hqw3); (try have hz0w3 : w.heap.size < w3.heap.size := (by omega)); (try have he0w3 : w.heap.size ≤ w3.heap.size := (by omega)); (try have hz1w3 : wr.heap.size < w3.heap.size := (by omega)); (try have he1w3 : wr.heap.size ≤ w3.heap.size := (by omega)); (try have hz2w3 : wr.heap.size + 1 < w3.heap.size := (by omega)); (try have he2w3 : wr.heap.size + 1 ≤ w3.heap.size := (by omega)))
            go_roundw
            case rel => exact ⟨j + 1, by omega, by go_num, by rw [HS.out, hU]; first | rfl | (simp; done) | (simp; omega), ⟨by go_simp, by go_simp, by go_simp, by go_simp⟩, by omega, by go_grown⟩
            case measure => simp [intOf]; omega
        · have hU := PN.out (by rw [l1]; simp only [hx, decide_false]) (by rw [l2]; simp only [hy, decide_true])
          rcases s3 with rfl | rfl | rfl
          all_goals
            go_wp2_with (go_at_call 54; (with_reducible refine (SD _).mono ?_); rintro e w3 ⟨rfl, h1⟩; (try with_reducible replace h1 := undrew h1); have hB : Below w.heap.size w w3 := ba (by go_grown) h1; obtain ⟨hcw3, hfw3⟩ := bcell h1; have hqw3 := h1.size; (try simp at hqw3); (try have hz0w3 : w.heap.size < w3.heap.size := (by omega)); (try have he0w3 : w.heap.size ≤ w3.heap.size := (by omega)); (try have hz1w3 : wr.heap.size < w3.heap.size := (by omega)); (try have he1w3 : wr.heap.size ≤ w3.heap.size := (by omega)); (try have hz2w3 : wr.heap.size + 1 < w3.heap.size := (by omega)); (try have he2w3 : wr.heap.size + 1 ≤ w3.heap.size := (by omega)))
            go_roundw
            case rel => exact ⟨j + 1, by omega, by go_num, by rw [HS.out, hU]; first | rfl | (simp; done) | (simp; omega), ⟨by go_simp, by go_simp, by go_simp, by go_simp⟩, by omega, by go_grown⟩
            case measure => simp [intOf]; omega
        · have hU := PO.out (by rw [l1, l2]; simp only [hx, hy])
          go_wp2_with fail
          go_roundw
          case rel => exact ⟨j + 1, by omega, by go_num, by rw [HS.out, hU, Int.add_zero], ⟨by go_simp, by go_simp, by go_simp, by go_simp⟩, by omega, by go_grown⟩
          case measure => simp [intOf]; omega
      · skip
        refine absE (F := fun X => (X.cell? ⟨w.heap.size, 0, none⟩ = some (.int .i64 (p).a) ∧ X.cell? ⟨w.heap.size, 1, none⟩ = some (.int .i64 (p).b) ∧ X.cell? ⟨w.heap.size, 2, none⟩ = some (.int .i64 (p).c) ∧ X.cell? ⟨w.heap.size, 3, none⟩ = some (.int .i64 (p).d)) ∧ (X.cell? ⟨wr.heap.size + 1, 0, none⟩ = some (.int .i64 (a).a) ∧ X.cell? ⟨wr.heap.size + 1, 1, none⟩ = some (.int .i64 (a).b) ∧ X.cell? ⟨wr.heap.size + 1, 2, none⟩ = some (.int .i64 (a).c) ∧ X.cell? ⟨wr.heap.size + 1, 3, none⟩ = some (.int .i64 (a).d)) ∧ (X.cell? ⟨wr.heap.size, 0, none⟩ = some (.int .i64 (b).a) ∧ X.cell? ⟨wr.heap.size, 1, none⟩ = some (.int .i64 (b).b) ∧ X.cell? ⟨wr.heap.size, 2, none⟩ = some (.int .i64 (b).c) ∧ X.cell? ⟨wr.heap.size, 3, none⟩ = some (.int .i64 (b).d)) ∧ (wr.heap.size + 1 < X.heap.size) ∧ Below w.heap.size w X) ⟨⟨by go_simp, by go_simp, by go_simp, by go_simp⟩, ⟨by go_simp, by go_simp, by go_simp, by go_simp⟩, ⟨by go_simp, by go_simp, by go_simp, by go_simp⟩, by first | (simp; done) | (simp; omega), by go_grown⟩ ?_
        rintro X ⟨⟨c0_0, c0_1, c0_2, c0_3⟩, ⟨cA_0, cA_1, cA_2, cA_3⟩, ⟨cB_0, cB_1, cB_2, cB_3⟩, hzX, HB⟩
        have k0_0 := fun d os => cell_regrown c0_0 d os
        have k0_1 := fun d os => cell_regrown c0_1 d os
        have k0_2 := fun d os => cell_regrown c0_2 d os
        have k0_3 := fun d os => cell_regrown c0_3 d os
        have kA_0 := fun d os => cell_regrown cA_0 d os
        have kA_1 := fun d os => cell_regrown cA_1 d os
        have kA_2 := fun d os => cell_regrown cA_2 d os
        have kA_3 := fun d os => cell_regrown cA_3 d os
        have kB_0 := fun d os => cell_regrown cB_0 d os
        have kB_1 := fun d os => cell_regrown cB_1 d os
        have kB_2 := fun d os => cell_regrown cB_2 d os
        have kB_3 := fun d os => cell_regrown cB_3 d os
        have v0 : w.heap.size < X.heap.size := by omega
        have v1 : wr.heap.size < X.heap.size := by omega
        clear c0 c1 c2 c3 d0 d1 d2 d3 p0 p1 p2 p3
        go_wp2_with fail
        refine wp_region_quiet_below (by kernel_rfl) (by kernel_rfl) ?_
        repeat (quiet_step (first | (go_at_call 77; with_reducible exact Calls.regrown_of (YA _)) | (go_at_call 77; with_reducible exact Calls.regrown_of (YP _)) | (go_at_call 97; with_reducible exact Calls.regrown_of (CA _))))
        refine wpQuiet_nil ?_
        rintro _ ⟨⟨dq, osq⟩, rfl⟩
        have hbw1 := below_regrown X dq osq
        generalize grow (redrawn X dq) osq = w1 at hbw1 ⊢
        obtain ⟨hcw1, hfw1⟩ := bcell hbw1
        have hlw1 := hbw1.size
        replace HB := ba HB hbw1
        go_wp2_with fail
        refine absW (F := fun Y => (Y.cell? ⟨w.heap.size, 0, none⟩ = some (.int .i64 (p).a) ∧ Y.cell? ⟨w.heap.size, 1, none⟩ = some (.int .i64 (p).b) ∧ Y.cell? ⟨w.heap.size, 2, none⟩ = some (.int .i64 (p).c) ∧ Y.cell? ⟨w.heap.size, 3, none⟩ = some (.int .i64 (p).d)) ∧ (Y.cell? ⟨wr.heap.size + 1, 0, none⟩ = some (.int .i64 (a).a) ∧ Y.cell? ⟨wr.heap.size + 1, 1, none⟩ = some (.int .i64 (a).b) ∧ Y.cell? ⟨wr.heap.size + 1, 2, none⟩ = some (.int .i64 (a).c) ∧ Y.cell? ⟨wr.heap.size + 1, 3, none⟩ = some (.int .i64 (a).d)) ∧ (Y.cell? ⟨wr.heap.size, 0, none⟩ = some (.int .i64 (b).a) ∧ Y.cell? ⟨wr.heap.size, 1, none⟩ = some (.int .i64 (b).b) ∧ Y.cell? ⟨wr.heap.size, 2, none⟩ = some (.int .i64 (b).c) ∧ Y.cell? ⟨wr.heap.size, 3, none⟩ = some (.int .i64 (b).d)) ∧ (wr.heap.size + 1 < Y.heap.size) ∧ Below w.heap.size w Y) ⟨⟨by go_simp, by go_simp, by go_simp, by go_simp⟩, ⟨by go_simp, by go_simp, by go_simp, by go_simp⟩, ⟨by go_simp, by go_simp, by go_simp, by go_simp⟩, by omega, by go_grown⟩ ?_
        rintro Y ⟨⟨c0_0, c0_1, c0_2, c0_3⟩, ⟨cA_0, cA_1, cA_2, cA_3⟩, ⟨cB_0, cB_1, cB_2, cB_3⟩, hzY, HB⟩
        have k0_0 := fun d os => cell_regrown c0_0 d os
        have k0_1 := fun d os => cell_regrown c0_1 d os
        have k0_2 := fun d os => cell_regrown c0_2 d os
        have k0_3 := fun d os => cell_regrown c0_3 d os
        have kA_0 := fun d os => cell_regrown cA_0 d os
        have kA_1 := fun d os => cell_regrown cA_1 d os
        have kA_2 := fun d os => cell_regrown cA_2 d os
        have kA_3 := fun d os => cell_regrown cA_3 d os
        have kB_0 := fun d os => cell_regrown cB_0 d os
        have kB_1 := fun d os => cell_regrown cB_1 d os
        have kB_2 := fun d os => cell_regrown cB_2 d os
        have kB_3 := fun d os => cell_regrown cB_3 d os
        have t0 : w.heap.size < Y.heap.size := by omega
        have t1 : wr.heap.size < Y.heap.size := by omega
        refine wp_region_quiet_below (by kernel_rfl) (by kernel_rfl) ?_
        repeat (quiet_step (first | (go_at_call 77; with_reducible exact Calls.regrown_of (YB _)) | (go_at_call 77; with_reducible exact Calls.regrown_of (YP _)) | (go_at_call 97; with_reducible exact Calls.regrown_of (CB _))))
        refine wpQuiet_nil ?_
        rintro _ ⟨⟨dq, osq⟩, rfl⟩
        have hbw2 := below_regrown Y dq osq
        generalize grow (redrawn Y dq) osq = w2 at hbw2 ⊢
        obtain ⟨hcw2, hfw2⟩ := bcell hbw2
        have hlw2 := hbw2.size
        replace HB := ba HB hbw2
        have t2 : w.heap.size < w2.heap.size := by omega
        have t3 : wr.heap.size < w2.heap.size := by omega
        have t4 : wr.heap.size + 1 < w2.heap.size := by omega
        clear YA YB YP CA CB
        rcases ex with hx | hx <;> rcases ey with hy | hy
        · have hU := PO.out (by rw [l1, l2]; simp only [hx, hy])
          go_wp2_with fail
          go_roundw
          case rel => exact ⟨j + 1, by omega, by go_num, by rw [HS.out, hU, Int.add_zero], ⟨by go_simp, by go_simp, by go_simp, by go_simp⟩, by omega, by go_grown⟩
          case measure => simp [intOf]; omega
        · have hU := PX.out (by rw [l1]; simp only [hx, decide_true]) (by rw [l2]; simp only [hy, decide_false])
          rcases s3 with rfl | rfl | rfl
          all_goals
            go_wp2_with (go_at_call 54; (with_reducible refine (SD _).mono ?_); rintro e w3 ⟨rfl, h1⟩; (try with_reducible replace h1 := undrew h1); have hB : Below w.heap.size w w3 := ba (by go_grown) h1; obtain ⟨hcw3, hfw3⟩ := bcell h1; have hqw3 := h1.size; (try simp at hqw3); (try have hz0w3 : w.heap.size < w3.heap.size := (by omega)); (try have he0w3 : w.heap.size ≤ w3.heap.size := (by omega)); (try have hz1w3 : wr.heap.size < w3.heap.size := (by omega)); (try have he1w3 : wr.heap.size ≤ w3.heap.size := (by omega)); (try have hz2w3 : wr.heap.size + 1 < w3.heap.size := (by omega)); (try have he2w3 : wr.heap.size + 1 ≤ w3.heap.size := (by omega)))
            go_roundw
            case rel => exact ⟨j + 1, by omega, by go_num, by rw [HS.out, hU]; first | rfl | (simp; done) | (simp; omega), ⟨by go_simp, by go_simp, by go_simp, by go_simp⟩, by omega, by go_grown⟩
            case measure => simp [intOf]; omega
        · have hU := PN.out (by rw [l1]; simp only [hx, decide_false]) (by rw [l2]; simp only [hy, decide_true])
          rcases s3 with rfl | rfl | rfl
          all_goals
            go_wp2_with (go_at_call 54; (with_reducible refine (SD _).mono ?_); rintro e w3 ⟨rfl, h1⟩; (try with_reducible replace h1 := undrew h1); have hB : Below w.heap.size w w3 := ba (by go_grown) h1; obtain ⟨hcw3, hfw3⟩ := bcell h1; have hqw3 := h1.size; (try simp at hqw3); (try have hz0w3 : w.heap.size < w3.heap.size := (by omega)); (try have he0w3 : w.heap.size ≤ w3.heap.size := (by omega)); (try have hz1w3 : wr.heap.size < w3.heap.size := (by omega)); (try have he1w3 : wr.heap.size ≤ w3.heap.size := (by omega)); (try have hz2w3 : wr.heap.size + 1 < w3.heap.size := (by omega)); (try have he2w3 : wr.heap.size + 1 ≤ w3.heap.size := (by omega)))
            go_roundw
            case rel => exact ⟨j + 1, by omega, by go_num, by rw [HS.out, hU]; first | rfl | (simp; done) | (simp; omega), ⟨by go_simp, by go_simp, by go_simp, by go_simp⟩, by omega, by go_grown⟩
            case measure => simp [intOf]; omega
        · have hU := PO.out (by rw [l1, l2]; simp only [hx, hy])
          go_wp2_with fail
          go_roundw
          case rel => exact ⟨j + 1, by omega, by go_num, by rw [HS.out, hU, Int.add_zero], ⟨by go_simp, by go_simp, by go_simp, by go_simp⟩, by omega, by go_grown⟩
          case measure => simp [intOf]; omega
    · have hjn : j = n - 1 := by omega
      have hE : (chds l).take j = chds l := List.take_of_length_le (by rw [chds_length, HN.out]; omega)
      have j1 : ¬ (j : Int) + 1 < (n : Int) := by omega
      have R := Lib.hid (show windI p ((chds l).take (n - 1)) = windI p (chds l) by rw [← hjn, hE])
      go_wp2_with fail
      go_ret
      exact ⟨by rw [R.out]; rfl, hB⟩

end Go.Proofs.Ytppbbcckijcckaa
