/- Contracts and facts, put together (part 3). Conditions: each says its own. -/
import Derived.Test.YthiimllafcfieaaQ2
import Derived.Laws.AppendOwn
import Derived.Laws.OwnMore
import Derived.Deep.AppendLies
import Derived.Deep.DrawnRows
import Derived.Maps.OwnOps
import Derived.Laws.CopyOwn
import Derived.Laws.MakeOwn
import Derived.Test.YthiimllafcfieaaShelf
import Derived.Deep.RegionLaw
import Derived.Lib.Builder
import Derived.Deep.RegionHeld3

/- Contract: the program's stepsOf. -/
namespace Go.Proofs.Ythiimllafcfieaa
open Go.ChangeShapes Go.WideShapes Go.ChangeAt Go.RowKit

theorem stInfo : (Try.prog.info? 63).map (fun i => (i.zero, i.size, i.bytes)) = some (some (.agg #[.int .i64 0, .int .i64 0, .int .i64 0, .int .i64 0, .int .i64 0]), 5, 40) := by kernel_rfl

theorem own_below {W w1 : World} {B : Nat} {e : TypeId} {size n : Nat} {v : Value} {xs : List Value} (h : W.ownsRow B e size v n xs) (hb : Below W.heap.size W w1) : w1.ownsRow B e size v n xs :=
  h.kept (row := none) ⟨hb.os, hb.tape, hb.output, hb.size, fun k hk _ => hb.block k hk⟩ (by cases v.ownBlock <;> simp)

theorem own_sp {W : World} {B n g cap i : Nat} {e : TypeId} {l : List Sp} {s : Sp} (h : W.ownsRow B e 5 (.slice (some ⟨g, 0, none⟩) n cap) n (spCells l)) (hn : l.length = n) (hs : l[i]? = some s) :
    W.cell? ⟨g, i * 5, none⟩ = some (.int .i64 s.x0) ∧ W.cell? ⟨g, i * 5 + 1, none⟩ = some (.int .i64 s.x1) ∧ W.cell? ⟨g, i * 5 + 2, none⟩ = some (.int .i64 s.x2) ∧ W.cell? ⟨g, i * 5 + 3, none⟩ = some (.int .i64 s.x3) ∧ W.cell? ⟨g, i * 5 + 4, none⟩ = some (.int .i64 s.h) := by
  have hi : i < n := by rw [← hn]; exact (List.getElem?_eq_some_iff.1 hs).1
  have a := fun j (hj : j < 5) => (h.cellAt (i * 5 + j) (by omega)).trans ((by rw [Nat.mul_comm]) : _ = (spCells l)[5 * i + j]?) |>.trans (spCells_at l hs j hj)
  exact ⟨a 0 (by omega), a 1 (by omega), a 2 (by omega), a 3 (by omega), a 4 (by omega)⟩

def StepsPost (s : ByteArray) (w : World) (e : Ending) (w' : World) : Prop :=
  ∃ g cap, e = .returned (.tuple #[.slice (some ⟨g, 0, none⟩) (s.size + 1) cap, .bool true]) ∧ w'.ownsRow w.heap.size 63 5 (.slice (some ⟨g, 0, none⟩) (s.size + 1) cap) (s.size + 1) (spCells (lays sp0 s.data.toList)) ∧ Below w.heap.size w w'

theorem lays_take (s : ByteArray) (k : Nat) (hk : k < s.size) (c : UInt8) (hc : s[k] = c) : lays sp0 (s.data.toList.take (k + 1)) = lays sp0 (s.data.toList.take k) ++ [(fin sp0 (s.data.toList.take k)).next c] := by
  rw [take_snoc s k hk, lays_snoc, hc]

theorem lays_at (s : ByteArray) (k : Nat) (hk : k ≤ s.size) : (lays sp0 (s.data.toList.take k))[k]? = some (fin sp0 (s.data.toList.take k)) := by
  have h := lays_last sp0 (s.data.toList.take k)
  rwa [List.length_take, size_list, Nat.min_eq_left hk] at h

theorem lays_len (s : ByteArray) (k : Nat) (hk : k ≤ s.size) : (lays sp0 (s.data.toList.take k)).length = k + 1 := by
  rw [lays_length, List.length_take, size_list, Nat.min_eq_left hk]

set_option maxRecDepth 100000 in
set_option maxHeartbeats 1600000 in
theorem stepsOf_yes (s : ByteArray) (ht : tkB s = true) (w : World) :
    Calls Try.prog 119 #[.string s] w (StepsPost s w) := by
  have h40 := tkB_size ht
  have hs : s.size ≤ 1048576 := by omega
  have HT := Lib.hid (fun k hk => tkB_at ht (k := k) hk)
  obtain ⟨i0, hi, hz0, hz1, hz2⟩ := info_parts stInfo
  go_enter Try.func119, Try.ntmps119
  go_wp2_with (go_at_call 132; refine (imIsTrack_any s hs _).mono ?_; rintro e w' ⟨rfl, rfl⟩)
  go_loopw [4, 14] (fun v i wr => ∃ (k g cap : Nat), k ≤ s.size ∧ i = .int .i64 k ∧ v = .slice (some ⟨g, 0, none⟩) ((k + 1 : Nat)) cap ∧ wr.ownsRow w.heap.size 63 5 (.slice (some ⟨g, 0, none⟩) (k + 1) cap) (k + 1) (spCells (lays sp0 (s.data.toList.take k))) ∧ Below w.heap.size w wr) (fun _ i _ => s.size - (intOf i).toNat)
  case atStart => exact ⟨0, w.heap.size, 1, Nat.zero_le _, rfl, rfl, ⟨rfl, .inr ⟨w.heap.size, 1, _, rfl, Nat.le_refl _, heap_alloc_new w _, Nat.le_refl _, by decide, rfl, rfl⟩⟩, by go_grown⟩
  case round =>
    obtain ⟨k, g, cap, hk, rfl, rfl, hown, hb⟩ := hrel
    have hz : w.heap.size ≤ wr.heap.size := hb.size
    by_cases hlt : k < s.size
    · have HX := Lib.hid (ext_one s k hlt)
      have hp := HT.out k hlt
      have hok := fin_ok sp0_ok (s.data.toList.take k)
      have hl : (s.data.toList.take k).length ≤ 40 := by rw [List.length_take, size_list]; omega
      have hF := lays_at s k hk
      generalize hc : s[k] = c at HX hp
      have HN := Lib.hid (lays_take s k hlt c hc)
      clear hc
      have hcells := own_sp hown (lays_len s k hk) hF
      generalize fin sp0 (s.data.toList.take k) = p at HN hok hcells hF
      obtain ⟨x0, x1, x2, x3, h⟩ := p
      simp only [Sp.okB] at hok
      obtain ⟨⟨b0, b0'⟩, ⟨b1, b1'⟩, ⟨b2, b2'⟩, ⟨b3, b3'⟩, b4, b5⟩ := hok
      obtain ⟨c0, c1, c2, c3, c4⟩ := hcells
      have HO := Lib.hid hown
      have HB := Lib.hid hb
      clear hF hown hb
      rcases pcb_cases hp with rfl | rfl | rfl
      · clear hp
        go_wp2_with (go_at_call 120; refine (lay_S' _ HX.out _).mono ?_; rintro e w' ⟨rfl, rfl⟩)
        refine (straightP x0 x1 x2 x3 h b4 b5 (by omega) (by omega) (by omega) (by omega) (by omega) (by omega) (by omega) (by omega) _).mono ?_
        rintro e w1 ⟨rfl, hb1⟩
        have HO1 := Lib.hid (own_below HO.out hb1)
        have hz1' : wr.heap.size ≤ w1.heap.size := hb1.size
        have HB1 := Lib.hid (HB.out.trans (hb1.mono hz))
        clear hb1 c0 c1 c2 c3 c4
        go_wp2_with (at_builtin; refine wpList_append_own _ rfl _ _ 134 rfl w.heap.size 63 i0 (.agg #[.int .i64 0, .int .i64 0, .int .i64 0, .int .i64 0, .int .i64 0]) 5 40 Try.underlying134 hi hz0 hz1 hz2 rfl (by decide) _ _ _ rfl (HO1.out.alloc _) ⟨w1.heap.size, 0, none⟩ 1 1 [.int .i64 (x0 + tu0 h 1 0 0 0), .int .i64 (x1 + tu1 h 1 0 0 0), .int .i64 (x2 + tu2 h 1 0 0 0), .int .i64 (x3 + tu3 h 1 0 0 0), .int .i64 h] rfl rfl ?c1 ?c2 ?c3 ?c4 ?c5 ?_)
        case c1 =>
          intro j u hj
          match j, hj with
          | 0, hj => simp at hj; subst hj; simp [Addr.add]
          | 1, hj => simp at hj; subst hj; simp [Addr.add]
          | 2, hj => simp at hj; subst hj; simp [Addr.add]
          | 3, hj => simp at hj; subst hj; simp [Addr.add]
          | 4, hj => simp at hj; subst hj; simp [Addr.add]
        case c2 => intro u hu; simp at hu; rcases hu with rfl | rfl | rfl | rfl | rfl <;> rfl
        case c3 => unfold maxLen; omega
        case c4 => omega
        case c5 => simp; omega
        intro v' w2 hown' hgrow _
        have hlt' := (HO1.out.alloc (.cells #[.int .i64 (x0 + tu0 h 1 0 0 0), .int .i64 (x1 + tu1 h 1 0 0 0), .int .i64 (x2 + tu2 h 1 0 0 0), .int .i64 (x3 + tu3 h 1 0 0 0), .int .i64 h] 63)).lt
        have HB2 := Lib.hid ((HB1.out.alloc (by omega) (.cells #[.int .i64 (x0 + tu0 h 1 0 0 0), .int .i64 (x1 + tu1 h 1 0 0 0), .int .i64 (x2 + tu2 h 1 0 0 0), .int .i64 (x3 + tu3 h 1 0 0 0), .int .i64 h] 63)).grown hgrow (by simp; omega) (fun k hk => (hlt' k hk).1))
        obtain ⟨g', cap', rfl, _⟩ := hown'.form (by omega)
        have HW := Lib.hid hown'
        clear hown' hgrow hlt'
        go_wp2_with fail
        go_roundw
        case rel => exact ⟨k + 1, g', cap', by omega, by go_num, rfl, by rw [HN.out, spCells_append]; exact HW.out, HB2.out⟩
        case measure => simp [intOf]; omega
      · clear hp
        go_wp2_with (go_at_call 120; refine (lay_L' _ HX.out _).mono ?_; rintro e w' ⟨rfl, rfl⟩)
        refine (leftP x0 x1 x2 x3 h b4 b5 (by omega) (by omega) (by omega) (by omega) (by omega) (by omega) (by omega) (by omega) _).mono ?_
        rintro e w1 ⟨rfl, hb1⟩
        have HO1 := Lib.hid (own_below HO.out hb1)
        have hz1' : wr.heap.size ≤ w1.heap.size := hb1.size
        have HB1 := Lib.hid (HB.out.trans (hb1.mono hz))
        clear hb1 c0 c1 c2 c3 c4
        go_wp2_with (at_builtin; refine wpList_append_own _ rfl _ _ 134 rfl w.heap.size 63 i0 (.agg #[.int .i64 0, .int .i64 0, .int .i64 0, .int .i64 0, .int .i64 0]) 5 40 Try.underlying134 hi hz0 hz1 hz2 rfl (by decide) _ _ _ rfl (HO1.out.alloc _) ⟨w1.heap.size, 0, none⟩ 1 1 [.int .i64 (x0 + (tu0 ((h + 7) % 8) 1 0 0 0 - tu0 ((h + 6) % 8) 1 0 0 0)), .int .i64 (x1 + (tu1 ((h + 7) % 8) 1 0 0 0 - tu1 ((h + 6) % 8) 1 0 0 0)), .int .i64 (x2 + (tu2 ((h + 7) % 8) 1 0 0 0 - tu2 ((h + 6) % 8) 1 0 0 0)), .int .i64 (x3 + (tu3 ((h + 7) % 8) 1 0 0 0 - tu3 ((h + 6) % 8) 1 0 0 0)), .int .i64 ((h + 1) % 8)] rfl rfl ?c1 ?c2 ?c3 ?c4 ?c5 ?_)
        case c1 =>
          intro j u hj
          match j, hj with
          | 0, hj => simp at hj; subst hj; simp [Addr.add]
          | 1, hj => simp at hj; subst hj; simp [Addr.add]
          | 2, hj => simp at hj; subst hj; simp [Addr.add]
          | 3, hj => simp at hj; subst hj; simp [Addr.add]
          | 4, hj => simp at hj; subst hj; simp [Addr.add]
        case c2 => intro u hu; simp at hu; rcases hu with rfl | rfl | rfl | rfl | rfl <;> rfl
        case c3 => unfold maxLen; omega
        case c4 => omega
        case c5 => simp; omega
        intro v' w2 hown' hgrow _
        have hlt' := (HO1.out.alloc (.cells #[.int .i64 (x0 + (tu0 ((h + 7) % 8) 1 0 0 0 - tu0 ((h + 6) % 8) 1 0 0 0)), .int .i64 (x1 + (tu1 ((h + 7) % 8) 1 0 0 0 - tu1 ((h + 6) % 8) 1 0 0 0)), .int .i64 (x2 + (tu2 ((h + 7) % 8) 1 0 0 0 - tu2 ((h + 6) % 8) 1 0 0 0)), .int .i64 (x3 + (tu3 ((h + 7) % 8) 1 0 0 0 - tu3 ((h + 6) % 8) 1 0 0 0)), .int .i64 ((h + 1) % 8)] 63)).lt
        have HB2 := Lib.hid ((HB1.out.alloc (by omega) (.cells #[.int .i64 (x0 + (tu0 ((h + 7) % 8) 1 0 0 0 - tu0 ((h + 6) % 8) 1 0 0 0)), .int .i64 (x1 + (tu1 ((h + 7) % 8) 1 0 0 0 - tu1 ((h + 6) % 8) 1 0 0 0)), .int .i64 (x2 + (tu2 ((h + 7) % 8) 1 0 0 0 - tu2 ((h + 6) % 8) 1 0 0 0)), .int .i64 (x3 + (tu3 ((h + 7) % 8) 1 0 0 0 - tu3 ((h + 6) % 8) 1 0 0 0)), .int .i64 ((h + 1) % 8)] 63)).grown hgrow (by simp; omega) (fun k hk => (hlt' k hk).1))
        obtain ⟨g', cap', rfl, _⟩ := hown'.form (by omega)
        have HW := Lib.hid hown'
        clear hown' hgrow hlt'
        go_wp2_with fail
        go_roundw
        case rel => exact ⟨k + 1, g', cap', by omega, by go_num, rfl, by rw [HN.out, spCells_append]; exact HW.out, HB2.out⟩
        case measure => simp [intOf]; omega
      · clear hp
        go_wp2_with (go_at_call 120; refine (lay_R' _ HX.out _).mono ?_; rintro e w' ⟨rfl, rfl⟩)
        refine (rightP x0 x1 x2 x3 h b4 b5 (by omega) (by omega) (by omega) (by omega) (by omega) (by omega) (by omega) (by omega) _).mono ?_
        rintro e w1 ⟨rfl, hb1⟩
        have HO1 := Lib.hid (own_below HO.out hb1)
        have hz1' : wr.heap.size ≤ w1.heap.size := hb1.size
        have HB1 := Lib.hid (HB.out.trans (hb1.mono hz))
        clear hb1 c0 c1 c2 c3 c4
        go_wp2_with (at_builtin; refine wpList_append_own _ rfl _ _ 134 rfl w.heap.size 63 i0 (.agg #[.int .i64 0, .int .i64 0, .int .i64 0, .int .i64 0, .int .i64 0]) 5 40 Try.underlying134 hi hz0 hz1 hz2 rfl (by decide) _ _ _ rfl (HO1.out.alloc _) ⟨w1.heap.size, 0, none⟩ 1 1 [.int .i64 (x0 + (tu0 ((h + 1) % 8) 1 0 0 0 - tu0 ((h + 2) % 8) 1 0 0 0)), .int .i64 (x1 + (tu1 ((h + 1) % 8) 1 0 0 0 - tu1 ((h + 2) % 8) 1 0 0 0)), .int .i64 (x2 + (tu2 ((h + 1) % 8) 1 0 0 0 - tu2 ((h + 2) % 8) 1 0 0 0)), .int .i64 (x3 + (tu3 ((h + 1) % 8) 1 0 0 0 - tu3 ((h + 2) % 8) 1 0 0 0)), .int .i64 ((h + 7) % 8)] rfl rfl ?c1 ?c2 ?c3 ?c4 ?c5 ?_)
        case c1 =>
          intro j u hj
          match j, hj with
          | 0, hj => simp at hj; subst hj; simp [Addr.add]
          | 1, hj => simp at hj; subst hj; simp [Addr.add]
          | 2, hj => simp at hj; subst hj; simp [Addr.add]
          | 3, hj => simp at hj; subst hj; simp [Addr.add]
          | 4, hj => simp at hj; subst hj; simp [Addr.add]
        case c2 => intro u hu; simp at hu; rcases hu with rfl | rfl | rfl | rfl | rfl <;> rfl
        case c3 => unfold maxLen; omega
        case c4 => omega
        case c5 => simp; omega
        intro v' w2 hown' hgrow _
        have hlt' := (HO1.out.alloc (.cells #[.int .i64 (x0 + (tu0 ((h + 1) % 8) 1 0 0 0 - tu0 ((h + 2) % 8) 1 0 0 0)), .int .i64 (x1 + (tu1 ((h + 1) % 8) 1 0 0 0 - tu1 ((h + 2) % 8) 1 0 0 0)), .int .i64 (x2 + (tu2 ((h + 1) % 8) 1 0 0 0 - tu2 ((h + 2) % 8) 1 0 0 0)), .int .i64 (x3 + (tu3 ((h + 1) % 8) 1 0 0 0 - tu3 ((h + 2) % 8) 1 0 0 0)), .int .i64 ((h + 7) % 8)] 63)).lt
        have HB2 := Lib.hid ((HB1.out.alloc (by omega) (.cells #[.int .i64 (x0 + (tu0 ((h + 1) % 8) 1 0 0 0 - tu0 ((h + 2) % 8) 1 0 0 0)), .int .i64 (x1 + (tu1 ((h + 1) % 8) 1 0 0 0 - tu1 ((h + 2) % 8) 1 0 0 0)), .int .i64 (x2 + (tu2 ((h + 1) % 8) 1 0 0 0 - tu2 ((h + 2) % 8) 1 0 0 0)), .int .i64 (x3 + (tu3 ((h + 1) % 8) 1 0 0 0 - tu3 ((h + 2) % 8) 1 0 0 0)), .int .i64 ((h + 7) % 8)] 63)).grown hgrow (by simp; omega) (fun k hk => (hlt' k hk).1))
        obtain ⟨g', cap', rfl, _⟩ := hown'.form (by omega)
        have HW := Lib.hid hown'
        clear hown' hgrow hlt'
        go_wp2_with fail
        go_roundw
        case rel => exact ⟨k + 1, g', cap', by omega, by go_num, rfl, by rw [HN.out, spCells_append]; exact HW.out, HB2.out⟩
        case measure => simp [intOf]; omega
    · obtain rfl : k = s.size := by omega
      have hE := take_all s hlt
      rw [hE] at hown
      have HO := Lib.hid hown
      have HB := Lib.hid hb
      clear hown hb hE
      go_wp2_with fail
      go_ret2
      exact ⟨g, cap, rfl, HO.out, HB.out⟩

end Go.Proofs.Ythiimllafcfieaa

/- Contract: the program's 'partsAmong': the texts with one piece out of each choice, with their ends. -/
namespace Go.Proofs.Ythiimllafcfieaa
open Go.ChangeShapes Go.WideShapes Go.ChangeAt Go.RowKit

set_option linter.unusedVariables false

theorem ptInfoP : (Try.prog.info? 73).map (fun i => (i.zero, i.size, i.bytes)) = some (some (.agg #[.int .i64 0, .int .i64 0, .int .i64 0, .int .i64 0, .int .i64 0, .string ByteArray.empty]), 6, 56) := by kernel_rfl

/-- How a piece is laid. -/
theorem laying_any {c : UInt8} (hc : pcb c = true) : ∃ g : FuncId, (g = 133 ∨ g = 134 ∨ g = 135) ∧ (∀ (x : ByteArray) (w : World), x = ⟨#[c]⟩ → Calls Try.prog 120 #[.string x] w fun e w' => e = .returned (.func (Fn.func g) #[] #[]) ∧ w = w') ∧
    ∀ (s : Sp), s.okB 1000000 → ∀ w : World, Calls Try.prog g #[.agg #[.int .i64 s.x0, .int .i64 s.x1, .int .i64 s.x2, .int .i64 s.x3, .int .i64 s.h]] w fun e w' =>
      e = .returned (.agg #[.int .i64 (s.next c).x0, .int .i64 (s.next c).x1, .int .i64 (s.next c).x2, .int .i64 (s.next c).x3, .int .i64 (s.next c).h]) ∧ Below w.heap.size w w' := by
  rcases pcb_cases hc with rfl | rfl | rfl
  · refine ⟨_, .inl rfl, fun x w hx => lay_S' x hx w, fun s hs w => ?_⟩
    obtain ⟨⟨b0, b0'⟩, ⟨b1, b1'⟩, ⟨b2, b2'⟩, ⟨b3, b3'⟩, b4, b5⟩ := hs
    exact straightP s.x0 s.x1 s.x2 s.x3 s.h b4 b5 b0 b0' b1 b1' b2 b2' b3 b3' w
  · refine ⟨_, .inr (.inl rfl), fun x w hx => lay_L' x hx w, fun s hs w => ?_⟩
    obtain ⟨⟨b0, b0'⟩, ⟨b1, b1'⟩, ⟨b2, b2'⟩, ⟨b3, b3'⟩, b4, b5⟩ := hs
    exact leftP s.x0 s.x1 s.x2 s.x3 s.h b4 b5 b0 b0' b1 b1' b2 b2' b3 b3' w
  · refine ⟨_, .inr (.inr rfl), fun x w hx => lay_R' x hx w, fun s hs w => ?_⟩
    obtain ⟨⟨b0, b0'⟩, ⟨b1, b1'⟩, ⟨b2, b2'⟩, ⟨b3, b3'⟩, b4, b5⟩ := hs
    exact rightP s.x0 s.x1 s.x2 s.x3 s.h b4 b5 b0 b0' b1 b1' b2 b2' b3 b3' w

def PrtPost (a : Sp) (n : Nat) (w : World) (e : Ending) (w' : World) : Prop :=
  ∃ g cap, e = .returned (.slice (some ⟨g, 0, none⟩) ((3 ^ n : Nat)) cap) ∧ w'.ownsRow w.heap.size 73 6 (.slice (some ⟨g, 0, none⟩) (3 ^ n) cap) (3 ^ n) (prtCells (parts a n)) ∧ Below w.heap.size w w'

theorem ltr_at {k : Nat} (hk : k < 3) : ∃ c, ltr[k]? = some c ∧ pcb c = true ∧ (ByteArray.mk #[76, 82, 83]).extract k (k + 1) = ⟨#[c]⟩ ∧ ltr.take (k + 1) = ltr.take k ++ [c] := by
  match k, hk with
  | 0, _ => exact ⟨76, rfl, rfl, by decide, rfl⟩
  | 1, _ => exact ⟨82, rfl, rfl, by decide, rfl⟩
  | 2, _ => exact ⟨83, rfl, rfl, by decide, rfl⟩

theorem parts_start (a : Sp) : prtCells (parts a 0) = [.int .i64 a.x0, .int .i64 a.x1, .int .i64 a.x2, .int .i64 a.x3, .int .i64 a.h, .string ⟨#[]⟩] := rfl

theorem litCellsP {W : World} {B n : Nat} {e : TypeId} {size : Nat} {cs : Array Value} {xs : List Value} (hn : W.heap.size = n) (hb : B ≤ n) (hs : cs.size = size) (hx : cs.toList = xs) : (W.alloc (.cells cs e)).ownsRow B e size (.slice (some ⟨n, 0, none⟩) 1 1) 1 xs := by
  subst hn hs hx
  exact ⟨by simp, .inr ⟨W.heap.size, 1, cs, rfl, hb, heap_alloc_new _ _, Nat.le_refl _, by decide, by simp, by rw [Nat.one_mul]; exact List.take_of_length_le (by simp)⟩⟩

theorem concat_run {a b t : ByteArray} (ht : a ++ b = t) (h : a.size + b.size ≤ 1000000) (w : World) : (Op.stringOp .add a b).run Try.prog w = .ok (.string t) w := by
  rw [← ht]
  exact run_string_add_sum w a b (by omega)

theorem blk6 {W : World} {g : Nat} {t : TypeId} {a0 a1 a2 a3 a4 a5 : Value} (h : W.heap[g]? = some (.cells #[a0, a1, a2, a3, a4, a5] t (0, 0))) :
    W.cell? ⟨g, 0, none⟩ = some a0 ∧ W.cell? ⟨g, 1, none⟩ = some a1 ∧ W.cell? ⟨g, 2, none⟩ = some a2 ∧ W.cell? ⟨g, 3, none⟩ = some a3 ∧ W.cell? ⟨g, 4, none⟩ = some a4 ∧ W.cell? ⟨g, 5, none⟩ = some a5 := by
  simp [World.cell?, h]

theorem blkLt {W : World} {g : Nat} {o : Obj} (h : W.heap[g]? = some o) : g < W.heap.size := (Array.getElem?_eq_some_iff.1 h).1

theorem own_lessP {W : World} {B B' : Nat} {e : TypeId} {size n : Nat} {v : Value} {xs : List Value} (h : W.ownsRow B e size v n xs) (hB : B' ≤ B) : W.ownsRow B' e size v n xs := by
  refine ⟨h.1, ?_⟩
  rcases h.2 with h2 | ⟨g, cap, cur, h1, h2, h3⟩
  · exact .inl h2
  · exact .inr ⟨g, cap, cur, h1, by omega, h3⟩

theorem own_nb {W : World} {B e size n : Nat} {v : Value} {xs : List Value} (h : W.ownsRow B e size v n xs) : v.ownBlock ≠ some W.heap.size := by
  intro hv
  have := (h.lt _ hv).2
  omega

/-- The texts with one piece out of each choice, in order. -/
def wam (cs : List (List UInt8)) : List (List UInt8) := cs.foldl (fun l ch => l.flatMap fun w => ch.map fun c => w ++ [c]) [[]]

def prtsA (a : Sp) (cs : List (List UInt8)) : List (Sp × List UInt8) := (wam cs).map fun w => (fin a w, w)

def nxtC (ch : List UInt8) (l : List (Sp × List UInt8)) : List (Sp × List UInt8) := l.flatMap fun p => ch.map fun c => (p.1.next c, p.2 ++ [c])

theorem wam_snoc (cs : List (List UInt8)) (ch : List UInt8) : wam (cs ++ [ch]) = (wam cs).flatMap fun w => ch.map fun c => w ++ [c] := by simp [wam, List.foldl_append]

theorem prtsA_snoc (a : Sp) (cs : List (List UInt8)) (ch : List UInt8) : prtsA a (cs ++ [ch]) = nxtC ch (prtsA a cs) := by
  simp only [prtsA, nxtC, wam_snoc, List.map_flatMap, List.flatMap_map, List.map_map]
  congr 1
  funext w
  simp [fin_snoc]

theorem wam_rep : ∀ n, wam (List.replicate n ltr) = words n
  | 0 => rfl
  | n + 1 => by rw [List.replicate_succ', wam_snoc, wam_rep n]; rfl

theorem prtsA_rep (a : Sp) (n : Nat) : prtsA a (List.replicate n ltr) = parts a n := by rw [prtsA, wam_rep]; rfl

theorem wam_pos : ∀ (n : Nat) (cs : List (List UInt8)), cs.length = n → (∀ ch ∈ cs, 0 < ch.length) → 0 < (wam cs).length
  | 0, cs, h, _ => by
    obtain rfl := List.eq_nil_of_length_eq_zero h
    simp [wam]
  | n + 1, cs, h, hc => by
    obtain ⟨cs', ch, rfl⟩ : ∃ cs' ch, cs = cs' ++ [ch] := ⟨cs.dropLast, cs.getLast (by intro e; rw [e] at h; cases h), (List.dropLast_concat_getLast _).symm⟩
    have ih := wam_pos n cs' (by simpa using h) fun c hc' => hc c (by simp [hc'])
    have h1 := hc ch (by simp)
    rw [wam_snoc]
    cases hw : wam cs' with
    | nil => rw [hw] at ih; simp at ih
    | cons x xs => simp; omega

theorem nxtC_len (ch : List UInt8) (l : List (Sp × List UInt8)) : (nxtC ch l).length = ch.length * l.length := by
  induction l with
  | nil => simp [nxtC]
  | cons a l ih =>
    simp only [nxtC, List.flatMap_cons, List.length_append, List.length_map, List.length_cons] at ih ⊢
    rw [ih, Nat.mul_succ]
    omega

theorem prtsA_take (a : Sp) (cs : List (List UInt8)) {k : Nat} {ch : List UInt8} (h : cs[k]? = some ch) : prtsA a (cs.take (k + 1)) = nxtC ch (prtsA a (cs.take k)) := by
  rw [List.take_add_one, h]
  exact prtsA_snoc a _ ch

theorem prtsA_mono (a : Sp) (cs : List (List UInt8)) (hc : ∀ ch ∈ cs, 0 < ch.length) : ∀ k, (prtsA a (cs.take k)).length ≤ (prtsA a cs).length := by
  have step : ∀ k, (prtsA a (cs.take k)).length ≤ (prtsA a (cs.take (k + 1))).length := fun k => by
    by_cases h : k < cs.length
    · rw [prtsA_take a cs (List.getElem?_eq_getElem h), nxtC_len]
      exact Nat.le_mul_of_pos_left _ (hc _ (List.getElem_mem h))
    · rw [List.take_of_length_le (by omega), List.take_of_length_le (by omega)]
      exact Nat.le_refl _
  have all : ∀ d k, (prtsA a (cs.take k)).length ≤ (prtsA a (cs.take (k + d))).length := fun d => by
    induction d with
    | zero => intro k; exact Nat.le_refl _
    | succ d ih => intro k; exact Nat.le_trans (ih k) (step (k + d))
  intro k
  by_cases h : k ≤ cs.length
  · have := all (cs.length - k) k
    rwa [show k + (cs.length - k) = cs.length by omega, List.take_length] at this
  · rw [List.take_of_length_le (by omega)]
    exact Nat.le_refl _

theorem prtsA_len (a : Sp) (cs : List (List UInt8)) : (prtsA a cs).length = (wam cs).length := by simp [prtsA]

theorem prtsA_pos (a : Sp) (cs : List (List UInt8)) (hc : ∀ ch ∈ cs, 0 < ch.length) : 0 < (prtsA a cs).length := by rw [prtsA_len]; exact wam_pos _ cs rfl hc

theorem wam_len : ∀ (n : Nat) (cs : List (List UInt8)), cs.length = n → ∀ w ∈ wam cs, w.length = n
  | 0, cs, h, w, hw => by
    obtain rfl := List.eq_nil_of_length_eq_zero h
    simp [wam] at hw
    simp [hw]
  | n + 1, cs, h, w, hw => by
    obtain ⟨cs', ch, rfl⟩ : ∃ cs' ch, cs = cs' ++ [ch] := ⟨cs.dropLast, cs.getLast (by intro e; rw [e] at h; cases h), (List.dropLast_concat_getLast _).symm⟩
    rw [wam_snoc] at hw
    simp only [List.mem_flatMap, List.mem_map] at hw
    obtain ⟨u, hu, c, _, rfl⟩ := hw
    simp [wam_len n cs' (by simpa using h) u hu]

theorem prtsA_ok {a : Sp} {m : Int} (ha : a.okB m) {cs : List (List UInt8)} {p : Sp × List UInt8} (h : p ∈ prtsA a cs) : p.1.okB (m + 2 * (cs.length : Nat)) ∧ p.2.length = cs.length := by
  simp only [prtsA, List.mem_map] at h
  obtain ⟨w, hw, rfl⟩ := h
  have hl := wam_len _ cs rfl w hw
  refine ⟨?_, hl⟩
  have := fin_ok ha w
  rwa [hl] at this

theorem take_mem_len {cs : List (List UInt8)} {k : Nat} (hk : k ≤ cs.length) : (cs.take k).length = k := by rw [List.length_take]; omega

theorem nxtC_take {ch : List UInt8} {l : List (Sp × List UInt8)} {j : Nat} {p : Sp × List UInt8} (h : l[j]? = some p) : nxtC ch (l.take (j + 1)) = nxtC ch (l.take j) ++ ch.map fun c => (p.1.next c, p.2 ++ [c]) := by
  rw [List.take_add_one, h]
  simp [nxtC, List.flatMap_append]

/-- A list of choices in memory. -/
def ChV (W : World) (v : Value) (l : List (List UInt8)) : Prop := ∃ av cap, v = .slice av l.length cap ∧ (l.length = 0 ∨ ∃ g, av = some ⟨g, 0, none⟩ ∧ g < W.heap.size ∧ ∀ i u, l[i]? = some u → W.cell? ⟨g, i, none⟩ = some (.string (ofL u)))

theorem ChV.below {w w' : World} {v : Value} {l : List (List UInt8)} (h : ChV w v l) (hb : Below w.heap.size w w') : ChV w' v l := by
  obtain ⟨av, cap, rfl, h⟩ := h
  refine ⟨av, cap, rfl, h.imp id ?_⟩
  rintro ⟨g, rfl, hg, hs⟩
  exact ⟨g, rfl, Nat.lt_of_lt_of_le hg hb.size, fun i u hu => by rw [hb.cell (p := ⟨g, i, none⟩) hg]; exact hs i u hu⟩

theorem ChV.own {W : World} {B : Nat} {v : Value} {l : List (List UInt8)} (h : W.ownsRow B 9 1 v l.length (l.map fun u => .string (ofL u))) : ChV W v l := by
  have h0 := h
  rcases h.2 with ⟨rfl, h2⟩ | ⟨g, cap, cur, rfl, _⟩
  · exact ⟨none, 0, by rw [h2], .inl h2⟩
  · refine ⟨_, cap, rfl, .inr ⟨g, rfl, (h0.lt g rfl).2, fun i u hu => ?_⟩⟩
    have hi : i < l.length := (List.getElem?_eq_some_iff.1 hu).1
    rw [h0.cellAt i (by omega)]
    simp [hu]

theorem len_two {W : World} {B n m size : Nat} {e : TypeId} {v : Value} {xs : List Value} (hn : n = m) (h : W.ownsRow B e size v n xs) : W.ownsRow B e size v m xs := hn ▸ h

def PraPost (a : Sp) (cs : List (List UInt8)) (w : World) (e : Ending) (w' : World) : Prop :=
  ∃ g cap, e = .returned (.slice (some ⟨g, 0, none⟩) (prtsA a cs).length cap) ∧ w'.ownsRow w.heap.size 73 6 (.slice (some ⟨g, 0, none⟩) (prtsA a cs).length cap) (prtsA a cs).length (prtCells (prtsA a cs)) ∧ Below w.heap.size w w'

set_option maxRecDepth 100000 in
set_option maxHeartbeats 3200000 in
theorem partsAmong_any (a : Sp) (ha : a.okB 900000) (cs : List (List UInt8)) (hc : ∀ ch ∈ cs, 0 < ch.length ∧ ch.length ≤ 3 ∧ ∀ c ∈ ch, pcb c = true) (hn : cs.length ≤ 40) (hm : (prtsA a cs).length ≤ 60000) (vc : Value) (w : World) (hv : ChV w vc cs) :
    Calls Try.prog 96 #[.agg #[.int .i64 a.x0, .int .i64 a.x1, .int .i64 a.x2, .int .i64 a.x3, .int .i64 a.h], vc] w (PraPost a cs w) := by
  obtain ⟨i0, hi, iz0, iz1, iz2⟩ := info_parts ptInfoP
  obtain ⟨av, cc, rfl, hv⟩ := hv
  obtain ⟨n, hcn⟩ : ∃ n, cs.length = n := ⟨_, rfl⟩
  have HCN := Lib.hid hcn
  have HC := Lib.hid hc
  have HM := Lib.hid hm
  have HV := Lib.hid hv
  have HPOS := Lib.hid (fun k => prtsA_pos a (cs.take k) fun ch h => (hc ch (List.mem_of_mem_take h)).1)
  have HMO := Lib.hid (fun k => Nat.le_trans (prtsA_mono a cs (fun ch h => (hc ch h).1) k) hm)
  have HEND := Lib.hid (show cs.take n = cs by rw [← hcn, List.take_length])
  rw [hcn] at hn
  rw [hcn]
  clear hc hm hv hcn
  go_enter Try.func96, Try.ntmps96
  go_wp2_with fail
  go_loopw [5, 18] (fun v i wr => ∃ k : Nat, k ≤ n ∧ i = .int .i64 k ∧ wr.ownsRow w.heap.size 73 6 v (prtsA a (cs.take k)).length (prtCells (prtsA a (cs.take k))) ∧ Below w.heap.size w wr) (fun _ i _ => n - (intOf i).toNat)
  case atStart => exact ⟨0, Nat.zero_le _, rfl, litCellsP (by simp) (Nat.le_succ _) rfl (parts_start a).symm, by go_grown⟩
  case round =>
    obtain ⟨k, hk, rfl, hO, hb⟩ := hrel
    have hz : w.heap.size ≤ wr.heap.size := hb.size
    have h3 := HPOS.out k
    obtain ⟨g, cap, rfl, hg0, hcp⟩ := hO.form h3
    by_cases hlt : k < n
    · obtain ⟨ch, hch⟩ : ∃ ch, cs[k]? = some ch := ⟨_, List.getElem?_eq_getElem (by rw [HCN.out]; exact hlt)⟩
      obtain ⟨hch0, hch3, hchp⟩ := HC.out ch (List.mem_of_getElem? hch)
      obtain ⟨gc, rfl, hgc, hcell⟩ := HV.out.resolve_left (by rw [HCN.out]; omega)
      have hcx := (hb.cell (p := ⟨gc, k, none⟩) hgc).trans (hcell k ch hch)
      have hkc : (k : Int) < (n : Int) := by omega
      have HCH := Lib.hid hchp
      obtain ⟨m, hm⟩ : ∃ m, ch.length = m := ⟨_, rfl⟩
      have HMC := Lib.hid hm
      have hxs : (ofL ch).size = m := by rw [ofL_size, hm]
      have HXE := Lib.hid (fun (i : Nat) (hi : i < m) => show ∃ c, ch[i]? = some c ∧ pcb c = true ∧ (ofL ch).extract i (i + 1) = ⟨#[c]⟩ ∧ ch.take (i + 1) = ch.take i ++ [c] from by
        have hi' : i < ch.length := by omega
        refine ⟨ch[i], List.getElem?_eq_getElem hi', hchp _ (List.getElem_mem hi'), ?_, List.take_succ_eq_append_getElem hi'⟩
        have := ext_one (ofL ch) i (by rw [ofL_size]; exact hi')
        rw [this]
        rfl)
      have HX3 := Lib.hid (show ch.take m = ch by rw [← hm, List.take_length])
      generalize ofL ch = X at hcx hxs HXE
      have hl : (prtsA a (cs.take k)).length = (prtsA a (cs.take k)).length := rfl
      obtain ⟨M, hM⟩ : ∃ M, (prtsA a (cs.take k)).length = M := ⟨_, rfl⟩
      have hM1 : M ≤ 60000 := by rw [← hM]; exact HMO.out k
      have hMS := Lib.hid (show (prtsA a (cs.take (k + 1))).length = m * M by rw [prtsA_take a cs hch, nxtC_len, hm, hM])
      have hM2 : m * M ≤ 60000 := by rw [← hMS.out]; exact HMO.out (k + 1)
      rw [hM] at hO h3
      replace hl := hM
      have hok : ∀ p ∈ prtsA a (cs.take k), p.1.okB 950000 ∧ p.2.length ≤ 40 := fun p hp => ⟨(prtsA_ok ha hp).1.mono (by rw [take_mem_len (by rw [HCN.out]; omega)]; omega), by rw [(prtsA_ok ha hp).2, take_mem_len (by rw [HCN.out]; omega)]; omega⟩
      have hnx := prtsA_take a cs hch
      generalize prtsA a (cs.take k) = l at hO hl hok hnx hM ⊢
      have hg := (hO.lt g rfl).2
      have HP := Lib.hid (prt_of hO hl)
      have HL := Lib.hid hl
      have HOK := Lib.hid hok
      have HNX := Lib.hid hnx
      have HB := Lib.hid hb
      obtain ⟨wo, rfl⟩ : ∃ wo : World, wo = wr := ⟨_, rfl⟩
      rw [hM]
      clear hO hl hok hnx hb hM hcell hch hchp hm
      go_wp2_with fail
      go_loopw [8, 24] (fun t j wr => ∃ (jj : Nat) (v : Value), jj ≤ M ∧ j = .int .i64 jj ∧ v = t ∧ wr.ownsRow wo.heap.size 73 6 v (m * jj) (prtCells (nxtC ch (l.take jj))) ∧ Below wo.heap.size wo wr) (fun _ j _ => M - (intOf j).toNat)
      case atStart => exact ⟨0, _, Nat.zero_le _, rfl, rfl, World.ownsRow_nil _ _ _ _, Below.refl _ _⟩
      case round =>
        obtain ⟨j, v, hj, rfl, rfl, hN, hb2⟩ := hrel
        have hz2 := hb2.size
        by_cases hlj : j < M
        · obtain ⟨p, hp⟩ : ∃ p, l[j]? = some p := ⟨_, List.getElem?_eq_getElem (by rw [HL.out]; exact hlj)⟩
          obtain ⟨c0, c1, c2, c3, c4, c5⟩ := (HP.out.below hg hb2) j p hp
          obtain ⟨hpo, hpl⟩ := HOK.out p (List.mem_of_getElem? hp)
          have HT := Lib.hid (nxtC_take (ch := ch) hp)
          obtain ⟨s, u⟩ := p
          simp only at c0 c1 c2 c3 c4 c5 hpo hpl
          have HPO := Lib.hid hpo
          have HN := Lib.hid hN
          have HB2 := Lib.hid hb2
          obtain ⟨wi, rfl⟩ : ∃ wi : World, wi = wr := ⟨_, rfl⟩
          clear hp hpo hN hb2
          go_wp2_with fail
          go_loopw [8, 30] (fun t c wr => ∃ (cc : Nat) (v : Value), cc ≤ m ∧ c = .int .i64 cc ∧ v = t ∧ wr.ownsRow wo.heap.size 73 6 v (m * j + cc) (prtCells (nxtC ch (l.take j) ++ (ch.take cc).map fun c => (s.next c, u ++ [c]))) ∧ v.ownBlock ≠ some wi.heap.size ∧
            wr.heap[wi.heap.size]? = some (.cells #[.int .i64 s.x0, .int .i64 s.x1, .int .i64 s.x2, .int .i64 s.x3, .int .i64 s.h, .string (ofL u)] 73 (0, 0)) ∧ Below wo.heap.size wo wr) (fun _ c _ => m - (intOf c).toNat)
          case atStart => exact ⟨0, v, by omega, rfl, rfl, by simpa using HN.out.alloc _, own_nb HN.out, heap_alloc_new _ _, HB2.out.alloc hz2 _⟩
          case round =>
            obtain ⟨cc, v, hcc, rfl, rfl, hN, hnb, hblk, hb2⟩ := hrel
            have hz3 := hb2.size
            have hzl := blkLt hblk
            by_cases hlc : cc < m
            · obtain ⟨c, hc, hpc, hx, hta⟩ := HXE.out cc hlc
              have hmj : m * j + cc + 1 ≤ 60000 := by
                have := Nat.mul_le_mul_left m (show j + 1 ≤ M by omega)
                rw [Nat.mul_succ] at this
                omega
              obtain ⟨F, hF, lay1, lay2⟩ := laying_any hpc
              have LAY1 := Lib.hid (fun w => lay1 _ w hx)
              have LAY2 := Lib.hid (lay2 s (HPO.out.mono (by decide)))
              obtain ⟨T, hT⟩ : ∃ T, ofL (u ++ [c]) = T := ⟨_, rfl⟩
              have k1 : ∀ w : World, (Op.stringOp .add (ofL u) (X.extract cc (cc + 1))).run Try.prog w = .ok (.string T) w := fun w => concat_run (by rw [hx, ofL_snoc, hT]) (by rw [hx, ofL_size]; show _ + 1 ≤ _; omega) w
              have hS0 := blk6 hblk
              have HTA := Lib.hid hta
              have HTT := Lib.hid hT
              have HN := Lib.hid hN
              have HNB := Lib.hid hnb
              have HK := Lib.hid hblk
              have HB3 := Lib.hid hb2
              obtain ⟨q, hq⟩ : ∃ q, s.next c = q := ⟨_, rfl⟩
              have HV := Lib.hid (show prtCells (nxtC ch (l.take j) ++ (ch.take (cc + 1)).map fun c => (s.next c, u ++ [c])) = prtCells (nxtC ch (l.take j) ++ (ch.take cc).map fun c => (s.next c, u ++ [c])) ++ [.int .i64 q.x0, .int .i64 q.x1, .int .i64 q.x2, .int .i64 q.x3, .int .i64 q.h, .string T] by
                rw [hta, List.map_append, ← List.append_assoc, prtCells_append (_ ++ _), ← hq, ← hT]
                rfl)
              rw [hq] at LAY2
              have HQ := Lib.hid hq
              clear lay1 lay2 hx hta hT hN hnb hblk hb2 hq hc
              rcases hF with rfl | rfl | rfl
              all_goals
                go_wp2_with fail
                go_region_held3 (fun w' => w'.cell? ⟨wi.heap.size, 0, none⟩ = some (.int .i64 s.x0) ∧ w'.cell? ⟨wi.heap.size, 1, none⟩ = some (.int .i64 s.x1) ∧ w'.cell? ⟨wi.heap.size, 2, none⟩ = some (.int .i64 s.x2) ∧ w'.cell? ⟨wi.heap.size, 3, none⟩ = some (.int .i64 s.x3) ∧ w'.cell? ⟨wi.heap.size, 4, none⟩ = some (.int .i64 s.h) ∧ w'.cell? ⟨wi.heap.size, 5, none⟩ = some (.string (ofL u)))
                  (first | (first | (with_reducible assumption) | (with_reducible exact pr_drew hS0) | (with_reducible exact pr_drew (pr_alloc hS0 _)) | (with_reducible exact pr_alloc (pr_drew hS0) _) | (with_reducible refine pr_drew ?_; with_reducible assumption) | (with_reducible refine pr_alloc ?_ _; with_reducible assumption) | (with_reducible refine pr_re (by with_reducible assumption) ?_ _; (focus first | (with_reducible assumption) | omega | (simp; done) | (simp; omega))) | (with_reducible refine pr_below ?_ ?_ h1; (focus first | (with_reducible assumption) | (with_reducible refine pr_undrew ?_; with_reducible assumption)); (focus first | (with_reducible assumption) | omega | (simp; done) | (simp; omega))) | ((repeat (with_reducible refine pr_set ?_ _ _ ?_; rotate_left 1; (focus first | (with_reducible assumption) | omega | (simp; done) | (simp; omega)))); with_reducible assumption)) | (with_reducible refine pr_far ?_ ?_ hgrow; (first | (with_reducible assumption) | (with_reducible exact pr_drew (pr_alloc (by with_reducible assumption) _)) | (with_reducible exact pr_alloc (by with_reducible assumption) _)); exact Ne.symm HNB.out))
                  (first | (go_at_call 120; refine (LAY1.out _).mono ?_; rintro e w' ⟨rfl, rfl⟩) | ((with_reducible refine (LAY2.out _).mono ?_); rintro e wA ⟨rfl, h1⟩; (try with_reducible replace h1 := undrew h1); have HOA := Lib.hid (own_below HN.out h1); have hqA := h1.size; (try simp at hqA); have hzA : wi.heap.size < wA.heap.size := (by omega)) | ((refine step_append_lies _ (by rfl) _ _ _ (by rfl) wo.heap.size 73 i0 (.agg #[.int .i64 0, .int .i64 0, .int .i64 0, .int .i64 0, .int .i64 0, .string ByteArray.empty]) 6 56 Try.underlying70 hi iz0 iz1 iz2 (by rfl) (by decide) v (m * j + cc) _ (by rfl) (HOA.out.alloc _) ⟨wA.heap.size, 0, none⟩ 1 1 [.int .i64 q.x0, .int .i64 q.x1, .int .i64 q.x2, .int .i64 q.x3, .int .i64 q.h, .string T] (by rfl) (by rfl) (World.news_of_block (heap_alloc_new _ _)) (by intro u hu; simp at hu; rcases hu with rfl | rfl | rfl | rfl | rfl | rfl <;> rfl) (by decide) (by unfold maxLen; omega) (by omega) (by simp; omega) (wA.heap.size + 1) (by simp) ?_); intro g2 cap2 w3 hown3 hgrow hat hlt3))
                have hBA := HB3.out.trans (h1.mono hz3)
                have hlt' := (HOA.out.alloc (.cells #[.int .i64 q.x0, .int .i64 q.x1, .int .i64 q.x2, .int .i64 q.x3, .int .i64 q.h, .string T] 73)).lt
                have HB4 := Lib.hid ((hBA.alloc (by omega) (.cells #[.int .i64 q.x0, .int .i64 q.x1, .int .i64 q.x2, .int .i64 q.x3, .int .i64 q.h, .string T] 73)).grown hgrow (by simp; omega) (fun k hk => (hlt' k hk).1))
                have hbA := (h1.block wi.heap.size hzl).trans HK.out
                have hbB := (Below.heap_alloc wA (.cells #[.int .i64 q.x0, .int .i64 q.x1, .int .i64 q.x2, .int .i64 q.x3, .int .i64 q.h, .string T] 73) wi.heap.size hzA).trans hbA
                have HK4 := Lib.hid ((hgrow.block wi.heap.size (by simp; omega) (Ne.symm HNB.out)).trans hbB)
                have hne4 : (Value.slice (some ⟨g2, 0, none⟩) (m * j + cc + 1) cap2).ownBlock ≠ some wi.heap.size := by
                  rcases hat with h | h
                  · intro h'; exact HNB.out (h.trans h')
                  · intro h'; simp only [Value.ownBlock, Option.some.injEq] at h'; omega
                have HN4 := Lib.hid hown3
                have HE4 := Lib.hid hne4
                clear hBA hlt' hbA hbB hne4 hown3 hgrow hat h1 hS0
                go_wp2_with fail
                go_roundw
                case rel => exact ⟨cc + 1, _, by omega, by go_num, rfl, by rw [HV.out]; exact HN4.out, HE4.out, HK4.out, HB4.out⟩
                case measure => simp [intOf]; omega
            · obtain rfl : cc = m := by omega
              rw [HX3.out] at hN
              have HN := Lib.hid hN
              have HB3 := Lib.hid hb2
              clear hN hnb hblk hb2
              go_wp2_with fail
              go_roundw
              case rel => exact ⟨j + 1, v, by omega, by go_num, rfl, by rw [HT.out, Nat.mul_succ]; exact HN.out, HB3.out⟩
              case measure => simp [intOf]; omega
        · obtain rfl : j = M := by omega
          have hta : l.take j = l := List.take_of_length_le (by rw [HL.out]; exact Nat.le_refl _)
          rw [hta] at hN
          have HN := Lib.hid (own_lessP hN hz)
          have HB2 := Lib.hid (HB.out.trans (hb2.mono hz))
          clear hN hb2 hta
          go_wp2_with fail
          go_roundw
          case rel => exact ⟨k + 1, by omega, by go_num, by rw [hMS.out, HNX.out]; exact HN.out, HB2.out⟩
          case measure => simp [intOf]; omega
    · obtain rfl : k = n := by omega
      rw [HEND.out] at hO ⊢
      have HO := Lib.hid hO
      have HB := Lib.hid hb
      clear hO hb
      go_wp2_with fail
      go_ret
      exact ⟨g, cap, rfl, HO.out, HB.out⟩

end Go.Proofs.Ythiimllafcfieaa

/- Contract: the way back from a step, in the program. -/
namespace Go.Proofs.Ythiimllafcfieaa
open Go.ChangeShapes Go.WideShapes Go.ChangeAt Go.RowKit

set_option linter.unusedVariables false

theorem times_tuB (k : Int) (h0 : 0 ≤ k) (h7 : k ≤ 7) (a0 a1 a2 a3 : Int) (pa0 : -999999 ≤ a0) (qa0 : a0 ≤ 999999) (pa1 : -999999 ≤ a1) (qa1 : a1 ≤ 999999) (pa2 : -999999 ≤ a2) (qa2 : a2 ≤ 999999) (pa3 : -999999 ≤ a3) (qa3 : a3 ≤ 999999) (w : World) :
    Calls Try.prog 100 #[.agg #[.int .i64 a0, .int .i64 a1, .int .i64 a2, .int .i64 a3], .agg #[.int .i64 (tu0 k 1 0 0 0), .int .i64 (tu1 k 1 0 0 0), .int .i64 (tu2 k 1 0 0 0), .int .i64 (tu3 k 1 0 0 0)]] w fun e w' => e = .returned (.agg #[.int .i64 (tu0 k a0 a1 a2 a3), .int .i64 (tu1 k a0 a1 a2 a3), .int .i64 (tu2 k a0 a1 a2 a3), .int .i64 (tu3 k a0 a1 a2 a3)]) ∧ Below w.heap.size w w' := by
  obtain ⟨b0, b0'⟩ := tu_bd0 k h0 h7
  obtain ⟨b1, b1'⟩ := tu_bd1 k h0 h7
  obtain ⟨b2, b2'⟩ := tu_bd2 k h0 h7
  obtain ⟨b3, b3'⟩ := tu_bd3 k h0 h7
  refine (imTimes_any a0 a1 a2 a3 (tu0 k 1 0 0 0) (tu1 k 1 0 0 0) (tu2 k 1 0 0 0) (tu3 k 1 0 0 0) pa0 qa0 pa1 qa1 pa2 qa2 pa3 qa3 b0 b0' b1 b1' b2 b2' b3 b3' w).mono ?_
  rintro e w' ⟨rfl, hb⟩
  exact ⟨by rw [tm_tu0 a0 a1 a2 a3 k h0 h7, tm_tu1 a0 a1 a2 a3 k h0 h7, tm_tu2 a0 a1 a2 a3 k h0 h7, tm_tu3 a0 a1 a2 a3 k h0 h7], hb⟩

theorem turn_back (h : Int) (h0 : 0 ≤ h) (h7 : h ≤ 7) (w : World) :
    Calls Try.prog 98 #[.int .i64 0, .int .i64 (-h)] w fun e w' => e = .returned (.int .i64 ((8 - h) % 8)) ∧ w = w' := by
  have h2 : (-h + 8).tmod 8 = (8 - h) % 8 := by rw [Int.tmod_eq_emod_of_nonneg (by omega), show -h + 8 = 8 - h by omega]
  have HM := Lib.hid h2
  clear h2
  go_enter Try.func98, Try.ntmps98
  go_wp2
  go_ret
  exact ⟨by first | rfl | (rw [← HM.out]; rfl) | (simp; done), rfl⟩

set_option maxRecDepth 100000 in
set_option maxHeartbeats 1600000 in
theorem wayBack_any (s : Sp) (hs : s.okB 999999) (w : World) :
    Calls Try.prog 61 #[.agg #[.int .i64 s.x0, .int .i64 s.x1, .int .i64 s.x2, .int .i64 s.x3, .int .i64 s.h]] w fun e w' =>
      e = .returned (.agg #[.int .i64 (wayB s).x0, .int .i64 (wayB s).x1, .int .i64 (wayB s).x2, .int .i64 (wayB s).x3, .int .i64 (wayB s).h]) ∧ Below w.heap.size w w' := by
  obtain ⟨x0, x1, x2, x3, h⟩ := s
  obtain ⟨⟨b0, b0'⟩, ⟨b1, b1'⟩, ⟨b2, b2'⟩, ⟨b3, b3'⟩, b4, b5⟩ := hs
  simp only at b0 b0' b1 b1' b2 b2' b3 b3' b4 b5
  have hc0 : 0 ≤ (8 - h) % 8 := by omega
  have hc7 : (8 - h) % 8 ≤ 7 := by omega
  have T := Lib.hid (times_tuB ((8 - h) % 8) hc0 hc7 (-x0) (-x1) (-x2) (-x3) (by omega) (by omega) (by omega) (by omega) (by omega) (by omega) (by omega) (by omega))
  have PW := Lib.hid (power_any ((8 - h) % 8) hc0 hc7)
  have SC := Lib.hid (scN x0 x1 x2 x3 b0 b0' b1 b1' b2 b2' b3 b3')
  have TB := Lib.hid (turn_back h b4 b5)
  simp only [wayB]
  generalize (8 - h) % 8 = k at *
  go_enter Try.func61, Try.ntmps61
  go_wp2_with (go_at_call 98; refine (TB.out _).mono ?_; rintro e w' ⟨rfl, rfl⟩)
  (go_at_call 99; (with_reducible refine (SC.out _).mono ?_); rintro e wA ⟨rfl, h1⟩; (try with_reducible replace h1 := undrew h1); have hB : Below w.heap.size w wA := ba (by go_grown) h1; obtain ⟨hcwA, hfwA⟩ := bcell h1; have hqwA := h1.size; (try simp at hqwA); (try have hz0wA : w.heap.size < wA.heap.size := (by omega)); (try have he0wA : w.heap.size ≤ wA.heap.size := (by omega)); (try have hz1wA : w.heap.size + 1 < wA.heap.size := (by omega)); (try have he1wA : w.heap.size + 1 ≤ wA.heap.size := (by omega)))
  go_wp2_with fail
  (go_at_call 101; (with_reducible refine (PW.out _).mono ?_); rintro e wB ⟨rfl, h1⟩; (try with_reducible replace h1 := undrew h1); have hB : Below w.heap.size w wB := ba (by go_grown) h1; obtain ⟨hcwB, hfwB⟩ := bcell h1; have hqwB := h1.size; (try simp at hqwB); (try have hz0wB : w.heap.size < wB.heap.size := (by omega)); (try have he0wB : w.heap.size ≤ wB.heap.size := (by omega)); (try have hz1wB : w.heap.size + 1 < wB.heap.size := (by omega)); (try have he1wB : w.heap.size + 1 ≤ wB.heap.size := (by omega)))
  go_wp2_with fail
  (go_at_call 100; (with_reducible refine (T.out _).mono ?_); rintro e wC ⟨rfl, h1⟩; (try with_reducible replace h1 := undrew h1); have hB : Below w.heap.size w wC := ba (by go_grown) h1; obtain ⟨hcwC, hfwC⟩ := bcell h1; have hqwC := h1.size; (try simp at hqwC); (try have hz0wC : w.heap.size < wC.heap.size := (by omega)); (try have he0wC : w.heap.size ≤ wC.heap.size := (by omega)); (try have hz1wC : w.heap.size + 1 < wC.heap.size := (by omega)); (try have he1wC : w.heap.size + 1 ≤ wC.heap.size := (by omega)))
  go_wp2_with fail
  refine bodyPost_ret (by simp [results, Try.results61, go_sem, *]; try rfl) rfl ?_
  exact ⟨rfl, by go_grown⟩

end Go.Proofs.Ythiimllafcfieaa

/- Contract: the program's 'closingsOf': the texts of two parts that lead back to the beginning. -/
namespace Go.Proofs.Ythiimllafcfieaa
open Go.ChangeShapes Go.WideShapes Go.ChangeAt Go.RowKit

set_option linter.unusedVariables false

def StrPost (l : List (List UInt8)) (w : World) (e : Ending) (w' : World) : Prop :=
  ∃ v, e = .returned v ∧ w'.ownsRow w.heap.size 9 1 v l.length (strV l) ∧ Below w.heap.size w w'

theorem srInfo : (Try.prog.info? 9).map (fun i => (i.zero, i.size, i.bytes)) = some (some (.string ByteArray.empty), 1, 16) := by kernel_rfl

/-- Texts at their place, in a block that was there. -/
def StrAt (w : World) (g : Nat) (l : List (List UInt8)) : Prop := ∀ i u, l[i]? = some u → w.cell? ⟨g, i, none⟩ = some (.string (ofL u))

theorem StrAt.below {w w' : World} {g n : Nat} {l : List (List UInt8)} (h : StrAt w g l) (hg : g < n) (hb : Below n w w') : StrAt w' g l := fun i u hu => by
  rw [hb.cell (p := ⟨g, i, none⟩) hg]; exact h i u hu

theorem str_of {W : World} {B n g cap : Nat} {e : TypeId} {l : List (List UInt8)} (h : W.ownsRow B e 1 (.slice (some ⟨g, 0, none⟩) n cap) n (strV l)) (hn : l.length = n) : StrAt W g l := fun i u hu => by
  have hi : i < n := by rw [← hn]; exact (List.getElem?_eq_some_iff.1 hu).1
  rw [h.cellAt i (by omega)]
  simp [strV, hu]

def accG (l2 l1 : List (Sp × List UInt8)) (j : Nat) : List (List UInt8) := (l2.take j).flatMap fun p => (grp (wayB p.1) l1).map fun v => p.2 ++ v

theorem accG_end (a : Sp) (k0 : 0 ≤ a.h) (k7 : a.h ≤ 7) (m n : Nat) : accG (parts a m) (parts sp0 n) (3 ^ m) = clsL a (m + n) := by
  rw [accG, List.take_of_length_le (by rw [parts_len]; exact Nat.le_refl _), cls_halves a k0 k7]

theorem accG_next {l2 l1 : List (Sp × List UInt8)} {j : Nat} {p : Sp × List UInt8} (h : l2[j]? = some p) : accG l2 l1 (j + 1) = accG l2 l1 j ++ (grp (wayB p.1) l1).map fun v => p.2 ++ v := by
  rw [accG, List.take_add_one, h]
  simp [accG, List.flatMap_append]

theorem accG_le (l2 l1 : List (Sp × List UInt8)) : ∀ j, (accG l2 l1 j).length ≤ j * l1.length
  | 0 => by simp [accG]
  | j + 1 => by
    have ih := accG_le l2 l1 j
    rw [Nat.succ_mul]
    by_cases h : j < l2.length
    · rw [accG_next (List.getElem?_eq_getElem h), List.length_append, List.length_map]
      have := grp_le (wayB l2[j].1) l1
      omega
    · rw [show accG l2 l1 (j + 1) = accG l2 l1 j by rw [accG, accG, List.take_of_length_le (by omega), List.take_of_length_le (by omega)]]
      omega

theorem PrtAt.grown {w w' : World} {g : Nat} {l : List (Sp × List UInt8)} {row : Option Nat} (h : PrtAt w g l) (hg : w.grownBy w' row) (hne : some g ≠ row) : PrtAt w' g l := by
  intro i p hp
  obtain ⟨a, b, c, d, e, f⟩ := h i p hp
  exact ⟨hg.cell a hne, hg.cell b hne, hg.cell c hne, hg.cell d hne, hg.cell e hne, hg.cell f hne⟩

theorem wayB_ok {s : Sp} {n : Int} (h : s.okB n) : (wayB s).okB n := by
  obtain ⟨⟨b0, b0'⟩, ⟨b1, b1'⟩, ⟨b2, b2'⟩, ⟨b3, b3'⟩, b4, b5⟩ := h
  simp only [Sp.okB, wayB]
  refine ⟨?_, ?_, ?_, ?_, by omega, by omega⟩
  · unfold tu0; repeat' split <;> omega
  · unfold tu1; repeat' split <;> omega
  · unfold tu2; repeat' split <;> omega
  · unfold tu3; repeat' split <;> omega

theorem own_blkC {W : World} {B : Nat} {e t : TypeId} {size n : Nat} {v : Value} {xs : List Value} {g : Nat} {cs : Array Value} {fz : Nat × Nat} (h : W.ownsRow B e size v n xs) (hg : W.heap[g]? = some (.cells cs t fz)) (hne : e ≠ t) : some g ≠ v.ownBlock := by
  rcases h.2 with ⟨rfl, _⟩ | ⟨g', cap, cur, rfl, _, hg', _⟩
  · simp [Value.ownBlock]
  · intro he
    simp only [Value.ownBlock, Option.some.injEq] at he
    subst he
    rw [hg] at hg'
    simp only [Option.some.injEq, Obj.cells.injEq] at hg'
    exact hne hg'.2.1.symm

theorem own_formC {W : World} {B n size : Nat} {e : TypeId} {v : Value} {xs : List Value} (h : W.ownsRow B e size v n xs) : ∃ av cv, v = .slice av n cv := by
  rcases h.2 with ⟨h, h0⟩ | ⟨g, cap, cur, h, _⟩
  · exact ⟨none, 0, by rw [h, h0]⟩
  · exact ⟨_, _, h⟩

theorem news_one {W W1 : World} {n : Nat} {row : Option Nat} (hn : W.heap.size = n) (x : Value) (t : TypeId) (hg : (W.alloc (.cells #[x] t)).grownBy W1 row) (hne : some n ≠ row) : ∀ j u, [x][j]? = some u → W1.cell? ((⟨n, 0, none⟩ : Addr).add j) = some u := by
  subst hn
  intro j u hj
  have h := cell_one_new W x t j u hj
  match j, hj, h with
  | 0, _, h => exact hg.cell h (by simpa [Addr.add] using hne)

theorem blk5 {W : World} {g : Nat} {t : TypeId} {a0 a1 a2 a3 a4 : Value} (h : W.heap[g]? = some (.cells #[a0, a1, a2, a3, a4] t (0, 0))) :
    W.cell? ⟨g, 0, none⟩ = some a0 ∧ W.cell? ⟨g, 1, none⟩ = some a1 ∧ W.cell? ⟨g, 2, none⟩ = some a2 ∧ W.cell? ⟨g, 3, none⟩ = some a3 ∧ W.cell? ⟨g, 4, none⟩ = some a4 := by
  simp [World.cell?, h]

theorem grp_mem {k : Sp} {l : List (Sp × List UInt8)} {x : List UInt8} (h : x ∈ grp k l) : ∃ p ∈ l, p.2 = x := by
  simp only [grp, List.mem_map, List.mem_filter] at h
  obtain ⟨p, ⟨hp, _⟩, rfl⟩ := h
  exact ⟨p, hp, rfl⟩

set_option maxRecDepth 100000 in
set_option maxHeartbeats 6400000 in
theorem closingsOf_any (l2 l1 : List (Sp × List UInt8)) (hok1 : ∀ p ∈ l1, p.1.okB 1000 ∧ p.2.length ≤ 40) (hok2 : ∀ p ∈ l2, p.1.okB 950000 ∧ p.2.length ≤ 40) (K7 : l1.length ≤ 2200) (M7 : l2.length ≤ 2200) (g2 g1 cap2 cap1 : Nat) (w : World)
    (hg1 : g1 < w.heap.size) (hg2 : g2 < w.heap.size) (h1 : PrtAt w g1 l1) (h2 : PrtAt w g2 l2) :
    Calls Try.prog 91 #[.slice (some ⟨g2, 0, none⟩) l2.length cap2, .slice (some ⟨g1, 0, none⟩) l1.length cap1] w (StrPost (accG l2 l1 l2.length) w) := by
  obtain ⟨i0, hi, iz0, iz1, iz2⟩ := info_parts srInfo
  have hmm := @run_makeMap Try.prog
  have hL := l1.length
  obtain ⟨K, hl⟩ : ∃ K, l1.length = K := ⟨_, rfl⟩
  obtain ⟨M, hl2⟩ : ∃ M, l2.length = M := ⟨_, rfl⟩
  rw [hl] at K7
  rw [hl2] at M7
  have HL := Lib.hid hl
  have HL2 := Lib.hid hl2
  have HOK := Lib.hid hok1
  have HOK2 := Lib.hid hok2
  have hgb : g1 ≠ w.heap.size := by omega
  have hG0 := Lib.hid (GrpAt_start w)
  have HB1 := Lib.hid ((Below.refl w.heap.size w).alloc (Nat.le_refl _) (.map #[] 0))
  have HP0 := Lib.hid (h1.below hg1 ((Below.refl w.heap.size w).alloc (Nat.le_refl _) (.map #[] 0)))
  have HP20 := Lib.hid (h2.below hg2 ((Below.refl w.heap.size w).alloc (Nat.le_refl _) (.map #[] 0)))
  have hsz : (w.alloc (.map #[] 0)).heap.size = w.heap.size + 1 := by simp
  rw [hl, hl2]
  clear hL hl hl2 hok1 hok2 h1 h2
  go_enter Try.func91, Try.ntmps91
  go_wp2_with fail
  rw [← hsz] at hG0
  generalize w.alloc (.map #[] 0) = w1 at *
  have HP := HP0
  have HP2 := HP20
  have hsz1 : w.heap.size + 1 ≤ w1.heap.size := by omega
  clear hmm
  go_loopw [16] (fun i wr => ∃ j : Nat, j ≤ K ∧ i = .int .i64 j ∧ GrpAt wr w.heap.size w1.heap.size j (l1.take j) ∧ w1.grownBy wr (some w.heap.size)) (fun i _ => K - (intOf i).toNat)
  case atStart => exact ⟨0, Nat.zero_le _, rfl, hG0.out, World.grownBy.refl _ _⟩
  case round =>
    obtain ⟨j, hj, rfl, hG, hgr⟩ := hrel
    by_cases hlt : j < K
    · obtain ⟨p, hp⟩ : ∃ p, l1[j]? = some p := ⟨_, List.getElem?_eq_getElem (by rw [HL.out]; exact hlt)⟩
      obtain ⟨c0, c1, c2, c3, c4, c5⟩ := (HP.out.grown hgr (by simp; omega)) j p hp
      obtain ⟨hpo, hpl⟩ := HOK.out p (List.mem_of_getElem? hp)
      have HTK := Lib.hid (show l1.take (j + 1) = l1.take j ++ [p] by rw [List.take_add_one, hp]; rfl)
      obtain ⟨s, u⟩ := p
      simp only at c0 c1 c2 c3 c4 c5 hpo hpl
      have hwf := wf_of hpo (by decide)
      have hGW := (hG.kept (World.grownBy_alloc wr (.cells #[.int .i64 s.x0, .int .i64 s.x1, .int .i64 s.x2, .int .i64 s.x3, .int .i64 s.h, .string (ofL u)] 73) none) (by simp) (by simp)).kept (World.grownBy_alloc _ (.cells #[.string (ofL u)] 9) none) (by simp) (by simp)
      have hgl := grp_le s (l1.take j)
      rw [List.length_take] at hgl
      obtain ⟨v, st, W1, rE, gE, oE, hE1⟩ := hGW.entry hwf (by unfold maxLen; omega)
      simp only [spV] at rE
      have hnews := news_one (n := wr.heap.size + 1) (by simp) (.string (ofL u)) 9 gE (by simp; have := hgr.size; omega)
      have h2 := grown_row hgr (World.grownBy_alloc wr (.cells #[.int .i64 s.x0, .int .i64 s.x1, .int .i64 s.x2, .int .i64 s.x3, .int .i64 s.h, .string (ofL u)] 73) none) (by simp)
      have h3 := grown_row h2 (World.grownBy_alloc _ (.cells #[.string (ofL u)] 9) none) (by simp)
      have H4 := Lib.hid (grown_row h3 gE (fun k hk => .inr hk))
      have HE1 := Lib.hid hE1
      have HOE := Lib.hid oE
      have hsW : w1.heap.size ≤ W1.heap.size := H4.out.size
      have HLT := Lib.hid (fun k hk => (oE.lt k hk).1)
      clear hp hpo hG hgr hGW hE1 oE gE h2 h3 hwf
      go_wp2_with (first | ((with_reducible refine wpList_mapEntry W1 (.tuple #[v, goInt st]) _ ?_ _ _ ?_ ?_ ?_ rE ?_); rfl; rfl; rfl; rfl) | (at_builtin; refine wpList_append_own_at _ rfl _ _ 25 rfl w1.heap.size 9 i0 (.string ByteArray.empty) 1 16 Try.underlying25 hi iz0 iz1 iz2 rfl (by decide) v _ _ rfl HOE.out ⟨wr.heap.size + 1, 0, none⟩ 1 1 [.string (ofL u)] rfl rfl hnews (by intro u hu; simp at hu; subst hu; rfl) (by unfold maxLen; omega) (by omega) hsW ?_; intro v' w2 hown' hgrow hnil hloc; obtain ⟨w3, r3, hG3, g3⟩ := HE1.out w2 v' u hgrow hown' (hloc.imp Eq.symm id); simp only [goInt] at r3))
      have h5 := grown_row H4.out hgrow (fun k hk => .inl (HLT.out k hk))
      have H6 := Lib.hid (grown_row h5 g3 (fun k hk => .inr hk))
      have HG3 := Lib.hid hG3
      clear h5 hgrow g3 hG3 hown' rE r3 hnews hnil hloc c0 c1 c2 c3 c4 c5
      go_roundw
      case rel => exact ⟨j + 1, by omega, by go_num, by rw [HTK.out]; exact HG3.out, H6.out⟩
      case measure => simp [intOf]; omega
    · obtain rfl : j = K := by omega
      have hta : l1.take j = l1 := List.take_of_length_le (by rw [HL.out]; exact Nat.le_refl _)
      rw [hta] at hG
      have hta' := hta
      have HBW := Lib.hid (show Below w.heap.size w wr from HB1.out.grown hgr (by omega) (fun k hk => by injection hk with hk; omega))
      have HP5 := Lib.hid (HP2.out.grown hgr (by simp; omega))
      have hzg : w1.heap.size ≤ wr.heap.size := hgr.size
      have HG5 := Lib.hid hG
      obtain ⟨w5, rfl⟩ : ∃ w5 : World, w5 = wr := ⟨_, rfl⟩
      have HB5 := HBW
      have hz5 : w1.heap.size ≤ w5.heap.size := hzg
      have hg25 : g2 < w5.heap.size := by omega
      clear hG hta hta' hgr
      go_wp2_with fail
      go_loopw [8, 33] (fun t i wr => ∃ (j2 : Nat) (v : Value), j2 ≤ M ∧ i = .int .i64 j2 ∧ v = t ∧ wr.ownsRow w5.heap.size 9 1 v (accG l2 l1 j2).length (strV (accG l2 l1 j2)) ∧ Below w5.heap.size w5 wr) (fun _ i _ => M - (intOf i).toNat)
      case atStart => exact ⟨0, _, Nat.zero_le _, rfl, rfl, by simpa [accG, strV] using World.ownsRow_nil _ _ _ _, Below.refl _ _⟩
      case round =>
        obtain ⟨j2, v, hj2, rfl, rfl, hT, hb⟩ := hrel
        have hz6 := hb.size
        have hle := accG_le l2 l1 j2
        rw [HL.out] at hle
        by_cases hlt2 : j2 < M
        · obtain ⟨p, hp⟩ : ∃ p, l2[j2]? = some p := ⟨_, List.getElem?_eq_getElem (by rw [HL2.out]; exact hlt2)⟩
          obtain ⟨c0, c1, c2, c3, c4, c5⟩ := (HP5.out.below hg25 hb) j2 p hp
          obtain ⟨hpo, hpl⟩ := HOK2.out p (List.mem_of_getElem? hp)
          have HNX := Lib.hid (accG_next (l1 := l1) hp)
          obtain ⟨s, u⟩ := p
          simp only at c0 c1 c2 c3 c4 c5 hpo hpl HNX
          obtain ⟨vL, oL, rL⟩ := HG5.out.look (wf_of (wayB_ok hpo) (by decide))
          have hgl := grp_le (wayB s) l1
          rw [HL.out] at hgl
          have hxl : ∀ x ∈ grp (wayB s) l1, x.length ≤ 40 := fun x hx => by
            obtain ⟨p, hp, rfl⟩ := grp_mem hx
            exact (HOK.out p hp).2
          have WB := Lib.hid (wayBack_any s (hpo.mono (by decide)))
          obtain ⟨R, hR⟩ : ∃ R, grp (wayB s) l1 = R := ⟨_, rfl⟩
          rw [hR] at oL hgl hxl HNX
          obtain ⟨Lc, hLc⟩ : ∃ Lc, R.length = Lc := ⟨_, rfl⟩
          rw [hLc] at oL hgl
          obtain ⟨av, cv, rfl⟩ := own_formC oL
          simp only [spV] at rL
          generalize wayB s = q at rL WB
          have HXL := Lib.hid hxl
          have HLC := Lib.hid hLc
          have HRL := Lib.hid rL
          have HT := Lib.hid hT
          have HB := Lib.hid hb
          obtain ⟨wi, rfl⟩ : ∃ wi : World, wi = wr := ⟨_, rfl⟩
          clear hp hpo hR hLc hxl rL hT hb
          go_wp2_with fail
          refine (WB.out _).mono ?_
          rintro e wA ⟨rfl, hA⟩
          have hbk := (hA.block wi.heap.size (by simp)).trans (heap_alloc_new _ _)
          have hA2 := (HB.out.alloc hz6 (.cells #[.int .i64 s.x0, .int .i64 s.x1, .int .i64 s.x2, .int .i64 s.x3, .int .i64 s.h, .string (ofL u)] 73)).trans (hA.mono (by simp; omega))
          have rL := HRL.out wA none (below_grown hA2) (by simp)
          have HT2 := Lib.hid ((HT.out.alloc (.cells #[.int .i64 s.x0, .int .i64 s.x1, .int .i64 s.x2, .int .i64 s.x3, .int .i64 s.h, .string (ofL u)] 73)).kept (below_grown hA) (by cases v.ownBlock <;> simp))
          have HA2 := Lib.hid hA2
          have HBK := Lib.hid hbk
          clear hA hA2 hbk c0 c1 c2 c3 c4 c5
          go_wp2_with fail
          go_loopw [8, 43] (fun t i wr => ∃ (c : Nat) (v : Value), c ≤ Lc ∧ i = .int .i64 c ∧ v = t ∧ wr.ownsRow w5.heap.size 9 1 v (accG l2 l1 j2 ++ (R.take c).map fun x => u ++ x).length (strV (accG l2 l1 j2 ++ (R.take c).map fun x => u ++ x)) ∧ wr.heap[wi.heap.size]? = some (.cells #[.int .i64 s.x0, .int .i64 s.x1, .int .i64 s.x2, .int .i64 s.x3, .int .i64 s.h, .string (ofL u)] 73 (0, 0)) ∧ Below w5.heap.size w5 wr) (fun _ i _ => Lc - (intOf i).toNat)
          case atStart => exact ⟨0, v, Nat.zero_le _, rfl, rfl, by simpa using HT2.out, HBK.out, HA2.out⟩
          case round =>
            obtain ⟨c, v, hc, rfl, rfl, hT, hblk, hb⟩ := hrel
            have hz7 := hb.size
            have hzl := blkLt hblk
            by_cases hlc : c < Lc
            · obtain ⟨x, hx⟩ : ∃ x, R[c]? = some x := ⟨_, List.getElem?_eq_getElem (by rw [HLC.out]; exact hlc)⟩
              have hx10 := HXL.out x (List.mem_of_getElem? hx)
              obtain ⟨gL, rfl⟩ : ∃ gL, av = some ⟨gL, 0, none⟩ := by
                rcases oL.2 with ⟨h, h0⟩ | ⟨gL, capL, _, h, _⟩
                · omega
                · injection h with h; exact ⟨gL, h⟩
              have d0 := (str_of oL HLC.out).below (oL.lt gL rfl).2 hb c x hx
              obtain ⟨e0, e1, e2, e3, e4, e5⟩ := blk6 hblk
              have htk : R.take (c + 1) = R.take c ++ [x] := by rw [List.take_add_one, hx]; rfl
              obtain ⟨T, hT0⟩ : ∃ T, ofL (u ++ x) = T := ⟨_, rfl⟩
              have k1 : ∀ w : World, (Op.stringOp .add (ofL u) (ofL x)).run Try.prog w = .ok (.string T) w := fun w => concat_run (by rw [ofL_append, hT0]) (by rw [ofL_size, ofL_size]; omega) w
              have hlen : (accG l2 l1 j2 ++ (R.take c).map fun x => u ++ x).length ≤ 6000000 := by
                rw [List.length_append, List.length_map, List.length_take]
                have := Nat.mul_le_mul (show j2 ≤ 2200 by omega) (show j ≤ 2200 by omega)
                omega
              have HV := Lib.hid (show (accG l2 l1 j2 ++ (R.take (c + 1)).map fun x => u ++ x) = (accG l2 l1 j2 ++ (R.take c).map fun x => u ++ x) ++ [u ++ x] by rw [htk, List.map_append, ← List.append_assoc]; rfl)
              generalize hA : (accG l2 l1 j2 ++ (R.take c).map fun x => u ++ x) = A at *
              have HT0 := Lib.hid hT0
              have HT := Lib.hid hT
              have HB7 := Lib.hid hb
              have HK := Lib.hid hblk
              have hnb := own_blkC (hT.alloc (.cells #[.string T] 9)) ((Below.heap_alloc wr (.cells #[.string T] 9) _ hzl).trans hblk) (by decide)
              clear hx hT hblk hb htk hT0 hA
              go_wp2_with (at_builtin; refine wpList_append_own_at _ rfl _ _ 25 rfl w5.heap.size 9 i0 (.string ByteArray.empty) 1 16 Try.underlying25 hi iz0 iz1 iz2 rfl (by decide) v _ _ rfl (HT.out.alloc _) ⟨wr.heap.size, 0, none⟩ 1 1 [.string T] rfl rfl (cell_one_new _ _ _) (by intro u hu; simp at hu; subst hu; rfl) (by unfold maxLen; omega) (by omega) (by simp; omega) ?_; intro v' w2 hown' hgrow hnil hloc)
              have hlt' := (HT.out.alloc (.cells #[.string T] 9)).lt
              have HB8 := Lib.hid ((HB7.out.alloc hz7 (.cells #[.string T] 9)).grown hgrow (by simp; omega) (fun k hk => (hlt' k hk).1))
              have HK8 := Lib.hid ((hgrow.block wi.heap.size (by simp; omega) hnb).trans ((Below.heap_alloc wr (.cells #[.string T] 9) _ hzl).trans HK.out))
              have HO8 := Lib.hid hown'
              clear hlt' hgrow hown' hnil hloc hnb
              go_roundw
              case rel => exact ⟨c + 1, v', by omega, by go_num, rfl, by rw [HV.out, strV_append, List.length_append]; simp only [strV, List.map_cons, List.map_nil, HT0.out]; exact HO8.out, HK8.out, HB8.out⟩
              case measure => simp [intOf]; omega
            · obtain rfl : c = Lc := by omega
              have hta : R.take c = R := List.take_of_length_le (by rw [HLC.out]; exact Nat.le_refl _)
              rw [hta] at hT
              have HT := Lib.hid hT
              have HB7 := Lib.hid hb
              clear hT hb hblk hta
              go_wp2_with fail
              go_roundw
              case rel => exact ⟨j2 + 1, v, by omega, by go_num, rfl, by rw [HNX.out]; exact HT.out, HB7.out⟩
              case measure => simp [intOf]; omega
        · obtain rfl : j2 = M := by omega
          have hT2 := own_lessP hT HB5.out.size
          have HT2 := Lib.hid hT2
          have HB6 := Lib.hid (HB5.out.trans (hb.mono HB5.out.size))
          clear hT hb hT2
          go_wp2_with fail
          go_ret
          exact ⟨_, rfl, HT2.out, HB6.out⟩

end Go.Proofs.Ythiimllafcfieaa

/- Contract: whether a number lies in a range. -/
namespace Go.Proofs.Ythiimllafcfieaa
open Go.ChangeShapes Go.WideShapes Go.ChangeAt Go.RowKit

set_option maxRecDepth 100000 in
theorem isInRange_any (n lo hi : Int) (w : World) :
    Calls Try.prog 50 #[.int .i64 n, .int .i64 lo, .int .i64 hi] w fun e w' => e = .returned (.bool (inB n lo hi)) ∧ w = w' := by
  go_enter Try.func50, Try.ntmps50
  go_wp2
  · go_ret
    exact ⟨by simp [inB, *], rfl⟩
  · go_ret
    exact ⟨by simp [inB]; omega, rfl⟩

end Go.Proofs.Ythiimllafcfieaa

/- Tracks laid one behind the other. -/
namespace Go.Proofs.Ythiimllafcfieaa

/-- What lies behind acc, tracks laid behind it one after the other; none if one is no track or there are too many pieces. -/
def joL : List ByteArray → List UInt8 → Option (List UInt8)
  | [], acc => some acc
  | x :: xs, acc => if tkB x && decide (acc.length + x.size ≤ 40) then joL xs (acc ++ x.data.toList) else none

def joB (xs : List ByteArray) : Bool := (joL xs []).isSome

def joS (xs : List ByteArray) : ByteArray := ofL ((joL xs []).getD [])

theorem joL_yes {xs : List ByteArray} {k : Nat} {x : ByteArray} {acc : List UInt8} (hx : xs[k]? = some x) (ht : tkB x = true) (hl : acc.length + x.size ≤ 40) : joL (xs.drop k) acc = joL (xs.drop (k + 1)) (acc ++ x.data.toList) := by
  obtain ⟨hk, rfl⟩ := List.getElem?_eq_some_iff.1 hx
  rw [List.drop_eq_getElem_cons hk]
  simp [joL, ht, hl]

theorem joL_no {xs : List ByteArray} {k : Nat} {x : ByteArray} {acc : List UInt8} (hx : xs[k]? = some x) (ht : tkB x = false ∨ ¬ acc.length + x.size ≤ 40) : joL (xs.drop k) acc = none := by
  obtain ⟨hk, rfl⟩ := List.getElem?_eq_some_iff.1 hx
  rw [List.drop_eq_getElem_cons hk]
  rcases ht with ht | ht <;> simp [joL, ht]

theorem joL_end {xs : List ByteArray} {k : Nat} {acc : List UInt8} (hk : ¬ k < xs.length) : joL (xs.drop k) acc = some acc := by
  rw [List.drop_of_length_le (by omega)]
  rfl

theorem jo_none {xs : List ByteArray} (h : joL xs [] = none) : joB xs = false ∧ joS xs = ⟨#[]⟩ := by simp [joB, joS, h, ofL]

theorem jo_some {xs : List ByteArray} {acc : List UInt8} (h : joL xs [] = some acc) : joB xs = true ∧ joS xs = ⟨acc.toArray⟩ := by simp [joB, joS, h, ofL]

end Go.Proofs.Ythiimllafcfieaa

/- A track laid several times. -/
namespace Go.Proofs.Ythiimllafcfieaa

def rpL (s : ByteArray) (t : Nat) : List UInt8 := (List.replicate t s.data.toList).flatten

theorem rpL_zero (s : ByteArray) : rpL s 0 = [] := rfl

theorem rpL_succ (s : ByteArray) (t : Nat) : rpL s (t + 1) = s.data.toList ++ rpL s t := by simp [rpL, List.replicate_succ]

theorem rpL_snoc (s : ByteArray) (t : Nat) : rpL s (t + 1) = rpL s t ++ s.data.toList := by
  induction t with
  | zero => simp [rpL]
  | succ t ih => rw [rpL_succ, ih, ← List.append_assoc, ← rpL_succ]; rw [← ih]

theorem rpL_length (s : ByteArray) (t : Nat) : (rpL s t).length = t * s.size := by
  induction t with
  | zero => simp [rpL]
  | succ t ih => rw [rpL_succ, List.length_append, ih, size_list, Nat.succ_mul]; omega

theorem joL_rep {s : ByteArray} (hs : tkB s = true) : ∀ (t : Nat) (acc : List UInt8), acc.length ≤ 40 → joL (List.replicate t s) acc = if acc.length + t * s.size ≤ 40 then some (acc ++ rpL s t) else none
  | 0, acc, h => by simp [joL, rpL, h]
  | t + 1, acc, h => by
    have hz := Nat.succ_mul t s.size
    rw [List.replicate_succ]
    simp only [joL, hs, Bool.true_and]
    by_cases h1 : acc.length + s.size ≤ 40
    · have ih := joL_rep hs t (acc ++ s.data.toList) (by rw [List.length_append, size_list]; exact h1)
      rw [if_pos (by simpa using h1), ih, List.length_append, size_list, List.append_assoc, ← rpL_succ]
      by_cases h2 : acc.length + s.size + t * s.size ≤ 40
      · rw [if_pos h2, if_pos (by rw [hz]; omega)]
      · rw [if_neg h2, if_neg (by rw [hz]; omega)]
    · rw [if_neg (by simpa using h1), if_neg (by rw [hz]; omega)]

def rpB (s : ByteArray) (k : Int) : Bool := tkB s && decide (0 ≤ k ∧ (s.size = 0 ∨ k * (s.size : Int) ≤ 40))

def rpS (s : ByteArray) (k : Int) : ByteArray := cond (rpB s k) (if s.size = 0 then ⟨#[]⟩ else ofL (rpL s k.toNat)) ⟨#[]⟩

/-- Times enough: more than 41 times are as 41. -/
theorem jo_rep {s : ByteArray} (hs : tkB s = true) (k : Int) (t : Nat) (h0 : 0 ≤ k) (ht : (t : Int) = min k 41) : joB (List.replicate t s) = rpB s k ∧ joS (List.replicate t s) = rpS s k := by
  have h := joL_rep hs t [] (by simp)
  simp only [List.length_nil, Nat.zero_add, List.nil_append] at h
  by_cases hz : s.size = 0
  · rw [if_pos (by rw [hz]; omega)] at h
    obtain ⟨r1, r2⟩ := jo_some h
    have hl : rpL s t = [] := List.eq_nil_of_length_eq_zero (by rw [rpL_length, hz]; omega)
    have hb : rpB s k = true := by simp [rpB, hs, hz, h0]
    exact ⟨r1.trans hb.symm, by rw [r2, hl]; simp [rpS, hb, hz]⟩
  · by_cases h1 : k * (s.size : Int) ≤ 40
    · have hk : k ≤ 40 := by
        rcases Int.lt_or_le 40 k with h2 | h2
        · have : k * 1 ≤ k * (s.size : Int) := Int.mul_le_mul_of_nonneg_left (by omega) h0
          omega
        · exact h2
      have hkt : k = (t : Int) := by omega
      subst hkt
      have h3 : t * s.size ≤ 40 := by
        have : ((t * s.size : Nat) : Int) = (t : Int) * (s.size : Int) := by simp
        omega
      rw [if_pos h3] at h
      obtain ⟨r1, r2⟩ := jo_some h
      have hb : rpB s t = true := by simp [rpB, hs, h1]
      exact ⟨r1.trans hb.symm, by rw [r2]; simp [rpS, hb, hz, ofL]⟩
    · have h3 : ¬ t * s.size ≤ 40 := fun h4 => by
        rcases Int.lt_or_le k 41 with h2 | h2
        · have hkt : k = (t : Int) := by omega
          subst hkt
          have : ((t * s.size : Nat) : Int) = (t : Int) * (s.size : Int) := by simp
          omega
        · have ht41 : t = 41 := by omega
          subst ht41
          have : 41 * 1 ≤ 41 * s.size := Nat.mul_le_mul_left _ (by omega)
          omega
      rw [if_neg h3] at h
      obtain ⟨r1, r2⟩ := jo_none h
      have hb : rpB s k = false := by simp [rpB, h1, hz]
      exact ⟨r1.trans hb.symm, by rw [r2]; simp [rpS, hb]⟩

/-- A row of t texts, the first n of them s. -/
def rowR (s : ByteArray) (t n : Nat) : List Value := List.replicate n (.string s) ++ List.replicate (t - n) (.string ⟨#[]⟩)

theorem rowR_length (s : ByteArray) (t n : Nat) (h : n ≤ t) : (rowR s t n).length = t := by simp [rowR]; omega

theorem rowR_splice (s : ByteArray) (t n m : Nat) (h : n + m ≤ t) : splice (rowR s t n) n (List.replicate m (.string s)) = rowR s t (n + m) := by
  simp only [splice, rowR, List.length_replicate]
  rw [List.take_left' (by simp), List.drop_append, List.drop_of_length_le (by simp), List.nil_append, List.length_replicate, List.drop_replicate, ← List.append_assoc, List.replicate_append_replicate, show t - n - (n + m - n) = t - (n + m) by omega]

theorem rowR_made (s : ByteArray) (t : Nat) : madeCells (Value.string ⟨#[]⟩).cells t = (rowR s t 0).toArray := by
  apply Array.ext
  · simp [size_madeCells, rowR]
  · intro i h1 h2
    have : (Value.string ⟨#[]⟩).cells = #[.string ⟨#[]⟩] := rfl
    simp [madeCells, rowR, this, Nat.mod_one]

theorem rowR_at (s : ByteArray) (t n j : Nat) (hj : j < n) : (rowR s t n)[j]? = some (.string s) := by
  rw [rowR, List.getElem?_append_left (by simpa using hj)]
  simp [hj]

end Go.Proofs.Ythiimllafcfieaa

/- Contract: the library's slices.Repeat at one text, a few times. -/
namespace Go.Proofs.Ythiimllafcfieaa
open Go.ChangeShapes Go.WideShapes Go.ChangeAt Go.RowKit

set_option linter.unusedVariables false

theorem strInfo : (Try.prog.info? 9).map (fun i => (i.zero, i.size, i.bytes)) = some (some (.string ⟨#[]⟩), 1, 16) := by kernel_rfl

theorem mul_one_any (t : Nat) (ht : t ≤ 41) (w : World) :
    Calls Try.prog 121 #[.int .u64 1, .int .u64 (t : Nat)] w fun e w' => e = .returned (.tuple #[.int .u64 0, .int .u64 (t : Nat)]) ∧ w = w' := by
  refine (Try.bits_Mul 1 t (by decide) (by omega) w).mono ?_
  rintro e w' ⟨rfl, rfl⟩
  have h1 : 1 * t / 18446744073709551616 = 0 := by rw [Nat.one_mul]; exact Nat.div_eq_of_lt (by omega)
  have h2 : 1 * t % 18446744073709551616 = t := by rw [Nat.one_mul]; exact Nat.mod_eq_of_lt (by omega)
  rw [h1, h2]
  exact ⟨rfl, rfl⟩

def RpPost (s : ByteArray) (t : Nat) (w : World) (e : Ending) (w' : World) : Prop :=
  ∃ g, e = .returned (.slice (some ⟨g, 0, none⟩) t t) ∧ g < w'.heap.size ∧ (∀ j : Nat, j < t → w'.cell? ⟨g, j, none⟩ = some (.string s)) ∧ (∀ j : Nat, j < t → w'.frozen? ⟨g, j, none⟩ = false) ∧ w.heap.size ≤ g ∧ Below w.heap.size w w'

theorem rep_one (s : ByteArray) (m : Nat) : ∀ v ∈ List.replicate m (Value.string s), v.oneCell' = true := by
  intro v hv
  rw [(List.mem_replicate.1 hv).2]
  rfl

theorem src_one {s : ByteArray} {W : World} {b : Nat} (h : W.cell? ⟨b, 0, none⟩ = some (.string s)) : ∀ (j : Nat) v, (List.replicate 1 (Value.string s))[j]? = some v → W.cell? ((⟨b, 0, none⟩ : Addr).add j) = some v := by
  intro j v hj
  match j, hj with
  | 0, hj => simp at hj; subst hj; exact h

theorem src_row {s : ByteArray} {W : World} {g t n : Nat} {e : TypeId} (h : W.heap[g]? = some (.cells (rowR s t n).toArray e (0, 0))) (m : Nat) (hm : m ≤ n) : ∀ (j : Nat) v, (List.replicate m (Value.string s))[j]? = some v → W.cell? ((⟨g, 0, none⟩ : Addr).add j) = some v := by
  intro j v hj
  obtain ⟨hjm, rfl⟩ := List.getElem?_eq_some_iff.1 hj
  have hjm' : j < m := by simpa using hjm
  have ha : ((⟨g, 0, none⟩ : Addr).add j) = ⟨g, j, none⟩ := by by_cases e : j = 0 <;> simp [Addr.add, e]
  rw [ha, Lib.cell_of_heap h]
  simpa using rowR_at s t n j (by omega)

set_option maxRecDepth 100000 in
set_option maxHeartbeats 1600000 in
theorem repeat_any (s : ByteArray) (t b : Nat) (ht : t ≤ 41) (w : World) (hb : b < w.heap.size) (hc : w.cell? ⟨b, 0, none⟩ = some (.string s)) :
    Calls Try.prog 97 #[.slice (some ⟨b, 0, none⟩) 1 1, .int .i64 (t : Nat)] w (RpPost s t w) := by
  obtain ⟨i0, hi, iz0, iz1, iz2⟩ := info_parts strInfo
  have hmk : ∀ w : World, (Instr.makeSlice 25 (.int .i64 ((t : Nat) : Int)) (.int .i64 ((t : Nat) : Int))).run Try.prog w = .ok (.slice (some ⟨w.heap.size, 0, none⟩) t t) (w.alloc (.cells (rowR s t 0).toArray 9)) := fun w => by
    have h := run_makeSlice (P := Try.prog) w 25 9 i0 _ Try.underlying25 hi iz0 .i64 .i64 ((t : Nat) : Int) ((t : Nat) : Int) (by omega) (Int.le_refl _) (by rw [iz1]; omega) (by rw [iz2]; omega) (by omega)
    rw [h, iz1, Int.toNat_natCast, Nat.mul_one, rowR_made s t]
  have hsz : (Try.prog.info? 9).map (·.size) = some 1 := by kernel_rfl
  rcases Nat.eq_zero_or_pos t with rfl | hpos
  · have hmk0 : ∀ w : World, (Instr.makeSlice 25 (.int .i64 0) (.int .i64 0)).run Try.prog w = .ok (.slice (some ⟨w.heap.size, 0, none⟩) 0 0) (w.alloc (.cells (rowR s 0 0).toArray 9)) := hmk
    go_enter Try.func97, Try.ntmps97
    go_wp2_with (first | (go_at_call 121; refine (mul_one_any _ (by omega) _).mono ?_; rintro e w' ⟨rfl, rfl⟩) | (with_reducible refine wpList_copy_splice rfl (.tmp 31) (.tmp 32) 25 25 rfl 9 Try.underlying25 hsz (some ⟨w.heap.size, 0, none⟩) (some ⟨b, 0, none⟩) 0 0 1 1 rfl rfl w.heap.size 0 (rowR s 0 0) 9 (heap_alloc_new _ _) [] rfl (fun h => absurd h (by simp)) (by simp) (by simp) w.heap.size w ((Below.refl _ _).alloc (Nat.le_refl _) _) (Nat.le_refl _) ?_))
    intro w1 hH hb1
    have HB := Lib.hid hb1
    have hz := (Array.getElem?_eq_some_iff.1 hH.out).1
    clear hH hb1
    go_wp2_with fail
    refine wp_loop_rounds 1 ?_
    rw [rounds_succ]
    go_wp2_with fail
    go_ret
    exact ⟨w.heap.size, rfl, hz, fun j hj => absurd hj (by omega), fun j hj => absurd hj (by omega), Nat.le_refl _, HB.out⟩
  · have hn : (List.replicate 1 (Value.string s)).length = Nat.min 1 t := by show 1 = min 1 t; omega
    have HFIT := Lib.hid (show 0 + (List.replicate 1 (Value.string s)).length ≤ (rowR s t 0).length by rw [rowR_length s t 0 (by omega)]; show 0 + 1 ≤ t; omega)
    have HONE := Lib.hid (rep_one s 1)
    have HN1 := Lib.hid hn
    clear hn
    have HS := Lib.hid (src_one (s := s) (W := w.alloc (.cells (rowR s t 0).toArray 9)) (by rw [World.cell?_alloc_lt _ _ _ hb]; exact hc))
    go_enter Try.func97, Try.ntmps97
    go_wp2_with (first | (go_at_call 121; refine (mul_one_any _ (by omega) _).mono ?_; rintro e w' ⟨rfl, rfl⟩) | (with_reducible refine wpList_copy_splice rfl (.tmp 31) (.tmp 32) 25 25 rfl 9 Try.underlying25 hsz (some ⟨w.heap.size, 0, none⟩) (some ⟨b, 0, none⟩) t t 1 1 rfl rfl w.heap.size 0 (rowR s t 0) 9 (heap_alloc_new _ _) (List.replicate 1 (.string s)) HN1.out (fun _ => ⟨rfl, _, rfl, HS.out⟩) HFIT.out HONE.out w.heap.size w ((Below.refl _ _).alloc (Nat.le_refl _) _) (Nat.le_refl _) ?_))
    intro w1 hH hb1
    have hH' : w1.heap[w.heap.size]? = some (.cells (rowR s t 1).toArray 9 (0, 0)) := by
      have h := hH.out
      have h2 := rowR_splice s t 0 1 (by omega)
      rw [← h2]
      exact h
    have HB := Lib.hid hb1
    have HH := Lib.hid hH'
    clear hH hb1 hH'
    go_wp2_with fail
    go_loopw [8] (fun v wr => ∃ n : Nat, 1 ≤ n ∧ n ≤ t ∧ v = .int .i64 n ∧ wr.heap[w.heap.size]? = some (.cells (rowR s t n).toArray 9 (0, 0)) ∧ Below w.heap.size w wr) (fun v _ => t - (intOf v).toNat)
    case atStart => exact ⟨1, Nat.le_refl _, by omega, rfl, HH.out, HB.out⟩
    case round =>
      obtain ⟨n, hn1, hnt, rfl, hH, hb⟩ := hrel
      have HB2 := Lib.hid hb
      have HH2 := Lib.hid hH
      clear hb hH
      by_cases hlt : n < t
      · have i1 : (0 : Int) ≤ (n : Int) := by omega
        have i2 : (n : Int) ≤ (t : Int) := by omega
        have i3 : ¬ n = t := by omega
        have i4 : ¬ t = n := by omega
        have i5 : ¬ n = 0 := by omega
        have HN2 := Lib.hid (show (List.replicate (min n (t - n)) (Value.string s)).length = Nat.min n (t - n) from List.length_replicate)
        have HF2 := Lib.hid (show n + (List.replicate (min n (t - n)) (Value.string s)).length ≤ (rowR s t n).length by rw [rowR_length s t n hnt, List.length_replicate]; omega)
        have HO2 := Lib.hid (rep_one s (min n (t - n)))
        have HSRC := Lib.hid (src_row HH2.out (min n (t - n)) (by omega))
        have HSP := Lib.hid (rowR_splice s t n (min n (t - n)) (by omega))
        go_wp2_with fail
        go_region_law (refine step_copy_splice rfl (.tmp 41) (.tmp 44) 25 25 rfl 9 Try.underlying25 hsz (some ⟨w.heap.size, n, none⟩) (some ⟨w.heap.size, 0, none⟩) (t - n) (t - n) n t (by simp [Act.eval, Act.put]) (by simp [Act.eval, Act.put]) w.heap.size n (rowR s t n) 9 HH2.out (List.replicate (min n (t - n)) (.string s)) HN2.out (fun _ => ⟨rfl, _, rfl, HSRC.out⟩) HF2.out HO2.out w.heap.size w (by first | exact HB2.out | exact HB2.out.drew) (Nat.le_refl _) ?_; intro w3 hH3 hb3)
        have hH4 : w3.heap[w.heap.size]? = some (.cells (rowR s t (n + min n (t - n))).toArray 9 (0, 0)) := by
          have h := hH3.out
          rw [← HSP.out]
          exact h
        have HH4 := Lib.hid hH4
        have HB4 := Lib.hid hb3
        clear hH3 hb3 hH4
        have m1 : 1 ≤ min n (t - n) := by omega
        have m2 : n + min n (t - n) ≤ t := by omega
        clear HN2 HF2 HO2 HSRC HSP HH2 HB2
        generalize min n (t - n) = m at *
        have hwp : IntKind.i64.wrap ((n : Int) + (m : Int)) = (n : Int) + (m : Int) := by rw [IntKind.wrap_i64]; omega
        simp [Act.put, hwp]
        go_roundw
        case rel =>
          refine ⟨_, _, _, _, _, _, _, _, _, _, _, _, _, _, ?_, rfl⟩
          exact ⟨n + m, by omega, m2, by go_num, HH4.out, HB4.out⟩
        case measure => simp [intOf]; omega
      · obtain rfl : n = t := by omega
        have hz := (Array.getElem?_eq_some_iff.1 HH2.out).1
        go_wp2_with fail
        go_ret
        exact ⟨w.heap.size, rfl, hz, fun j hj => by rw [Lib.cell_of_heap HH2.out]; simpa using rowR_at s n n j hj, fun j hj => by simp [World.frozen?, HH2.out], Nat.le_refl _, HB2.out⟩

end Go.Proofs.Ythiimllafcfieaa

/- Contract: the program's 'partsFrom'. -/
namespace Go.Proofs.Ythiimllafcfieaa
open Go.ChangeShapes Go.WideShapes Go.ChangeAt Go.RowKit

set_option linter.unusedVariables false

theorem paRep (a : Sp) (ha : a.okB 900000) (n : Nat) (hn : n ≤ 10) (g : Nat) (w : World) (hg : g < w.heap.size) (hc : ∀ j : Nat, j < n → w.cell? ⟨g, j, none⟩ = some (.string ⟨#[76, 82, 83]⟩)) :
    Calls Try.prog 96 #[.agg #[.int .i64 a.x0, .int .i64 a.x1, .int .i64 a.x2, .int .i64 a.x3, .int .i64 a.h], .slice (some ⟨g, 0, none⟩) n n] w (PrtPost a n w) := by
  have hl : (prtsA a (List.replicate n ltr)).length = 3 ^ n := by rw [prtsA_rep, parts_len]
  have hv : ChV w (.slice (some ⟨g, 0, none⟩) n n) (List.replicate n ltr) := ⟨some ⟨g, 0, none⟩, n, by rw [List.length_replicate], .inr ⟨g, rfl, hg, fun i u hu => by
    obtain ⟨hi, rfl⟩ := List.getElem?_eq_some_iff.1 hu
    rw [List.getElem_replicate]
    exact hc i (by simpa using hi)⟩⟩
  have h3 : 3 ^ n ≤ 59049 := Nat.pow_le_pow_right (by decide) hn
  refine (partsAmong_any a ha (List.replicate n ltr) (fun ch hch => by
    obtain rfl := (List.mem_replicate.1 hch).2
    exact ⟨by decide, by decide, by decide⟩) (by rw [List.length_replicate]; omega) (by rw [hl]; omega) _ w hv).mono ?_
  rintro e w' ⟨g', cap, rfl, hO, hb⟩
  rw [hl, prtsA_rep] at hO
  exact ⟨g', cap, by rw [hl], hO, hb⟩

set_option maxRecDepth 100000 in
set_option maxHeartbeats 1600000 in
theorem partsFrom_any (a : Sp) (ha : a.okB 900000) (n : Nat) (hn : n ≤ 10) (w : World) :
    Calls Try.prog 60 #[.agg #[.int .i64 a.x0, .int .i64 a.x1, .int .i64 a.x2, .int .i64 a.x3, .int .i64 a.h], .int .i64 n] w (PrtPost a n w) := by
  have P := Lib.hid (fun g W hg hc => paRep a ha n hn g W hg hc)
  have PS := Lib.hid (fun (e : Ending) (w2 w' : World) (hw : w.heap.size ≤ w2.heap.size) (hb : Below w.heap.size w w2) (h : PrtPost a n w2 e w') => (show PrtPost a n w e w' from by
    obtain ⟨g, cap, rfl, hO, h1⟩ := h
    exact ⟨g, cap, rfl, own_lessP hO hw, hb.trans (h1.mono hw)⟩))
  have RP := Lib.hid (fun b W => repeat_any ⟨#[76, 82, 83]⟩ n b (by omega) W)
  have hS0 : (w.alloc (.cells #[.int .i64 a.x0, .int .i64 a.x1, .int .i64 a.x2, .int .i64 a.x3, .int .i64 a.h] 63)).cell? ⟨w.heap.size, 0, none⟩ = some (.int .i64 a.x0) ∧ (w.alloc (.cells #[.int .i64 a.x0, .int .i64 a.x1, .int .i64 a.x2, .int .i64 a.x3, .int .i64 a.h] 63)).cell? ⟨w.heap.size, 1, none⟩ = some (.int .i64 a.x1) ∧ (w.alloc (.cells #[.int .i64 a.x0, .int .i64 a.x1, .int .i64 a.x2, .int .i64 a.x3, .int .i64 a.h] 63)).cell? ⟨w.heap.size, 2, none⟩ = some (.int .i64 a.x2) ∧ (w.alloc (.cells #[.int .i64 a.x0, .int .i64 a.x1, .int .i64 a.x2, .int .i64 a.x3, .int .i64 a.h] 63)).cell? ⟨w.heap.size, 3, none⟩ = some (.int .i64 a.x3) ∧ (w.alloc (.cells #[.int .i64 a.x0, .int .i64 a.x1, .int .i64 a.x2, .int .i64 a.x3, .int .i64 a.h] 63)).cell? ⟨w.heap.size, 4, none⟩ = some (.int .i64 a.h) := by simp [go_sem]
  have hBx : Below w.heap.size w (w.alloc (.cells #[.int .i64 a.x0, .int .i64 a.x1, .int .i64 a.x2, .int .i64 a.x3, .int .i64 a.h] 63)) := (Below.refl _ _).alloc (Nat.le_refl _) _
  have hzx : (w.alloc (.cells #[.int .i64 a.x0, .int .i64 a.x1, .int .i64 a.x2, .int .i64 a.x3, .int .i64 a.h] 63)).heap.size = w.heap.size + 1 := by simp
  clear ha
  go_enter Try.func60, Try.ntmps60
  go_wp2_with fail
  generalize w.alloc (.cells #[.int .i64 a.x0, .int .i64 a.x1, .int .i64 a.x2, .int .i64 a.x3, .int .i64 a.h] 63) = W at *
  have hq0 : w.heap.size < W.heap.size := by omega
  clear hzx
  have hBW := Lib.hid hBx
  clear hBx
  go_region_held3 (fun w' => w'.cell? ⟨w.heap.size, 0, none⟩ = some (.int .i64 a.x0) ∧ w'.cell? ⟨w.heap.size, 1, none⟩ = some (.int .i64 a.x1) ∧ w'.cell? ⟨w.heap.size, 2, none⟩ = some (.int .i64 a.x2) ∧ w'.cell? ⟨w.heap.size, 3, none⟩ = some (.int .i64 a.x3) ∧ w'.cell? ⟨w.heap.size, 4, none⟩ = some (.int .i64 a.h))
    (first | (with_reducible exact hS5) | (first | (with_reducible assumption) | (with_reducible exact st_drew hS0) | (with_reducible exact st_drew (st_alloc hS0 _)) | (with_reducible exact st_alloc (st_drew hS0) _) | (with_reducible refine st_drew ?_; with_reducible assumption) | (with_reducible refine st_alloc ?_ _; with_reducible assumption) | (with_reducible refine st_re (by with_reducible assumption) ?_ _; (focus first | (with_reducible assumption) | omega | (simp; done) | (simp; omega))) | (with_reducible refine st_below ?_ ?_ h1; (focus first | (with_reducible assumption) | (with_reducible refine st_undrew ?_; with_reducible assumption)); (focus first | (with_reducible assumption) | omega | (simp; done) | (simp; omega))) | ((repeat (with_reducible refine st_set ?_ _ _ ?_; rotate_left 1; (focus first | (with_reducible assumption) | omega | (simp; done) | (simp; omega)))); with_reducible assumption)))
    (first | (go_at_call 97; (refine Calls.mono (RP.out _ _ (by simp) (by simp [go_sem])) ?_); rintro e wA ⟨g, rfl, hgA, hcA, _, hge, h1⟩; (try with_reducible replace h1 := undrew h1); have hB : Below W.heap.size W wA := ba (by go_grown) h1; have hqA := h1.size; (try simp at hqA)) | (go_at_call 96; (refine Calls.mono (P.out _ _ hgA hcA) ?_); rintro e w5 hpost; have hS5 := st_below hS0 hq0 (hB.trans (hpost.choose_spec.choose_spec.2.2.mono hB.size)); have hPP := PS.out e wA w5 (by omega) (hBW.out.trans (hB.mono (by omega))) hpost; obtain ⟨g5, c5, rfl, hO5, hb5⟩ := hPP))
  all_goals go_wp2_with fail
  all_goals go_ret
  all_goals exact ⟨g5, c5, rfl, hO5, hb5⟩

end Go.Proofs.Ythiimllafcfieaa
