/- Contracts: the joints and the headings of a track, in the model and in the program. -/
import Derived.Test.YtppbbcckijcckaaSe
namespace Go.Proofs.Ytppbbcckijcckaa
open Go.ChangeShapes Go.WideShapes Go.ChangeAt Go.RowKit

set_option linter.unusedVariables false

/-- What a list of joints is, behind a call. -/
def JtPost (s : ByteArray) (res : Value → Value) (w : World) (e : Ending) (w' : World) : Prop :=
  ∃ g cap, e = .returned (res (.slice (some ⟨g, 0, none⟩) (s.size + 1) cap)) ∧ w'.ownsRow w.heap.size 26 4 (.slice (some ⟨g, 0, none⟩) (s.size + 1) cap) (s.size + 1) (ptCells (lays sp0 s.data.toList)) ∧ Below w.heap.size w w'

def HdPost (s : ByteArray) (res : Value → Value) (w : World) (e : Ending) (w' : World) : Prop :=
  ∃ g cap, e = .returned (res (.slice (some ⟨g, 0, none⟩) (s.size + 1) cap)) ∧ w'.ownsRow w.heap.size 3 1 (.slice (some ⟨g, 0, none⟩) (s.size + 1) cap) (s.size + 1) (hdCells (lays sp0 s.data.toList)) ∧ Below w.heap.size w w'

theorem own_less {W : World} {B B' : Nat} {e : TypeId} {size n : Nat} {v : Value} {xs : List Value} (h : W.ownsRow B e size v n xs) (hB : B' ≤ B) : W.ownsRow B' e size v n xs := by
  refine ⟨h.1, ?_⟩
  rcases h.2 with h2 | ⟨g, cap, cur, h1, h2, h3⟩
  · exact .inl h2
  · exact .inr ⟨g, cap, cur, h1, by omega, h3⟩

theorem tkJoints_yes (s : ByteArray) (ht : tkB s = true) (w : World) :
    Calls Try.prog 63 #[.string s] w (JtPost s id w) := by
  have hc := tkLay_any s ht sp0 (sp0_ok.mono (by decide))
  have HC := Lib.hid hc
  clear hc
  go_enter Try.func63, Try.ntmps63
  go_wp2_with fail
  refine (HC.out _).mono ?_
  rintro e w1 ⟨gj, cj, gh, ch, rfl, hJ, hH, hb1⟩
  have HJ := Lib.hid (own_less hJ (Nat.le_succ _))
  have HB := Lib.hid hb1
  clear hJ hH hb1
  go_wp2_with fail
  go_ret
  exact ⟨gj, cj, rfl, HJ.out, HB.out⟩

theorem imJointsOf_no (s : ByteArray) (hs : s.size ≤ 1048576) (ht : tkB s = false) (w : World) :
    Calls Try.prog 103 #[.string s] w fun e w' => e = .returned (.tuple #[.slice none 0 0, .bool false]) ∧ w = w' := by
  go_enter Try.func103, Try.ntmps103
  go_wp2_with (go_at_call 135; refine (stepsOf_no s hs ht _).mono ?_; rintro e w' ⟨rfl, rfl⟩)
  go_ret2
  exact ⟨rfl, rfl⟩

def okT (v : Value) : Value := .tuple #[v, .bool true]

theorem take_at {l : List Sp} {k : Nat} {p : Sp} (h : l[k]? = some p) : l.take (k + 1) = l.take k ++ [p] := by
  obtain ⟨hk, rfl⟩ := List.getElem?_eq_some_iff.1 h
  rw [List.take_succ_eq_append_getElem hk]

set_option maxRecDepth 100000 in
set_option maxHeartbeats 1600000 in
theorem imJointsOf_yes (s : ByteArray) (ht : tkB s = true) (w : World) :
    Calls Try.prog 103 #[.string s] w (JtPost s okT w) := by
  have h40 := tkB_size ht
  have HL := Lib.hid (lays_lenA sp0 s)
  obtain ⟨i0, hi, iz0, iz1, iz2⟩ := info_parts ptInfo
  go_enter Try.func103, Try.ntmps103
  go_wp2_with fail
  refine (stepsOf_yes s ht _).mono ?_
  rintro e w1 ⟨gs, cs, rfl, hO, hb1⟩
  have HO := Lib.hid hO
  have HB := Lib.hid hb1
  have hz1 := hb1.size
  generalize hlst : lays sp0 s.data.toList = l at HL HO
  have HLST := Lib.hid hlst
  clear hO hb1 hlst
  go_wp2_with fail
  go_loopw [6, 18] (fun t i wr => ∃ (k : Nat) (v : Value), k ≤ s.size + 1 ∧ i = .int .i64 k ∧ t = v ∧ wr.ownsRow w.heap.size 26 4 v k (ptCells (l.take k)) ∧ wr.ownsRow w.heap.size 108 5 (.slice (some ⟨gs, 0, none⟩) (s.size + 1) cs) (s.size + 1) (spCells l) ∧ Below w.heap.size w wr) (fun _ i _ => s.size + 1 - (intOf i).toNat)
  case atStart => exact ⟨0, _, Nat.zero_le _, rfl, rfl, World.ownsRow_nil _ _ _ _, HO.out, HB.out⟩
  case round =>
    obtain ⟨k, v, hk, rfl, rfl, hJ, hO, hb⟩ := hrel
    have hz : w.heap.size ≤ wr.heap.size := hb.size
    by_cases hlt : k < s.size + 1
    · obtain ⟨p, hp⟩ : ∃ p, l[k]? = some p := ⟨_, List.getElem?_eq_getElem (by rw [HL.out]; exact hlt)⟩
      obtain ⟨c0, c1, c2, c3, c4⟩ := own_sp hO HL.out hp
      have HT := Lib.hid (take_at hp)
      obtain ⟨x0, x1, x2, x3, h⟩ := p
      have HJ := Lib.hid hJ
      have HO1 := Lib.hid hO
      have HB1 := Lib.hid hb
      clear hp hJ hO hb
      go_wp2_with (at_builtin; refine wpList_append_own _ rfl _ _ 47 rfl w.heap.size 26 i0 (.agg #[.int .i64 0, .int .i64 0, .int .i64 0, .int .i64 0]) 4 32 Try.underlying47 hi iz0 iz1 iz2 rfl (by decide) _ _ _ rfl ((HJ.out.alloc _).alloc _) ⟨wr.heap.size + 1, 0, none⟩ 1 1 [.int .i64 x0, .int .i64 x1, .int .i64 x2, .int .i64 x3] rfl rfl (newc (by simp)) (by intro u hu; simp at hu; rcases hu with rfl | rfl | rfl | rfl <;> rfl) (by unfold maxLen; omega) (by omega) (by simp; omega) ?_)
      intro v' w3 hJ3 hg3 _
      have HJA := Lib.hid ((HJ.out.alloc (.cells #[.int .i64 x0, .int .i64 x1, .int .i64 x2, .int .i64 x3, .int .i64 h] 108)).alloc (.cells #[.int .i64 x0, .int .i64 x1, .int .i64 x2, .int .i64 x3] 26))
      have HOA := Lib.hid ((HO1.out.alloc (.cells #[.int .i64 x0, .int .i64 x1, .int .i64 x2, .int .i64 x3, .int .i64 h] 108)).alloc (.cells #[.int .i64 x0, .int .i64 x1, .int .i64 x2, .int .i64 x3] 26))
      have HO3 := Lib.hid (HOA.out.kept hg3 (own_ne HOA.out HJA.out (by decide)))
      have HB3 := Lib.hid ((((HB1.out.alloc hz (.cells #[.int .i64 x0, .int .i64 x1, .int .i64 x2, .int .i64 x3, .int .i64 h] 108)).alloc (by simp; omega) (.cells #[.int .i64 x0, .int .i64 x1, .int .i64 x2, .int .i64 x3] 26)).grown hg3 (by simp; omega) (fun k hk => (HJA.out.lt k hk).1)))
      have HJ3 := Lib.hid hJ3
      clear hJ3 hg3 c0 c1 c2 c3 c4
      go_wp2_with fail
      go_roundw
      case rel => exact ⟨k + 1, v', by omega, by go_num, rfl, by rw [HT.out, ptCells_append]; exact HJ3.out, HO3.out, HB3.out⟩
      case measure => simp [intOf]; omega
    · obtain rfl : k = s.size + 1 := by omega
      have hE : l.take (s.size + 1) = l := List.take_of_length_le (by rw [HL.out]; omega)
      rw [hE] at hJ
      obtain ⟨g, cap, rfl, _⟩ := hJ.form (by omega)
      have HJ := Lib.hid hJ
      have HB1 := Lib.hid hb
      clear hJ hO hb hE
      go_wp2_with fail
      go_ret2
      exact ⟨g, cap, rfl, by rw [HLST.out]; exact HJ.out, HB1.out⟩

end Go.Proofs.Ytppbbcckijcckaa
