/- Contract: the program's reading of one run. -/
import Derived.Test.YtamojnbhnbeecabDoorPrM
import Derived.Test.YtamojnbhnbeecabDoorRuD
import Derived.Test.YtamojnbhnbeecabDoorRp2
import Derived.Lib.SmallJoins
import Derived.Shelf.Strconv.ErrVarAll
namespace Go.Proofs.YtamojnbhnbeecabDoor
open Go.ChangeShapes Go.WideShapes Go.ChangeAt Go.RowKit

set_option linter.unusedVariables false

theorem ret_ur {c : UInt8} {ds : List UInt8} {x : ByteArray} {b : Bool} (hb : urB c ds = b) (hs : urS c ds = x) : Ending.returned (.tuple #[.string x, .bool b]) = Ending.returned (.tuple #[.string (urS c ds), .bool (urB c ds)]) := by rw [hb, hs]

theorem atoi_ok (D : ByteArray) (hd : D.size ≤ 1048576) (v : Int) (h : Lib.atoiAll D.data.toList = .ok v) (w : World) :
    Calls Tryd.prog 38 #[.string D] w fun e w' => e = .returned (.tuple #[.int .i64 v, .nilIface]) ∧ Below w.heap.size w w' :=
  (Tryd.strconv_Atoi_ok D (by omega) v h w).mono fun e w' ⟨he, hw⟩ => ⟨he, by
    rcases hw with rfl | ⟨t, rfl⟩
    · exact Below.refl _ _
    · exact Lib.bytesWorld_below _ _ _⟩

/-- strconv.Atoi where it fails: an error that is not nil. -/
theorem atoi_no {w0 : World} {tp1 tp2 : TypeId} {p1 p2 : Value} (hv1 : w0.var? Tryd.prog "strconv.ErrSyntax" = some #[.iface tp1 p1]) (hv2 : w0.var? Tryd.prog "strconv.ErrRange" = some #[.iface tp2 p2])
    (D : ByteArray) (hd : D.size ≤ 1048576) (h : ∀ v, Lib.atoiAll D.data.toList ≠ .ok v) (w : World) (hb : Below w0.heap.size w0 w) :
    Calls Tryd.prog 38 #[.string D] w fun e w' => (∃ (n : Int) (t : TypeId) (N : Nat), e = .returned (.tuple #[.int .i64 n, .iface t (.pointer (some ⟨N, 0, none⟩))])) ∧ Below w.heap.size w w' := by
  cases hA : Lib.atoiAll D.data.toList
  · rename_i v
    exact absurd hA (h v)
  · exact (Any.strconv_Atoi_syntax_var Tryd.laysC172 D (by omega) hA tp1 p1 w (Go.Joins.var_stays (g := 4) (by kernel_rfl) hv1 hb (Nat.le_refl _))).mono fun e w' ⟨N, he, _, _, hB⟩ => ⟨⟨_, _, N, he⟩, hB⟩
  · exact (Tryd.strconv_Atoi_range_var D (by omega) hA tp2 p2 w (Go.Joins.var_stays (g := 5) (by kernel_rfl) hv2 hb (Nat.le_refl _))).mono fun e w' ⟨N, he, _, _, hB⟩ => ⟨⟨_, _, N, he⟩, hB⟩

set_option maxRecDepth 100000 in
set_option maxHeartbeats 1600000 in
theorem urun_any {w0 : World} {tp1 tp2 : TypeId} {p1 p2 : Value} (hv1 : w0.var? Tryd.prog "strconv.ErrSyntax" = some #[.iface tp1 p1]) (hv2 : w0.var? Tryd.prog "strconv.ErrRange" = some #[.iface tp2 p2])
    (c : UInt8) (D : ByteArray) (hd : D.size ≤ 1048576) (w : World) (hb : Below w0.heap.size w0 w) :
    Calls Tryd.prog 27 #[.string (oneC c), .string D] w fun e w' => e = .returned (.tuple #[.string (urS c D.data.toList), .bool (urB c D.data.toList)]) ∧ Below w.heap.size w w' := by
  have z1 : (oneC c).size ≤ 1048576 := by show 1 ≤ 1048576; omega
  by_cases hz : D.data.toList = []
  · have hE : D.toList.isEmpty = true := by rw [Lib.toList_data, hz]; rfl
    have R1 := Lib.hid (show urB c D.data.toList = rpB (oneC c) 1 by rw [hz]; rfl)
    have R2 := Lib.hid (show urS c D.data.toList = rpS (oneC c) 1 by rw [hz]; rfl)
    clear hv1 hv2 hb
    go_enter Tryd.func27, Tryd.ntmps27
    go_wp2_with (go_at_call 37; (with_reducible refine (imRepeatTrack _ _ z1 _).mono ?_); rintro e wA ⟨rfl, h1⟩; (try with_reducible replace h1 := undrew h1); have hB : Below w.heap.size w wA := ba (by go_grown) h1; obtain ⟨hcwA, hfwA⟩ := bcell h1; have hqwA := h1.size; (try simp at hqwA); (try have hz0wA : w.heap.size < wA.heap.size := (by omega)); (try have he0wA : w.heap.size ≤ wA.heap.size := (by omega)))
    go_ret2
    exact ⟨ret_ur R1.out R2.out, by go_grown⟩
  · have hE : D.toList.isEmpty = false := by rw [Lib.toList_data]; exact List.isEmpty_eq_false_iff.2 hz
    by_cases hA : ∃ v, Lib.atoiAll D.data.toList = .ok v
    · obtain ⟨v, hA⟩ := hA
      have R1 := Lib.hid (show urB c D.data.toList = rpB (oneC c) v by simp only [urB, rlen, if_neg hz, hA]; rfl)
      have R2 := Lib.hid (show urS c D.data.toList = rpS (oneC c) v by simp only [urS, rlen, if_neg hz, hA]; rfl)
      have NA := Lib.hid (atoi_ok D hd v hA)
      clear hv1 hv2 hb hA
      go_enter Tryd.func27, Tryd.ntmps27
      go_wp2_with (first | (go_at_call 38; (with_reducible refine (NA.out _).mono ?_); rintro e wA ⟨rfl, h1⟩; (try with_reducible replace h1 := undrew h1); have hB : Below w.heap.size w wA := ba (by go_grown) h1; obtain ⟨hcwA, hfwA⟩ := bcell h1; have hqwA := h1.size; (try simp at hqwA); (try have hz0wA : w.heap.size < wA.heap.size := (by omega)); (try have he0wA : w.heap.size ≤ wA.heap.size := (by omega))) | (go_at_call 37; (with_reducible refine (imRepeatTrack _ _ z1 _).mono ?_); rintro e wB ⟨rfl, h1⟩; (try with_reducible replace h1 := undrew h1); have hB : Below w.heap.size w wB := ba (by go_grown) h1; obtain ⟨hcwB, hfwB⟩ := bcell h1; have hqwB := h1.size; (try simp at hqwB); (try have hz0wB : w.heap.size < wB.heap.size := (by omega)); (try have he0wB : w.heap.size ≤ wB.heap.size := (by omega))))
      go_ret2
      exact ⟨ret_ur R1.out R2.out, by go_grown⟩
    · have hno : ∀ v, Lib.atoiAll D.data.toList ≠ .ok v := fun v h => hA ⟨v, h⟩
      have R0 : rlen D.data.toList = none := by
        rw [rlen, if_neg hz]
        cases h : Lib.atoiAll D.data.toList
        · rename_i v
          exact absurd h (hno v)
        · rfl
        · rfl
      have R1 := Lib.hid (show urB c D.data.toList = false by simp only [urB, R0])
      have R2 := Lib.hid (show urS c D.data.toList = ⟨#[]⟩ by simp only [urS, R0])
      have NA := Lib.hid (atoi_no hv1 hv2 D hd hno w hb)
      clear hv1 hv2 hb hA hno R0
      go_enter Tryd.func27, Tryd.ntmps27
      go_wp2_with (go_at_call 38; refine (NA.out).mono ?_; rintro e wA ⟨⟨n, t, N, rfl⟩, h1⟩; have HBA := Lib.hid h1; clear h1)
      go_ret2
      exact ⟨ret_ur R1.out R2.out, HBA.out⟩

end Go.Proofs.YtamojnbhnbeecabDoor
