/- Contracts: how many pieces begin with each heading. -/
import Derived.Test.YtpaimngepmfemabHd
import Derived.Test.YtpaimngepmfemabCl
namespace Go.Proofs.Ytpaimngepmfemab
open Go.ChangeShapes Go.WideShapes Go.ChangeAt Go.RowKit

set_option linter.unusedVariables false

/-- How often each of the numbers 0, .., 7 is in a list. -/
def cntsL (hs : List Int) : List Int := (List.range 8).map fun (j : Nat) => ((hs.filter (fun x => x == (j : Int))).length : Int)
theorem cntsL_length (hs : List Int) : (cntsL hs).length = 8 := by simp [cntsL]
theorem cntsL_at (hs : List Int) (j : Nat) (hj : j < 8) : (cntsL hs)[j]? = some ((hs.filter (fun x => x == (j : Int))).length : Int) := by simp [cntsL, hj]
theorem cntsL_snoc (hs : List Int) (x : Nat) (hx : x < 8) : cntsL (hs ++ [(x : Int)]) = (cntsL hs).set x (((hs.filter (fun y => y == (x : Int))).length : Int) + 1) := by
  apply List.ext_getElem
  · simp [cntsL]
  · intro i h1 h2
    simp only [cntsL, List.getElem_map, List.getElem_range, List.filter_append, List.length_append, List.getElem_set]
    by_cases e : x = i
    · subst e; simp
    · have : ((x : Int) == (i : Int)) = false := by simp; omega
      simp [e, this]
theorem cntsL_le (hs : List Int) (j : Nat) : (hs.filter (fun x => x == (j : Int))).length ≤ hs.length := List.length_filter_le _ _

def hcNums (s : ByteArray) : List Int := cntsL ((hdNums s).take s.size)
theorem HeadingCounts_len (s : ByteArray) : (hcNums s).length = 8 := cntsL_length _
theorem HeadingCounts_bd (s : ByteArray) (ht : tkB s = true) : 8 ≤ 1000000 := by decide

theorem spHeadingCounts_no (s : ByteArray) (hs : s.size ≤ 1048576) (ht : tkB s = false) (w : World) :
    Calls Try.prog 28 #[.string s] w fun e w' => e = .returned (.tuple #[.slice none 0 0, .bool false]) ∧ w = w' := by
  go_enter Try.func28, Try.ntmps28
  go_wp2_with (go_at_call 39; refine (tkGood_any s hs _).mono ?_; rintro e w' ⟨rfl, rfl⟩)
  go_ret2
  exact ⟨rfl, rfl⟩
theorem imHeadingCounts_no (s : ByteArray) (hs : s.size ≤ 1048576) (ht : tkB s = false) (w : World) :
    Calls Try.prog 29 #[.string s] w fun e w' => e = .returned (.tuple #[.slice none 0 0, .bool false]) ∧ w = w' := by
  go_enter Try.func29, Try.ntmps29
  go_wp2_with (go_at_call 18; refine (imHeadingsOf_no s hs ht _).mono ?_; rintro e w' ⟨rfl, rfl⟩)
  go_ret2
  exact ⟨rfl, rfl⟩

theorem hd_range {s : ByteArray} (ht : tkB s = true) {x : Int} (hx : x ∈ hdNums s) : 0 ≤ x ∧ x ≤ 7 := by
  simp only [hdNums, List.mem_map] at hx
  obtain ⟨p, hp, rfl⟩ := hx
  have : ∀ (l : List UInt8) (a : Sp), (0 ≤ a.h ∧ a.h ≤ 7) → ∀ p ∈ lays a l, 0 ≤ p.h ∧ p.h ≤ 7 := by
    intro l
    induction l with
    | nil => intro a ha p hp; simp [lays] at hp; subst hp; exact ha
    | cons c l ih =>
      intro a ha p hp
      simp only [lays, List.mem_cons] at hp
      rcases hp with rfl | hp
      · exact ha
      · exact ih (a.next c) (nh_bd c a.h ha.1 ha.2) p hp
  exact this _ _ (by decide) p hp

theorem mk8 (w : World) : (Instr.makeSlice 28 (.int .i64 8) (.int .i64 8)).run Try.prog w = .ok (.slice (some ⟨w.heap.size, 0, none⟩) 8 8) (w.alloc (.cells #[.int .i64 0, .int .i64 0, .int .i64 0, .int .i64 0, .int .i64 0, .int .i64 0, .int .i64 0, .int .i64 0] 3)) := by kernel_rfl

theorem own_new8 (W : World) (B : Nat) (hB : B ≤ W.heap.size) : (W.alloc (.cells #[.int .i64 0, .int .i64 0, .int .i64 0, .int .i64 0, .int .i64 0, .int .i64 0, .int .i64 0, .int .i64 0] 3)).ownsRow B 3 1 (.slice (some ⟨W.heap.size, 0, none⟩) 8 8) 8 ((cntsL []).map (Value.int .i64)) :=
  World.ownsRow_lit W _ 8 hB (by decide) rfl

set_option maxRecDepth 100000 in
set_option maxHeartbeats 1600000 in
theorem spHeadingCounts_num (s : ByteArray) (ht : tkB s = true) (w : World) :
    Calls Try.prog 28 #[.string s] w (NumPost (hcNums s) 8 w) := by
  have h40 := tkB_size ht
  have hs : s.size ≤ 1048576 := by omega
  have hR := fun x => @hd_range s ht x
  have hlen := HeadingsOf_len s
  have hq := tkHeadings_yes s ht
  have hmk := mk8
  go_enter Try.func28, Try.ntmps28
  go_wp2_with (go_at_call 39; refine (tkGood_any s hs _).mono ?_; rintro e w' ⟨rfl, rfl⟩)
  refine (hq _).mono ?_
  rintro e w1 ⟨g, cap, rfl, hO, hb1⟩
  simp only [id]
  rw [hdNums_cells] at hO
  have hRow := rowI_of hO hlen
  have hg1 := (hO.lt g rfl).2
  have hg0 := (hO.lt g rfl).1
  simp at hg0
  have hcp := own_capN hO
  unfold maxLen at hcp
  obtain ⟨hcp1, hcp2⟩ := hcp
  have hz := hb1.size
  simp at hz
  have HC0 := Lib.hid (own_below (own_new8 w w.heap.size (Nat.le_refl _)) hb1)
  have HB0 := Lib.hid (ba (by go_grown) hb1 : Below w.heap.size w w1)
  have HR := Lib.hid hR
  have HLEN := Lib.hid hlen
  have HROW := Lib.hid hRow
  have HREF := Lib.hid (show hcNums s = cntsL ((hdNums s).take s.size) from rfl)
  generalize hdNums s = hs0 at HR HLEN HROW HREF
  clear hq hR hlen hRow hb1 hO
  go_wp2_with fail
  go_loopw [17] (fun i wr => ∃ k : Nat, k ≤ s.size ∧ i = .int .i64 k ∧ wr.ownsRow w.heap.size 3 1 (.slice (some ⟨w.heap.size, 0, none⟩) 8 8) 8 ((cntsL (hs0.take k)).map (Value.int .i64)) ∧ RowI wr g hs0 ∧ Below w.heap.size w wr) (fun i _ => s.size - (intOf i).toNat)
  case atStart => exact ⟨0, Nat.zero_le _, rfl, HC0.out, HROW.out, HB0.out⟩
  case round =>
    obtain ⟨k, hk, rfl, hC, hRw, hB⟩ := hrel
    have HC := Lib.hid hC
    have HRW := Lib.hid hRw
    have HB := Lib.hid hB
    by_cases hlt : k < s.size
    · obtain ⟨x, hx⟩ : ∃ x, hs0[k]? = some x := ⟨_, List.getElem?_eq_getElem (by rw [HLEN.out]; omega)⟩
      obtain ⟨hx0, hx7⟩ := HR.out x (List.mem_of_getElem? hx)
      obtain ⟨xn, rfl⟩ : ∃ xn : Nat, x = xn := ⟨x.toNat, by omega⟩
      have hx8 : xn < 8 := by omega
      have c0 := hRw k _ hx
      have d0 := hC.cellAt xn (by omega)
      have f0 := hC.frozenAt xn
      rw [List.getElem?_map, cntsL_at _ _ hx8] at d0
      have hcle := cntsL_le (hs0.take k) xn
      have htk : (hs0.take k).length ≤ k := List.length_take_le _ _
      have HS := Lib.hid (cntsL_snoc (hs0.take k) xn hx8)
      have HT := Lib.hid (show hs0.take (k + 1) = hs0.take k ++ [(xn : Int)] by
        obtain ⟨h1, h2⟩ := List.getElem?_eq_some_iff.1 hx
        rw [List.take_succ_eq_append_getElem h1, h2])
      simp only [Option.map_some] at d0
      generalize ((hs0.take k).filter (fun y => y == (xn : Int))).length = cn at d0 hcle HS
      clear hx hC hRw hB hx0 hx7
      go_wp2_with fail
      go_roundw
      case rel =>
        refine ⟨k + 1, by omega, by go_num, ?_, fun j y hy => ?_, HB.out.setCell (Nat.le_refl _) _⟩
        · rw [HT.out, HS.out, List.map_set]
          exact (HC.out.stored xn _).1
        · rw [World.cell?_setCell_other (h := fun h => absurd (by injection h) (show ¬ w.heap.size = g by omega))]
          exact HRW.out j y hy
      case measure => simp [intOf]; omega
    · obtain rfl : k = s.size := by omega
      clear hC hRw hB
      go_wp2_with fail
      go_ret2
      exact ⟨_, 8, rfl, by rw [HREF.out]; exact HC.out, HB.out⟩

set_option maxRecDepth 100000 in
set_option maxHeartbeats 1600000 in
theorem imHeadingCounts_num (s : ByteArray) (ht : tkB s = true) (w : World) :
    Calls Try.prog 29 #[.string s] w (NumPost (hcNums s) 8 w) := by
  have h40 := tkB_size ht
  have hs : s.size ≤ 1048576 := by omega
  have hR := fun x => @hd_range s ht x
  have hlen := HeadingsOf_len s
  have hq := imHeadingsOf_num s ht
  have hmk := mk8
  go_enter Try.func29, Try.ntmps29
  go_wp2_with fail
  refine (hq _).mono ?_
  rintro e w1 ⟨g, cap, rfl, hO, hb1⟩
  have hRow := rowI_of hO hlen
  have hg1 := (hO.lt g rfl).2
  have hg0 := (hO.lt g rfl).1
  have hcp := own_capN hO
  unfold maxLen at hcp
  obtain ⟨hcp1, hcp2⟩ := hcp
  have hz := hb1.size
  have HC0 := Lib.hid (own_new8 w1 w.heap.size hz)
  have HB0 := Lib.hid (hb1.alloc hz (.cells #[.int .i64 0, .int .i64 0, .int .i64 0, .int .i64 0, .int .i64 0, .int .i64 0, .int .i64 0, .int .i64 0] 3))
  have HR := Lib.hid hR
  have HLEN := Lib.hid hlen
  have HROW := Lib.hid (show RowI (w1.alloc (.cells #[.int .i64 0, .int .i64 0, .int .i64 0, .int .i64 0, .int .i64 0, .int .i64 0, .int .i64 0, .int .i64 0] 3)) g (hdNums s) from fun j x hx => cl_alloc (hRow j x hx) _)
  have HREF := Lib.hid (show hcNums s = cntsL ((hdNums s).take s.size) from rfl)
  generalize hdNums s = hs0 at HR HLEN HROW HREF
  clear hq hR hlen hRow hb1 hO
  go_wp2_with fail
  go_loopw [22] (fun i wr => ∃ k : Nat, k ≤ s.size ∧ i = .int .i64 k ∧ wr.ownsRow w.heap.size 3 1 (.slice (some ⟨w1.heap.size, 0, none⟩) 8 8) 8 ((cntsL (hs0.take k)).map (Value.int .i64)) ∧ RowI wr g hs0 ∧ Below w.heap.size w wr) (fun i _ => s.size - (intOf i).toNat)
  case atStart => exact ⟨0, Nat.zero_le _, rfl, HC0.out, HROW.out, HB0.out⟩
  case round =>
    obtain ⟨k, hk, rfl, hC, hRw, hB⟩ := hrel
    have HC := Lib.hid hC
    have HRW := Lib.hid hRw
    have HB := Lib.hid hB
    by_cases hlt : k < s.size
    · obtain ⟨x, hx⟩ : ∃ x, hs0[k]? = some x := ⟨_, List.getElem?_eq_getElem (by rw [HLEN.out]; omega)⟩
      obtain ⟨hx0, hx7⟩ := HR.out x (List.mem_of_getElem? hx)
      obtain ⟨xn, rfl⟩ : ∃ xn : Nat, x = xn := ⟨x.toNat, by omega⟩
      have hx8 : xn < 8 := by omega
      have c0 := hRw k _ hx
      have d0 := hC.cellAt xn (by omega)
      have f0 := hC.frozenAt xn
      rw [List.getElem?_map, cntsL_at _ _ hx8] at d0
      have hcle := cntsL_le (hs0.take k) xn
      have htk : (hs0.take k).length ≤ k := List.length_take_le _ _
      have HS := Lib.hid (cntsL_snoc (hs0.take k) xn hx8)
      have HT := Lib.hid (show hs0.take (k + 1) = hs0.take k ++ [(xn : Int)] by
        obtain ⟨h1, h2⟩ := List.getElem?_eq_some_iff.1 hx
        rw [List.take_succ_eq_append_getElem h1, h2])
      simp only [Option.map_some] at d0
      generalize ((hs0.take k).filter (fun y => y == (xn : Int))).length = cn at d0 hcle HS
      clear hx hC hRw hB hx0 hx7
      go_wp2_with fail
      go_roundw
      case rel =>
        refine ⟨k + 1, by omega, by go_num, ?_, fun j y hy => ?_, HB.out.setCell hz _⟩
        · rw [HT.out, HS.out, List.map_set]
          exact (HC.out.stored xn _).1
        · rw [World.cell?_setCell_other (h := fun h => absurd (by injection h) (show ¬ w1.heap.size = g by omega))]
          exact HRW.out j y hy
      case measure => simp [intOf]; omega
    · obtain rfl : k = s.size := by omega
      clear hC hRw hB
      go_wp2_with fail
      go_ret2
      exact ⟨_, 8, rfl, by rw [HREF.out]; exact HC.out, HB.out⟩

end Go.Proofs.Ytpaimngepmfemab
