/- Contracts and facts, put together (part 2). Conditions: each says its own. -/
import Derived.Test.YtppbbcckijcckaaS1
import Derived.Test.YtppbbcckijcckaaShelf
import Derived.Deep.QuietTactic
import Derived.BigQuiet

/- Contracts: how often a piece is in a track, in the model and in Go's library. -/
namespace Go.Proofs.Ytppbbcckijcckaa
open Go.ChangeShapes Go.WideShapes Go.ChangeAt Go.RowKit

theorem ext_toList (s : ByteArray) (k : Nat) (h : k < s.size) : (s.extract k (k + 1)).toList = [s[k]] := by
  rw [ext_one s k h, ByteArray.toList_eq]

set_option maxRecDepth 100000 in
theorem tkCount_any (s : ByteArray) (c : UInt8) (hs : s.size ≤ 40) (w : World) :
    Calls Try.prog 120 #[.string s, .string ⟨#[c]⟩] w fun e w' => e = .returned (.int .i64 (cnt c s.data.toList : Nat)) ∧ w = w' := by
  go_enter Try.func120, Try.ntmps120
  go_wp2_with fail
  go_loop [5, 6] (fun n i => ∃ k : Nat, k ≤ s.size ∧ i = .int .i64 k ∧ n = .int .i64 (cnt c (s.data.toList.take k) : Nat)) (fun _ i => s.size - (intOf i).toNat)
  case atStart => exact ⟨0, Nat.zero_le _, rfl, rfl⟩
  case round =>
    obtain ⟨k, hk, rfl, rfl⟩ := hrel
    have hle := cnt_le c (s.data.toList.take k)
    have hl : (s.data.toList.take k).length ≤ k := List.length_take_le _ _
    by_cases hlt : k < s.size
    · have hx : (s.extract k (k + 1)).toList = [s[k]] := ext_toList s k hlt
      go_wp2_with fail
      · have h : (s[k] == c) = true := by assumption
        go_round
        case rel => exact ⟨k + 1, by omega, by go_num, by rw [take_snoc s k hlt, cnt_snoc, if_pos h]; go_num⟩
        case measure => simp [intOf]; omega
      · have h : (s[k] == c) = false := by assumption
        go_round
        case rel => exact ⟨k + 1, by omega, by go_num, by rw [take_snoc s k hlt, cnt_snoc, if_neg (by simp [h])]; rfl⟩
        case measure => simp [intOf]; omega
    · go_wp2_with fail
      go_ret
      exact ⟨by rw [take_all s hlt]; rfl, rfl⟩

theorem count_any (s : ByteArray) (c : UInt8) (w : World) :
    Calls Try.prog 121 #[.string s, .string ⟨#[c]⟩] w fun e w' => e = .returned (.int .i64 (cnt c s.data.toList : Nat)) ∧ w = w' :=
  (Try.strings_Count_one s c w).mono fun _ _ h => ⟨h.1, h.2.symm⟩

def tuR (s : ByteArray) : Int := cond (tkB s) ((cnt 76 s.data.toList : Int) - (cnt 82 s.data.toList : Int)) 0

set_option maxRecDepth 100000 in
theorem imTurnOfTrack (s : ByteArray) (hs : s.size ≤ 1048576) (w : World) :
    Calls Try.prog 70 #[.string s] w fun e w' => e = .returned (.tuple #[.int .i64 (tuR s), .bool (tkB s)]) ∧ Below w.heap.size w w' := by
  cases hb : tkB s
  · go_enter Try.func70, Try.ntmps70
    go_wp2_with (go_at_call 80; refine (imIsTrack_any s hs _).mono ?_; rintro e w' ⟨rfl, rfl⟩)
    go_ret2
    exact ⟨by simp [tuR, hb], Below.refl _ _⟩
  · have h40 := tkB_size hb
    have n1 := cnt_le 76 s.data.toList
    have n2 := cnt_le 82 s.data.toList
    have hl := size_list s
    go_enter Try.func70, Try.ntmps70
    go_wp2_with (first | (go_at_call 80; refine (imIsTrack_any s hs _).mono ?_; rintro e w' ⟨rfl, rfl⟩) | (go_at_call 121; refine (count_any s _ _).mono ?_; rintro e w' ⟨rfl, rfl⟩))
    go_ret2
    exact ⟨by simp [tuR, hb], Below.refl _ _⟩

theorem one_size {s : ByteArray} (h : s.size = 1) : ∃ c, s = ⟨#[c]⟩ := by
  obtain ⟨⟨d⟩⟩ := s
  match d, h with
  | [c], _ => exact ⟨c, rfl⟩

/-- A text is a piece. -/
def pcS (p : ByteArray) : Bool := p.toList == [83] || (p.toList == [76] || p.toList == [82])

def cpR (s p : ByteArray) : Int := cond (tkB s && pcS p) (cnt (p.toList.headD 0) s.data.toList : Int) 0

theorem pcS_one (c : UInt8) : pcS ⟨#[c]⟩ = pcb c := by
  simp [pcS, pcb, ByteArray.toList_eq]

theorem pcS_size {p : ByteArray} (h : pcS p = true) : ∃ c, p = ⟨#[c]⟩ ∧ pcb c = true := by
  simp only [pcS, Bool.or_eq_true, beq_iff_eq, ByteArray.toList_eq] at h
  obtain ⟨⟨l⟩⟩ := p
  rcases h with h | h | h <;> (simp at h; subst h; exact ⟨_, rfl, by decide⟩)

theorem pcS_no {p : ByteArray} (h : pcS p = false) : (p.toList == [83]) = false ∧ (p.toList == [76]) = false ∧ (p.toList == [82]) = false := by
  simpa [pcS, Bool.or_eq_false_iff] using h

end Go.Proofs.Ytppbbcckijcckaa

/- Contracts: the winding of a closed track. -/
namespace Go.Proofs.Ytppbbcckijcckaa
open Go.ChangeShapes Go.WideShapes Go.ChangeAt Go.RowKit

def wiR (s : ByteArray) : Int := cond (clB s) ((tuR s).tdiv 8) 0

theorem ret_wi {s : ByteArray} {x : Int} {b : Bool} (hb : clB s = b) (hs : wiR s = x) : Ending.returned (.tuple #[.int .i64 x, .bool b]) = Ending.returned (.tuple #[.int .i64 (wiR s), .bool (clB s)]) := by rw [hb, hs]

set_option maxRecDepth 100000 in
theorem spWindingOf (s : ByteArray) (hs : s.size ≤ 1048576) (w : World) :
    Calls Try.prog 68 #[.string s] w fun e w' => e = .returned (.tuple #[.int .i64 (wiR s), .bool (clB s)]) ∧ Below w.heap.size w w' := by
  cases hb : clB s
  · have R := Lib.hid (show wiR s = 0 by simp [wiR, hb])
    have HB := Lib.hid hb
    have HC := Lib.hid (clGood_any s hs)
    rw [hb] at HC
    clear hb
    go_enter Try.func68, Try.ntmps68
    go_wp2_with (go_at_call 61; (with_reducible refine (HC.out _).mono ?_); rintro e wA ⟨rfl, h1⟩; (try with_reducible replace h1 := undrew h1); have hB : Below w.heap.size w wA := ba (by go_grown) h1; obtain ⟨hcwA, hfwA⟩ := bcell h1; have hqwA := h1.size; (try simp at hqwA); )
    go_ret2
    exact ⟨by rw [R.out]; rfl, by go_grown⟩
  · have ht := clB_tk hb
    have h40 := tkB_size ht
    have n1 := cnt_le 76 s.data.toList
    have n2 := cnt_le 82 s.data.toList
    have hl := size_list s
    have R := Lib.hid (show wiR s = ((cnt 76 s.data.toList : Int) - (cnt 82 s.data.toList : Int)).tdiv 8 by simp [wiR, hb, tuR, ht])
    have HC := Lib.hid (clGood_any s hs)
    rw [hb] at HC
    clear hb
    go_enter Try.func68, Try.ntmps68
    go_wp2_with (first | (go_at_call 61; (with_reducible refine (HC.out _).mono ?_); rintro e wA ⟨rfl, h1⟩; (try with_reducible replace h1 := undrew h1); have hB : Below w.heap.size w wA := ba (by go_grown) h1; obtain ⟨hcwA, hfwA⟩ := bcell h1; have hqwA := h1.size; (try simp at hqwA); ) | (go_at_call 120; refine (tkCount_any s _ h40 _).mono ?_; rintro e w' ⟨rfl, rfl⟩))
    go_ret2
    exact ⟨by rw [R.out]; try simp, by go_grown⟩

end Go.Proofs.Ytppbbcckijcckaa

/- Cells of two structs of two handed on. -/
namespace Go.Proofs.Ytppbbcckijcckaa
open Go.ChangeShapes Go.WideShapes Go.ChangeAt Go.RowKit

section
variable {B0 B1 : Nat} {v00 v01 v10 v11 : Value} {W w1 : World}
theorem yy_below (h : W.cell? ⟨B0, 0, none⟩ = some v00 ∧ W.cell? ⟨B0, 1, none⟩ = some v01 ∧ W.cell? ⟨B1, 0, none⟩ = some v10 ∧ W.cell? ⟨B1, 1, none⟩ = some v11) (h0 : B0 < W.heap.size) (h1 : B1 < W.heap.size) (hb : Below W.heap.size W w1) : w1.cell? ⟨B0, 0, none⟩ = some v00 ∧ w1.cell? ⟨B0, 1, none⟩ = some v01 ∧ w1.cell? ⟨B1, 0, none⟩ = some v10 ∧ w1.cell? ⟨B1, 1, none⟩ = some v11 :=
  let ⟨k0, k1, k2, k3⟩ := h
  ⟨cl_below k0 h0 hb, cl_below k1 h0 hb, cl_below k2 h1 hb, cl_below k3 h1 hb⟩

theorem yy_alloc (h : W.cell? ⟨B0, 0, none⟩ = some v00 ∧ W.cell? ⟨B0, 1, none⟩ = some v01 ∧ W.cell? ⟨B1, 0, none⟩ = some v10 ∧ W.cell? ⟨B1, 1, none⟩ = some v11) (o : Obj) : (W.alloc o).cell? ⟨B0, 0, none⟩ = some v00 ∧ (W.alloc o).cell? ⟨B0, 1, none⟩ = some v01 ∧ (W.alloc o).cell? ⟨B1, 0, none⟩ = some v10 ∧ (W.alloc o).cell? ⟨B1, 1, none⟩ = some v11 :=
  let ⟨k0, k1, k2, k3⟩ := h
  ⟨cl_alloc k0 o, cl_alloc k1 o, cl_alloc k2 o, cl_alloc k3 o⟩

theorem yy_re {o : Obj} (h : (W.alloc o).cell? ⟨B0, 0, none⟩ = some v00 ∧ (W.alloc o).cell? ⟨B0, 1, none⟩ = some v01 ∧ (W.alloc o).cell? ⟨B1, 0, none⟩ = some v10 ∧ (W.alloc o).cell? ⟨B1, 1, none⟩ = some v11) (h0 : B0 < W.heap.size) (h1 : B1 < W.heap.size) (o2 : Obj) : (W.alloc o2).cell? ⟨B0, 0, none⟩ = some v00 ∧ (W.alloc o2).cell? ⟨B0, 1, none⟩ = some v01 ∧ (W.alloc o2).cell? ⟨B1, 0, none⟩ = some v10 ∧ (W.alloc o2).cell? ⟨B1, 1, none⟩ = some v11 :=
  let ⟨k0, k1, k2, k3⟩ := h
  ⟨cl_re k0 h0 o2, cl_re k1 h0 o2, cl_re k2 h1 o2, cl_re k3 h1 o2⟩

theorem yy_drew (h : W.cell? ⟨B0, 0, none⟩ = some v00 ∧ W.cell? ⟨B0, 1, none⟩ = some v01 ∧ W.cell? ⟨B1, 0, none⟩ = some v10 ∧ W.cell? ⟨B1, 1, none⟩ = some v11) : W.drew.cell? ⟨B0, 0, none⟩ = some v00 ∧ W.drew.cell? ⟨B0, 1, none⟩ = some v01 ∧ W.drew.cell? ⟨B1, 0, none⟩ = some v10 ∧ W.drew.cell? ⟨B1, 1, none⟩ = some v11 := h

theorem yy_undrew (h : W.drew.cell? ⟨B0, 0, none⟩ = some v00 ∧ W.drew.cell? ⟨B0, 1, none⟩ = some v01 ∧ W.drew.cell? ⟨B1, 0, none⟩ = some v10 ∧ W.drew.cell? ⟨B1, 1, none⟩ = some v11) : W.cell? ⟨B0, 0, none⟩ = some v00 ∧ W.cell? ⟨B0, 1, none⟩ = some v01 ∧ W.cell? ⟨B1, 0, none⟩ = some v10 ∧ W.cell? ⟨B1, 1, none⟩ = some v11 := h

theorem yy_set (h : W.cell? ⟨B0, 0, none⟩ = some v00 ∧ W.cell? ⟨B0, 1, none⟩ = some v01 ∧ W.cell? ⟨B1, 0, none⟩ = some v10 ∧ W.cell? ⟨B1, 1, none⟩ = some v11) (p : Addr) (u : Value) (h0 : p.block ≠ B0) (h1 : p.block ≠ B1) : (W.setCell p u).cell? ⟨B0, 0, none⟩ = some v00 ∧ (W.setCell p u).cell? ⟨B0, 1, none⟩ = some v01 ∧ (W.setCell p u).cell? ⟨B1, 0, none⟩ = some v10 ∧ (W.setCell p u).cell? ⟨B1, 1, none⟩ = some v11 :=
  let ⟨k0, k1, k2, k3⟩ := h
  ⟨cl_set k0 p u h0, cl_set k1 p u h0, cl_set k2 p u h1, cl_set k3 p u h1⟩

theorem yy_far {row : Option Nat} (h : W.cell? ⟨B0, 0, none⟩ = some v00 ∧ W.cell? ⟨B0, 1, none⟩ = some v01 ∧ W.cell? ⟨B1, 0, none⟩ = some v10 ∧ W.cell? ⟨B1, 1, none⟩ = some v11) (h0 : some B0 ≠ row) (h1 : some B1 ≠ row) (hg : W.grownBy w1 row) : w1.cell? ⟨B0, 0, none⟩ = some v00 ∧ w1.cell? ⟨B0, 1, none⟩ = some v01 ∧ w1.cell? ⟨B1, 0, none⟩ = some v10 ∧ w1.cell? ⟨B1, 1, none⟩ = some v11 :=
  let ⟨k0, k1, k2, k3⟩ := h
  ⟨hg.cell k0 h0, hg.cell k1 h0, hg.cell k2 h1, hg.cell k3 h1⟩
end

section
variable {B0 : Nat} {v00 v01 : Value} {W w1 : World}
theorem y1_below (h : W.cell? ⟨B0, 0, none⟩ = some v00 ∧ W.cell? ⟨B0, 1, none⟩ = some v01) (h0 : B0 < W.heap.size) (hb : Below W.heap.size W w1) : w1.cell? ⟨B0, 0, none⟩ = some v00 ∧ w1.cell? ⟨B0, 1, none⟩ = some v01 :=
  let ⟨k0, k1⟩ := h
  ⟨cl_below k0 h0 hb, cl_below k1 h0 hb⟩

theorem y1_alloc (h : W.cell? ⟨B0, 0, none⟩ = some v00 ∧ W.cell? ⟨B0, 1, none⟩ = some v01) (o : Obj) : (W.alloc o).cell? ⟨B0, 0, none⟩ = some v00 ∧ (W.alloc o).cell? ⟨B0, 1, none⟩ = some v01 :=
  let ⟨k0, k1⟩ := h
  ⟨cl_alloc k0 o, cl_alloc k1 o⟩

theorem y1_re {o : Obj} (h : (W.alloc o).cell? ⟨B0, 0, none⟩ = some v00 ∧ (W.alloc o).cell? ⟨B0, 1, none⟩ = some v01) (h0 : B0 < W.heap.size) (o2 : Obj) : (W.alloc o2).cell? ⟨B0, 0, none⟩ = some v00 ∧ (W.alloc o2).cell? ⟨B0, 1, none⟩ = some v01 :=
  let ⟨k0, k1⟩ := h
  ⟨cl_re k0 h0 o2, cl_re k1 h0 o2⟩

theorem y1_drew (h : W.cell? ⟨B0, 0, none⟩ = some v00 ∧ W.cell? ⟨B0, 1, none⟩ = some v01) : W.drew.cell? ⟨B0, 0, none⟩ = some v00 ∧ W.drew.cell? ⟨B0, 1, none⟩ = some v01 := h

theorem y1_undrew (h : W.drew.cell? ⟨B0, 0, none⟩ = some v00 ∧ W.drew.cell? ⟨B0, 1, none⟩ = some v01) : W.cell? ⟨B0, 0, none⟩ = some v00 ∧ W.cell? ⟨B0, 1, none⟩ = some v01 := h

theorem y1_set (h : W.cell? ⟨B0, 0, none⟩ = some v00 ∧ W.cell? ⟨B0, 1, none⟩ = some v01) (p : Addr) (u : Value) (h0 : p.block ≠ B0) : (W.setCell p u).cell? ⟨B0, 0, none⟩ = some v00 ∧ (W.setCell p u).cell? ⟨B0, 1, none⟩ = some v01 :=
  let ⟨k0, k1⟩ := h
  ⟨cl_set k0 p u h0, cl_set k1 p u h0⟩

theorem y1_far {row : Option Nat} (h : W.cell? ⟨B0, 0, none⟩ = some v00 ∧ W.cell? ⟨B0, 1, none⟩ = some v01) (h0 : some B0 ≠ row) (hg : W.grownBy w1 row) : w1.cell? ⟨B0, 0, none⟩ = some v00 ∧ w1.cell? ⟨B0, 1, none⟩ = some v01 :=
  let ⟨k0, k1⟩ := h
  ⟨hg.cell k0 h0, hg.cell k1 h0⟩
end

theorem yy_start (v0 v1 u0 u1 : Value) (w : World) (t u : TypeId) : ((w.alloc (.cells #[v0, v1] t)).alloc (.cells #[u0, u1] u)).cell? ⟨w.heap.size, 0, none⟩ = some v0 ∧ ((w.alloc (.cells #[v0, v1] t)).alloc (.cells #[u0, u1] u)).cell? ⟨w.heap.size, 1, none⟩ = some v1 ∧
    ((w.alloc (.cells #[v0, v1] t)).alloc (.cells #[u0, u1] u)).cell? ⟨w.heap.size + 1, 0, none⟩ = some u0 ∧ ((w.alloc (.cells #[v0, v1] t)).alloc (.cells #[u0, u1] u)).cell? ⟨w.heap.size + 1, 1, none⟩ = some u1 := by simp [go_sem]

end Go.Proofs.Ytppbbcckijcckaa

/- Contracts: FourArea: a closed track's turn is eight times its winding; the model. -/
namespace Go.Proofs.Ytppbbcckijcckaa
open Go.ChangeShapes Go.WideShapes Go.ChangeAt Go.RowKit Go.Sort

set_option linter.unusedVariables false
set_option linter.unusedSimpArgs false

theorem fin_h : ∀ (l : List UInt8) (a : Sp), 0 ≤ a.h ∧ a.h ≤ 7 → (fin a l).h = (a.h + (cnt 76 l : Int) - (cnt 82 l : Int)) % 8
  | [], a, h => by simp [fin, cnt]; omega
  | c :: l, a, h => by
    have hn : (a.next c).h = nh c a.h := rfl
    have ih := fin_h l (a.next c) (by rw [hn]; unfold nh; split <;> (try split) <;> omega)
    have e : fin a (c :: l) = fin (a.next c) l := rfl
    rw [e, ih, hn]
    by_cases h1 : c = 76
    · subst h1
      simp [cnt, nh]
      omega
    · by_cases h2 : c = 82
      · subst h2
        simp [cnt, nh]
        omega
      · simp [cnt, nh, h1, h2]

theorem turn_eight {s : ByteArray} (h : clB s = true) : -8 * wiR s = -tuR s ∧ -40 ≤ tuR s ∧ tuR s ≤ 40 := by
  have ht := clB_tk h
  have h40 := tkB_size ht
  have hw : wiR s = (tuR s).tdiv 8 := by simp [wiR, h]
  have h' := h
  rw [clB_yes ht] at h'
  simp only [Bool.and_eq_true, decide_eq_true_eq, zS, beq_iff_eq] at h'
  have hh := h'.2.2
  rw [enS_yes ht, fin_h _ sp0 (by decide)] at hh
  have ht2 : tuR s = (cnt 76 s.data.toList : Int) - (cnt 82 s.data.toList : Int) := by simp [tuR, ht]
  have hl : s.data.toList.length = s.size := size_list s
  have c1 : cnt 76 s.data.toList ≤ s.data.toList.length := List.count_le_length
  have c2 : cnt 82 s.data.toList ≤ s.data.toList.length := List.count_le_length
  have h0 : sp0.h = 0 := rfl
  rw [h0] at hh
  have hm : tuR s % 8 = 0 := by rw [ht2]; omega
  refine ⟨?_, by omega, by omega⟩
  rw [hw]
  have := Int.mul_tdiv_cancel' (Int.dvd_of_emod_eq_zero hm)
  omega

/-- Four times the area of a closed track, without its circles. -/
def faS (s : ByteArray) : Su := cond (clB s) (sumC (chds (jp s)) - ⟨0, tuR s⟩) 0

theorem faS_no {s : ByteArray} (h : clB s = false) : faS s = 0 := by simp [faS, h]

theorem faS_yes {s : ByteArray} (h : clB s = true) : faS s = sumC (chds (jp s)) - ⟨0, tuR s⟩ := by simp [faS, h]

theorem faS_sum {s : ByteArray} (h : clB s = true) : faS s = sumC (chds (jp s)) + (⟨0, -8 * wiR s⟩ : Su) := by
  rw [faS_yes h, (turn_eight h).1]
  apply Su.ext' <;> simp only [Su.sub_x, Su.sub_r, Su.add_x, Su.add_r] <;> omega

set_option maxRecDepth 100000 in
set_option maxHeartbeats 800000 in
theorem spFourArea (s : ByteArray) (hs : s.size ≤ 1048576) (w : World) :
    Calls Try.prog 27 #[.string s] w fun e w' => e = .returned (.tuple #[.agg #[.int .i64 (faS s).x, .int .i64 (faS s).r], .int .i64 (wiR s), .bool (clB s)]) ∧ Below w.heap.size w w' := by
  have CG := clGood_any s hs
  have WO := spWindingOf s hs
  cases hc : clB s <;> rw [hc] at CG WO
  · rw [faS_no hc, show wiR s = 0 by simp [wiR, hc]]
    have CG := Lib.hid CG
    go_enter Try.func27, Try.ntmps27
    go_wp2_with (go_at_call 61; (with_reducible refine (CG.out _).mono ?_); rintro e wA ⟨rfl, h1⟩; (try with_reducible replace h1 := undrew h1); have hB : Below w.heap.size w wA := ba (by go_grown) h1; obtain ⟨hcwA, hfwA⟩ := bcell h1; have hqwA := h1.size; (try simp at hqwA); (try have hz0wA : w.heap.size < wA.heap.size := (by omega)); (try have he0wA : w.heap.size ≤ wA.heap.size := (by omega)))
    refine bodyPost_ret (by simp [results, Try.results27, go_sem, *]; try rfl) rfl ?_
    exact ⟨rfl, by go_grown⟩
  · have ht := clB_tk hc
    have h40 := tkB_size ht
    obtain ⟨a, h0, h1, hs1⟩ := jp_closed hc
    have t8 := turn_eight hc
    have fb := fp_bd hc
    rw [faS_sum hc]
    rw [← ring_chds _ a h0 h1] at fb ⊢
    have CG := Lib.hid CG
    have WO := Lib.hid WO
    have SM := Lib.hid (spSumQ (sumC (ring (jp s))) ⟨0, -8 * wiR s⟩ (fb.mono (by omega)) (by unfold Bs; simp only; omega))
    have ew : IntKind.i64.wrap (-8 * wiR s) = -8 * wiR s := IntWalk.i64_in _ ⟨by omega, by omega⟩
    have ew2 : wrap64 (-8 * wiR s) = -8 * wiR s := w64p _ (by omega) (by omega)
    have AR := fun (g cap : Nat) (w1 : World) (hg : g < w1.heap.size) (hR : RowP w1 g (jp s)) => arPolygonP g (s.size + 1) cap (jp s) (jp_len s) (by omega) (jp_bd ht) w1 hg hR
    obtain ⟨t81, t82, t83⟩ := t8
    have t84 : -40 ≤ -8 * wiR s ∧ -8 * wiR s ≤ 40 := by omega
    clear t81 t82 t83
    generalize sumC (ring (jp s)) = S at *
    generalize wiR s = W0 at *
    go_enter Try.func27, Try.ntmps27
    go_wp2_with fail
    (go_at_call 61; (with_reducible refine (CG.out _).mono ?_); rintro e wA ⟨rfl, h1⟩; (try with_reducible replace h1 := undrew h1); have hB : Below w.heap.size w wA := ba (by go_grown) h1; obtain ⟨hcwA, hfwA⟩ := bcell h1; have hqwA := h1.size; (try simp at hqwA); (try have hz0wA : w.heap.size < wA.heap.size := (by omega)); (try have he0wA : w.heap.size ≤ wA.heap.size := (by omega)))
    go_wp2_with fail
    (go_at_call 68; (with_reducible refine (WO.out _).mono ?_); rintro e wB ⟨rfl, h1⟩; (try with_reducible replace h1 := undrew h1); have hB : Below w.heap.size w wB := ba (by go_grown) h1; obtain ⟨hcwB, hfwB⟩ := bcell h1; have hqwB := h1.size; (try simp at hqwB); (try have hz0wB : w.heap.size < wB.heap.size := (by omega)); (try have he0wB : w.heap.size ≤ wB.heap.size := (by omega)))
    go_wp2_with fail
    refine (tkJoints_yes s ht _).mono ?_
    rintro er w1 ⟨g, cap, rfl, hO, hb1⟩
    have hR := rowP_own (n := 0) hO
    have hg := own_lt7 hO
    have AP := Lib.hid (AR g cap w1 hg hR)
    have hz1 := hb1.size
    have y0 : w.heap.size < w1.heap.size := by omega
    have f0 : ∀ i, w1.frozen? ⟨w.heap.size, i, none⟩ = false := fun i => by rw [hb1.frozen (p := ⟨w.heap.size, i, none⟩) (by omega)]; go_simp
    have q0 : w1.cell? ⟨w.heap.size, 0, none⟩ = some (.int .i64 0) := by rw [hb1.cell (p := ⟨w.heap.size, 0, none⟩) (by omega)]; go_simp
    have q1 : w1.cell? ⟨w.heap.size, 1, none⟩ = some (.int .i64 0) := by rw [hb1.cell (p := ⟨w.heap.size, 1, none⟩) (by omega)]; go_simp
    have hBx : Below w.heap.size w w1 := ba hB hb1
    clear hO hR hcwA hfwA hcwB hfwB hb1 AR
    go_wp2_with fail
    refine AP.out.mono ?_
    rintro er w2 ⟨rfl, hb2⟩
    obtain ⟨hc2, hf2⟩ := bcell hb2
    have hz2 := hb2.size
    have hB2 : Below w.heap.size w w2 := ba hBx hb2
    have y1 : w.heap.size < w2.heap.size := by omega
    go_wp2_with fail
    (go_at_call 69; (with_reducible refine (SM.out _).mono ?_); rintro e w3 ⟨rfl, h1⟩; (try with_reducible replace h1 := undrew h1); have hB : Below w.heap.size w w3 := ba (by go_grown) h1; obtain ⟨hcw3, hfw3⟩ := bcell h1; have hqw3 := h1.size; (try simp at hqw3); (try have hz0w3 : w.heap.size < w3.heap.size := (by omega)); (try have he0w3 : w.heap.size ≤ w3.heap.size := (by omega)))
    go_wp2_with fail
    refine bodyPost_ret (by simp [results, Try.results27, go_sem, *]; try rfl) rfl ?_
    exact ⟨rfl, by go_grown⟩

set_option maxRecDepth 100000 in
set_option maxHeartbeats 1600000 in
theorem imFourArea (s : ByteArray) (hs : s.size ≤ 1048576) (w : World) :
    Calls Try.prog 28 #[.string s] w fun e w' => e = .returned (.tuple #[.agg #[.int .i64 (faS s).x, .int .i64 (faS s).r], .int .i64 (wiR s), .bool (clB s)]) ∧ Below w.heap.size w w' := by
  have CG := isClosed_any s hs
  have TT := Lib.hid (imTurnOfTrack s hs)
  cases hc : clB s <;> rw [hc] at CG
  · rw [faS_no hc, show wiR s = 0 by simp [wiR, hc]]
    have CG := Lib.hid CG
    go_enter Try.func28, Try.ntmps28
    go_wp2_with (go_at_call 64; (with_reducible refine (CG.out _).mono ?_); rintro e wA ⟨rfl, h1⟩; (try with_reducible replace h1 := undrew h1); have hB : Below w.heap.size w wA := ba (by go_grown) h1; obtain ⟨hcwA, hfwA⟩ := bcell h1; have hqwA := h1.size; (try simp at hqwA); (try have hz0wA : w.heap.size < wA.heap.size := (by omega)); (try have he0wA : w.heap.size ≤ wA.heap.size := (by omega)))
    refine bodyPost_ret (by simp [results, Try.results28, go_sem, *]; try rfl) rfl ?_
    exact ⟨rfl, by go_grown⟩
  · have ht := clB_tk hc
    have h40 := tkB_size ht
    obtain ⟨a, h0, h1, hs1⟩ := jp_closed hc
    have fb := fp_bd hc
    have t8 := turn_eight hc
    have eF := faS_yes hc
    have FB : Bs 1000000000000000 (faS s) := by
      rw [eF]
      unfold Bs at fb ⊢
      rw [Su.sub_x, Su.sub_r]
      simp only
      omega
    have LE := fun w => (imSuLess (sumC (chds (jp s))) ⟨0, tuR s⟩ (fb.mono (by omega)) (by unfold Bs; simp only; omega) w).mono fun _ _ h => (⟨h.1, h.2.1⟩ : _ ∧ Below w.heap.size w _)
    rw [← eF] at LE
    have SB := surdB_of FB
    have ON := imOnlySurd_any (faS s).x (faS s).r
    rw [SB, show sel true (faS s).x = (faS s).x from rfl, show sel true (faS s).r = (faS s).r from rfl] at ON
    have hw8 : (tuR s).tdiv 8 = wiR s := by simp [wiR, hc]
    have hw9 := Lib.hid hw8
    have HL : (chds (jp s)).length = s.size := by rw [chds_length, jp_len]; omega
    have FA := fun (g cap : Nat) => fourAreaP g s.size cap (chds (jp s)) HL (by omega) (chds_bd (jp_bd ht))
    have CH := Lib.hid (chordsOfP s ht)
    have CG := Lib.hid CG
    have ON := Lib.hid ON
    have FA := Lib.hid FA
    have LE := Lib.hid LE
    have HL := Lib.hid HL
    obtain ⟨t81, t82, t83⟩ := t8
    have tw : IntKind.i64.wrap (tuR s) = tuR s := IntWalk.i64_in _ ⟨by omega, by omega⟩
    have hq8 : IntKind.i64.wrap ((tuR s).tdiv 8) = wiR s := by rw [hw8]; exact IntWalk.i64_in _ ⟨by omega, by omega⟩
    generalize sumC (chds (jp s)) = S at *
    generalize chds (jp s) = l at *
    generalize faS s = F at *
    generalize tuR s = T at *
    generalize wiR s = V at *
    clear SB t81 t82 t83 fb FB eF hw8
    go_enter Try.func28, Try.ntmps28
    go_wp2_with fail
    (go_at_call 64; (with_reducible refine (CG.out _).mono ?_); rintro e wA ⟨rfl, h1⟩; (try with_reducible replace h1 := undrew h1); have hB : Below w.heap.size w wA := ba (by go_grown) h1; obtain ⟨hcwA, hfwA⟩ := bcell h1; have hqwA := h1.size; (try simp at hqwA); (try have hz0wA : w.heap.size < wA.heap.size := (by omega)); (try have he0wA : w.heap.size ≤ wA.heap.size := (by omega)))
    go_wp2_with fail
    (go_at_call 70; (with_reducible refine (TT.out _).mono ?_); rintro e wB ⟨rfl, h1⟩; (try with_reducible replace h1 := undrew h1); have hB : Below w.heap.size w wB := ba (by go_grown) h1; obtain ⟨hcwB, hfwB⟩ := bcell h1; have hqwB := h1.size; (try simp at hqwB); (try have hz0wB : w.heap.size < wB.heap.size := (by omega)); (try have he0wB : w.heap.size ≤ wB.heap.size := (by omega)))
    go_wp2_with fail
    have vB : w.heap.size < wB.heap.size := by omega
    refine absW (F := fun X => (X.cell? ⟨wB.heap.size, 0, none⟩ = some (.int .i64 ((⟨0, T⟩ : Su)).x) ∧ X.cell? ⟨wB.heap.size, 1, none⟩ = some (.int .i64 ((⟨0, T⟩ : Su)).r)) ∧ (∀ i, X.frozen? ⟨w.heap.size, i, none⟩ = false) ∧ (X.cell? ⟨w.heap.size, 0, none⟩ = some (.int .i64 ((⟨0, 0⟩ : Su)).x) ∧ X.cell? ⟨w.heap.size, 1, none⟩ = some (.int .i64 ((⟨0, 0⟩ : Su)).r)) ∧ (wB.heap.size < X.heap.size) ∧ Below w.heap.size w X) ⟨⟨by go_simp, by go_simp⟩, fun i => by go_simp, ⟨by go_simp, by go_simp⟩, by simp, by go_grown⟩ ?_
    rintro X ⟨⟨cT_0, cT_1⟩, frR, ⟨cR_0, cR_1⟩, hzX, HB⟩
    have kT_0 := fun d os => cell_regrown cT_0 d os
    have kT_1 := fun d os => cell_regrown cT_1 d os
    have kR_0 := fun d os => cell_regrown cR_0 d os
    have kR_1 := fun d os => cell_regrown cR_1 d os
    have vX : w.heap.size < X.heap.size := by omega
    clear hcwA hfwA hcwB hfwB hqwA hqwB hB
    have hS0 := And.intro cT_0 cT_1
    clear cT_0 cT_1
    go_region_held3 (fun w' => w'.cell? ⟨wB.heap.size, 0, none⟩ = some (.int .i64 0) ∧ w'.cell? ⟨wB.heap.size, 1, none⟩ = some (.int .i64 T)) (first | (with_reducible assumption) | (with_reducible exact y1_drew hS0) | (with_reducible exact y1_drew (y1_alloc hS0 _)) | (with_reducible exact y1_alloc (y1_drew hS0) _) | (with_reducible refine y1_drew ?_; with_reducible assumption) | (with_reducible refine y1_alloc ?_ _; with_reducible assumption) | (with_reducible refine y1_re (by with_reducible assumption) ?_ _; (focus first | (with_reducible assumption) | omega | (simp; done) | (simp; omega))) | (with_reducible refine y1_below ?_ ?_ h1; (focus first | (with_reducible assumption) | (with_reducible refine y1_undrew ?_; with_reducible assumption)); (focus first | (with_reducible assumption) | omega | (simp; done) | (simp; omega))) | ((repeat (with_reducible refine y1_set ?_ _ _ ?_; rotate_left 1; (focus first | (with_reducible assumption) | omega | (simp; done) | (simp; omega)))); with_reducible assumption)) (first
      | (go_at_call 67; (with_reducible refine (CH.out _).mono ?_); rintro e wC ⟨v, rfl, hO, h1⟩; (try with_reducible replace h1 := undrew h1); have hB : Below w.heap.size w wC := ba (by go_grown) h1; obtain ⟨hcwC, hfwC⟩ := bcell h1; have hqC := h1.size; (try simp at hqC); obtain ⟨gq, cap, rfl, _⟩ := hO.form (by omega); have RC := RowC.own hO HL.out; have hgC := own_lt7 hO; have y0C : w.heap.size < wC.heap.size := (by omega); have y1C : wB.heap.size < wC.heap.size := (by omega); (try have y2C : X.heap.size < wC.heap.size := (by omega)); clear hO)
      | (go_at_call 66; (with_reducible refine (FA.out gq cap _ (by first | assumption | (simp; omega)) (RowC.below RC hgC (by go_grown))).mono ?_); rintro e wD ⟨rfl, h1⟩; (try with_reducible replace h1 := undrew h1); have hB : Below w.heap.size w wD := ba (by go_grown) h1; obtain ⟨hcwD, hfwD⟩ := bcell h1; have hqwD := h1.size; (try simp at hqwD); (try have hz0wD : w.heap.size < wD.heap.size := (by omega)); (try have he0wD : w.heap.size ≤ wD.heap.size := (by omega)); (try have hz1wD : wB.heap.size < wD.heap.size := (by omega)); (try have he1wD : wB.heap.size ≤ wD.heap.size := (by omega)); (try have hz2wD : X.heap.size < wD.heap.size := (by omega)); (try have he2wD : X.heap.size ≤ wD.heap.size := (by omega)); (try have hz3wD : wC.heap.size < wD.heap.size := (by omega)); (try have he3wD : wC.heap.size ≤ wD.heap.size := (by omega)))
      | (go_at_call 71; (with_reducible refine (LE.out _).mono ?_); rintro e wE ⟨rfl, h1⟩; (try with_reducible replace h1 := undrew h1); have hB : Below w.heap.size w wE := ba (by go_grown) h1; obtain ⟨hcwE, hfwE⟩ := bcell h1; have hqwE := h1.size; (try simp at hqwE); (try have hz0wE : w.heap.size < wE.heap.size := (by omega)); (try have he0wE : w.heap.size ≤ wE.heap.size := (by omega)); (try have hz1wE : wB.heap.size < wE.heap.size := (by omega)); (try have he1wE : wB.heap.size ≤ wE.heap.size := (by omega)); (try have hz2wE : X.heap.size < wE.heap.size := (by omega)); (try have he2wE : X.heap.size ≤ wE.heap.size := (by omega)); (try have hz3wE : wC.heap.size < wE.heap.size := (by omega)); (try have he3wE : wC.heap.size ≤ wE.heap.size := (by omega)); (try have hz4wE : wD.heap.size < wE.heap.size := (by omega)); (try have he4wE : wD.heap.size ≤ wE.heap.size := (by omega)))
      | (go_at_call 65; (with_reducible refine (ON.out _).mono ?_); rintro e wF ⟨rfl, h1⟩; (try with_reducible replace h1 := undrew h1); have hB : Below w.heap.size w wF := ba (by go_grown) h1; obtain ⟨hcwF, hfwF⟩ := bcell h1; have hqwF := h1.size; (try simp at hqwF); (try have hz0wF : w.heap.size < wF.heap.size := (by omega)); (try have he0wF : w.heap.size ≤ wF.heap.size := (by omega)); (try have hz1wF : wB.heap.size < wF.heap.size := (by omega)); (try have he1wF : wB.heap.size ≤ wF.heap.size := (by omega)); (try have hz2wF : X.heap.size < wF.heap.size := (by omega)); (try have he2wF : X.heap.size ≤ wF.heap.size := (by omega)); (try have hz3wF : wC.heap.size < wF.heap.size := (by omega)); (try have he3wF : wC.heap.size ≤ wF.heap.size := (by omega)); (try have hz4wF : wD.heap.size < wF.heap.size := (by omega)); (try have he4wF : wD.heap.size ≤ wF.heap.size := (by omega)); (try have hz5wF : wE.heap.size < wF.heap.size := (by omega)); (try have he5wF : wE.heap.size ≤ wF.heap.size := (by omega))))
    all_goals
      (try have n0 : ¬ X.heap.size = w.heap.size := by omega)
      (try have n1 : ¬ wC.heap.size = w.heap.size := by omega)
      (try have n2 : ¬ wD.heap.size = w.heap.size := by omega)
      (try have n3 : ¬ wE.heap.size = w.heap.size := by omega)
      (try have n4 : ¬ wF.heap.size = w.heap.size := by omega)
    · skip
      refine absE (F := fun Y => (Y.cell? ⟨w.heap.size, 0, none⟩ = some (.int .i64 ((⟨0, 0⟩ : Su)).x) ∧ Y.cell? ⟨w.heap.size, 1, none⟩ = some (.int .i64 ((⟨0, 0⟩ : Su)).r)) ∧ (∀ i, Y.frozen? ⟨w.heap.size, i, none⟩ = false) ∧ (Y.cell? ⟨wF.heap.size, 0, none⟩ = some (.int .i64 (F).x) ∧ Y.cell? ⟨wF.heap.size, 1, none⟩ = some (.int .i64 (F).r)) ∧ (w.heap.size < Y.heap.size) ∧ Below w.heap.size w Y) ⟨⟨by go_simp, by go_simp⟩, fun i => by go_simp, ⟨by go_simp, by go_simp⟩, by first | (simp; done) | (simp; omega), by go_grown⟩ ?_
      rintro Y ⟨⟨cR_0, cR_1⟩, frR, ⟨cZ_0, cZ_1⟩, hY, HB⟩
      have kR_0 := fun d os => cell_regrown cR_0 d os
      have kR_1 := fun d os => cell_regrown cR_1 d os
      have kZ_0 := fun d os => cell_regrown cZ_0 d os
      have kZ_1 := fun d os => cell_regrown cZ_1 d os
      go_wp2_with fail
      refine bodyPost_ret (by simp [results, Try.results28, go_sem, *]; try rfl) rfl ?_
      exact ⟨rfl, by go_grown⟩
    · skip
      refine absE (F := fun Y => (Y.cell? ⟨w.heap.size, 0, none⟩ = some (.int .i64 ((⟨0, 0⟩ : Su)).x) ∧ Y.cell? ⟨w.heap.size, 1, none⟩ = some (.int .i64 ((⟨0, 0⟩ : Su)).r)) ∧ (∀ i, Y.frozen? ⟨w.heap.size, i, none⟩ = false) ∧ (Y.cell? ⟨wE.heap.size, 0, none⟩ = some (.int .i64 (F).x) ∧ Y.cell? ⟨wE.heap.size, 1, none⟩ = some (.int .i64 (F).r)) ∧ (w.heap.size < Y.heap.size) ∧ Below w.heap.size w Y) ⟨⟨by go_simp, by go_simp⟩, fun i => by go_simp, ⟨by go_simp, by go_simp⟩, by first | (simp; done) | (simp; omega), by go_grown⟩ ?_
      rintro Y ⟨⟨cR_0, cR_1⟩, frR, ⟨cZ_0, cZ_1⟩, hY, HB⟩
      have kR_0 := fun d os => cell_regrown cR_0 d os
      have kR_1 := fun d os => cell_regrown cR_1 d os
      have kZ_0 := fun d os => cell_regrown cZ_0 d os
      have kZ_1 := fun d os => cell_regrown cZ_1 d os
      go_wp2_with fail
      refine bodyPost_ret (by simp [results, Try.results28, go_sem, *]; try rfl) rfl ?_
      exact ⟨rfl, by go_grown⟩
    · skip
      refine absE (F := fun Y => (Y.cell? ⟨w.heap.size, 0, none⟩ = some (.int .i64 ((⟨0, 0⟩ : Su)).x) ∧ Y.cell? ⟨w.heap.size, 1, none⟩ = some (.int .i64 ((⟨0, 0⟩ : Su)).r)) ∧ (∀ i, Y.frozen? ⟨w.heap.size, i, none⟩ = false) ∧ (Y.cell? ⟨wD.heap.size, 0, none⟩ = some (.int .i64 (F).x) ∧ Y.cell? ⟨wD.heap.size, 1, none⟩ = some (.int .i64 (F).r)) ∧ (w.heap.size < Y.heap.size) ∧ Below w.heap.size w Y) ⟨⟨by go_simp, by go_simp⟩, fun i => by go_simp, ⟨by go_simp, by go_simp⟩, by first | (simp; done) | (simp; omega), by go_grown⟩ ?_
      rintro Y ⟨⟨cR_0, cR_1⟩, frR, ⟨cZ_0, cZ_1⟩, hY, HB⟩
      have kR_0 := fun d os => cell_regrown cR_0 d os
      have kR_1 := fun d os => cell_regrown cR_1 d os
      have kZ_0 := fun d os => cell_regrown cZ_0 d os
      have kZ_1 := fun d os => cell_regrown cZ_1 d os
      go_wp2_with fail
      refine bodyPost_ret (by simp [results, Try.results28, go_sem, *]; try rfl) rfl ?_
      exact ⟨rfl, by go_grown⟩
    · skip
      refine absE (F := fun Y => (Y.cell? ⟨w.heap.size, 0, none⟩ = some (.int .i64 ((⟨0, 0⟩ : Su)).x) ∧ Y.cell? ⟨w.heap.size, 1, none⟩ = some (.int .i64 ((⟨0, 0⟩ : Su)).r)) ∧ (∀ i, Y.frozen? ⟨w.heap.size, i, none⟩ = false) ∧ (Y.cell? ⟨wC.heap.size, 0, none⟩ = some (.int .i64 (F).x) ∧ Y.cell? ⟨wC.heap.size, 1, none⟩ = some (.int .i64 (F).r)) ∧ (w.heap.size < Y.heap.size) ∧ Below w.heap.size w Y) ⟨⟨by go_simp, by go_simp⟩, fun i => by go_simp, ⟨by go_simp, by go_simp⟩, by first | (simp; done) | (simp; omega), by go_grown⟩ ?_
      rintro Y ⟨⟨cR_0, cR_1⟩, frR, ⟨cZ_0, cZ_1⟩, hY, HB⟩
      have kR_0 := fun d os => cell_regrown cR_0 d os
      have kR_1 := fun d os => cell_regrown cR_1 d os
      have kZ_0 := fun d os => cell_regrown cZ_0 d os
      have kZ_1 := fun d os => cell_regrown cZ_1 d os
      go_wp2_with fail
      refine bodyPost_ret (by simp [results, Try.results28, go_sem, *]; try rfl) rfl ?_
      exact ⟨rfl, by go_grown⟩
    · skip
      refine absE (F := fun Y => (Y.cell? ⟨w.heap.size, 0, none⟩ = some (.int .i64 ((⟨0, 0⟩ : Su)).x) ∧ Y.cell? ⟨w.heap.size, 1, none⟩ = some (.int .i64 ((⟨0, 0⟩ : Su)).r)) ∧ (∀ i, Y.frozen? ⟨w.heap.size, i, none⟩ = false) ∧ (Y.cell? ⟨X.heap.size, 0, none⟩ = some (.int .i64 (F).x) ∧ Y.cell? ⟨X.heap.size, 1, none⟩ = some (.int .i64 (F).r)) ∧ (w.heap.size < Y.heap.size) ∧ Below w.heap.size w Y) ⟨⟨by go_simp, by go_simp⟩, fun i => by go_simp, ⟨by go_simp, by go_simp⟩, by first | (simp; done) | (simp; omega), by go_grown⟩ ?_
      rintro Y ⟨⟨cR_0, cR_1⟩, frR, ⟨cZ_0, cZ_1⟩, hY, HB⟩
      have kR_0 := fun d os => cell_regrown cR_0 d os
      have kR_1 := fun d os => cell_regrown cR_1 d os
      have kZ_0 := fun d os => cell_regrown cZ_0 d os
      have kZ_1 := fun d os => cell_regrown cZ_1 d os
      go_wp2_with fail
      refine bodyPost_ret (by simp [results, Try.results28, go_sem, *]; try rfl) rfl ?_
      exact ⟨rfl, by go_grown⟩

end Go.Proofs.Ytppbbcckijcckaa
