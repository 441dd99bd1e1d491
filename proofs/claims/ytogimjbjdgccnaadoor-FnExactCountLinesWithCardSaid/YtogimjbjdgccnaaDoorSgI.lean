/- Contracts: signals of a line, in the model and in the program. -/
import Derived.Test.YtogimjbjdgccnaaDoorCcO
import Derived.Laws.Concat
import Derived.OwnWalk
namespace Go.Proofs.YtogimjbjdgccnaaDoor
open Go.ChangeShapes Go.WideShapes Go.ChangeAt Go.RowKit
open Ln

set_option linter.unusedVariables false

/-- A line and a gap. -/
def askB (s : ByteArray) (g : Int) : Bool := lnB s.data.toList && inB g 1 3

def sgR (s : ByteArray) (g : Int) : ByteArray := cond (askB s g) (ofL (sg s.data.toList g.toNat)) ⟨#[]⟩

theorem ask_yes {s : ByteArray} {g : Int} (h : askB s g = true) : LnOk s.data.toList ∧ ∃ n : Nat, g = n ∧ 1 ≤ n ∧ n ≤ 3 := by
  simp only [askB, inB, Bool.and_eq_true, decide_eq_true_eq] at h
  exact ⟨(lnB_iff _).1 h.1, g.toNat, by omega, by omega, by omega⟩

theorem sgR_yes {s : ByteArray} {n : Nat} (h : askB s n = true) : sgR s n = ofL (sg s.data.toList n) := by rw [sgR, h]; rfl

theorem sgR_no {s : ByteArray} {g : Int} (h : askB s g = false) : sgR s g = ⟨#[]⟩ := by rw [sgR, h]; rfl

theorem ret_sg {s x : ByteArray} {g : Int} {b : Bool} (hb : askB s g = b) (hs : sgR s g = x) : Ending.returned (.tuple #[.string x, .bool b]) = Ending.returned (.tuple #[.string (sgR s g), .bool (askB s g)]) := by rw [hb, hs]

set_option maxRecDepth 100000 in
theorem signals_none (w : World) :
    Calls Tryd.prog 60 #[.agg #[.slice none 0 0, .int .i64 0]] w fun e w' => e = .returned (.string ⟨#[]⟩) ∧ Below w.heap.size w w' := by
  have HI := Lib.hid (show Lib.IsBuilderF 92 5 (w.heap.size + 1) (w.heap.size + 1) (Lib.byteCells []) ((w.alloc (.cells #[.slice none 0 0, .int .i64 0] 54)).alloc (.cells #[.pointer none, .slice none 0 0] 92)) by
    have := Lib.IsBuilderF.of (Lib.fresh_isBuilder 92 5 (w.alloc (.cells #[.slice none 0 0, .int .i64 0] 54)))
    rw [World.size_alloc] at this
    exact this)
  go_enter Tryd.func60, Tryd.ntmps60
  go_wp2_with fail
  refine wp_loop_rounds 1 ?_
  rw [rounds_succ]
  go_wp2_with fail
  refine (Tryd.Builder_String_any_f _ _ [] _ HI.out (by simp)).mono ?_
  rintro e w1 ⟨rfl, _, b1⟩
  have HB := Lib.hid ((show Below w.heap.size w ((w.alloc (.cells #[.slice none 0 0, .int .i64 0] 54)).alloc (.cells #[.pointer none, .slice none 0 0] 92)) by go_grown).trans (b1.mono (by omega)))
  clear b1
  go_wp2_with fail
  go_ret
  exact ⟨rfl, HB.out⟩

set_option maxRecDepth 100000 in
theorem imSignalsOf (s : ByteArray) (g : Int) (hs : s.size ≤ 1048576) (w : World) :
    Calls Tryd.prog 23 #[.string s, .int .i64 g] w fun e w' => e = .returned (.tuple #[.string (sgR s g), .bool (askB s g)]) ∧ Below w.heap.size w w' := by
  cases hb : askB s g
  · have C0 := circuitOf_no s g hs hb
    have HB := Lib.hid hb
    clear hb
    go_enter Tryd.func23, Tryd.ntmps23
    go_wp2_with fail
    refine (C0 _).mono ?_
    rintro e w1 ⟨rfl, h1⟩
    have H1 := Lib.hid h1
    clear h1
    go_wp2_with fail
    refine (signals_none _).mono ?_
    rintro e w2 ⟨rfl, h2⟩
    have H2 := Lib.hid ((H1.out.alloc H1.out.size (.cells #[.slice none 0 0, .int .i64 0] 54)).trans (h2.mono (by have := H1.out.size; simp; omega)))
    clear h2
    go_wp2_with fail
    go_ret2
    exact ⟨by rw [sgR_no HB.out]; rfl, H2.out⟩
  · obtain ⟨hl, n, rfl, n1, n3⟩ := ask_yes hb
    have C0 := circuitOf_yes s n hl n1 n3
    have SG := Lib.hid (fun g cap cs E (w1 : World) (hC : Cir w.heap.size E g cs s.data.toList w1) (hE : w.heap.size ≤ E) => signals_any w.heap.size E g s.data.toList.length cap n (min n (s.data.toList.length - 1)) cs s.data.toList rfl hl.n24 n1 rfl w1 hE hC)
    have HB := Lib.hid hb
    generalize min n (s.data.toList.length - 1) = sx at *
    obtain ⟨ln, hln⟩ : ∃ ln, s.data.toList.length = ln := ⟨_, rfl⟩
    rw [hln] at SG
    have C1 := Lib.hid (fun w => (C0 w))
    unfold CirPost at C1
    rw [hln] at C1
    clear hb C0 hln hl
    go_enter Tryd.func23, Tryd.ntmps23
    go_wp2_with fail
    refine (C1.out _).mono ?_
    rintro e w1 ⟨gg, cap, cs, rfl, hC, h1⟩
    have H1 := Lib.hid h1
    have hle := h1.size
    have HC := Lib.hid hC
    clear h1 hC
    go_wp2_with fail
    refine (SG.out gg cap cs w1.heap.size _ (HC.out.alloc _) hle).mono ?_
    rintro e w2 ⟨rfl, _, T2⟩
    have H2 := Lib.hid ((H1.out.alloc hle (.cells #[.slice (some ⟨gg, 0, none⟩) ln cap, .int .i64 sx] 54)).trans T2.low)
    clear T2
    go_wp2_with fail
    go_ret2
    exact ⟨by rw [sgR_yes HB.out]; rfl, H2.out⟩

set_option maxRecDepth 100000 in
set_option maxHeartbeats 800000 in
theorem spSignalsOf (s : ByteArray) (g : Int) (hs : s.size ≤ 1048576) (w : World) :
    Calls Tryd.prog 22 #[.string s, .int .i64 g] w fun e w' => e = .returned (.tuple #[.string (sgR s g), .bool (askB s g)]) ∧ Below w.heap.size w w' := by
  have TA := tnAsked_any s g hs
  rw [show (lnB s.data.toList && inB g 1 3) = askB s g from rfl] at TA
  cases hb : askB s g
  · rw [hb] at TA
    have HB := Lib.hid hb
    clear hb
    go_enter Tryd.func22, Tryd.ntmps22
    go_wp2_with (go_at_call 57; refine (TA _).mono ?_; rintro e w' ⟨rfl, rfl⟩)
    go_ret2
    exact ⟨by rw [sgR_no HB.out]; rfl, Below.refl _ _⟩
  · rw [hb] at TA
    obtain ⟨hl, n, rfl, n1, n3⟩ := ask_yes hb
    have hz := sz_list s
    have n24 : s.size ≤ 24 := by rw [← hz]; exact hl.n24
    have TK := Lib.hid (fun k (h : k < s.size) => sg_take (l := s.data.toList) (gp := n) (k := k) (by rw [hz]; exact h))
    have TE := Lib.hid (show (sg s.data.toList n).take s.size = sg s.data.toList n from List.take_of_length_le (by rw [sg_len, hz]; exact Nat.le_refl _))
    have GR := Lib.hid (fun k (h : k < s.size) => tnGreen_any s k n hl h n1 n3)
    have HL := Lib.hid hl
    have HB := Lib.hid hb
    clear hb hl hz
    go_enter Tryd.func22, Tryd.ntmps22
    go_wp2_with (go_at_call 57; refine (TA _).mono ?_; rintro e w' ⟨rfl, rfl⟩)
    go_loopw [6, 7] (fun o i wr => ∃ k : Nat, k ≤ s.size ∧ i = .int .i64 k ∧ o = .string (ofL ((sg s.data.toList n).take k)) ∧ Below w.heap.size w wr) (fun _ i _ => s.size - (intOf i).toNat)
    case atStart => exact ⟨0, Nat.zero_le _, rfl, rfl, Below.refl _ _⟩
    case round =>
      obtain ⟨k, hk, rfl, rfl, hB⟩ := hrel
      have HW := Lib.hid hB
      clear hB
      by_cases hlt : k < s.size
      · have e1 := TK.out k hlt
        have hsz : (ofL ((sg s.data.toList n).take k)).size ≤ 24 := by rw [ofL_size, List.length_take]; omega
        rcases ln_byte HL.out hlt with ⟨h1, h2⟩ | ⟨h1, h2⟩
        · have b1 := byte_T h2
          have G1 := Lib.hid (GR.out k hlt)
          cases hg : grn s.data.toList n k
          · have E := Lib.hid (show ofL ((sg s.data.toList n).take k) ++ ⟨#[114]⟩ = ofL ((sg s.data.toList n).take (k + 1)) by rw [e1, ofL_snoc]; simp [sgc, h1, hg])
            have GG := G1.out
            rw [hg] at GG
            clear h1 h2 hg e1 G1
            go_wp2_with (go_at_call 58; refine (GG _).mono ?_; rintro e w' ⟨rfl, rfl⟩)
            go_roundw
            case rel => exact ⟨k + 1, by omega, by go_num, congrArg Value.string E.out, HW.out⟩
            case measure => simp [intOf]; omega
          · have E := Lib.hid (show ofL ((sg s.data.toList n).take k) ++ ⟨#[103]⟩ = ofL ((sg s.data.toList n).take (k + 1)) by rw [e1, ofL_snoc]; simp [sgc, h1, hg])
            have GG := G1.out
            rw [hg] at GG
            clear h1 h2 hg e1 G1
            go_wp2_with (go_at_call 58; refine (GG _).mono ?_; rintro e w' ⟨rfl, rfl⟩)
            go_roundw
            case rel => exact ⟨k + 1, by omega, by go_num, congrArg Value.string E.out, HW.out⟩
            case measure => simp [intOf]; omega
        · have b1 := byte_E h2
          have E := Lib.hid (show ofL ((sg s.data.toList n).take k) ++ ⟨#[46]⟩ = ofL ((sg s.data.toList n).take (k + 1)) by rw [e1, ofL_snoc]; simp [sgc, h1])
          clear h1 h2 e1
          go_wp2_with fail
          go_roundw
          case rel => exact ⟨k + 1, by omega, by go_num, congrArg Value.string E.out, HW.out⟩
          case measure => simp [intOf]; omega
      · obtain rfl : k = s.size := by omega
        go_wp2_with fail
        go_ret2
        exact ⟨show Ending.returned (.tuple #[.string (ofL ((sg s.data.toList n).take s.size)), .bool true]) = _ by rw [TE.out, sgR_yes HB.out], HW.out⟩

end Go.Proofs.YtogimjbjdgccnaaDoor
