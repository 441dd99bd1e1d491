/- Trains spread over a line: the program's contract. -/
import Derived.Test.YtogimjbjdgccnaaStA
import Derived.Test.YtogimjbjdgccnaaRpS
import Derived.Test.YtogimjbjdgccnaaLnT
namespace Go.Proofs.Ytogimjbjdgccnaa
open Go.ChangeShapes Go.WideShapes Go.ChangeAt Go.RowKit

set_option linter.unusedVariables false

/-- A row of texts, one for each byte. -/
def StrAt (w : World) (g : Nat) (l : List UInt8) : Prop := ∀ j c, l[j]? = some c → w.cell? ⟨g, j, none⟩ = some (.string (ofL [c])) ∧ w.frozen? ⟨g, j, none⟩ = false

theorem StrAt.set {w : World} {g : Nat} {l : List UInt8} (h : StrAt w g l) {k : Nat} (hk : k < l.length) (c : UInt8) (v : Value) (hv : v = .string (ofL [c])) : StrAt (w.setCell ⟨g, k, none⟩ v) g (l.set k c) := by
  subst hv
  intro j d hj
  have hj' : j < l.length := by have := (List.getElem?_eq_some_iff.1 hj).1; simpa using this
  rw [World.frozen?_setCell]
  by_cases e : k = j
  · subst e
    have h0 := h k _ (List.getElem?_eq_getElem hk)
    rw [List.getElem?_set_self hk] at hj
    injection hj with hj
    subst hj
    exact ⟨by rw [World.cell?_setCell_same (h := h0.1)], h0.2⟩
  · rw [List.getElem?_set_ne e] at hj
    have h0 := h j d hj
    exact ⟨by rw [World.cell?_setCell_other (h := fun h => e (by injection h))]; exact h0.1, h0.2⟩

def stT (l : List UInt8) : List ByteArray := l.map fun c => ofL [c]

theorem stT_join (l : List UInt8) : Lib.join ((stT l).map (·.data.toList)) (ByteArray.mk #[]).data.toList = l := by
  rw [show (ByteArray.mk #[]).data.toList = [] from rfl, Ln.join_nil, stT, List.map_map]
  induction l with
  | nil => rfl
  | cons c m ih =>
    simp only [List.map_cons, List.flatten_cons, ih]
    simp [ofL]

set_option maxRecDepth 100000 in
set_option maxHeartbeats 1600000 in
theorem imSt_yes (n t : Nat) (hn1 : 1 ≤ n) (hn : n ≤ 24) (ht : t ≤ n) (w : World) :
    Calls Try.prog 8 #[.int .i64 n, .int .i64 t] w fun e w' => e = .returned (.tuple #[.string (ofL (sprL n t t)), .bool true]) ∧ Below w.heap.size w w' := by
  have I1 := isInRange_any n 1 24
  have I2 := isInRange_any t 0 n
  rw [show inB (n : Int) 1 24 = true by simp [inB]; omega] at I1
  rw [show inB (t : Int) 0 n = true by simp [inB]; omega] at I2
  have SL := Lib.hid (fun k => sprL_len n t k)
  have LT := Lib.hid (fun k (hk : k < t) => spr_lt (n := n) hk (by omega))
  have RP := Lib.hid (repeat_any ⟨#[46]⟩ n w.heap.size (by omega) (w.alloc (.cells #[.string ⟨#[46]⟩] 9)) (by simp) (by simp [go_sem]))
  go_enter Try.func8, Try.ntmps8
  go_wp2_with (first | (go_at_call 11; (with_reducible refine Calls.mono (I1 _) ?_); rintro e w' ⟨rfl, rfl⟩) | (go_at_call 11; (with_reducible refine Calls.mono (I2 _) ?_); rintro e w' ⟨rfl, rfl⟩))
  refine (RP.out).mono ?_
  rintro e w1 ⟨g, rfl, hg, hc, hf, hg0, h1⟩
  have B1 := Lib.hid (show Below w.heap.size w w1 from ((Below.refl _ w).alloc (Nat.le_refl _) _).trans (h1.mono (by simp)))
  have ST := Lib.hid (show StrAt w1 g (sprL n t 0) from fun j c hj => by
    have hj' : j < n := by have := (List.getElem?_eq_some_iff.1 hj).1; simpa [sprL] using this
    have : c = 46 := by
      rw [sprL, List.getElem?_replicate, if_pos hj'] at hj
      injection hj with hj
      exact hj.symm
    subst this
    exact ⟨hc j hj', hf j hj'⟩)
  have hgw : w.heap.size ≤ g := by simp at hg0; omega
  clear hc hf h1 hg0
  go_wp2_with fail
  go_loopw [21] (fun i wr => ∃ k : Nat, k ≤ t ∧ i = .int .i64 k ∧ StrAt wr g (sprL n t k) ∧ Below w.heap.size w wr ∧ g < wr.heap.size) (fun i _ => t - (intOf i).toNat)
  case atStart => exact ⟨0, Nat.zero_le _, rfl, ST.out, B1.out, hg⟩
  case round =>
    obtain ⟨k, hk, rfl, hY, hX, hz⟩ := hrel
    have HY := Lib.hid hY
    have HX := Lib.hid hX
    clear hX
    have k0 : (0 : Int) ≤ (k : Int) := by omega
    by_cases hkt : k < t
    · have hlt := LT.out k hkt
      have hw := spr_wrap (n := n) (t := t) (k := k) hn (by omega)
      have hq := spr_quo (k * n) t
      have hk2 : k * n / t < (sprL n t k).length := by rw [SL.out]; exact hlt
      have hcf := hY _ _ (List.getElem?_eq_getElem hk2)
      have hcell := hcf.1
      have hfz := hcf.2
      have hne : ¬ (t : Int) = 0 := by omega
      have E := Lib.hid (show sprL n t (k + 1) = (sprL n t k).set (k * n / t) 84 from rfl)
      have hq2 : ((k : Int) * (n : Int)) / (t : Int) = ((k * n / t : Nat) : Int) := by simp
      have hm0 : k * n ≤ 24 * 24 := Nat.mul_le_mul (by omega) hn
      generalize k * n / t = D at *
      have d0 : (0 : Int) ≤ (D : Int) := by omega
      have d1 : (D : Int) < (n : Int) := by omega
      clear hY hcf
      go_wp2_with fail
      go_roundw
      case rel => exact ⟨k + 1, by omega, by go_num, by rw [E.out]; exact HY.out.set hk2 84 _ rfl, HX.out.setCell hgw _, by simpa using hz⟩
      case measure => simp [intOf]; omega
    · obtain rfl : k = t := by omega
      have hln : (stT (sprL n k k)).length = n := by rw [stT, List.length_map, SL.out]
      have hJ := Try.strings_Join g 0 n (stT (sprL n k k)) ⟨#[]⟩ wr (fun j x hx => by
        rw [stT, List.getElem?_map] at hx
        obtain ⟨c, hc, rfl⟩ := Option.map_eq_some_iff.1 hx
        rw [Nat.zero_add]
        exact (hY j c hc).1) hz (by rw [hln]; omega) (by rw [hln]; exact Nat.le_refl _) (by rw [stT_join, SL.out]; omega)
      rw [stT_join, hln] at hJ
      have JN := Lib.hid hJ
      clear hY hJ
      go_wp2_with fail
      refine (JN.out).mono ?_
      rintro e w3 ⟨rfl, h3⟩
      have HB3 := Lib.hid (HX.out.trans (h3.mono HX.out.size))
      clear h3
      go_wp2_with fail
      go_ret2
      exact ⟨rfl, HB3.out⟩

theorem imSpreadTrains (n t : Int) (w : World) :
    Calls Try.prog 8 #[.int .i64 n, .int .i64 t] w fun e w' => e = .returned (.tuple #[.string (stR n t), .bool (stB n t)]) ∧ Below w.heap.size w w' := by
  have I1 := isInRange_any n 1 24
  have I2 := isInRange_any t 0 n
  cases h1 : inB n 1 24
  · rw [h1] at I1
    have B := Lib.hid (show stB n t = false by rw [stB, h1]; rfl)
    clear h1
    go_enter Try.func8, Try.ntmps8
    go_wp2_with (go_at_call 11; refine (I1 _).mono ?_; rintro e w' ⟨rfl, rfl⟩)
    go_ret2
    exact ⟨ret_st2 B.out (st_no B.out), Below.refl _ _⟩
  · rw [h1] at I1
    cases h2 : inB t 0 n
    · rw [h2] at I2
      have B := Lib.hid (show stB n t = false by rw [stB, h1, h2]; rfl)
      clear h1 h2
      go_enter Try.func8, Try.ntmps8
      go_wp2_with (first | (go_at_call 11; (with_reducible refine Calls.mono (I1 _) ?_); rintro e w' ⟨rfl, rfl⟩) | (go_at_call 11; (with_reducible refine Calls.mono (I2 _) ?_); rintro e w' ⟨rfl, rfl⟩))
      go_ret2
      exact ⟨ret_st2 B.out (st_no B.out), Below.refl _ _⟩
    · have B := show stB n t = true by rw [stB, h1, h2]; rfl
      simp only [inB, decide_eq_true_eq] at h1 h2
      obtain ⟨a, rfl⟩ : ∃ a : Nat, n = a := ⟨n.toNat, by omega⟩
      obtain ⟨b, rfl⟩ : ∃ b : Nat, t = b := ⟨t.toNat, by omega⟩
      have R : stR a b = ofL (sprL a b b) := by rw [stR, B]; rfl
      rw [B, R]
      exact imSt_yes a b (by omega) (by omega) (by omega) w

end Go.Proofs.Ytogimjbjdgccnaa
