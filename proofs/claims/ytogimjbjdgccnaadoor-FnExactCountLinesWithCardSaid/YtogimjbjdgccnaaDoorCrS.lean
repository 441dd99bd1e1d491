/- Contract of the program: the signals of a circuit. -/
import Derived.Test.YtogimjbjdgccnaaDoorCrA
import Derived.Test.YtogimjbjdgccnaaDoorBu
namespace Go.Proofs.YtogimjbjdgccnaaDoor
open Go.ChangeShapes Go.WideShapes Go.ChangeAt Go.RowKit
open Ln

set_option linter.unusedVariables false

theorem rowF_same {w w' : World} {base : Nat} {e : TypeId} {size n : Nat} {v : Value} {xs : List Value} (h : w.ownsRowF base e size v n xs) (hs : ∀ k, base ≤ k → k < w.heap.size → w'.heap[k]? = w.heap[k]?) : w'.ownsRowF base e size v n xs := by
  refine ⟨h.1, h.2.imp id ?_⟩
  rintro ⟨g, cap, cur, fz, hv, hb, hg, rest⟩
  exact ⟨g, cap, cur, fz, hv, hb, (hs g hb (Array.getElem?_eq_some_iff.1 hg).1).trans hg, rest⟩

theorem row_same {w w' : World} {base : Nat} {e : TypeId} {size n : Nat} {v : Value} {xs : List Value} (h : w.ownsRow base e size v n xs) (hs : ∀ k, base ≤ k → k < w.heap.size → w'.heap[k]? = w.heap[k]?) : w'.ownsRow base e size v n xs := by
  refine ⟨h.1, h.2.imp id ?_⟩
  rintro ⟨g, cap, cur, hv, hb, hg, rest⟩
  exact ⟨g, cap, cur, hv, hb, (hs g hb (Array.getElem?_eq_some_iff.1 hg).1).trans hg, rest⟩

theorem builderAt_same {T e : TypeId} {B b : Nat} {p : Value} {bs : List Value} {w w' : World} (h : Lib.BuilderAtF T e B b p bs w) (hs : ∀ k, B ≤ k → k < w.heap.size → w'.heap[k]? = w.heap[k]?) : Lib.BuilderAtF T e B b p bs w' := by
  obtain ⟨hB, v, hb, hr, hne⟩ := h
  exact ⟨hB, v, (hs b hB (Array.getElem?_eq_some_iff.1 hb).1).trans hb, rowF_same hr hs, hne⟩

theorem builder_same {T e : TypeId} {B b : Nat} {bs : List Value} {w w' : World} (h : Lib.IsBuilderF T e B b bs w) (hs : ∀ k, B ≤ k → k < w.heap.size → w'.heap[k]? = w.heap[k]?) : Lib.IsBuilderF T e B b bs w' :=
  h.imp (fun h => builderAt_same h hs) (fun h => builderAt_same h hs)

theorem Turn.then_below {B E m : Nat} {a b c : World} (h : Turn B E a b) (k : Below m b c) (hm : a.heap.size ≤ m) (hB : B ≤ m) : Turn B E a c :=
  ⟨h.low.trans (k.mono hB), fun i hi hl => (k.block i (by omega)).trans (h.hi i hi hl)⟩

theorem Cir.belowE {B E g m : Nat} {cs : List Nat} {l : List UInt8} {w w' : World} (h : Cir B E g cs l w) (hb : Below m w w') (hm : E ≤ m) : Cir B E g cs l w' :=
  h.keep (fun k _ hk => hb.block k (by omega)) hb.size

theorem sg_take {l : List UInt8} {gp k : Nat} (h : k < l.length) : (sg l gp).take (k + 1) = (sg l gp).take k ++ [sgc l gp k] := by
  have hk : k < (sg l gp).length := by rw [sg_len]; exact h
  rw [List.take_succ_eq_append_getElem hk]
  congr 2
  have := sg_get (g := gp) h
  rw [List.getElem?_eq_getElem hk] at this
  exact Option.some.inj this

set_option maxRecDepth 100000 in
set_option maxHeartbeats 1600000 in
theorem signals_any (B E g n cap gp s : Nat) (cs : List Nat) (l : List UInt8) (hn : l.length = n) (n24 : n ≤ 24) (hg1 : 1 ≤ gp) (hs : s = min gp (n - 1)) (w : World) (hB : B ≤ E) (hC : Cir B E g cs l w) :
    Calls Tryd.prog 60 #[.agg #[.slice (some ⟨g, 0, none⟩) n cap, .int .i64 s]] w fun e w' => e = .returned (.string (ofL (sg l gp))) ∧ Cir B E g cs l w' ∧ Turn B E w w' := by
  have hle := hC.le
  have TK := Lib.hid (fun k (h : k < n) => sg_take (l := l) (gp := gp) (k := k) (by rw [hn]; exact h))
  have TA := Lib.hid (show (sg l gp).take n = sg l gp from List.take_of_length_le (by rw [sg_len, hn]; exact Nat.le_refl _))
  have IC := Lib.hid (fun (i : Nat) (wr : World) (hi : i < n) (hr : Cir B E g cs l wr) => isClear_any B E g n cap i gp s cs l hn n24 hi hg1 hs wr hB hr)
  have CI := Lib.hid (fun k (h : k < n) => show ∃ c, cs[k]? = some c from ⟨_, List.getElem?_eq_getElem (by rw [hC.len, hn]; exact h)⟩)
  have HC := Lib.hid hC
  clear hC hn hs
  go_enter Tryd.func60, Tryd.ntmps60
  go_wp2_with fail
  go_loopw [9] (fun v wr => ∃ k : Nat, k ≤ n ∧ v = .int .i64 k ∧ Lib.IsBuilderF 92 5 (w.heap.size + 1) (w.heap.size + 1) (Lib.byteCells ((sg l gp).take k)) wr ∧ Cir B E g cs l wr ∧ Turn B E w wr ∧ wr.cell? ⟨w.heap.size, 0, none⟩ = some (.slice (some ⟨g, 0, none⟩) n cap) ∧ wr.cell? ⟨w.heap.size, 1, none⟩ = some (.int .i64 s) ∧ w.heap.size + 1 < wr.heap.size) (fun v _ => n - (intOf v).toNat)
  case atStart =>
    refine ⟨0, Nat.zero_le _, rfl, ?_, (HC.out.alloc _).alloc _, Turn.of_below (by go_grown) (by omega), by go_simp, by go_simp, by simp⟩
    have := Lib.IsBuilderF.of (Lib.fresh_isBuilder 92 5 (w.alloc (.cells #[.slice (some ⟨g, 0, none⟩) n cap, .int .i64 s] 54)))
    rw [World.size_alloc] at this
    exact this
  case round =>
    obtain ⟨k, hk, rfl, hI, hCr, hT, hc0, hc1, hsz⟩ := hrel
    have HI := Lib.hid hI
    have HCr := Lib.hid hCr
    have HT := Lib.hid hT
    have i0 : (0 : Int) ≤ (k : Int) := by omega
    have hz0 : w.heap.size < wr.heap.size := by omega
    clear hI hCr hT
    by_cases hlt : k < n
    · obtain ⟨c, hc⟩ := CI.out k hlt
      have hrow := HCr.out.row k c hc
      have HH := Lib.hid (hasTrain_any B E g k c cs l wr HCr.out hc)
      have HTK := Lib.hid (TK.out k hlt)
      have hln : ((sg l gp).take k).length ≤ 24 := by rw [List.length_take]; omega
      clear hc
      go_wp2_with fail
      refine (HH.out).mono ?_
      rintro e w1 ⟨rfl, C1, T1⟩
      have d0 := (T1.cell (b := w.heap.size) (o := 0) hle hz0).trans hc0
      have d1 := (T1.cell (b := w.heap.size) (o := 1) hle hz0).trans hc1
      have z1 := Nat.lt_of_lt_of_le hsz T1.low.size
      have HI1 := Lib.hid (builder_same HI.out fun j hj hl => T1.hi j (by omega) hl)
      have HT1 := Lib.hid (HT.out.trans T1)
      have HC1 := Lib.hid C1
      clear C1 T1 hc0 hc1 hrow
      cases ht : tr l k
      · have hsg := Lib.hid (show sgc l gp k = 46 by simp [sgc, ht])
        clear ht
        go_wp2_with fail
        refine (write_any _ _ ((sg l gp).take k) ⟨#[46]⟩ w1 HI1.out (by show _ + 1 ≤ _; omega) (by omega)).mono ?_
        rintro e w2 ⟨rfl, I2, b2⟩
        have e0 := (b2.cell (p := ⟨w.heap.size, 0, none⟩) (by show w.heap.size < _; omega)).trans d0
        have e1 := (b2.cell (p := ⟨w.heap.size, 1, none⟩) (by show w.heap.size < _; omega)).trans d1
        have z2 := Nat.lt_of_lt_of_le z1 b2.size
        have HI2 := Lib.hid (show Lib.IsBuilderF 92 5 (w.heap.size + 1) (w.heap.size + 1) (Lib.byteCells ((sg l gp).take (k + 1))) w2 by rw [HTK.out, hsg.out]; exact I2)
        have HT2 := Lib.hid (HT1.out.then_below b2 (by omega) (by omega))
        have HC2 := Lib.hid (HC1.out.belowE b2 (by omega))
        clear I2 b2 d0 d1
        go_wp2_with fail
        go_roundw
        case rel => exact ⟨k + 1, by omega, by go_num, HI2.out, HC2.out, HT2.out, e0, e1, z2⟩
        case measure => simp [intOf]; omega
      · have HIC := Lib.hid (IC.out k w1 hlt HC1.out)
        have HTR := Lib.hid ht
        clear ht
        go_wp2_with fail
        refine (HIC.out).mono ?_
        rintro e w2 ⟨rfl, C2, T2⟩
        have e0 := (T2.cell (b := w.heap.size) (o := 0) hle (by omega)).trans d0
        have e1 := (T2.cell (b := w.heap.size) (o := 1) hle (by omega)).trans d1
        have z2 := Nat.lt_of_lt_of_le z1 T2.low.size
        have HI2 := Lib.hid (builder_same HI1.out fun j hj hl => T2.hi j (by omega) hl)
        have HT2 := Lib.hid (HT1.out.trans T2)
        have HC2 := Lib.hid C2
        clear C2 T2 d0 d1
        cases hgr : grn l gp k
        · have hsg := Lib.hid (show sgc l gp k = 114 by simp [sgc, HTR.out, hgr])
          clear hgr
          go_wp2_with fail
          refine (write_any _ _ ((sg l gp).take k) ⟨#[114]⟩ w2 HI2.out (by show _ + 1 ≤ _; omega) (by omega)).mono ?_
          rintro e w3 ⟨rfl, I3, b3⟩
          have g0 := (b3.cell (p := ⟨w.heap.size, 0, none⟩) (by show w.heap.size < _; omega)).trans e0
          have g1 := (b3.cell (p := ⟨w.heap.size, 1, none⟩) (by show w.heap.size < _; omega)).trans e1
          have z3 := Nat.lt_of_lt_of_le z2 b3.size
          have HI3 := Lib.hid (show Lib.IsBuilderF 92 5 (w.heap.size + 1) (w.heap.size + 1) (Lib.byteCells ((sg l gp).take (k + 1))) w3 by rw [HTK.out, hsg.out]; exact I3)
          have HT3 := Lib.hid (HT2.out.then_below b3 (by omega) (by omega))
          have HC3 := Lib.hid (HC2.out.belowE b3 (by omega))
          clear I3 b3 e0 e1
          go_wp2_with fail
          go_roundw
          case rel => exact ⟨k + 1, by omega, by go_num, HI3.out, HC3.out, HT3.out, g0, g1, z3⟩
          case measure => simp [intOf]; omega
        · have hsg := Lib.hid (show sgc l gp k = 103 by simp [sgc, HTR.out, hgr])
          clear hgr
          go_wp2_with fail
          refine (write_any _ _ ((sg l gp).take k) ⟨#[103]⟩ w2 HI2.out (by show _ + 1 ≤ _; omega) (by omega)).mono ?_
          rintro e w3 ⟨rfl, I3, b3⟩
          have g0 := (b3.cell (p := ⟨w.heap.size, 0, none⟩) (by show w.heap.size < _; omega)).trans e0
          have g1 := (b3.cell (p := ⟨w.heap.size, 1, none⟩) (by show w.heap.size < _; omega)).trans e1
          have z3 := Nat.lt_of_lt_of_le z2 b3.size
          have HI3 := Lib.hid (show Lib.IsBuilderF 92 5 (w.heap.size + 1) (w.heap.size + 1) (Lib.byteCells ((sg l gp).take (k + 1))) w3 by rw [HTK.out, hsg.out]; exact I3)
          have HT3 := Lib.hid (HT2.out.then_below b3 (by omega) (by omega))
          have HC3 := Lib.hid (HC2.out.belowE b3 (by omega))
          clear I3 b3 e0 e1
          go_wp2_with fail
          go_roundw
          case rel => exact ⟨k + 1, by omega, by go_num, HI3.out, HC3.out, HT3.out, g0, g1, z3⟩
          case measure => simp [intOf]; omega
    · obtain rfl : k = n := by omega
      go_wp2_with fail
      refine (Tryd.Builder_String_any_f _ _ _ wr HI.out (by omega)).mono ?_
      rintro e w1 ⟨rfl, _, b1⟩
      have HT1 := Lib.hid (HT.out.then_below b1 (by omega) (by omega))
      have HC1 := Lib.hid (HCr.out.belowE b1 (by omega))
      clear b1
      go_wp2_with fail
      go_ret
      exact ⟨by rw [TA.out]; rfl, HC1.out, HT1.out⟩

end Go.Proofs.YtogimjbjdgccnaaDoor
