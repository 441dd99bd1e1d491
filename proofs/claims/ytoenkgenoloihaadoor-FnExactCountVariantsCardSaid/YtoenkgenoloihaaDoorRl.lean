/- Contracts: the least one of the spun rings, and the period of a ring, in the program and in the model. -/
import Derived.Test.YtoenkgenoloihaaDoorRs
namespace Go.Proofs.YtoenkgenoloihaaDoor
open Go.ChangeShapes Go.WideShapes Go.ChangeAt Go.RowKit

set_option linter.unusedVariables false

theorem own_capR {W : World} {B n g cap size : Nat} {e : TypeId} {xs : List Value} (h : W.ownsRow B e size (.slice (some ⟨g, 0, none⟩) n cap) n xs) : n ≤ cap := by
  rcases h.2 with ⟨h, _⟩ | ⟨g', cap', cur, h, _, _, h1, h2, _⟩
  · cases h
  · injection h with _ _ h3
    subst h3
    exact h1

def lrS (s : ByteArray) : ByteArray := cond (clB s) (ofL (leastL s.data.toList)) ⟨#[]⟩

def prI (s : ByteArray) : Int := cond (clB s) (perN s.data.toList : Nat) 0

theorem lr_no {s : ByteArray} (h : clB s = false) : Ending.returned (.tuple #[.string ⟨#[]⟩, .bool false]) = Ending.returned (.tuple #[.string (lrS s), .bool false]) := by simp [lrS, h]

theorem lr_yes {s : ByteArray} (h : clB s = true) : Ending.returned (.tuple #[.string (ofL (leastL s.data.toList)), .bool true]) = Ending.returned (.tuple #[.string (lrS s), .bool true]) := by simp [lrS, h]

theorem pr_no {s : ByteArray} (h : clB s = false) : Ending.returned (.tuple #[.int .i64 0, .bool false]) = Ending.returned (.tuple #[.int .i64 (prI s), .bool false]) := by simp [prI, h]

theorem pr_yes {s : ByteArray} (h : clB s = true) : Ending.returned (.tuple #[.int .i64 (perN s.data.toList : Nat), .bool true]) = Ending.returned (.tuple #[.int .i64 (prI s), .bool true]) := by simp [prI, h]

theorem cl_data {s : ByteArray} (h : clB s = true) : tkB (ofL s.data.toList) = true ∧ 0 < s.data.toList.length := by
  have ht := clB_tk h
  rw [clB_yes ht] at h
  simp only [Bool.and_eq_true, decide_eq_true_eq] at h
  exact ⟨by rw [ofL_data]; exact ht, by rw [size_list]; exact h.1⟩

set_option maxRecDepth 100000 in
theorem spLeastRing (s : ByteArray) (hs : s.size ≤ 1048576) (w : World) :
    Calls Tryd.prog 15 #[.string s] w fun e w' => e = .returned (.tuple #[.string (lrS s), .bool (clB s)]) ∧ Below w.heap.size w w' := by
  have HC := Lib.hid (csRing_any s hs)
  cases tc : clB s
  · have G := Lib.hid tc
    rw [tc] at HC
    go_enter Tryd.func15, Tryd.ntmps15
    go_wp2_with (go_at_call 45; (with_reducible refine (HC.out _).mono ?_); rintro e wA ⟨rfl, h1⟩; (try with_reducible replace h1 := undrew h1); have hB : Below w.heap.size w wA := ba (by go_grown) h1; obtain ⟨hcwA, hfwA⟩ := bcell h1; have hqwA := h1.size; (try simp at hqwA); )
    go_ret2
    exact ⟨lr_no G.out, by go_grown⟩
  · have G := Lib.hid tc
    have hL := csLeast_any s.data.toList (cl_data tc).1
    rw [ofL_data] at hL
    have HL := Lib.hid hL
    rw [tc] at HC
    clear hL
    go_enter Tryd.func15, Tryd.ntmps15
    go_wp2_with (first | (go_at_call 45; (with_reducible refine (HC.out _).mono ?_); rintro e wA ⟨rfl, h1⟩; (try with_reducible replace h1 := undrew h1); have hB : Below w.heap.size w wA := ba (by go_grown) h1; obtain ⟨hcwA, hfwA⟩ := bcell h1; have hqwA := h1.size; (try simp at hqwA); ) | (go_at_call 46; (with_reducible refine (HL.out _).mono ?_); rintro e wB ⟨rfl, h1⟩; (try with_reducible replace h1 := undrew h1); have hB : Below w.heap.size w wB := ba (by go_grown) h1; obtain ⟨hcwB, hfwB⟩ := bcell h1; have hqwB := h1.size; (try simp at hqwB); (try have hz0wB : wA.heap.size < wB.heap.size := (by omega)); (try have he0wB : wA.heap.size ≤ wB.heap.size := (by omega))))
    go_ret2
    exact ⟨lr_yes G.out, by go_grown⟩

set_option maxRecDepth 100000 in
theorem spPeriodOfRing (s : ByteArray) (hs : s.size ≤ 1048576) (w : World) :
    Calls Tryd.prog 19 #[.string s] w fun e w' => e = .returned (.tuple #[.int .i64 (prI s), .bool (clB s)]) ∧ Below w.heap.size w w' := by
  have HC := Lib.hid (csRing_any s hs)
  cases tc : clB s
  · have G := Lib.hid tc
    rw [tc] at HC
    go_enter Tryd.func19, Tryd.ntmps19
    go_wp2_with (go_at_call 45; (with_reducible refine (HC.out _).mono ?_); rintro e wA ⟨rfl, h1⟩; (try with_reducible replace h1 := undrew h1); have hB : Below w.heap.size w wA := ba (by go_grown) h1; obtain ⟨hcwA, hfwA⟩ := bcell h1; have hqwA := h1.size; (try simp at hqwA); )
    go_ret2
    exact ⟨pr_no G.out, by go_grown⟩
  · have G := Lib.hid tc
    have hL := csPeriod_any s.data.toList (tk_le (cl_data tc).1) (cl_data tc).2
    rw [ofL_data] at hL
    have HL := Lib.hid hL
    rw [tc] at HC
    clear hL
    go_enter Tryd.func19, Tryd.ntmps19
    go_wp2_with (first | (go_at_call 45; (with_reducible refine (HC.out _).mono ?_); rintro e wA ⟨rfl, h1⟩; (try with_reducible replace h1 := undrew h1); have hB : Below w.heap.size w wA := ba (by go_grown) h1; obtain ⟨hcwA, hfwA⟩ := bcell h1; have hqwA := h1.size; (try simp at hqwA); ) | (go_at_call 54; (with_reducible refine (HL.out _).mono ?_); rintro e wB ⟨rfl, h1⟩; (try with_reducible replace h1 := undrew h1); have hB : Below w.heap.size w wB := ba (by go_grown) h1; obtain ⟨hcwB, hfwB⟩ := bcell h1; have hqwB := h1.size; (try simp at hqwB); (try have hz0wB : wA.heap.size < wB.heap.size := (by omega)); (try have he0wB : wA.heap.size ≤ wB.heap.size := (by omega))))
    go_ret2
    exact ⟨pr_yes G.out, by go_grown⟩

set_option maxRecDepth 100000 in
set_option maxHeartbeats 800000 in
theorem imLeastRing (s : ByteArray) (hs : s.size ≤ 1048576) (w : World) :
    Calls Tryd.prog 16 #[.string s] w fun e w' => e = .returned (.tuple #[.string (lrS s), .bool (clB s)]) ∧ Below w.heap.size w w' := by
  have HLO := Lib.hid (loopOf_any s hs)
  have hz := (zero_of_info (P := Tryd.prog) lpInfo).1
  obtain ⟨K, hK⟩ : ∃ K, K = 40 := ⟨_, rfl⟩
  have zE := zK hK
  have HK := Lib.hid hK
  have hAl := aK hK (loL s)
  cases tc : clB s
  · have G := Lib.hid tc
    rw [tc] at HLO
    clear hK
    go_enter Tryd.func16, Tryd.ntmps16
    go_wp2_with fail
    refine (HLO.out _).mono ?_
    rintro e w1 ⟨rfl, hb1⟩
    have a1 := LpAt.new w1 zLp
    have st := a1.store (loL s)
    have HB := Lib.hid (below_setRow ((ba (by go_grown) hb1 : Below w.heap.size w w1).alloc hb1.size (.cells (arr zLp) 45)) hb1.size (arr (loL s)))
    clear a1 hb1
    go_wp2_with fail
    go_ret2
    exact ⟨lr_no G.out, HB.out⟩
  · have G := Lib.hid tc
    obtain ⟨ht, h0⟩ := cl_data tc
    have hl40 := tk_le ht
    have hlo : loL s = mkLp s.data.toList := by simp [loL, tc]
    rw [tc, hlo] at HLO
    rw [hlo] at hAl
    have hSP := spins_any s.data.toList hl40 (tk_nz ht)
    obtain ⟨x, xs, hr, hm⟩ := least_rot1 h0
    have hrl := rot1_len s.data.toList
    have hml := leastL_len h0
    have hxm : x.length ≤ 40 ∧ ∀ y ∈ xs, y.length = x.length := by
      have hall : ∀ y ∈ rot1 s.data.toList, y.length = s.data.toList.length := fun y hy => orb_len ((rot1_mem h0).1 hy)
      rw [hr] at hall
      have hx := hall x (by simp)
      exact ⟨by omega, fun y hy => by rw [hall y (by simp [hy]), hx]⟩
    have hmn := mnL_mk x xs hxm.1 hxm.2
    rw [hm] at hmn
    have hT := text_any (mkLp (leastL s.data.toList))
    rw [txt_mk (by omega) (fun c hc => by
      obtain ⟨k, hk, e⟩ := leastL_orb h0
      rw [e] at hc
      refine tk_nz ht c ?_
      simp only [spn, List.mem_append] at hc
      rcases hc with h | h
      · exact List.mem_of_mem_drop h
      · exact List.mem_of_mem_take h)] at hT
    obtain ⟨n, hn⟩ : ∃ n, s.data.toList.length = n := ⟨_, rfl⟩
    rw [hn] at hSP hl40 hrl h0
    rw [hr, List.map_cons] at hSP
    have hln : (mkLp x :: xs.map mkLp).length = n := by rw [List.length_cons, List.length_map, ← hrl, hr, List.length_cons]
    have HSP := Lib.hid hSP
    have HLN := Lib.hid hln
    have HMN := Lib.hid hmn
    have HT := Lib.hid hT
    clear hSP hln hmn hT hr hm hrl hml hxm hn hlo hK
    go_enter Tryd.func16, Tryd.ntmps16
    go_wp2_with fail
    refine (HLO.out _).mono ?_
    rintro e w1 ⟨rfl, hb1⟩
    have a1 := LpAt.new w1 zLp
    have st := a1.store (mkLp s.data.toList)
    have l1 := (a1.set (mkLp s.data.toList)).loadK HK.out
    have HB := Lib.hid (below_setRow ((ba (by go_grown) hb1 : Below w.heap.size w w1).alloc hb1.size (.cells (arr zLp) 45)) hb1.size (arr (mkLp s.data.toList)))
    clear a1 hb1
    go_wp2_with fail
    generalize (w1.alloc (.cells (arr zLp) 45)).setRow w1.heap.size (arr (mkLp s.data.toList)) = W1 at *
    refine (HSP.out _).mono ?_
    rintro e w2 ⟨v, rfl, hO, hb2⟩
    obtain ⟨g, cap, rfl, hg0, hcp⟩ := hO.form h0
    have hg := (hO.lt g rfl).2
    have hcap := own_capR hO
    have R := Lib.hid (RowLp.of hO HLN.out)
    have HB2 := Lib.hid (HB.out.trans (hb2.mono HB.out.size))
    clear hO hb2 st l1
    go_wp2_with fail
    refine (minFunc_any (mkLp x) (xs.map mkLp) n HLN.out (by omega) g cap hcap _ R.out hg).mono ?_
    rintro e w3 ⟨rfl, hb3⟩
    have HB3 := Lib.hid (HB2.out.trans (hb3.mono HB2.out.size))
    clear hb3
    rw [HMN.out]
    go_wp2_with fail
    refine (HT.out _).mono ?_
    rintro e w4 ⟨rfl, hb4⟩
    have HB4 := Lib.hid (HB3.out.trans (hb4.mono HB3.out.size))
    clear hb4
    go_wp2_with fail
    go_ret2
    exact ⟨lr_yes G.out, HB4.out⟩

end Go.Proofs.YtoenkgenoloihaaDoor
