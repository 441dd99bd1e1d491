/- Contracts: which puzzles there are, in the model and in the program; how many gaps; whether there is one at a place. -/
import Derived.Test.YtdafomfpchlhpaaDoorPzM
import Derived.Test.YtdafomfpchlhpaaDoorRn
import Derived.Test.YtdafomfpchlhpaaDoorTkCt
import Derived.Test.YtdafomfpchlhpaaDoorLnT
import Derived.Test.YtdafomfpchlhpaaDoorBc
namespace Go.Proofs.YtdafomfpchlhpaaDoor
open Go.ChangeShapes Go.WideShapes Go.ChangeAt Go.RowKit

set_option linter.unusedVariables false
set_option linter.unusedSimpArgs false

theorem byte_eq {c : UInt8} {n : Nat} (h : c.toNat = n) : ((c.toNat : Nat) : Int) = n := by rw [h]

theorem byte_ne {c : UInt8} {n : Nat} (h : c.toNat ≠ n) : (((c.toNat : Nat) : Int) == (n : Int)) = false := by
  rw [beq_eq_false_iff_ne]; omega

theorem gap_yes {c : UInt8} (h : c = 63) : ((c.toNat : Nat) : Int) = 63 := by rw [h]; rfl

theorem gap_no {c : UInt8} (h : c ≠ 63) : (((c.toNat : Nat) : Int) == 63) = false := by
  rw [beq_eq_false_iff_ne]
  intro e
  exact h (UInt8.toNat_inj.1 (by show c.toNat = 63; omega))

theorem pz_no {p : Pz} (h : ¬ pzOK p) : pzB p = false := decide_eq_false h

theorem pz_no0 {p : Pz} (h : inB p.t.size 1 40 = false) : pzB p = false := pz_no fun k => by
  simp only [inB, decide_eq_false_iff_not] at h
  exact h ⟨by have := k.1; omega, by have := k.2.1; omega⟩

theorem pz_no1 {p : Pz} (h : inB p.s 0 9 = false) : pzB p = false := pz_no fun k => by
  obtain ⟨_, _, _, k3, k4, k5, k6⟩ := k
  simp only [inB, decide_eq_false_iff_not] at h
  omega

theorem pz_no2 {p : Pz} (h : inB p.c 0 9 = false) : pzB p = false := pz_no fun k => by
  obtain ⟨_, _, _, k3, k4, k5, k6⟩ := k
  simp only [inB, decide_eq_false_iff_not] at h
  omega

theorem pz_no3 {p : Pz} {k : Nat} (h : k < p.t.size) (hp : gpc p.t[k] = false) : pzB p = false := pz_no fun q => by
  have hm : p.t[k] ∈ p.t.data.toList := List.getElem_mem (l := p.t.data.toList) (n := k) (by simpa using h)
  have := q.2.2.1 _ hm
  rw [hp] at this
  cases this

theorem pz_end {p : Pz} (h0 : inB p.t.size 1 40 = true) (h1 : inB p.s 0 9 = true) (h2 : inB p.c 0 9 = true) (ha : ∀ c ∈ p.t.data.toList, gpc c = true) :
    pzB p = (decide (gps p.t.data.toList ≤ 9) && (((gps p.t.data.toList : Nat) : Int) == p.s + p.c)) := by
  simp only [inB, decide_eq_true_eq] at h0 h1 h2
  rw [Bool.eq_iff_iff]
  simp only [pzB, decide_eq_true_eq, Bool.and_eq_true, beq_iff_eq]
  constructor
  · rintro ⟨_, _, _, k3, _, _, k6⟩
    exact ⟨k3, k6.symm⟩
  · rintro ⟨k3, k6⟩
    exact ⟨by omega, by omega, ha, k3, by omega, by omega, k6.symm⟩

theorem gps_snoc (l : List UInt8) (c : UInt8) : gps (l ++ [c]) = gps l + (if c == 63 then 1 else 0) := cnt_snoc 63 c l

set_option maxRecDepth 100000 in
set_option maxHeartbeats 800000 in
theorem pzGood_any (p : Pz) (hs : p.t.size ≤ 1048576) (w : World) :
    Calls Tryd.prog 54 #[pv p] w fun e w' => e = .returned (.bool (pzB p)) ∧ Below w.heap.size w w' := by
  cases h0 : inB p.t.size 1 40
  · have R := Lib.hid (pz_no0 h0)
    obtain ⟨t, s, c⟩ := p
    simp only at hs h0
    go_enter Tryd.func54, Tryd.ntmps54
    go_wp2_with (go_at_call 70; refine (l1In_any _ _ _ _).mono ?_; rintro e w' ⟨rfl, rfl⟩)
    go_returns
    exact ⟨by rw [R.out]; rfl, by go_grown⟩
  cases h1 : inB p.s 0 9
  · have R := Lib.hid (pz_no1 h1)
    obtain ⟨t, s, c⟩ := p
    simp only at hs h0 h1
    go_enter Tryd.func54, Tryd.ntmps54
    go_wp2_with (go_at_call 70; refine (l1In_any _ _ _ _).mono ?_; rintro e w' ⟨rfl, rfl⟩)
    go_returns
    exact ⟨by rw [R.out]; rfl, by go_grown⟩
  cases h2 : inB p.c 0 9
  · have R := Lib.hid (pz_no2 h2)
    obtain ⟨t, s, c⟩ := p
    simp only at hs h0 h1 h2
    go_enter Tryd.func54, Tryd.ntmps54
    go_wp2_with (go_at_call 70; refine (l1In_any _ _ _ _).mono ?_; rintro e w' ⟨rfl, rfl⟩)
    go_returns
    exact ⟨by rw [R.out]; rfl, by go_grown⟩
  have HE := Lib.hid (pz_end h0 h1 h2)
  have HN := Lib.hid (fun k (h : k < p.t.size) => pz_no3 (p := p) h)
  have b1 : 0 ≤ p.s ∧ p.s ≤ 9 := by simpa [inB] using h1
  have b2 : 0 ≤ p.c ∧ p.c ≤ 9 := by simpa [inB] using h2
  have b0 : p.t.size ≤ 40 := by have : 1 ≤ (p.t.size : Int) ∧ (p.t.size : Int) ≤ 40 := by simpa [inB] using h0
                                omega
  generalize hB : pzB p = B at *
  clear hB
  obtain ⟨t, s, c⟩ := p
  simp only at hs h0 h1 h2 b0 b1 b2 HE HN
  go_enter Tryd.func54, Tryd.ntmps54
  go_wp2_with (go_at_call 70; refine (l1In_any _ _ _ _).mono ?_; rintro e w' ⟨rfl, rfl⟩)
  go_loop [3, 4] (fun g i => ∃ k : Nat, k ≤ t.size ∧ i = .int .i64 k ∧ g = .int .i64 (gps (t.data.toList.take k) : Nat) ∧ ∀ c ∈ t.data.toList.take k, gpc c = true) (fun _ i => t.size - (intOf i).toNat)
  case atStart => exact ⟨0, Nat.zero_le _, rfl, rfl, fun c hc => by simp at hc⟩
  case round =>
    obtain ⟨k, hk, rfl, rfl, hall⟩ := hrel
    have hgl : gps (t.data.toList.take k) ≤ k := Nat.le_trans List.count_le_length (List.length_take_le _ _)
    have HA := Lib.hid hall
    clear hall
    by_cases hlt : k < t.size
    · have HT := Lib.hid (take_snoc t k hlt)
      have HG := Lib.hid ((congrArg gps (take_snoc t k hlt)).trans (gps_snoc _ _))
      by_cases h63 : t[k] = 63
      · have hg := gap_yes h63
        have HX := Lib.hid h63
        clear h63
        go_wp2_with fail
        go_round
        case rel => exact ⟨k + 1, by omega, by go_num, by rw [HG.out, HX.out]; go_num, fun c hc => by
          rw [HT.out, List.mem_append, List.mem_singleton] at hc
          rcases hc with hc | hc
          · exact HA.out c hc
          · rw [hc, HX.out]; rfl⟩
        case measure => simp [intOf]; omega
      · have hg := gap_no h63
        have he := pcB_pcb t[k]
        have HX := Lib.hid h63
        cases hp : pcb t[k]
        · have hp2 : pcB ((t[k].toNat : Nat) : Int) = false := he.trans hp
          have R := Lib.hid (HN.out k hlt (by simp [gpc, h63, hp]))
          clear he hp h63
          go_wp2_with (go_at_call 71; refine (ptPiece_any _ _).mono ?_; rintro e w' ⟨rfl, rfl⟩)
          go_returns
          exact ⟨by rw [R.out]; rfl, by go_grown⟩
        · have hp2 : pcB ((t[k].toNat : Nat) : Int) = true := he.trans hp
          have HP := Lib.hid hp
          clear he hp h63
          go_wp2_with (go_at_call 71; refine (ptPiece_any _ _).mono ?_; rintro e w' ⟨rfl, rfl⟩)
          go_round
          case rel => exact ⟨k + 1, by omega, by go_num, by rw [HG.out, if_neg (by simp [HX.out])]; rfl, fun c hc => by
            rw [HT.out, List.mem_append, List.mem_singleton] at hc
            rcases hc with hc | hc
            · exact HA.out c hc
            · rw [hc]; simp [gpc, HP.out]⟩
          case measure => simp [intOf]; omega
    · have hta := take_all t hlt
      rw [hta] at hgl
      have R := Lib.hid (HE.out (fun c hc => HA.out c (by rw [hta]; exact hc)))
      rw [hta]
      have e1 : wrap64 (s + c) = s + c := IntWalk.wrap64_in _ ⟨by omega, by omega⟩
      clear hta
      generalize gps t.data.toList = G at *
      by_cases h9 : G ≤ 9
      · have d9 : ((G : Int) ≤ 9) := by omega
        go_wp2_with fail
        go_returns
        exact ⟨by rw [R.out, decide_eq_true h9]; simp, by go_grown⟩
      · have d9 : ¬ ((G : Int) ≤ 9) := by omega
        go_wp2_with fail
        go_returns
        exact ⟨by rw [R.out, decide_eq_false h9]; simp, by go_grown⟩

theorem spIsPuzzle (p : Pz) (hs : p.t.size ≤ 1048576) (w : World) :
    Calls Tryd.prog 19 #[pv p] w fun e w' => e = .returned (.bool (pzB p)) ∧ Below w.heap.size w w' := by
  have P := Lib.hid (pzGood_any p hs)
  generalize pzB p = B at *
  obtain ⟨t, s, c⟩ := p
  go_enter Tryd.func19, Tryd.ntmps19
  go_wp2_with (go_at_call 54; refine (P.out _).mono ?_; rintro e w1 ⟨rfl, h1⟩; have hB : Below w.heap.size w w1 := ba (by go_grown) h1; obtain ⟨hc1, hf1⟩ := bcell h1; have hq := h1.size; (try simp at hq); have hz0 : w.heap.size < w1.heap.size := (by omega); have HK1 := Lib.hid h1; clear h1 hq)
  go_returns
  exact ⟨rfl, by go_grown⟩

/-- The program's variable that tells how long a text is to be looked through at once holds a number. -/
def MxL (w : World) : Prop := ∃ m, w.cell? ⟨0, 0, none⟩ = some (.int .i64 m)

theorem MxL.below {w w' : World} (h : MxL w) (hb : Below w.heap.size w w') : MxL w' := by
  obtain ⟨m, hm⟩ := h
  have hlt : 0 < w.heap.size := World.block_lt_of_cell? _ _ hm
  exact ⟨m, (hb.cell (p := ⟨0, 0, none⟩) hlt).trans hm⟩

open Ln in
theorem repP_any (s : ByteArray) (hs : s.size ≤ 1048576) (w : World) (hM : MxL w) :
    Calls Tryd.prog 57 #[.string s, .string ⟨#[63]⟩, .string ⟨#[83]⟩] w fun e w' => e = .returned (.string (ofL (swp 63 83 s.data.toList))) ∧ Below w.heap.size w w' := by
  obtain ⟨m, hm⟩ := hM
  have hle : Lib.countB s ⟨#[63]⟩ ≤ s.size := Lib.countB_le ⟨#[63]⟩ (Nat.le_refl _) _ s (Nat.le_refl _)
  refine (Tryd.strings_ReplaceAll s ⟨#[63]⟩ ⟨#[83]⟩ m w (by omega) hm (Nat.le_refl _) (by show s.size + Lib.countB s ⟨#[63]⟩ * 1 ≤ _; omega)).mono ?_
  rintro e w1 ⟨rfl, h1⟩
  exact ⟨by rw [show (ByteArray.mk #[63]).data.toList = [63] from rfl, show (ByteArray.mk #[83]).data.toList = [83] from rfl, rep_all 63 83 _ (by decide)]; rfl, h1⟩
open Ln in

theorem swp_track (s : ByteArray) : tkB (ofL (swp 63 83 s.data.toList)) = decide (s.size ≤ 40 ∧ ∀ c ∈ s.data.toList, gpc c = true) := by
  rw [Bool.eq_iff_iff]
  simp only [tkB, ofL_size, swp_len, size_list, Bool.and_eq_true, decide_eq_true_eq, List.all_eq_true]
  have e : (ofL (swp 63 83 s.data.toList)).data.toList = s.data.toList.map fun c => if c == 63 then 83 else c := by simp [ofL, swp]
  rw [e]
  refine and_congr_right fun _ => ?_
  constructor
  · intro h c hc
    have := h _ (List.mem_map.2 ⟨c, hc, rfl⟩)
    by_cases h63 : c = 63
    · subst h63; rfl
    · rw [if_neg (by simpa using h63)] at this
      simp [gpc, this]
  · intro h d hd
    obtain ⟨c, hc, rfl⟩ := List.mem_map.1 hd
    have := h c hc
    by_cases h63 : c = 63
    · subst h63; decide
    · rw [if_neg (by simpa using h63)]
      simpa [gpc, h63] using this

set_option maxRecDepth 100000 in
theorem gaps_any (p : Pz) (w : World) :
    Calls Tryd.prog 55 #[pv p] w fun e w' => e = .returned (.int .i64 (gps p.t.data.toList : Nat)) ∧ Below w.heap.size w w' := by
  have P := Lib.hid (fun w => count_any p.t 63 w)
  unfold gps
  generalize cnt 63 p.t.data.toList = G at *
  obtain ⟨t, s, c⟩ := p
  go_enter Tryd.func55, Tryd.ntmps55
  go_wp2_with (go_at_call 92; refine (P.out _).mono ?_; rintro e w' ⟨rfl, rfl⟩)
  go_returns
  exact ⟨rfl, by go_grown⟩

open Ln in
set_option maxRecDepth 100000 in
set_option maxHeartbeats 1600000 in
theorem imIsPuzzle (p : Pz) (hs : p.t.size ≤ 1048576) (w : World) (hM : MxL w) :
    Calls Tryd.prog 21 #[pv p] w fun e w' => e = .returned (.bool (pzB p)) ∧ Below w.heap.size w w' := by
  have PG := Lib.hid (gaps_any p)
  have P0 : ∀ w', Below w.heap.size w w' → Calls Tryd.prog 57 #[.string p.t, .string ⟨#[63]⟩, .string ⟨#[83]⟩] w' fun e w'' => e = .returned (.string (ofL (swp 63 83 p.t.data.toList))) ∧ Below w'.heap.size w' w'' := fun w' hb => repP_any p.t hs w' (hM.below hb)
  have PR := Lib.hid P0
  have T0 := imIsTrack_any (ofL (swp 63 83 p.t.data.toList)) (by rw [ofL_size, swp_len, size_list]; exact hs)
  rw [swp_track] at T0
  have hgl : gps p.t.data.toList ≤ p.t.size := Nat.le_trans List.count_le_length (by rw [size_list]; exact Nat.le_refl _)
  have hOK : pzB p = (decide (1 ≤ p.t.size) && decide (gps p.t.data.toList ≤ 9) && decide (p.t.size ≤ 40 ∧ ∀ c ∈ p.t.data.toList, gpc c = true) && inB p.s 0 (gps p.t.data.toList : Nat) && (p.c == (gps p.t.data.toList : Nat) - p.s)) := by
    rw [Bool.eq_iff_iff]
    simp only [pzB, inB, decide_eq_true_eq, Bool.and_eq_true, beq_iff_eq]
    constructor
    · rintro ⟨k0, k1, k2, k3, k4, k5, k6⟩
      exact ⟨⟨⟨⟨k0, k3⟩, k1, k2⟩, k4, by omega⟩, by omega⟩
    · rintro ⟨⟨⟨⟨k0, k3⟩, k1, k2⟩, k4, k5⟩, k6⟩
      exact ⟨k0, k1, k2, k3, k4, by omega, by omega⟩
  rw [hOK]
  have he : p.t.size = 0 ↔ p.t.toList = [] := by
    rw [ByteArray.toList_eq, ← size_list]
    exact ⟨fun h => List.eq_nil_of_length_eq_zero h, fun h => by rw [h]; rfl⟩
  clear hOK P0
  generalize ofL (swp 63 83 p.t.data.toList) = T at *
  generalize decide (p.t.size ≤ 40 ∧ ∀ c ∈ p.t.data.toList, gpc c = true) = K at *
  generalize gps p.t.data.toList = G at *
  have PT := Lib.hid T0
  clear T0
  obtain ⟨t, s, c⟩ := p
  simp only at PG PR hs hgl he ⊢
  clear hM
  by_cases h1 : t.size = 0
  · have hl := he.1 h1
    rw [decide_eq_false (show ¬ 1 ≤ t.size by omega)]
    go_enter Tryd.func21, Tryd.ntmps21
    go_wp2_with (go_at_call 55; (with_reducible refine (PG.out _).mono ?_); rintro e wA ⟨rfl, h1⟩; (try with_reducible replace h1 := undrew h1); have hB : Below w.heap.size w wA := ba (by go_grown) h1; obtain ⟨hcwA, hfwA⟩ := bcell h1; have hqwA := h1.size; (try simp at hqwA); (try have hz0wA : w.heap.size < wA.heap.size := (by omega)); (try have he0wA : w.heap.size ≤ wA.heap.size := (by omega)))
    all_goals go_returns
    all_goals exact ⟨by simp, by go_grown⟩
  have hl : ¬ t.toList = [] := fun h => h1 (he.2 h)
  have hi : t.toList.isEmpty = false := by cases hl' : t.toList with
    | nil => exact absurd hl' hl
    | cons a l => rfl
  rw [decide_eq_true (show 1 ≤ t.size by omega)]
  by_cases h9 : G ≤ 9
  · have d9 : ¬ (9 : Int) < (G : Int) := by omega
    rw [decide_eq_true h9]
    cases K
    · go_enter Tryd.func21, Tryd.ntmps21
      go_wp2_with (first | (go_at_call 55; (with_reducible refine (PG.out _).mono ?_); rintro e wA ⟨rfl, h1⟩; (try with_reducible replace h1 := undrew h1); have hB : Below w.heap.size w wA := ba (by go_grown) h1; obtain ⟨hcwA, hfwA⟩ := bcell h1; have hqwA := h1.size; (try simp at hqwA); (try have hz0wA : w.heap.size < wA.heap.size := (by omega)); (try have he0wA : w.heap.size ≤ wA.heap.size := (by omega))) | (go_at_call 57; (with_reducible refine Calls.mono (PR.out _ ?_) ?_); (focus (go_grown; done)); rintro e wB ⟨rfl, h1⟩; (try with_reducible replace h1 := undrew h1); have hB : Below w.heap.size w wB := ba (by go_grown) h1; obtain ⟨hcwB, hfwB⟩ := bcell h1; have hqwB := h1.size; (try simp at hqwB); (try have hz0wB : w.heap.size < wB.heap.size := (by omega)); (try have he0wB : w.heap.size ≤ wB.heap.size := (by omega)); (try have hz1wB : wA.heap.size < wB.heap.size := (by omega)); (try have he1wB : wA.heap.size ≤ wB.heap.size := (by omega))) | (go_at_call 56; refine (PT.out _).mono ?_; rintro e w' ⟨rfl, rfl⟩))
      all_goals go_returns
      all_goals exact ⟨by simp, by go_grown⟩
    · have e1 : wrap64 ((G : Int) - s) = wrap64 ((G : Int) - s) := rfl
      cases hS : inB s 0 (G : Int)
      · go_enter Tryd.func21, Tryd.ntmps21
        go_wp2_with (first | (go_at_call 55; (with_reducible refine (PG.out _).mono ?_); rintro e wA ⟨rfl, h1⟩; (try with_reducible replace h1 := undrew h1); have hB : Below w.heap.size w wA := ba (by go_grown) h1; obtain ⟨hcwA, hfwA⟩ := bcell h1; have hqwA := h1.size; (try simp at hqwA); (try have hz0wA : w.heap.size < wA.heap.size := (by omega)); (try have he0wA : w.heap.size ≤ wA.heap.size := (by omega))) | (go_at_call 57; (with_reducible refine Calls.mono (PR.out _ ?_) ?_); (focus (go_grown; done)); rintro e wB ⟨rfl, h1⟩; (try with_reducible replace h1 := undrew h1); have hB : Below w.heap.size w wB := ba (by go_grown) h1; obtain ⟨hcwB, hfwB⟩ := bcell h1; have hqwB := h1.size; (try simp at hqwB); (try have hz0wB : w.heap.size < wB.heap.size := (by omega)); (try have he0wB : w.heap.size ≤ wB.heap.size := (by omega)); (try have hz1wB : wA.heap.size < wB.heap.size := (by omega)); (try have he1wB : wA.heap.size ≤ wB.heap.size := (by omega))) | (go_at_call 56; refine (PT.out _).mono ?_; rintro e w' ⟨rfl, rfl⟩) | (go_at_call 58; refine (isInRange_any _ _ _ _).mono ?_; rintro e w' ⟨rfl, rfl⟩))
        all_goals go_returns
        all_goals exact ⟨by simp, by go_grown⟩
      · have bs : 0 ≤ s ∧ s ≤ (G : Int) := by simpa [inB] using hS
        have e1 : wrap64 ((G : Int) - s) = (G : Int) - s := IntWalk.wrap64_in _ ⟨by omega, by omega⟩
        go_enter Tryd.func21, Tryd.ntmps21
        go_wp2_with (first | (go_at_call 55; (with_reducible refine (PG.out _).mono ?_); rintro e wA ⟨rfl, h1⟩; (try with_reducible replace h1 := undrew h1); have hB : Below w.heap.size w wA := ba (by go_grown) h1; obtain ⟨hcwA, hfwA⟩ := bcell h1; have hqwA := h1.size; (try simp at hqwA); (try have hz0wA : w.heap.size < wA.heap.size := (by omega)); (try have he0wA : w.heap.size ≤ wA.heap.size := (by omega))) | (go_at_call 57; (with_reducible refine Calls.mono (PR.out _ ?_) ?_); (focus (go_grown; done)); rintro e wB ⟨rfl, h1⟩; (try with_reducible replace h1 := undrew h1); have hB : Below w.heap.size w wB := ba (by go_grown) h1; obtain ⟨hcwB, hfwB⟩ := bcell h1; have hqwB := h1.size; (try simp at hqwB); (try have hz0wB : w.heap.size < wB.heap.size := (by omega)); (try have he0wB : w.heap.size ≤ wB.heap.size := (by omega)); (try have hz1wB : wA.heap.size < wB.heap.size := (by omega)); (try have he1wB : wA.heap.size ≤ wB.heap.size := (by omega))) | (go_at_call 56; refine (PT.out _).mono ?_; rintro e w' ⟨rfl, rfl⟩) | (go_at_call 58; refine (isInRange_any _ _ _ _).mono ?_; rintro e w' ⟨rfl, rfl⟩))
        all_goals go_returns
        all_goals exact ⟨by simp, by go_grown⟩
  · have d9 : (9 : Int) < (G : Int) := by omega
    rw [decide_eq_false h9]
    go_enter Tryd.func21, Tryd.ntmps21
    go_wp2_with (go_at_call 55; (with_reducible refine (PG.out _).mono ?_); rintro e wA ⟨rfl, h1⟩; (try with_reducible replace h1 := undrew h1); have hB : Below w.heap.size w wA := ba (by go_grown) h1; obtain ⟨hcwA, hfwA⟩ := bcell h1; have hqwA := h1.size; (try simp at hqwA); (try have hz0wA : w.heap.size < wA.heap.size := (by omega)); (try have he0wA : w.heap.size ≤ wA.heap.size := (by omega)))
    all_goals go_returns
    all_goals exact ⟨by simp, by go_grown⟩

end Go.Proofs.YtdafomfpchlhpaaDoor
