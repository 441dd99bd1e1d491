/- Contracts: the program's text of the runs of a track, and the model's. -/
import Derived.Test.YtamojnbhnbeecabDoorRuC
import Derived.Test.YtamojnbhnbeecabDoorBuB
import Derived.Test.YtamojnbhnbeecabDoorTkL
namespace Go.Proofs.YtamojnbhnbeecabDoor
open Go.ChangeShapes Go.WideShapes Go.ChangeAt Go.RowKit

set_option linter.unusedVariables false

theorem buBelow {B b : Nat} {l : List Value} {w w' : World} (h : Lib.IsBuilderF 29 5 B b l w) (hb : Below w.heap.size w w') : Lib.IsBuilderF 29 5 B b l w' := by
  have hg : w.grownBy w' none := ⟨hb.os, hb.tape, hb.output, hb.size, fun k hk _ => hb.block k hk⟩
  rcases h with h | h
  · have hl := h.lt
    obtain ⟨h1, v, h2, h3, h4⟩ := h
    exact .inl ⟨h1, v, by rw [hb.block b hl]; exact h2, h3.kept hg (Classical.em _), h4⟩
  · have hl := h.lt
    obtain ⟨h1, v, h2, h3, h4⟩ := h
    exact .inr ⟨h1, v, by rw [hb.block b hl]; exact h2, h3.kept hg (Classical.em _), h4⟩

theorem ret_rt {s x : ByteArray} {b : Bool} (hs : rtS s = x) : Ending.returned (.tuple #[.string x, .bool b]) = Ending.returned (.tuple #[.string (rtS s), .bool b]) := by rw [hs]

/-- A text's first run: how long it is, what lies behind it. -/
theorem run_first {x r : ByteArray} {d : UInt8} {l : List UInt8} (hl : x.data.toList = d :: l) (hr : ofL (x.data.toList.dropWhile (· == d)) = r) : ∃ n : Nat, 1 ≤ n ∧ x.size = n + r.size ∧ runs x.data.toList = d :: (digs n ++ runs r.data.toList) := by
  have h1 : x.data.toList.dropWhile (· == d) = l.dropWhile (· == d) := by rw [hl]; simp
  have h2 : r.data.toList = l.dropWhile (· == d) := by rw [← hr, h1]; simp [ofL]
  have h3 := congrArg List.length (List.takeWhile_append_dropWhile (p := (· == d)) (l := l))
  rw [List.length_append, ← h2] at h3
  refine ⟨1 + (l.takeWhile (· == d)).length, by omega, ?_, ?_⟩
  · rw [← size_list x, hl, ← size_list r, List.length_cons]; omega
  · rw [hl, runs_cons, h2]

set_option maxRecDepth 100000 in
set_option maxHeartbeats 1600000 in
theorem imRunsText (s : ByteArray) (hs : s.size ≤ 1048576) (w : World) :
    Calls Tryd.prog 6 #[.string s] w fun e w' => e = .returned (.tuple #[.string (rtS s), .bool (tkB s)]) ∧ Below w.heap.size w w' := by
  cases ht : tkB s
  · have HR := Lib.hid (show rtS s = ⟨#[]⟩ by simp [rtS, ht])
    have HT := Lib.hid ht
    go_enter Tryd.func6, Tryd.ntmps6
    go_wp2_with (go_at_call 11; refine (imIsTrack_any s hs _).mono ?_; rintro e w' ⟨rfl, rfl⟩)
    go_ret2
    exact ⟨ret_rt HR.out, Below.refl _ _⟩
  have h40 := tkB_size ht
  have HT := Lib.hid ht
  by_cases hz : s.size = 0
  · have HR := Lib.hid (show rtS s = ⟨#[45]⟩ by simp [rtS, ht, ruS, hz])
    have hE : s.toList.isEmpty = true := by rw [Lib.toList_data]; exact List.isEmpty_iff.2 (List.eq_nil_of_length_eq_zero (by rw [size_list]; exact hz))
    go_enter Tryd.func6, Tryd.ntmps6
    go_wp2_with (go_at_call 11; refine (imIsTrack_any s hs _).mono ?_; rintro e w' ⟨rfl, rfl⟩)
    go_ret2
    exact ⟨ret_rt HR.out, Below.refl _ _⟩
  have HR := Lib.hid (show rtS s = ofL (runs s.data.toList) by simp [rtS, ht, ruS, hz])
  have hE : s.toList.isEmpty = false := by rw [Lib.toList_data]; cases h : s.data.toList with | nil => exact absurd (by rw [← size_list, h]; rfl) hz | cons a l => rfl
  go_enter Tryd.func6, Tryd.ntmps6
  go_wp2_with (go_at_call 11; refine (imIsTrack_any s hs _).mono ?_; rintro e w' ⟨rfl, rfl⟩)
  go_loopw [5] (fun v wr => ∃ (x : ByteArray) (acc : List UInt8), v = .string x ∧ (∀ c ∈ x.data.toList, pcb c = true) ∧ x.size ≤ s.size ∧ acc ++ runs x.data.toList = runs s.data.toList ∧ acc.length ≤ 3 * (s.size - x.size) ∧ Lib.IsBuilderF 29 5 w.heap.size w.heap.size (Lib.byteCells acc) wr ∧ Below w.heap.size w wr) (fun v _ => match v with | .string x => x.size | _ => 0)
  case atStart => exact ⟨s, [], rfl, tkB_list ht, Nat.le_refl _, rfl, Nat.zero_le _, Lib.IsBuilderF.of (Lib.fresh_isBuilder _ _ w), (Below.refl _ _).alloc (Nat.le_refl _) _⟩
  case round =>
    obtain ⟨x, acc, rfl, hpc, hx, ha, hlen, hI, hb⟩ := hrel
    have HA := Lib.hid ha
    have HI := Lib.hid hI
    have HB := Lib.hid hb
    have hz0 : w.heap.size ≤ wr.heap.size := hb.size
    clear ha hI hb
    cases hl : x.data.toList with
    | nil =>
      clear hpc
      have HN := Lib.hid (show acc = runs s.data.toList by rw [← HA.out, hl, runs_nil, List.append_nil])
      have hE2 : x.toList.isEmpty = true := by rw [Lib.toList_data, hl]; rfl
      clear hl
      go_wp2_with (go_at_call 16; refine (Tryd.Builder_String_any_f w.heap.size w.heap.size acc _ HI.out hz0).mono ?_; rintro e w1 ⟨rfl, _, hb1⟩; have HB1 := Lib.hid hb1; clear hb1)
      go_ret2
      exact ⟨ret_rt (HR.out.trans (congrArg ofL HN.out.symm)), HB.out.trans HB1.out⟩
    | cons d l =>
      have hE2 : x.toList.isEmpty = false := by rw [Lib.toList_data, hl]; rfl
      have hx1 : 0 < x.size := by rw [← size_list x, hl]; simp
      obtain ⟨r, hr⟩ : ∃ r, ofL (x.data.toList.dropWhile (· == d)) = r := ⟨_, rfl⟩
      obtain ⟨n, hn1, hnr, hrun⟩ := run_first hl hr
      have hd : pcb d = true := hpc d (by rw [hl]; exact List.mem_cons_self)
      have HPC := Lib.hid (show ∀ c ∈ r.data.toList, pcb c = true by intro c hc; rw [← hr] at hc; exact hpc c ((List.dropWhile_sublist (p := (· == d))).subset (by simpa [ofL] using hc)))
      have TC := Lib.hid (fun W => (trimLeft_any x d (by rcases pcb_cases hd with rfl | rfl | rfl <;> decide) (by omega) hx1 W).mono (fun e w' h => show e = .returned (.string r) ∧ Below W.heap.size W w' from ⟨by rw [h.1, hr], h.2⟩))
      have HRUN := Lib.hid hrun
      have X1 : x.extract 0 1 = oneC d := ru_ext (i := 0) (by rw [hl]; rfl)
      have gi : ∀ h : 0 < x.size, x[0]'h = d := fun h => head_of hl h
      have k0 : (1 : Int) ≤ (x.size : Int) := by omega
      have k1 : (0 : Int) < (x.size : Int) := by omega
      have hw : IntKind.i64.wrap ((x.size : Int) - (r.size : Int)) = (n : Int) := by rw [IntKind.wrap_i64]; omega
      have hn100 : n < 100 := by omega
      have HL := Lib.hid hl
      have z4 := digs_len hn100
      clear hl hr hrun hd hpc
      by_cases h1 : 1 < n
      · have h1' : (1 : Int) < (n : Int) := by omega
        go_wp2_with (first
          | (go_at_call 12; refine (TC.out _).mono ?_; rintro e wA ⟨rfl, hA⟩; have HbA' := Lib.hid (show Below w.heap.size wr wA from hA.mono hz0); have HIA := Lib.hid (buBelow HI.out hA); have hzA : w.heap.size ≤ wA.heap.size := Nat.le_trans hz0 hA.size; clear hA)
          | (go_at_call 13; refine (writeB_any w.heap.size w.heap.size acc d _ HIA.out (by omega) hzA).mono ?_; rintro e wC ⟨rfl, hC, hbC⟩; have HIC := Lib.hid hC; have HbC := Lib.hid hbC; have hzC : w.heap.size ≤ wC.heap.size := Nat.le_trans hzA hbC.size; clear hC hbC)
          | (go_at_call 15; refine (Tryd.strconv_Itoa_small n hn100 _).mono ?_; rintro e wD ⟨rfl, rfl⟩)
          | (go_at_call 14; refine (write_any w.heap.size w.heap.size (acc ++ [d]) (ofL (Lib.decDigits n)) _ HIC.out (by rw [List.length_append, ofL_size]; have := dd_len hn100; simp only [List.length_singleton]; omega) hzC).mono ?_; rintro e wE ⟨rfl, hE, hbE⟩; have HIE := Lib.hid hE; have HbE := Lib.hid hbE; clear hE hbE))
        go_roundw
        case rel => exact ⟨r, acc ++ [d] ++ (ofL (Lib.decDigits n)).data.toList, rfl, HPC.out, by omega, by rw [← HA.out, HRUN.out, digs_many (by omega)]; simp [ofL], by have := dd_len hn100; simp [ofL]; omega, HIE.out, HB.out.trans (HbA'.out.trans (HbC.out.trans HbE.out))⟩
        case measure => show r.size < x.size; omega
      · have h1' : ¬ (1 : Int) < (n : Int) := by omega
        have hn1e := Lib.hid (show n = 1 by omega)
        go_wp2_with (first
          | (go_at_call 12; refine (TC.out _).mono ?_; rintro e wA ⟨rfl, hA⟩; have HbA' := Lib.hid (show Below w.heap.size wr wA from hA.mono hz0); have HIA := Lib.hid (buBelow HI.out hA); have hzA : w.heap.size ≤ wA.heap.size := Nat.le_trans hz0 hA.size; clear hA)
          | (go_at_call 13; refine (writeB_any w.heap.size w.heap.size acc d _ HIA.out (by omega) hzA).mono ?_; rintro e wC ⟨rfl, hC, hbC⟩; have HIC := Lib.hid hC; have HbC := Lib.hid hbC; have hzC : w.heap.size ≤ wC.heap.size := Nat.le_trans hzA hbC.size; clear hC hbC))
        go_roundw
        case rel => exact ⟨r, acc ++ [d], rfl, HPC.out, by omega, by rw [← HA.out, HRUN.out, hn1e.out, digs_one]; simp, by simp; omega, HIC.out, HB.out.trans (HbA'.out.trans HbC.out)⟩
        case measure => show r.size < x.size; omega

theorem spRunsText (s : ByteArray) (hs : s.size ≤ 1048576) (w : World) :
    Calls Tryd.prog 5 #[.string s] w fun e w' => e = .returned (.tuple #[.string (rtS s), .bool (tkB s)]) ∧ Below w.heap.size w w' := by
  cases ht : tkB s
  · have HR := Lib.hid (show rtS s = ⟨#[]⟩ by simp [rtS, ht])
    go_enter Tryd.func5, Tryd.ntmps5
    go_wp2_with (go_at_call 9; refine (tkGood_any s hs _).mono ?_; rintro e w' ⟨rfl, rfl⟩)
    go_ret2
    exact ⟨ret_rt HR.out, Below.refl _ _⟩
  · have HR := Lib.hid (show rtS s = ruS s by simp [rtS, ht])
    have HK := Lib.hid (tkRuns_any s (tkB_size ht))
    go_enter Tryd.func5, Tryd.ntmps5
    go_wp2_with (first | (go_at_call 9; refine (tkGood_any s hs _).mono ?_; rintro e w' ⟨rfl, rfl⟩) | (go_at_call 10; refine (HK.out _).mono ?_; rintro e wA ⟨rfl, hA⟩; have HbA := Lib.hid (ba (by go_grown) hA : Below w.heap.size w wA); clear hA))
    go_ret2
    exact ⟨ret_rt HR.out, HbA.out⟩

end Go.Proofs.YtamojnbhnbeecabDoor
