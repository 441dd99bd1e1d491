/- Contracts: rings that grow. -/
import Derived.Test.YtoenkgenoloihabRi
import Derived.Test.YtoenkgenoloihabHd
import Derived.Test.YtoenkgenoloihabRn
import Derived.Test.YtoenkgenoloihabJoJ
import Derived.Test.YtoenkgenoloihabShelf
import Derived.Deep.QuietTactic
import Derived.BigQuiet
import Derived.Deep.RegionHeld3
namespace Go.Proofs.Ytoenkgenoloihab
open Go.ChangeShapes Go.WideShapes Go.ChangeAt Go.RowKit

set_option linter.unusedVariables false

def plI (s : ByteArray) (h : Int) : Int := Lib.idxOf ((hdNums s).take s.size) h

set_option maxRecDepth 100000 in
set_option maxHeartbeats 800000 in
theorem csPlace_any (s : ByteArray) (ht : tkB s = true) (h : Int) (w : World) :
    Calls Try.prog 27 #[.string s, .int .i64 h] w fun e w' => e = .returned (.int .i64 (plI s h)) ∧ Below w.heap.size w w' := by
  have h40 := tkB_size ht
  have hlen := HeadingsOf_len s
  have hq := tkHeadings_yes s ht
  go_enter Try.func27, Try.ntmps27
  go_wp2_with fail
  refine (hq _).mono ?_
  rintro e w1 ⟨g, cap, rfl, hO, hb1⟩
  simp only [id]
  rw [hdNums_cells] at hO
  have hRow := rowI_of hO hlen
  obtain ⟨hcp1, hcp2⟩ := own_capN hO
  have HB := Lib.hid hb1
  have HP := Lib.hid (show plI s h = Lib.idxOf ((hdNums s).take s.size) h from rfl)
  generalize hdNums s = hs0 at *
  have HLEN := Lib.hid hlen
  have HROW := Lib.hid hRow
  have i1 : (0 : Int) ≤ (s.size : Int) := by omega
  have i2 : (s.size : Int) ≤ (cap : Int) := by omega
  clear hq hlen hRow hb1 hO
  go_wp2_with fail
  go_loop [13] (fun i => ∃ k : Nat, k ≤ s.size ∧ i = .int .i64 k ∧ Hid (∀ j, j < k → hs0.getD j 0 ≠ h)) (fun i => s.size - (intOf i).toNat)
  case atStart => exact ⟨0, Nat.zero_le _, rfl, Lib.hid fun j hj => absurd hj (Nat.not_lt_zero _)⟩
  case round =>
    obtain ⟨k, hk, rfl, HN⟩ := hrel
    by_cases hlt : k < s.size
    · obtain ⟨x, hx⟩ : ∃ x, hs0[k]? = some x := ⟨_, List.getElem?_eq_getElem (by rw [HLEN.out]; omega)⟩
      have c0 := HROW.out k x hx
      have HX := Lib.hid (show hs0.getD k 0 = x by simp [List.getD, hx])
      clear hx
      by_cases he : x = h
      · subst he
        go_wp2_with fail
        go_ret
        exact ⟨by rw [HP.out, Lib.idxOf_hit hs0 s.size k x hlt (by rw [HLEN.out]; omega) HX.out HN.out]; rfl, HB.out⟩
      · go_wp2_with fail
        go_round
        case rel => exact ⟨k + 1, by omega, by go_num, Lib.hid fun j hj => by
            by_cases e : j = k
            · subst e; rw [HX.out]; exact he
            · exact HN.out j (by omega)⟩
        case measure => simp [intOf]; omega
    · obtain rfl : k = s.size := by omega
      go_wp2_with fail
      go_ret
      exact ⟨by rw [HP.out, Lib.idxOf_miss hs0 s.size h HN.out]; rfl, HB.out⟩

theorem turnG (h k : Int) (h0 : 0 ≤ h) (h7 : h ≤ 7) (k0 : 0 ≤ k) (k7 : k ≤ 7) (w : World) :
    Calls Try.prog 31 #[.int .i64 h, .int .i64 k] w fun e w' => e = .returned (.int .i64 ((h + k) % 8)) ∧ w = w' := by
  have hm : (h + k + 8) % 8 = (h + k) % 8 := by omega
  have HM := Lib.hid hm
  clear hm
  go_enter Try.func31, Try.ntmps31
  go_wp2
  go_ret
  exact ⟨by first | rfl | (rw [← HM.out]; rfl) | (simp; omega), rfl⟩

theorem idxFrom_cases (x : Int) : ∀ (zs : List Int) (i : Nat), (Lib.idxFrom zs x i = -1 ∧ ∀ j, j < zs.length → zs.getD j 0 ≠ x) ∨ ∃ k, k < zs.length ∧ Lib.idxFrom zs x i = ((i + k : Nat) : Int) ∧ zs.getD k 0 = x ∧ ∀ j, j < k → zs.getD j 0 ≠ x
  | [], i => .inl ⟨rfl, fun j hj => absurd hj (Nat.not_lt_zero _)⟩
  | z :: zs, i => by
    by_cases e : z = x
    · right
      exact ⟨0, by simp, by simp [Lib.idxFrom, e], by simpa using e, fun j hj => absurd hj (Nat.not_lt_zero _)⟩
    · have hf : Lib.idxFrom (z :: zs) x i = Lib.idxFrom zs x (i + 1) := by simp [Lib.idxFrom, e]
      rcases idxFrom_cases x zs (i + 1) with ⟨h1, h2⟩ | ⟨k, h1, h2, h3, h4⟩
      · left
        refine ⟨by rw [hf, h1], fun j hj => ?_⟩
        cases j with
        | zero => simpa using e
        | succ j => simpa using h2 j (by simpa using hj)
      · right
        refine ⟨k + 1, by simpa using h1, by rw [hf, h2]; congr 1; omega, by simpa using h3, fun j hj => ?_⟩
        cases j with
        | zero => simpa using e
        | succ j => simpa using h4 j (by omega)

theorem idxOf_cases (zs : List Int) (n : Nat) (hn : n ≤ zs.length) (x : Int) : (Lib.idxOf (zs.take n) x = -1 ∧ ∀ j, j < n → zs.getD j 0 ≠ x) ∨ ∃ k, k < n ∧ Lib.idxOf (zs.take n) x = (k : Int) ∧ zs.getD k 0 = x ∧ ∀ j, j < k → zs.getD j 0 ≠ x := by
  have hg : ∀ j, j < n → (zs.take n).getD j 0 = zs.getD j 0 := fun j hj => by simp [List.getD, List.getElem?_take, hj]
  have hl : (zs.take n).length = n := by rw [List.length_take]; omega
  rcases idxFrom_cases x (zs.take n) 0 with ⟨h1, h2⟩ | ⟨k, h1, h2, h3, h4⟩
  · left; exact ⟨h1, fun j hj => by rw [← hg j hj]; exact h2 j (by omega)⟩
  · right
    rw [hl] at h1
    exact ⟨k, h1, by rw [Lib.idxOf, h2]; simp, by rw [← hg k h1]; exact h3, fun j hj => by rw [← hg j (by omega)]; exact h4 j hj⟩

/-- Looked for in one more, that is the first one again. -/
theorem idxOf_more (zs : List Int) (n : Nat) (h1 : 1 ≤ n) (hn : zs.length = n + 1) (he : zs.getD n 0 = zs.getD 0 0) (x : Int) : Lib.idxOf (zs.take (n + 1)) x = Lib.idxOf (zs.take n) x := by
  rcases idxOf_cases zs n (by omega) x with ⟨a, b⟩ | ⟨k, a, b, c, d⟩
  · rw [a]
    refine Lib.idxOf_miss zs (n + 1) x fun j hj => ?_
    by_cases e : j = n
    · subst e; rw [he]; exact b 0 (by omega)
    · exact b j (by omega)
  · rw [b]
    exact Lib.idxOf_hit zs (n + 1) k x (by omega) (by omega) c d

theorem hd_ends {s : ByteArray} (h : clB s = true) : 1 ≤ s.size ∧ (hdNums s).getD s.size 0 = (hdNums s).getD 0 0 := by
  have ht := clB_tk h
  rw [clB_yes ht] at h
  simp only [Bool.and_eq_true, decide_eq_true_eq, zS, beq_iff_eq] at h
  refine ⟨h.1, ?_⟩
  have h0 : (hdNums s)[0]? = some 0 := by
    rw [hdNums, List.getElem?_map]
    cases hd : s.data.toList <;> rfl
  have h1 : (hdNums s)[s.size]? = some 0 := by
    rw [hdNums, List.getElem?_map, lays_atA sp0 s]
    have := h.2.2
    rw [enS_yes ht] at this
    rw [Option.map_some, this]
  simp [List.getD, h0, h1]

theorem plI_more {s : ByteArray} (h : clB s = true) (x : Int) : Lib.idxOf ((hdNums s).take (s.size + 1)) x = plI s x := by
  obtain ⟨h1, h2⟩ := hd_ends h
  exact idxOf_more _ _ h1 (HeadingsOf_len s) h2 x

theorem plI_cases (s : ByteArray) (h : Int) : plI s h = -1 ∨ ∃ k : Nat, k < s.size ∧ plI s h = (k : Int) := by
  rcases idxOf_cases (hdNums s) s.size (by rw [HeadingsOf_len]; omega) h with ⟨a, _⟩ | ⟨k, a, b, _⟩
  · exact .inl a
  · exact .inr ⟨k, a, b⟩

def grT (s : ByteArray) (i j : Nat) : ByteArray := s.extract 0 i ++ ofL [83] ++ s.extract i j ++ ofL [83] ++ s.extract j s.size

def grB (s : ByteArray) (h : Int) : Bool := clB s && (inB h 0 7 && (decide (s.size + 2 ≤ 40) && (decide (0 ≤ plI s h) && decide (0 ≤ plI s ((h + 4) % 8)))))

def grS (s : ByteArray) (h : Int) : ByteArray := cond (grB s h) (grT s (min (plI s h).toNat (plI s ((h + 4) % 8)).toNat) (max (plI s h).toNat (plI s ((h + 4) % 8)).toNat)) ⟨#[]⟩

theorem ret_gr {s x : ByteArray} {h : Int} {b : Bool} (hb : grB s h = b) (hs : grS s h = x) : Ending.returned (.tuple #[.string x, .bool b]) = Ending.returned (.tuple #[.string (grS s h), .bool (grB s h)]) := by rw [hb, hs]

theorem gr_no {s : ByteArray} {h : Int} (hb : grB s h = false) : Ending.returned (.tuple #[.string ⟨#[]⟩, .bool false]) = Ending.returned (.tuple #[.string (grS s h), .bool (grB s h)]) := by simp [grS, hb]

def sumZ : List ByteArray → Nat
  | [] => 0
  | x :: xs => x.size + sumZ xs

theorem joL_sum : ∀ (xs : List ByteArray) (acc : List UInt8), (∀ x ∈ xs, tkB x = true) → acc.length ≤ 40 → joL xs acc = if acc.length + sumZ xs ≤ 40 then some (acc ++ xs.flatMap fun x => x.data.toList) else none
  | [], acc, _, h => by simp [joL, sumZ, h]
  | x :: xs, acc, ha, h => by
    have hx := ha x (by simp)
    have hz : x.data.toList.length = x.size := size_list x
    by_cases h1 : acc.length + x.size ≤ 40
    · have ih := joL_sum xs (acc ++ x.data.toList) (fun y hy => ha y (by simp [hy])) (by rw [List.length_append, hz]; exact h1)
      rw [joL, if_pos (by simp [hx, h1]), ih]
      simp only [List.length_append, hz, sumZ, List.flatMap_cons, List.append_assoc, Nat.add_assoc]
    · rw [joL, if_neg (by simp [hx]; omega), if_neg (by simp only [sumZ]; omega)]

theorem tk_S : tkB (ofL [83]) = true := by decide

theorem gr_parts {s : ByteArray} (ht : tkB s = true) (i j : Nat) (hij : i ≤ j) (hj : j ≤ s.size) :
    joB [s.extract 0 i, ofL [83], s.extract i j, ofL [83], s.extract j s.size] = decide (s.size + 2 ≤ 40) ∧ joS [s.extract 0 i, ofL [83], s.extract i j, ofL [83], s.extract j s.size] = cond (decide (s.size + 2 ≤ 40)) (grT s i j) ⟨#[]⟩ := by
  have hs := joL_sum [s.extract 0 i, ofL [83], s.extract i j, ofL [83], s.extract j s.size] [] (by
    intro x hx
    simp only [List.mem_cons, List.not_mem_nil, or_false] at hx
    rcases hx with rfl | rfl | rfl | rfl | rfl
    · exact tkB_ext ht _ _
    · exact tk_S
    · exact tkB_ext ht _ _
    · exact tk_S
    · exact tkB_ext ht _ _) (by simp)
  have hz : sumZ [s.extract 0 i, ofL [83], s.extract i j, ofL [83], s.extract j s.size] = s.size + 2 := by
    have h1 : (ofL [83]).size = 1 := rfl
    simp only [sumZ, ByteArray.size_extract, h1]
    omega
  rw [hz, List.length_nil, Nat.zero_add] at hs
  by_cases h : s.size + 2 ≤ 40
  · rw [if_pos h] at hs
    obtain ⟨a, b⟩ := jo_some hs
    refine ⟨by rw [a]; simp [h], ?_⟩
    rw [b, decide_eq_true h]
    show ofL _ = grT s i j
    rw [grT, append_ofL, append_ofL, append_ofL, append_ofL]
    simp [ofL]
  · rw [if_neg h] at hs
    obtain ⟨a, b⟩ := jo_none hs
    refine ⟨by rw [a]; simp [h], ?_⟩
    rw [b, decide_eq_false h]
    rfl

theorem grB_at {s : ByteArray} {h : Int} (tc : clB s = true) (h1 : inB h 0 7 = true) (h2 : s.size + 2 ≤ 40) : grB s h = (decide (0 ≤ plI s h) && decide (0 ≤ plI s ((h + 4) % 8))) := by simp [grB, tc, h1, h2]

theorem gr_yes {s : ByteArray} {h : Int} {a b i j : Nat} (tc : clB s = true) (h1 : inB h 0 7 = true) (h2 : s.size + 2 ≤ 40) (ha : plI s h = (a : Int)) (hb : plI s ((h + 4) % 8) = (b : Int)) (hi : min a b = i) (hj : max a b = j) :
    grB s h = true ∧ grS s h = grT s i j := by
  have hg : grB s h = true := by rw [grB_at tc h1 h2, ha, hb]; simp
  refine ⟨hg, ?_⟩
  rw [grS, hg, ha, hb]
  simp [hi, hj]

set_option maxRecDepth 100000 in
set_option maxHeartbeats 800000 in
theorem spGrowRing (s : ByteArray) (h : Int) (hs : s.size ≤ 1048576) (w : World) :
    Calls Try.prog 11 #[.string s, .int .i64 h] w fun e w' => e = .returned (.tuple #[.string (grS s h), .bool (grB s h)]) ∧ Below w.heap.size w w' := by
  have HC := Lib.hid (csRing_any s hs)
  cases tc : clB s
  · have G := Lib.hid (show grB s h = false by simp [grB, tc])
    rw [tc] at HC
    go_enter Try.func11, Try.ntmps11
    go_wp2_with (go_at_call 24; (with_reducible refine (HC.out _).mono ?_); rintro e wA ⟨rfl, h1⟩; (try with_reducible replace h1 := undrew h1); have hB : Below w.heap.size w wA := ba (by go_grown) h1; obtain ⟨hcwA, hfwA⟩ := bcell h1; have hqwA := h1.size; (try simp at hqwA); )
    go_ret2
    exact ⟨gr_no G.out, by go_grown⟩
  rw [tc] at HC
  cases h1 : inB h 0 7
  · have G := Lib.hid (show grB s h = false by simp [grB, h1])
    go_enter Try.func11, Try.ntmps11
    go_wp2_with (first | (go_at_call 24; (with_reducible refine (HC.out _).mono ?_); rintro e wA ⟨rfl, h1⟩; (try with_reducible replace h1 := undrew h1); have hB : Below w.heap.size w wA := ba (by go_grown) h1; obtain ⟨hcwA, hfwA⟩ := bcell h1; have hqwA := h1.size; (try simp at hqwA); ) | (go_at_call 26; refine (l1In_any _ _ _ _).mono ?_; rintro e w' ⟨rfl, rfl⟩))
    go_ret2
    exact ⟨gr_no G.out, by go_grown⟩
  have ht := clB_tk tc
  have h40 := tkB_size ht
  by_cases h2 : s.size + 2 ≤ 40
  · obtain ⟨g0, g7⟩ := in_bd h1
    have P1 := Lib.hid (csPlace_any s ht h)
    have P2 := Lib.hid (csPlace_any s ht ((h + 4) % 8))
    have hG := grB_at tc h1 h2
    rcases plI_cases s h with ha | ⟨a, ha, ea⟩
    · have G := Lib.hid (show grB s h = false by rw [hG, ha]; simp)
      rw [ha] at P1
      obtain ⟨B, hB⟩ : ∃ B, plI s ((h + 4) % 8) = B := ⟨_, rfl⟩
      rw [hB] at P2
      clear hG ha hB
      go_enter Try.func11, Try.ntmps11
      go_wp2_with (first | (go_at_call 24; (with_reducible refine (HC.out _).mono ?_); rintro e wA ⟨rfl, h1⟩; (try with_reducible replace h1 := undrew h1); have hB : Below w.heap.size w wA := ba (by go_grown) h1; obtain ⟨hcwA, hfwA⟩ := bcell h1; have hqwA := h1.size; (try simp at hqwA); ) | (go_at_call 26; refine (l1In_any _ _ _ _).mono ?_; rintro e w' ⟨rfl, rfl⟩))
      (go_at_call 27; (with_reducible refine (P1.out _).mono ?_); rintro e wB ⟨rfl, h1⟩; (try with_reducible replace h1 := undrew h1); have hB : Below w.heap.size w wB := ba (by go_grown) h1; obtain ⟨hcwB, hfwB⟩ := bcell h1; have hqwB := h1.size; (try simp at hqwB); (try have hz0wB : wA.heap.size < wB.heap.size := (by omega)); (try have he0wB : wA.heap.size ≤ wB.heap.size := (by omega)))
      go_wp2_with fail
      (go_at_call 27; (with_reducible refine (P2.out _).mono ?_); rintro e wC ⟨rfl, h1⟩; (try with_reducible replace h1 := undrew h1); have hB : Below w.heap.size w wC := ba (by go_grown) h1; obtain ⟨hcwC, hfwC⟩ := bcell h1; have hqwC := h1.size; (try simp at hqwC); (try have hz0wC : wB.heap.size < wC.heap.size := (by omega)); (try have he0wC : wB.heap.size ≤ wC.heap.size := (by omega)))
      go_wp2_with fail
      go_ret2
      exact ⟨gr_no G.out, by go_grown⟩
    rw [ea] at P1
    rcases plI_cases s ((h + 4) % 8) with hb | ⟨b, hb, eb⟩
    · have G := Lib.hid (show grB s h = false by rw [hG, hb]; simp)
      rw [hb] at P2
      clear hG hb ea
      go_enter Try.func11, Try.ntmps11
      go_wp2_with (first | (go_at_call 24; (with_reducible refine (HC.out _).mono ?_); rintro e wA ⟨rfl, h1⟩; (try with_reducible replace h1 := undrew h1); have hB : Below w.heap.size w wA := ba (by go_grown) h1; obtain ⟨hcwA, hfwA⟩ := bcell h1; have hqwA := h1.size; (try simp at hqwA); ) | (go_at_call 26; refine (l1In_any _ _ _ _).mono ?_; rintro e w' ⟨rfl, rfl⟩))
      (go_at_call 27; (with_reducible refine (P1.out _).mono ?_); rintro e wB ⟨rfl, h1⟩; (try with_reducible replace h1 := undrew h1); have hB : Below w.heap.size w wB := ba (by go_grown) h1; obtain ⟨hcwB, hfwB⟩ := bcell h1; have hqwB := h1.size; (try simp at hqwB); (try have hz0wB : wA.heap.size < wB.heap.size := (by omega)); (try have he0wB : wA.heap.size ≤ wB.heap.size := (by omega)))
      go_wp2_with fail
      (go_at_call 27; (with_reducible refine (P2.out _).mono ?_); rintro e wC ⟨rfl, h1⟩; (try with_reducible replace h1 := undrew h1); have hB : Below w.heap.size w wC := ba (by go_grown) h1; obtain ⟨hcwC, hfwC⟩ := bcell h1; have hqwC := h1.size; (try simp at hqwC); (try have hz0wC : wB.heap.size < wC.heap.size := (by omega)); (try have he0wC : wB.heap.size ≤ wC.heap.size := (by omega)))
      go_wp2_with fail
      go_ret2
      exact ⟨gr_no G.out, by go_grown⟩
    rw [eb] at P2
    have k0 : (0 : Int) ≤ (a : Int) := by omega
    have k1 : (a : Int) ≤ (s.size : Int) := by omega
    have k2 : (0 : Int) ≤ (b : Int) := by omega
    have k3 : (b : Int) ≤ (s.size : Int) := by omega
    have z83 : (ofL [83]).size = 1 := rfl
    by_cases hab : b < a
    · obtain ⟨r1, r2⟩ := gr_yes tc h1 h2 ea eb (show min a b = b by omega) (show max a b = a by omega)
      have R1 := Lib.hid r1
      have R2 := Lib.hid (r2.trans (show grT s b a = s.extract 0 b ++ ⟨#[83]⟩ ++ s.extract b a ++ ⟨#[83]⟩ ++ s.extract a s.size from rfl))
      have k4 : (b : Int) ≤ (a : Int) := by omega
      have e1 : (s.extract 0 b).size ≤ 40 := by rw [ByteArray.size_extract]; omega
      have e2 : (s.extract b a).size ≤ 40 := by rw [ByteArray.size_extract]; omega
      have e3 : (s.extract a s.size).size ≤ 40 := by rw [ByteArray.size_extract]; omega
      clear r1 r2 hG ea eb
      go_enter Try.func11, Try.ntmps11
      go_wp2_with (first | (go_at_call 24; (with_reducible refine (HC.out _).mono ?_); rintro e wA ⟨rfl, h1⟩; (try with_reducible replace h1 := undrew h1); have hB : Below w.heap.size w wA := ba (by go_grown) h1; obtain ⟨hcwA, hfwA⟩ := bcell h1; have hqwA := h1.size; (try simp at hqwA); ) | (go_at_call 26; refine (l1In_any _ _ _ _).mono ?_; rintro e w' ⟨rfl, rfl⟩))
      (go_at_call 27; (with_reducible refine (P1.out _).mono ?_); rintro e wB ⟨rfl, h1⟩; (try with_reducible replace h1 := undrew h1); have hB : Below w.heap.size w wB := ba (by go_grown) h1; obtain ⟨hcwB, hfwB⟩ := bcell h1; have hqwB := h1.size; (try simp at hqwB); (try have hz0wB : wA.heap.size < wB.heap.size := (by omega)); (try have he0wB : wA.heap.size ≤ wB.heap.size := (by omega)))
      go_wp2_with fail
      (go_at_call 27; (with_reducible refine (P2.out _).mono ?_); rintro e wC ⟨rfl, h1⟩; (try with_reducible replace h1 := undrew h1); have hB : Below w.heap.size w wC := ba (by go_grown) h1; obtain ⟨hcwC, hfwC⟩ := bcell h1; have hqwC := h1.size; (try simp at hqwC); (try have hz0wC : wB.heap.size < wC.heap.size := (by omega)); (try have he0wC : wB.heap.size ≤ wC.heap.size := (by omega)))
      go_wp2_with fail
      have HB := Lib.hid (by go_grown : Below w.heap.size w wC)
      go_quiet (fail)
      go_wp2_with fail
      go_ret2
      exact ⟨ret_gr R1.out (R2.out.trans (by simp)), HB.out.trans ⟨rfl, rfl, rfl, Nat.le_refl _, fun _ _ => rfl⟩⟩
    · obtain ⟨r1, r2⟩ := gr_yes tc h1 h2 ea eb (show min a b = a by omega) (show max a b = b by omega)
      have R1 := Lib.hid r1
      have R2 := Lib.hid (r2.trans (show grT s a b = s.extract 0 a ++ ⟨#[83]⟩ ++ s.extract a b ++ ⟨#[83]⟩ ++ s.extract b s.size from rfl))
      have k4 : (a : Int) ≤ (b : Int) := by omega
      have e1 : (s.extract 0 a).size ≤ 40 := by rw [ByteArray.size_extract]; omega
      have e2 : (s.extract a b).size ≤ 40 := by rw [ByteArray.size_extract]; omega
      have e3 : (s.extract b s.size).size ≤ 40 := by rw [ByteArray.size_extract]; omega
      clear r1 r2 hG ea eb
      go_enter Try.func11, Try.ntmps11
      go_wp2_with (first | (go_at_call 24; (with_reducible refine (HC.out _).mono ?_); rintro e wA ⟨rfl, h1⟩; (try with_reducible replace h1 := undrew h1); have hB : Below w.heap.size w wA := ba (by go_grown) h1; obtain ⟨hcwA, hfwA⟩ := bcell h1; have hqwA := h1.size; (try simp at hqwA); ) | (go_at_call 26; refine (l1In_any _ _ _ _).mono ?_; rintro e w' ⟨rfl, rfl⟩))
      (go_at_call 27; (with_reducible refine (P1.out _).mono ?_); rintro e wB ⟨rfl, h1⟩; (try with_reducible replace h1 := undrew h1); have hB : Below w.heap.size w wB := ba (by go_grown) h1; obtain ⟨hcwB, hfwB⟩ := bcell h1; have hqwB := h1.size; (try simp at hqwB); (try have hz0wB : wA.heap.size < wB.heap.size := (by omega)); (try have he0wB : wA.heap.size ≤ wB.heap.size := (by omega)))
      go_wp2_with fail
      (go_at_call 27; (with_reducible refine (P2.out _).mono ?_); rintro e wC ⟨rfl, h1⟩; (try with_reducible replace h1 := undrew h1); have hB : Below w.heap.size w wC := ba (by go_grown) h1; obtain ⟨hcwC, hfwC⟩ := bcell h1; have hqwC := h1.size; (try simp at hqwC); (try have hz0wC : wB.heap.size < wC.heap.size := (by omega)); (try have he0wC : wB.heap.size ≤ wC.heap.size := (by omega)))
      go_wp2_with fail
      have HB := Lib.hid (by go_grown : Below w.heap.size w wC)
      go_quiet (fail)
      go_wp2_with fail
      go_ret2
      exact ⟨ret_gr R1.out (R2.out.trans (by simp)), HB.out.trans ⟨rfl, rfl, rfl, Nat.le_refl _, fun _ _ => rfl⟩⟩
  · have G := Lib.hid (show grB s h = false by simp [grB, h2])
    have h41 : 40 < s.size + 2 := by omega
    go_enter Try.func11, Try.ntmps11
    go_wp2_with (first | (go_at_call 24; (with_reducible refine (HC.out _).mono ?_); rintro e wA ⟨rfl, h1⟩; (try with_reducible replace h1 := undrew h1); have hB : Below w.heap.size w wA := ba (by go_grown) h1; obtain ⟨hcwA, hfwA⟩ := bcell h1; have hqwA := h1.size; (try simp at hqwA); ) | (go_at_call 26; refine (l1In_any _ _ _ _).mono ?_; rintro e w' ⟨rfl, rfl⟩))
    go_ret2
    exact ⟨gr_no G.out, by go_grown⟩

theorem joined_five (bk : Nat) (a b c d e : ByteArray) (w : World) (ha : a.size ≤ 1048576) (hb : b.size ≤ 1048576) (hc : c.size ≤ 1048576) (hd : d.size ≤ 1048576) (he : e.size ≤ 1048576) (hbk : bk < w.heap.size)
    (h0 : w.cell? ⟨bk, 0, none⟩ = some (.string a)) (h1 : w.cell? ⟨bk, 1, none⟩ = some (.string b)) (h2 : w.cell? ⟨bk, 2, none⟩ = some (.string c)) (h3 : w.cell? ⟨bk, 3, none⟩ = some (.string d)) (h4 : w.cell? ⟨bk, 4, none⟩ = some (.string e)) :
    Calls Try.prog 32 #[.slice (some ⟨bk, 0, none⟩) 5 5] w fun x w' => x = .returned (.tuple #[.string (joS [a, b, c, d, e]), .bool (joB [a, b, c, d, e])]) ∧ Below w.heap.size w w' :=
  joined_any bk 0 5 5 [a, b, c, d, e] w rfl (by omega) (by intro x hx; simp at hx; rcases hx with rfl | rfl | rfl | rfl | rfl <;> assumption) hbk (by
    intro j x hx
    match j, hx with
    | 0, hx => simp at hx; subst hx; exact h0
    | 1, hx => simp at hx; subst hx; exact h1
    | 2, hx => simp at hx; subst hx; exact h2
    | 3, hx => simp at hx; subst hx; exact h3
    | 4, hx => simp at hx; subst hx; exact h4)

set_option maxRecDepth 100000 in
set_option maxHeartbeats 1600000 in
theorem imGrowRing (s : ByteArray) (h : Int) (hs : s.size ≤ 1048576) (w : World) :
    Calls Try.prog 12 #[.string s, .int .i64 h] w fun e w' => e = .returned (.tuple #[.string (grS s h), .bool (grB s h)]) ∧ Below w.heap.size w w' := by
  have HC := Lib.hid (imIsRing s hs)
  cases tc : clB s
  · have G := Lib.hid (show grB s h = false by simp [grB, tc])
    rw [tc] at HC
    go_enter Try.func12, Try.ntmps12
    go_wp2_with (go_at_call 10; (with_reducible refine (HC.out _).mono ?_); rintro e wA ⟨rfl, h1⟩; (try with_reducible replace h1 := undrew h1); have hB : Below w.heap.size w wA := ba (by go_grown) h1; obtain ⟨hcwA, hfwA⟩ := bcell h1; have hqwA := h1.size; (try simp at hqwA); )
    go_ret2
    exact ⟨gr_no G.out, by go_grown⟩
  rw [tc] at HC
  cases hin : inB h 0 7
  · have G := Lib.hid (show grB s h = false by simp [grB, hin])
    go_enter Try.func12, Try.ntmps12
    go_wp2_with (first | (go_at_call 10; (with_reducible refine (HC.out _).mono ?_); rintro e wA ⟨rfl, h1⟩; (try with_reducible replace h1 := undrew h1); have hB : Below w.heap.size w wA := ba (by go_grown) h1; obtain ⟨hcwA, hfwA⟩ := bcell h1; have hqwA := h1.size; (try simp at hqwA); ) | (go_at_call 28; refine (isHeading_any _ _).mono ?_; rintro e w' ⟨rfl, rfl⟩))
    go_ret2
    exact ⟨gr_no G.out, by go_grown⟩
  have ht := clB_tk tc
  have h40 := tkB_size ht
  obtain ⟨g0, g7⟩ := in_bd hin
  go_enter Try.func12, Try.ntmps12
  go_wp2_with (first | (go_at_call 10; (with_reducible refine (HC.out _).mono ?_); rintro e wA ⟨rfl, h1⟩; (try with_reducible replace h1 := undrew h1); have hB : Below w.heap.size w wA := ba (by go_grown) h1; obtain ⟨hcwA, hfwA⟩ := bcell h1; have hqwA := h1.size; (try simp at hqwA); ) | (go_at_call 28; refine (isHeading_any _ _).mono ?_; rintro e w' ⟨rfl, rfl⟩))
  refine (imHeadingsOf_num s ht _).mono ?_
  rintro e w1 ⟨g, cap, rfl, hO, hb1⟩
  have hRow := rowI_of hO (HeadingsOf_len s)
  obtain ⟨hcp1, hcp2⟩ := own_capN hO
  have hcs : ∀ j, j < (hdNums s).length → w1.cell? ⟨g, 0 + j, none⟩ = some (.int .i64 ((hdNums s).getD j 0)) := fun j hj => by
    rw [Nat.zero_add]
    exact hRow j _ (by simp [List.getD, List.getElem?_eq_getElem hj])
  have X1 := Lib.hid (Try.slices_Index_int g 0 (s.size + 1) cap (hdNums s) h w1 (by rw [HeadingsOf_len]; exact Nat.le_refl _) (by omega) hcs)
  have X2 := Lib.hid (Try.slices_Index_int g 0 (s.size + 1) cap (hdNums s) ((h + 4) % 8) w1 (by rw [HeadingsOf_len]; exact Nat.le_refl _) (by omega) hcs)
  rw [plI_more tc] at X1 X2
  have HB := Lib.hid (ba (by go_grown) hb1 : Below w.heap.size w w1)
  have TG := Lib.hid (fun w => turnG h 4 g0 g7 (by decide) (by decide) w)
  clear hRow hcs hO hb1
  have hab := plI_cases s h
  have hbb := plI_cases s ((h + 4) % 8)
  rcases hab with ha | ⟨a, ha, ea⟩
  · have G := Lib.hid (show grB s h = false by simp [grB, ha])
    rw [ha] at X1
    obtain ⟨B, hB⟩ : ∃ B, plI s ((h + 4) % 8) = B := ⟨_, rfl⟩
    rw [hB] at X2
    clear ha hB hbb
    go_wp2_with (first | (go_at_call 31; refine (TG.out _).mono ?_; rintro e w' ⟨rfl, rfl⟩) | (go_at_call 30; first | ((with_reducible refine X1.out.mono ?_); rintro e w' ⟨rfl, rfl⟩) | ((with_reducible refine X2.out.mono ?_); rintro e w' ⟨rfl, rfl⟩)))
    go_ret2
    exact ⟨gr_no G.out, HB.out⟩
  rw [ea] at X1
  rcases hbb with hb | ⟨b, hb, eb⟩
  · have G := Lib.hid (show grB s h = false by simp [grB, hb])
    rw [hb] at X2
    clear hb ea
    go_wp2_with (first | (go_at_call 31; refine (TG.out _).mono ?_; rintro e w' ⟨rfl, rfl⟩) | (go_at_call 30; first | ((with_reducible refine X1.out.mono ?_); rintro e w' ⟨rfl, rfl⟩) | ((with_reducible refine X2.out.mono ?_); rintro e w' ⟨rfl, rfl⟩)))
    go_ret2
    exact ⟨gr_no G.out, HB.out⟩
  rw [eb] at X2
  obtain ⟨i, hi⟩ : ∃ i, min a b = i := ⟨_, rfl⟩
  obtain ⟨j, hj⟩ : ∃ j, max a b = j := ⟨_, rfl⟩
  have hij : i ≤ j := by omega
  have hjs : j ≤ s.size := by omega
  have mi : min (a : Int) (b : Int) = (i : Int) := by omega
  have mj : max (a : Int) (b : Int) = (j : Int) := by omega
  obtain ⟨q1, q2⟩ := gr_parts ht i j hij hjs
  have hF : grB s h = decide (s.size + 2 ≤ 40) ∧ grS s h = cond (decide (s.size + 2 ≤ 40)) (grT s i j) ⟨#[]⟩ := by
    by_cases h2 : s.size + 2 ≤ 40
    · obtain ⟨r1, r2⟩ := gr_yes tc hin h2 ea eb hi hj
      rw [decide_eq_true h2]
      exact ⟨r1, r2⟩
    · have : grB s h = false := by simp [grB, h2]
      rw [decide_eq_false h2]
      exact ⟨this, by simp [grS, this]⟩
  have R1 := Lib.hid (hF.1.trans q1.symm)
  have R2 := Lib.hid (hF.2.trans q2.symm)
  have i0 : (0 : Int) ≤ (i : Int) := by omega
  have i1 : (i : Int) ≤ (j : Int) := by omega
  have i2 : (j : Int) ≤ (s.size : Int) := by omega
  have i3 : (i : Int) ≤ (s.size : Int) := by omega
  have e1 : (s.extract 0 i).size ≤ 1048576 := by rw [ByteArray.size_extract]; omega
  have e2 : (s.extract i j).size ≤ 1048576 := by rw [ByteArray.size_extract]; omega
  have e3 : (s.extract j s.size).size ≤ 1048576 := by rw [ByteArray.size_extract]; omega
  have e4 : (⟨#[83]⟩ : ByteArray).size ≤ 1048576 := by decide
  clear hi hj q1 q2 hF ea eb ha hb
  go_wp2_with (first | (go_at_call 31; refine (TG.out _).mono ?_; rintro e w' ⟨rfl, rfl⟩) | (go_at_call 30; first | ((with_reducible refine X1.out.mono ?_); rintro e w' ⟨rfl, rfl⟩) | ((with_reducible refine X2.out.mono ?_); rintro e w' ⟨rfl, rfl⟩)))
  have hz1 := HB.out.size
  go_region_held3 (fun _ => True) (trivial)
    ((go_at_call 32; (refine (joined_five _ _ _ _ _ _ _ e1 e4 e2 e4 e3 (by simp) (by go_simp) (by go_simp) (by go_simp) (by go_simp) (by go_simp)).mono ?_); rintro e w1 ⟨rfl, hb1⟩; replace hb1 := undrew hb1))
  all_goals
    have HB2 := Lib.hid (HB.out.trans ((ba (by go_grown) hb1 : Below _ _ _).mono HB.out.size))
    go_wp2_with fail
    go_ret2
    exact ⟨ret_gr R1.out R2.out, HB2.out⟩

end Go.Proofs.Ytoenkgenoloihab
