/- Contracts and facts, put together (part 1). Conditions: each says its own. -/
import Derived.Test.YtppbbcckijcckaaQ7

/- Contracts: CountCrossings, in the program. -/
namespace Go.Proofs.Ytppbbcckijcckaa
open Go.ChangeShapes Go.WideShapes Go.ChangeAt Go.RowKit Go.Sort

set_option linter.unusedVariables false
set_option linter.unusedSimpArgs false

theorem shr_comm (a b c d : Pn) : shr a b c d = shr c d a b := by
  unfold shr
  cases spl a b c d <;> cases spl c d a b <;> cases Pn.btw a b c <;> cases Pn.btw a b d <;> cases Pn.btw c d a <;> cases Pn.btw c d b <;> rfl

/-- The chords at i and j are not next to each other, and meet. -/
def hit (cl : Bool) (n : Nat) (x y : Pn × Pn) (i j : Nat) : Bool := !(decide (j = i + 1) || (decide (i = 0 ∧ j + 1 = n) && cl)) && shr x.1 x.2 y.1 y.2

/-- Of the first k chords, those that meet the one at j. -/
def cnI (cl : Bool) (l : List (Pn × Pn)) (y : Pn × Pn) (j : Nat) : Nat → Int
  | 0 => 0
  | k + 1 => match l[k]? with
    | none => cnI cl l y j k
    | some x => cnI cl l y j k + cond (hit cl l.length x y k j) 1 0

def cnO (cl : Bool) (l : List (Pn × Pn)) : Nat → Int
  | 0 => 0
  | j + 1 => match l[j]? with
    | none => cnO cl l j
    | some y => cnO cl l j + cnI cl l y j j

theorem cnI_succ {cl : Bool} {l : List (Pn × Pn)} {y x : Pn × Pn} {j k : Nat} (h : l[k]? = some x) : cnI cl l y j (k + 1) = cnI cl l y j k + cond (hit cl l.length x y k j) 1 0 := by simp [cnI, h]

theorem cnO_succ {cl : Bool} {l : List (Pn × Pn)} {y : Pn × Pn} {j : Nat} (h : l[j]? = some y) : cnO cl l (j + 1) = cnO cl l j + cnI cl l y j j := by simp [cnO, h]

theorem cnI_bd (cl : Bool) (l : List (Pn × Pn)) (y : Pn × Pn) (j : Nat) : ∀ k : Nat, 0 ≤ cnI cl l y j k ∧ cnI cl l y j k ≤ k
  | 0 => by simp [cnI]
  | k + 1 => by
    have ih := cnI_bd cl l y j k
    unfold cnI
    cases l[k]? with
    | none => simp only; push_cast; omega
    | some x => simp only; cases hit cl l.length x y k j <;> simp only [cond_true, cond_false] <;> push_cast <;> omega

theorem cnO_bd (cl : Bool) (l : List (Pn × Pn)) : ∀ k : Nat, 0 ≤ cnO cl l k ∧ cnO cl l k ≤ k * k
  | 0 => by simp [cnO]
  | k + 1 => by
    have ih := cnO_bd cl l k
    have e : ((k + 1 : Nat) : Int) * ((k + 1 : Nat) : Int) = (k : Int) * k + 2 * k + 1 := by push_cast; grind
    unfold cnO
    rw [e]
    cases l[k]? with
    | none => simp only; omega
    | some y => simp only; have := cnI_bd cl l y k k; omega

/-- How many pairs of chords cross. -/
def ccR (s : ByteArray) : Int := cond (tkB s) (cnO (clB s) (chds (jp s)) s.size) 0

theorem own_form7 {W : World} {B n size : Nat} {e : TypeId} {v : Value} {xs : List Value} (h : W.ownsRow B e size v n xs) : ∃ av cv, v = .slice av n cv := by
  rcases h.2 with ⟨rfl, h1, _⟩ | ⟨g, cap, cur, rfl, _⟩
  · exact ⟨none, 0, rfl⟩
  · exact ⟨_, _, rfl⟩

theorem own_cap7 {W : World} {B n g cap size : Nat} {e : TypeId} {xs : List Value} (h : W.ownsRow B e size (.slice (some ⟨g, 0, none⟩) n cap) n xs) : n ≤ cap ∧ cap ≤ maxLen := by
  rcases h.2 with ⟨h, _⟩ | ⟨g', cap', cur, h, _, _, h1, h2, _⟩
  · cases h
  · injection h with _ _ h3
    subst h3
    exact ⟨h1, h2⟩

theorem rIB {x y : Int} {b c : Bool} (h : x = y) (k : b = c) : Ending.returned (.tuple #[.int .i64 x, .bool b]) = Ending.returned (.tuple #[.int .i64 y, .bool c]) := by rw [h, k]

set_option maxRecDepth 100000 in
set_option maxHeartbeats 6400000 in
theorem imCountCrossings (s : ByteArray) (hs : s.size ≤ 1048576) (w : World) :
    Calls Try.prog 34 #[.string s] w fun e w' => e = .returned (.tuple #[.int .i64 (ccR s), .bool (tkB s)]) ∧ Below w.heap.size w w' := by
  have TG := imIsTrack s hs
  cases ht : tkB s <;> rw [ht] at TG
  · have e1 : ccR s = 0 := by simp [ccR, ht]
    rw [e1]
    have TG := Lib.hid TG
    go_enter Try.func34, Try.ntmps34
    go_wp2_with (go_at_call 80; (with_reducible refine (TG.out _).mono ?_); rintro e wA ⟨rfl, h1⟩; (try with_reducible replace h1 := undrew h1); have hB : Below w.heap.size w wA := ba (by go_grown) h1; obtain ⟨hcwA, hfwA⟩ := bcell h1; have hqwA := h1.size; (try simp at hqwA); (try have hz0wA : w.heap.size < wA.heap.size := (by omega)); (try have he0wA : w.heap.size ≤ wA.heap.size := (by omega)))
    go_returns
    exact ⟨rfl, by go_grown⟩
  · have h40 := tkB_size ht
    have e1 : ccR s = cnO (clB s) (chds (jp s)) s.size := by simp [ccR, ht]
    rw [e1]
    have TG := Lib.hid TG
    have hl0 : (chds (jp s)).length = s.size := by rw [chds_length, jp_len]; omega
    have hm0 := chds_bd (jp_bd ht)
    have hc0 := chordsOfP s ht
    have CL := Lib.hid (isClosed_any s hs)
    clear e1
    generalize chds (jp s) = l at *
    have HL := Lib.hid hl0
    have HM := Lib.hid hm0
    have CO := Lib.hid hc0
    clear hl0 hm0 hc0
    generalize clB s = cl at *
    go_enter Try.func34, Try.ntmps34
    go_wp2_with fail
    (go_at_call 80; (with_reducible refine (TG.out _).mono ?_); rintro e wA ⟨rfl, h1⟩; (try with_reducible replace h1 := undrew h1); have hB : Below w.heap.size w wA := ba (by go_grown) h1; obtain ⟨hcwA, hfwA⟩ := bcell h1; have hqwA := h1.size; (try simp at hqwA); (try have hz0wA : w.heap.size < wA.heap.size := (by omega)); (try have he0wA : w.heap.size ≤ wA.heap.size := (by omega)))
    go_wp2_with fail
    refine (CO.out _).mono ?_
    rintro er w1 ⟨v, rfl, hO, hb1⟩
    obtain ⟨av, cv, rfl⟩ := own_form7 hO
    have hz1 := hb1.size
    have HBx := Lib.hid (ba hB hb1)
    have HO := Lib.hid hO
    clear hO hcwA hfwA hb1 hB
    go_wp2_with fail
    go_loopw [5, 18] (fun t i wr => ∃ j : Nat, j ≤ s.size ∧ i = .int .i64 j ∧ t = .int .i64 (cnO cl l j) ∧ Below w1.heap.size w1 wr) (fun _ i _ => s.size - (intOf i).toNat)
    case atStart => exact ⟨0, Nat.zero_le _, rfl, rfl, Below.refl _ _⟩
    case round =>
      obtain ⟨j, hj, rfl, rfl, hB⟩ := hrel
      have HBo := Lib.hid hB
      clear hB
      by_cases hlt : j < s.size
      · obtain ⟨g, cap, hv, _⟩ := HO.out.form (by omega)
        simp only [Value.slice.injEq] at hv
        obtain ⟨rfl, _, rfl⟩ := hv
        have H1 := Lib.hid (RowC.own HO.out HL.out)
        have hg := own_lt7 HO.out
        have hcap := own_cap7 HO.out
        obtain ⟨⟨a, b⟩, hy⟩ : ∃ x, l[j]? = some x := ⟨_, List.getElem?_eq_getElem (by rw [HL.out]; exact hlt)⟩
        have hmj := HM.out (a, b) (List.mem_of_getElem? hy)
        have hgo : g < wr.heap.size := by have := HBo.out.size; omega
        obtain ⟨⟨c0, c1, c2, c3⟩, c4, c5, c6, c7⟩ := (H1.out.below hg HBo.out) j a b hy
        have HSO := Lib.hid (cnO_succ (cl := cl) hy)
        have ob := cnO_bd cl l j
        have j1 : (0 : Int) ≤ (j : Int) := by omega
        have j2 : (j : Int) < (s.size : Int) := by omega
        have j3 : (j : Int) ≤ (s.size : Int) := by omega
        have j4 : (j : Int) ≤ (cv : Int) := by have := hcap.1; omega
        clear hy
        have hBw := ba HBx.out HBo.out
        go_wp2_with fail
        refine absW (F := fun X => (X.cell? ⟨wr.heap.size, 0, none⟩ = some (.int .i64 (a).a) ∧ X.cell? ⟨wr.heap.size, 1, none⟩ = some (.int .i64 (a).b) ∧ X.cell? ⟨wr.heap.size, 2, none⟩ = some (.int .i64 (a).c) ∧ X.cell? ⟨wr.heap.size, 3, none⟩ = some (.int .i64 (a).d)) ∧ (X.cell? ⟨wr.heap.size, 4, none⟩ = some (.int .i64 (b).a) ∧ X.cell? ⟨wr.heap.size, 5, none⟩ = some (.int .i64 (b).b) ∧ X.cell? ⟨wr.heap.size, 6, none⟩ = some (.int .i64 (b).c) ∧ X.cell? ⟨wr.heap.size, 7, none⟩ = some (.int .i64 (b).d)) ∧ (wr.heap.size < X.heap.size) ∧ (Below wr.heap.size wr X) ∧ Below w.heap.size w X) ⟨⟨by go_simp, by go_simp, by go_simp, by go_simp⟩, ⟨by go_simp, by go_simp, by go_simp, by go_simp⟩, by simp, by go_grown, by go_grown⟩ ?_
        rintro X ⟨⟨cC_0, cC_1, cC_2, cC_3⟩, ⟨cD_4, cD_5, cD_6, cD_7⟩, hzX, hWX, HB⟩
        have kC_0 := fun d os => cell_regrown cC_0 d os
        have kC_1 := fun d os => cell_regrown cC_1 d os
        have kC_2 := fun d os => cell_regrown cC_2 d os
        have kC_3 := fun d os => cell_regrown cC_3 d os
        have kD_4 := fun d os => cell_regrown cD_4 d os
        have kD_5 := fun d os => cell_regrown cD_5 d os
        have kD_6 := fun d os => cell_regrown cD_6 d os
        have kD_7 := fun d os => cell_regrown cD_7 d os
        have zX : wr.heap.size < X.heap.size := hzX
        have gX : g < X.heap.size := by omega
        have HCD := Lib.hid (And.intro (And.intro cC_0 (And.intro cC_1 (And.intro cC_2 cC_3))) (And.intro cD_4 (And.intro cD_5 (And.intro cD_6 cD_7))))
        have HBX := Lib.hid HB
        have HOX := Lib.hid (ba HBo.out hWX)
        have HHX := Lib.hid (H1.out.below hg HOX.out)
        have HT := Lib.hid (rfl : cnO cl l j = cnO cl l j)
        generalize hT : cnO cl l j = T at *
        have HTT := Lib.hid hT
        clear hT HT cC_0 cC_1 cC_2 cC_3 cD_4 cD_5 cD_6 cD_7 kC_0 kC_1 kC_2 kC_3 kD_4 kD_5 kD_6 kD_7 c0 c1 c2 c3 c4 c5 c6 c7 HB hWX hBw
        obtain ⟨wo, rfl⟩ : ∃ wo, wo = wr := ⟨_, rfl⟩
        go_loopw [5, 27] (fun t i wi => ∃ k : Nat, k ≤ j ∧ i = .int .i64 k ∧ t = .int .i64 (T + cnI cl l (a, b) j k) ∧ Below X.heap.size X wi) (fun _ i _ => j - (intOf i).toNat)
        case atStart => exact ⟨0, Nat.zero_le _, rfl, by simp [cnI], Below.refl _ _⟩
        case round =>
          obtain ⟨k, hk, rfl, rfl, hBi⟩ := hrel
          have hzi := hBi.size
          by_cases hlk : k < j
          · obtain ⟨⟨c, d⟩, hx⟩ : ∃ x, l[k]? = some x := ⟨_, List.getElem?_eq_getElem (by rw [HL.out]; omega)⟩
            have hmk := HM.out (c, d) (List.mem_of_getElem? hx)
            obtain ⟨⟨c0, c1, c2, c3⟩, c4, c5, c6, c7⟩ := (HHX.out.below gX hBi) k c d hx
            obtain ⟨⟨e0, e1, e2, e3⟩, e4, e5, e6, e7⟩ := HCD.out
            have d0 := (hBi.cell (p := ⟨wo.heap.size, 0, none⟩) zX).trans e0
            have d1 := (hBi.cell (p := ⟨wo.heap.size, 1, none⟩) zX).trans e1
            have d2 := (hBi.cell (p := ⟨wo.heap.size, 2, none⟩) zX).trans e2
            have d3 := (hBi.cell (p := ⟨wo.heap.size, 3, none⟩) zX).trans e3
            have d4 := (hBi.cell (p := ⟨wo.heap.size, 4, none⟩) zX).trans e4
            have d5 := (hBi.cell (p := ⟨wo.heap.size, 5, none⟩) zX).trans e5
            have d6 := (hBi.cell (p := ⟨wo.heap.size, 6, none⟩) zX).trans e6
            have d7 := (hBi.cell (p := ⟨wo.heap.size, 7, none⟩) zX).trans e7
            have HSI := Lib.hid (cnI_succ (cl := cl) (y := (a, b)) (j := j) hx)
            have ib := cnI_bd cl l (a, b) j k
            have MT := meetsP a b c d hmj.1 hmj.2 hmk.1 hmk.2
            have HH := Lib.hid (show hit cl l.length (c, d) (a, b) k j = (!(decide (j = k + 1) || (decide (k = 0 ∧ j + 1 = s.size) && cl)) && shr a b c d) by
              unfold hit; rw [HL.out, shr_comm])
            generalize shr a b c d = S at *
            generalize hit cl l.length (c, d) (a, b) k j = H at *
            generalize hI : cnI cl l (a, b) j k = I at *
            have HI := Lib.hid hI
            clear hx hmk e0 e1 e2 e3 e4 e5 e6 e7 hI
            have i1 : (0 : Int) ≤ (k : Int) := by omega
            have i2 : (k : Int) < (j : Int) := by omega
            have i3 : IntKind.i64.wrap ((j : Int) - (k : Int)) = (j : Int) - (k : Int) := IntWalk.i64_in _ ⟨by omega, by omega⟩
            have i4 : IntKind.i64.wrap ((s.size : Int) - 1) = (s.size : Int) - 1 := IntWalk.i64_in _ ⟨by omega, by omega⟩
            have bT : -2000 ≤ T + I ∧ T + I ≤ 4000 := by
              have h1 : ((j : Int)) * j ≤ 1600 := by
                have := Int.mul_le_mul (a := (j : Int)) (b := (j : Int)) (c := 40) (d := 40) (by omega) (by omega) (by omega) (by omega)
                omega
              omega
            have i5 : IntKind.i64.wrap (T + I + 1) = T + I + 1 := IntWalk.i64_in _ ⟨by omega, by omega⟩
            have hBwi := ba HBX.out hBi
            have qg : g < wr.heap.size := by omega
            have qo : wo.heap.size < wr.heap.size := by omega
            have qw : w.heap.size < wr.heap.size := by omega
            have hm1 := HH.out
            by_cases n1 : j = k + 1
            · have hH : H = false := by rw [hm1]; simp [n1]
              have f1 : ((j : Int) - (k : Int) == 1) = true := beq_iff_eq.2 (by omega)
              clear n1 hm1
              go_wp2_with fail
              go_roundw
              case rel => exact ⟨k + 1, by omega, by go_num, by rw [HSI.out, hH]; first | rfl | (simp; done) | (simp; omega), by go_grown⟩
              case measure => simp [intOf]; omega
            · have f1 : ((j : Int) - (k : Int) == 1) = false := beq_eq_false_iff_ne.2 (by omega)
              by_cases n2 : k = 0 ∧ j + 1 = s.size
              · have f2 : ((j : Int) - (k : Int) == (s.size : Int) - 1) = true := beq_iff_eq.2 (by omega)
                cases cl
                · cases S
                  all_goals
                    have hH := hm1
                    rw [decide_eq_false n1, Bool.and_false] at hH; (try simp only [Bool.and_false, Bool.or_false, Bool.not_false, Bool.true_and] at hH)
                    clear hm1 n1 n2
                    go_wp2_with (first | (go_at_call 64; (with_reducible refine (CL.out _).mono ?_); rintro e w3 ⟨rfl, h1⟩; (try with_reducible replace h1 := undrew h1); have hB : Below w.heap.size w w3 := ba (by go_grown) h1; obtain ⟨hcw3, hfw3⟩ := bcell h1; have hqw3 := h1.size; (try simp at hqw3); (try have hz0w3 : g < w3.heap.size := (by omega)); (try have he0w3 : g ≤ w3.heap.size := (by omega)); (try have hz1w3 : wo.heap.size < w3.heap.size := (by omega)); (try have he1w3 : wo.heap.size ≤ w3.heap.size := (by omega)); (try have hz2w3 : w.heap.size < w3.heap.size := (by omega)); (try have he2w3 : w.heap.size ≤ w3.heap.size := (by omega)); (try have hz3w3 : wr.heap.size < w3.heap.size := (by omega)); (try have he3w3 : wr.heap.size ≤ w3.heap.size := (by omega)); have hC3 : Below X.heap.size X w3 := ba (by go_grown) h1) | (go_at_call 60; (with_reducible refine (MT _).mono ?_); rintro e w4 ⟨rfl, h1⟩; (try with_reducible replace h1 := undrew h1); have hB : Below w.heap.size w w4 := ba (by go_grown) h1; obtain ⟨hcw4, hfw4⟩ := bcell h1; have hqw4 := h1.size; (try simp at hqw4); (try have hz0w4 : g < w4.heap.size := (by omega)); (try have he0w4 : g ≤ w4.heap.size := (by omega)); (try have hz1w4 : wo.heap.size < w4.heap.size := (by omega)); (try have he1w4 : wo.heap.size ≤ w4.heap.size := (by omega)); (try have hz2w4 : w.heap.size < w4.heap.size := (by omega)); (try have he2w4 : w.heap.size ≤ w4.heap.size := (by omega)); (try have hz3w4 : wr.heap.size < w4.heap.size := (by omega)); (try have he3w4 : wr.heap.size ≤ w4.heap.size := (by omega)); have hC4 : Below X.heap.size X w4 := ba (by go_grown) h1))
                    go_roundw
                    case rel => exact ⟨k + 1, by omega, by go_num, by rw [HSI.out, hH]; first | rfl | (simp; done) | (simp; omega), by go_grown⟩
                    case measure => simp [intOf]; omega
                · have hH := hm1
                  rw [decide_eq_false n1, decide_eq_true n2] at hH; try simp only [Bool.true_and, Bool.false_or, Bool.not_true, Bool.false_and] at hH
                  clear hm1 n1 n2
                  go_wp2_with (go_at_call 64; (with_reducible refine (CL.out _).mono ?_); rintro e w3 ⟨rfl, h1⟩; (try with_reducible replace h1 := undrew h1); have hB : Below w.heap.size w w3 := ba (by go_grown) h1; obtain ⟨hcw3, hfw3⟩ := bcell h1; have hqw3 := h1.size; (try simp at hqw3); (try have hz0w3 : g < w3.heap.size := (by omega)); (try have he0w3 : g ≤ w3.heap.size := (by omega)); (try have hz1w3 : wo.heap.size < w3.heap.size := (by omega)); (try have he1w3 : wo.heap.size ≤ w3.heap.size := (by omega)); (try have hz2w3 : w.heap.size < w3.heap.size := (by omega)); (try have he2w3 : w.heap.size ≤ w3.heap.size := (by omega)); (try have hz3w3 : wr.heap.size < w3.heap.size := (by omega)); (try have he3w3 : wr.heap.size ≤ w3.heap.size := (by omega)); have hC3 : Below X.heap.size X w3 := ba (by go_grown) h1)
                  go_roundw
                  case rel => exact ⟨k + 1, by omega, by go_num, by rw [HSI.out, hH]; first | rfl | (simp; done) | (simp; omega), by go_grown⟩
                  case measure => simp [intOf]; omega
              · have f2 : ((j : Int) - (k : Int) == (s.size : Int) - 1) = false := beq_eq_false_iff_ne.2 (by omega)
                cases S
                all_goals
                  have hH := hm1
                  rw [decide_eq_false n1, decide_eq_false n2] at hH; try simp only [Bool.false_and, Bool.or_false, Bool.not_false, Bool.true_and] at hH
                  clear hm1 n1 n2
                  go_wp2_with (go_at_call 60; (with_reducible refine (MT _).mono ?_); rintro e w4 ⟨rfl, h1⟩; (try with_reducible replace h1 := undrew h1); have hB : Below w.heap.size w w4 := ba (by go_grown) h1; obtain ⟨hcw4, hfw4⟩ := bcell h1; have hqw4 := h1.size; (try simp at hqw4); (try have hz0w4 : g < w4.heap.size := (by omega)); (try have he0w4 : g ≤ w4.heap.size := (by omega)); (try have hz1w4 : wo.heap.size < w4.heap.size := (by omega)); (try have he1w4 : wo.heap.size ≤ w4.heap.size := (by omega)); (try have hz2w4 : w.heap.size < w4.heap.size := (by omega)); (try have he2w4 : w.heap.size ≤ w4.heap.size := (by omega)); (try have hz3w4 : wr.heap.size < w4.heap.size := (by omega)); (try have he3w4 : wr.heap.size ≤ w4.heap.size := (by omega)); have hC4 : Below X.heap.size X w4 := ba (by go_grown) h1)
                  go_roundw
                  case rel => exact ⟨k + 1, by omega, by go_num, by rw [HSI.out, hH]; first | rfl | (simp; done) | (simp; omega), by go_grown⟩
                  case measure => simp [intOf]; omega
          · have hkj : k = j := by omega
            have i2 : ¬ (k : Int) < (j : Int) := by omega
            have R := Lib.hid (show cnO cl l (j + 1) = T + cnI cl l (a, b) j k by rw [HSO.out, hkj])
            have hBwi := ba HOX.out hBi
            have bI := cnI_bd cl l (a, b) j k
            go_wp2_with fail
            go_roundw
            case rel => exact ⟨j + 1, by omega, by go_num, by rw [R.out], hBwi⟩
            case measure => simp [intOf]; omega
      · have hjn : j = s.size := by omega
        have R := Lib.hid (show cnO cl l j = cnO cl l s.size by rw [hjn])
        have hBB := ba HBx.out HBo.out
        go_wp2_with fail
        go_ret2
        exact ⟨rIB R.out rfl, hBB⟩

end Go.Proofs.Ytppbbcckijcckaa

/- Contracts: CountCrossings, in the model. -/
namespace Go.Proofs.Ytppbbcckijcckaa
open Go.ChangeShapes Go.WideShapes Go.ChangeAt Go.RowKit Go.Sort

set_option linter.unusedVariables false
set_option linter.unusedSimpArgs false

theorem cnI_last {cl : Bool} {l : List (Pn × Pn)} {y : Pn × Pn} {j : Nat} (k : Nat) (hk : k + 1 = j) : cnI cl l y j (k + 1) = cnI cl l y j k := by
  cases hx : l[k]? with
  | none => simp only [cnI, hx]
  | some x => rw [cnI_succ hx]; simp [hit, hk]

set_option maxRecDepth 100000 in
set_option maxHeartbeats 6400000 in
theorem arCrossingsP (s : ByteArray) (hs : s.size ≤ 1048576) (ht : tkB s = true) (w : World) :
    Calls Try.prog 79 #[.string s] w fun e w' => e = .returned (.int .i64 (cnO (clB s) (chds (jp s)) s.size)) ∧ Below w.heap.size w w' := by
  have h40 := tkB_size ht
  have hl0 := jp_len s
  have hm0 := jp_bd ht
  have hc0 := tkJoints_yes s ht
  have hr0 := fun (W : World) (B g cap : Nat) (e : TypeId) (h : W.ownsRow B e 4 (.slice (some ⟨g, 0, none⟩) (s.size + 1) cap) (s.size + 1) (ptCells (lays sp0 s.data.toList))) => rowP_own (n := 0) h
  have CL := Lib.hid (clClosed_any s ht)
  generalize jp s = l at *
  have HL := Lib.hid hl0
  have HM := Lib.hid hm0
  have HR := Lib.hid hr0
  have HCL := Lib.hid (show (chds l).length = s.size by rw [chds_length, hl0]; omega)
  clear hl0 hm0 hr0
  generalize clB s = cl at *
  go_enter Try.func79, Try.ntmps79
  go_wp2_with fail
  refine (hc0 _).mono ?_
  rintro er w1 ⟨g, cap, rfl, hO, hb1⟩
  have hz1 := hb1.size
  have HBx := Lib.hid hb1
  have H1 := Lib.hid (HR.out _ _ _ _ _ hO)
  have hg := own_lt7 hO
  clear hO hb1 hc0
  go_wp2_with fail
  go_loopw [4, 5] (fun t i wr => ∃ j : Nat, j ≤ s.size ∧ i = .int .i64 j ∧ t = .int .i64 (cnO cl (chds l) j) ∧ Below w1.heap.size w1 wr) (fun _ i _ => s.size - (intOf i).toNat)
  case atStart => exact ⟨0, Nat.zero_le _, rfl, rfl, Below.refl _ _⟩
  case round =>
    obtain ⟨j, hj, rfl, rfl, hB⟩ := hrel
    have HBo := Lib.hid hB
    have hzo := hB.size
    clear hB
    by_cases hlt : j < s.size
    · obtain ⟨a, ha⟩ : ∃ x, l[j]? = some x := ⟨_, List.getElem?_eq_getElem (by rw [HL.out]; omega)⟩
      obtain ⟨b, hb_⟩ : ∃ x, l[j + 1]? = some x := ⟨_, List.getElem?_eq_getElem (by rw [HL.out]; omega)⟩
      have hy := chds_get l j a b ha hb_
      have hma := HM.out a (List.mem_of_getElem? ha)
      have hmb := HM.out b (List.mem_of_getElem? hb_)
      have HHX := Lib.hid (H1.out.below hg HBo.out)
      have gX : g < wr.heap.size := by omega
      have HSO := Lib.hid (cnO_succ (cl := cl) hy)
      have ob := cnO_bd cl (chds l) j
      have j1 : (0 : Int) ≤ (j : Int) := by omega
      have j2 : (j : Int) < (s.size : Int) := by omega
      have j3 : IntKind.i64.wrap ((j : Int) - 1) = (j : Int) - 1 := IntWalk.i64_in _ ⟨by omega, by omega⟩
      generalize hT : cnO cl (chds l) j = T at *
      clear hT
      have HA := Lib.hid ha
      have HBq := Lib.hid hb_
      clear ha hb_ hy
      go_wp2_with fail
      obtain ⟨wo, rfl⟩ : ∃ wo, wo = wr := ⟨_, rfl⟩
      go_loopw [4, 6] (fun t i wi => ∃ k : Nat, (k + 1 ≤ j ∨ k = 0) ∧ i = .int .i64 k ∧ t = .int .i64 (T + cnI cl (chds l) (a, b) j k) ∧ Below wo.heap.size wo wi) (fun _ i _ => j - (intOf i).toNat)
      case atStart => exact ⟨0, .inr rfl, rfl, by simp [cnI], Below.refl _ _⟩
      case round =>
        obtain ⟨k, hk, rfl, rfl, hBi⟩ := hrel
        have hzi := hBi.size
        by_cases hlk : k + 1 < j
        · obtain ⟨c, hc⟩ : ∃ x, l[k]? = some x := ⟨_, List.getElem?_eq_getElem (by rw [HL.out]; omega)⟩
          obtain ⟨d, hd⟩ : ∃ x, l[k + 1]? = some x := ⟨_, List.getElem?_eq_getElem (by rw [HL.out]; omega)⟩
          have hx := chds_get l k c d hc hd
          have RR := HHX.out.below gX hBi
          obtain ⟨c0, c1, c2, c3⟩ := RR k c hc
          obtain ⟨d0, d1, d2, d3⟩ := RR (k + 1) d hd
          obtain ⟨a0, a1, a2, a3⟩ := RR j a HA.out
          obtain ⟨b0, b1, b2, b3⟩ := RR (j + 1) b HBq.out
          have HSI := Lib.hid (cnI_succ (cl := cl) (y := (a, b)) (j := j) hx)
          have ib := cnI_bd cl (chds l) (a, b) j k
          have SH := arShareP c d a b (HM.out c (List.mem_of_getElem? hc)) (HM.out d (List.mem_of_getElem? hd)) hma hmb
          have HH := Lib.hid (show hit cl (chds l).length (c, d) (a, b) k j = (!(decide (j = k + 1) || (decide (k = 0 ∧ j + 1 = s.size) && cl)) && shr c d a b) by
            unfold hit; rw [HCL.out])
          generalize shr c d a b = S at *
          generalize hit cl (chds l).length (c, d) (a, b) k j = H at *
          generalize hI : cnI cl (chds l) (a, b) j k = I at *
          clear hx hI hc hd RR
          have i1 : (0 : Int) ≤ (k : Int) := by omega
          have i2 : (k : Int) < (j : Int) - 1 := by omega
          have i2' : (k : Int) < (j : Int) := by omega
          have i4 : IntKind.i64.wrap ((s.size : Int) - 1) = (s.size : Int) - 1 := IntWalk.i64_in _ ⟨by omega, by omega⟩
          have i6 : IntKind.i64.wrap ((k : Int) + 1) = (k : Int) + 1 := IntWalk.i64_in _ ⟨by omega, by omega⟩
          have i7 : IntKind.i64.wrap ((j : Int) + 1) = (j : Int) + 1 := IntWalk.i64_in _ ⟨by omega, by omega⟩
          have i8 : ((k : Int) + 1).toNat = k + 1 := by omega
          have i9 : ((j : Int) + 1).toNat = j + 1 := by omega
          have i10 : (0 : Int) ≤ (k : Int) + 1 := by omega
          have i11 : (0 : Int) ≤ (j : Int) + 1 := by omega
          have i12 : (k : Int) < (s.size : Int) + 1 := by omega
          have i13 : (k : Int) + 1 < (s.size : Int) + 1 := by omega
          have i14 : (j : Int) < (s.size : Int) + 1 := by omega
          have i15 : (j : Int) + 1 < (s.size : Int) + 1 := by omega
          have bT : -2000 ≤ T + I ∧ T + I ≤ 4000 := by
            have h1 : ((j : Int)) * j ≤ 1600 := by
              have := Int.mul_le_mul (a := (j : Int)) (b := (j : Int)) (c := 40) (d := 40) (by omega) (by omega) (by omega) (by omega)
              omega
            omega
          have i5 : IntKind.i64.wrap (T + I + 1) = T + I + 1 := IntWalk.i64_in _ ⟨by omega, by omega⟩
          have hBw := ba HBx.out (ba HBo.out hBi)
          have qg : g < wr.heap.size := by omega
          have qw : w.heap.size ≤ wr.heap.size := by omega
          have n1 : ¬ j = k + 1 := by omega
          have hm1 := HH.out
          rw [decide_eq_false n1] at hm1
          by_cases n2 : k = 0 ∧ j + 1 = s.size
          · have f1 : ((k : Int) == 0) = true := beq_iff_eq.2 (by omega)
            have f2 : ((j : Int) == (s.size : Int) - 1) = true := beq_iff_eq.2 (by omega)
            rw [decide_eq_true n2] at hm1
            cases cl
            · cases S
              all_goals
                have hH := hm1
                (try simp only [Bool.and_false, Bool.and_true, Bool.false_or, Bool.or_false, Bool.not_false, Bool.true_and] at hH)
                clear hm1 n1 n2
                go_wp2_with fail
                (go_at_call 115; (with_reducible refine (CL.out _).mono ?_); rintro e w3 ⟨rfl, h1⟩; (try with_reducible replace h1 := undrew h1); have hB : Below w.heap.size w w3 := ba (by go_grown) h1; obtain ⟨hcw3, hfw3⟩ := bcell h1; have hqw3 := h1.size; (try simp at hqw3); (try have hz0w3 : g < w3.heap.size := (by omega)); (try have he0w3 : g ≤ w3.heap.size := (by omega)); (try have hz1w3 : w.heap.size < w3.heap.size := (by omega)); (try have he1w3 : w.heap.size ≤ w3.heap.size := (by omega)); have hC3 : Below wo.heap.size wo w3 := ba (by go_grown) h1)
                go_wp2_with fail
                refine absW (F := fun W => (W.cell? ⟨g, k * 4, none⟩ = some (.int .i64 c.a)) ∧ (W.cell? ⟨g, k * 4 + 1, none⟩ = some (.int .i64 c.b)) ∧ (W.cell? ⟨g, k * 4 + 2, none⟩ = some (.int .i64 c.c)) ∧ (W.cell? ⟨g, k * 4 + 3, none⟩ = some (.int .i64 c.d)) ∧ (W.cell? ⟨g, (k + 1) * 4, none⟩ = some (.int .i64 d.a)) ∧ (W.cell? ⟨g, (k + 1) * 4 + 1, none⟩ = some (.int .i64 d.b)) ∧ (W.cell? ⟨g, (k + 1) * 4 + 2, none⟩ = some (.int .i64 d.c)) ∧ (W.cell? ⟨g, (k + 1) * 4 + 3, none⟩ = some (.int .i64 d.d)) ∧ (W.cell? ⟨g, j * 4, none⟩ = some (.int .i64 a.a)) ∧ (W.cell? ⟨g, j * 4 + 1, none⟩ = some (.int .i64 a.b)) ∧ (W.cell? ⟨g, j * 4 + 2, none⟩ = some (.int .i64 a.c)) ∧ (W.cell? ⟨g, j * 4 + 3, none⟩ = some (.int .i64 a.d)) ∧ (W.cell? ⟨g, (j + 1) * 4, none⟩ = some (.int .i64 b.a)) ∧ (W.cell? ⟨g, (j + 1) * 4 + 1, none⟩ = some (.int .i64 b.b)) ∧ (W.cell? ⟨g, (j + 1) * 4 + 2, none⟩ = some (.int .i64 b.c)) ∧ (W.cell? ⟨g, (j + 1) * 4 + 3, none⟩ = some (.int .i64 b.d)) ∧ (Below wo.heap.size wo W) ∧ (g < W.heap.size) ∧ (w.heap.size ≤ W.heap.size) ∧ Below w.heap.size w W) ⟨by go_simp, by go_simp, by go_simp, by go_simp, by go_simp, by go_simp, by go_simp, by go_simp, by go_simp, by go_simp, by go_simp, by go_simp, by go_simp, by go_simp, by go_simp, by go_simp, by go_grown, by omega, by omega, by go_grown⟩ ?_
                rintro W ⟨e0, e1, e2, e3, e4, e5, e6, e7, e8, e9, e10, e11, e12, e13, e14, e15, hWo, hWg, hWw, HB⟩
                have k0 := fun d os => cell_regrown e0 d os
                have k1 := fun d os => cell_regrown e1 d os
                have k2 := fun d os => cell_regrown e2 d os
                have k3 := fun d os => cell_regrown e3 d os
                have k4 := fun d os => cell_regrown e4 d os
                have k5 := fun d os => cell_regrown e5 d os
                have k6 := fun d os => cell_regrown e6 d os
                have k7 := fun d os => cell_regrown e7 d os
                have k8 := fun d os => cell_regrown e8 d os
                have k9 := fun d os => cell_regrown e9 d os
                have k10 := fun d os => cell_regrown e10 d os
                have k11 := fun d os => cell_regrown e11 d os
                have k12 := fun d os => cell_regrown e12 d os
                have k13 := fun d os => cell_regrown e13 d os
                have k14 := fun d os => cell_regrown e14 d os
                have k15 := fun d os => cell_regrown e15 d os
                clear c0 c1 c2 c3 d0 d1 d2 d3 a0 a1 a2 a3 b0 b1 b2 b3
                refine wp_region_quiet_below (by kernel_rfl) (by kernel_rfl) ?_
                repeat (quiet_step (first | (go_at_call 59; with_reducible exact Calls.regrown_of (SH _))))
                refine wpQuiet_nil ?_
                rintro _ ⟨⟨dq, osq⟩, rfl⟩
                have hbw4 := below_regrown W dq osq
                generalize grow (redrawn W dq) osq = w4 at hbw4 ⊢
                obtain ⟨hcw4, hfw4⟩ := bcell hbw4
                have hlw4 := hbw4.size
                replace HB := ba HB hbw4
                have hC4 : Below wo.heap.size wo w4 := ba hWo hbw4
                go_wp2_with fail
                go_roundw
                case rel => exact ⟨k + 1, by omega, by go_num, by rw [HSI.out, hH]; first | rfl | (simp; done) | (simp; omega), hC4⟩
                case measure => simp [intOf]; omega
            · have hH := hm1
              (try simp only [Bool.and_true, Bool.false_or, Bool.or_true, Bool.not_true, Bool.false_and, Bool.true_and] at hH)
              clear hm1 n1 n2
              go_wp2_with fail
              (go_at_call 115; (with_reducible refine (CL.out _).mono ?_); rintro e w3 ⟨rfl, h1⟩; (try with_reducible replace h1 := undrew h1); have hB : Below w.heap.size w w3 := ba (by go_grown) h1; obtain ⟨hcw3, hfw3⟩ := bcell h1; have hqw3 := h1.size; (try simp at hqw3); (try have hz0w3 : g < w3.heap.size := (by omega)); (try have he0w3 : g ≤ w3.heap.size := (by omega)); (try have hz1w3 : w.heap.size < w3.heap.size := (by omega)); (try have he1w3 : w.heap.size ≤ w3.heap.size := (by omega)); have hC3 : Below wo.heap.size wo w3 := ba (by go_grown) h1)
              go_wp2_with fail
              go_roundw
              case rel => exact ⟨k + 1, by omega, by go_num, by rw [HSI.out, hH]; first | rfl | (simp; done) | (simp; omega), hC3⟩
              case measure => simp [intOf]; omega
          · rw [decide_eq_false n2] at hm1
            by_cases n3 : k = 0
            · have f1 : ((k : Int) == 0) = true := beq_iff_eq.2 (by omega)
              have f2 : ((j : Int) == (s.size : Int) - 1) = false := beq_eq_false_iff_ne.2 (by omega)
              cases S
              all_goals
                have hH := hm1
                (try simp only [Bool.and_false, Bool.and_true, Bool.false_and, Bool.false_or, Bool.or_false, Bool.not_false, Bool.true_and] at hH)
                clear hm1 n1 n2 n3
                go_wp2_with fail
                refine absW (F := fun W => (W.cell? ⟨g, k * 4, none⟩ = some (.int .i64 c.a)) ∧ (W.cell? ⟨g, k * 4 + 1, none⟩ = some (.int .i64 c.b)) ∧ (W.cell? ⟨g, k * 4 + 2, none⟩ = some (.int .i64 c.c)) ∧ (W.cell? ⟨g, k * 4 + 3, none⟩ = some (.int .i64 c.d)) ∧ (W.cell? ⟨g, (k + 1) * 4, none⟩ = some (.int .i64 d.a)) ∧ (W.cell? ⟨g, (k + 1) * 4 + 1, none⟩ = some (.int .i64 d.b)) ∧ (W.cell? ⟨g, (k + 1) * 4 + 2, none⟩ = some (.int .i64 d.c)) ∧ (W.cell? ⟨g, (k + 1) * 4 + 3, none⟩ = some (.int .i64 d.d)) ∧ (W.cell? ⟨g, j * 4, none⟩ = some (.int .i64 a.a)) ∧ (W.cell? ⟨g, j * 4 + 1, none⟩ = some (.int .i64 a.b)) ∧ (W.cell? ⟨g, j * 4 + 2, none⟩ = some (.int .i64 a.c)) ∧ (W.cell? ⟨g, j * 4 + 3, none⟩ = some (.int .i64 a.d)) ∧ (W.cell? ⟨g, (j + 1) * 4, none⟩ = some (.int .i64 b.a)) ∧ (W.cell? ⟨g, (j + 1) * 4 + 1, none⟩ = some (.int .i64 b.b)) ∧ (W.cell? ⟨g, (j + 1) * 4 + 2, none⟩ = some (.int .i64 b.c)) ∧ (W.cell? ⟨g, (j + 1) * 4 + 3, none⟩ = some (.int .i64 b.d)) ∧ (Below wo.heap.size wo W) ∧ (g < W.heap.size) ∧ (w.heap.size ≤ W.heap.size) ∧ Below w.heap.size w W) ⟨by go_simp, by go_simp, by go_simp, by go_simp, by go_simp, by go_simp, by go_simp, by go_simp, by go_simp, by go_simp, by go_simp, by go_simp, by go_simp, by go_simp, by go_simp, by go_simp, by go_grown, by omega, by omega, by go_grown⟩ ?_
                rintro W ⟨e0, e1, e2, e3, e4, e5, e6, e7, e8, e9, e10, e11, e12, e13, e14, e15, hWo, hWg, hWw, HB⟩
                have k0 := fun d os => cell_regrown e0 d os
                have k1 := fun d os => cell_regrown e1 d os
                have k2 := fun d os => cell_regrown e2 d os
                have k3 := fun d os => cell_regrown e3 d os
                have k4 := fun d os => cell_regrown e4 d os
                have k5 := fun d os => cell_regrown e5 d os
                have k6 := fun d os => cell_regrown e6 d os
                have k7 := fun d os => cell_regrown e7 d os
                have k8 := fun d os => cell_regrown e8 d os
                have k9 := fun d os => cell_regrown e9 d os
                have k10 := fun d os => cell_regrown e10 d os
                have k11 := fun d os => cell_regrown e11 d os
                have k12 := fun d os => cell_regrown e12 d os
                have k13 := fun d os => cell_regrown e13 d os
                have k14 := fun d os => cell_regrown e14 d os
                have k15 := fun d os => cell_regrown e15 d os
                clear c0 c1 c2 c3 d0 d1 d2 d3 a0 a1 a2 a3 b0 b1 b2 b3
                refine wp_region_quiet_below (by kernel_rfl) (by kernel_rfl) ?_
                repeat (quiet_step (first | (go_at_call 59; with_reducible exact Calls.regrown_of (SH _))))
                refine wpQuiet_nil ?_
                rintro _ ⟨⟨dq, osq⟩, rfl⟩
                have hbw4 := below_regrown W dq osq
                generalize grow (redrawn W dq) osq = w4 at hbw4 ⊢
                obtain ⟨hcw4, hfw4⟩ := bcell hbw4
                have hlw4 := hbw4.size
                replace HB := ba HB hbw4
                have hC4 : Below wo.heap.size wo w4 := ba hWo hbw4
                go_wp2_with fail
                go_roundw
                case rel => exact ⟨k + 1, by omega, by go_num, by rw [HSI.out, hH]; first | rfl | (simp; done) | (simp; omega), hC4⟩
                case measure => simp [intOf]; omega
            · have f1 : ((k : Int) == 0) = false := beq_eq_false_iff_ne.2 (by omega)
              cases S
              all_goals
                have hH := hm1
                (try simp only [Bool.and_false, Bool.and_true, Bool.false_and, Bool.false_or, Bool.or_false, Bool.not_false, Bool.true_and] at hH)
                clear hm1 n1 n2 n3
                go_wp2_with fail
                refine absW (F := fun W => (W.cell? ⟨g, k * 4, none⟩ = some (.int .i64 c.a)) ∧ (W.cell? ⟨g, k * 4 + 1, none⟩ = some (.int .i64 c.b)) ∧ (W.cell? ⟨g, k * 4 + 2, none⟩ = some (.int .i64 c.c)) ∧ (W.cell? ⟨g, k * 4 + 3, none⟩ = some (.int .i64 c.d)) ∧ (W.cell? ⟨g, (k + 1) * 4, none⟩ = some (.int .i64 d.a)) ∧ (W.cell? ⟨g, (k + 1) * 4 + 1, none⟩ = some (.int .i64 d.b)) ∧ (W.cell? ⟨g, (k + 1) * 4 + 2, none⟩ = some (.int .i64 d.c)) ∧ (W.cell? ⟨g, (k + 1) * 4 + 3, none⟩ = some (.int .i64 d.d)) ∧ (W.cell? ⟨g, j * 4, none⟩ = some (.int .i64 a.a)) ∧ (W.cell? ⟨g, j * 4 + 1, none⟩ = some (.int .i64 a.b)) ∧ (W.cell? ⟨g, j * 4 + 2, none⟩ = some (.int .i64 a.c)) ∧ (W.cell? ⟨g, j * 4 + 3, none⟩ = some (.int .i64 a.d)) ∧ (W.cell? ⟨g, (j + 1) * 4, none⟩ = some (.int .i64 b.a)) ∧ (W.cell? ⟨g, (j + 1) * 4 + 1, none⟩ = some (.int .i64 b.b)) ∧ (W.cell? ⟨g, (j + 1) * 4 + 2, none⟩ = some (.int .i64 b.c)) ∧ (W.cell? ⟨g, (j + 1) * 4 + 3, none⟩ = some (.int .i64 b.d)) ∧ (Below wo.heap.size wo W) ∧ (g < W.heap.size) ∧ (w.heap.size ≤ W.heap.size) ∧ Below w.heap.size w W) ⟨by go_simp, by go_simp, by go_simp, by go_simp, by go_simp, by go_simp, by go_simp, by go_simp, by go_simp, by go_simp, by go_simp, by go_simp, by go_simp, by go_simp, by go_simp, by go_simp, by go_grown, by omega, by omega, by go_grown⟩ ?_
                rintro W ⟨e0, e1, e2, e3, e4, e5, e6, e7, e8, e9, e10, e11, e12, e13, e14, e15, hWo, hWg, hWw, HB⟩
                have k0 := fun d os => cell_regrown e0 d os
                have k1 := fun d os => cell_regrown e1 d os
                have k2 := fun d os => cell_regrown e2 d os
                have k3 := fun d os => cell_regrown e3 d os
                have k4 := fun d os => cell_regrown e4 d os
                have k5 := fun d os => cell_regrown e5 d os
                have k6 := fun d os => cell_regrown e6 d os
                have k7 := fun d os => cell_regrown e7 d os
                have k8 := fun d os => cell_regrown e8 d os
                have k9 := fun d os => cell_regrown e9 d os
                have k10 := fun d os => cell_regrown e10 d os
                have k11 := fun d os => cell_regrown e11 d os
                have k12 := fun d os => cell_regrown e12 d os
                have k13 := fun d os => cell_regrown e13 d os
                have k14 := fun d os => cell_regrown e14 d os
                have k15 := fun d os => cell_regrown e15 d os
                clear c0 c1 c2 c3 d0 d1 d2 d3 a0 a1 a2 a3 b0 b1 b2 b3
                refine wp_region_quiet_below (by kernel_rfl) (by kernel_rfl) ?_
                repeat (quiet_step (first | (go_at_call 59; with_reducible exact Calls.regrown_of (SH _))))
                refine wpQuiet_nil ?_
                rintro _ ⟨⟨dq, osq⟩, rfl⟩
                have hbw4 := below_regrown W dq osq
                generalize grow (redrawn W dq) osq = w4 at hbw4 ⊢
                obtain ⟨hcw4, hfw4⟩ := bcell hbw4
                have hlw4 := hbw4.size
                replace HB := ba HB hbw4
                have hC4 : Below wo.heap.size wo w4 := ba hWo hbw4
                go_wp2_with fail
                go_roundw
                case rel => exact ⟨k + 1, by omega, by go_num, by rw [HSI.out, hH]; first | rfl | (simp; done) | (simp; omega), hC4⟩
                case measure => simp [intOf]; omega
        · have bI := cnI_bd cl (chds l) (a, b) j k
          have i2 : ¬ (k : Int) < (j : Int) - 1 := by omega
          have R := Lib.hid (show cnO cl (chds l) (j + 1) = T + cnI cl (chds l) (a, b) j k by
            rw [HSO.out]
            rcases hk with hk | hk
            · have e : k + 1 = j := by omega
              rw [show cnI cl (chds l) (a, b) j j = cnI cl (chds l) (a, b) j k by
                have := cnI_last (cl := cl) (l := chds l) (y := (a, b)) k e
                rw [e] at this; exact this]
            · by_cases e : j = 0
              · rw [hk, e]
              · have e1 : k + 1 = j := by omega
                rw [show cnI cl (chds l) (a, b) j j = cnI cl (chds l) (a, b) j k by
                  have := cnI_last (cl := cl) (l := chds l) (y := (a, b)) k e1
                  rw [e1] at this; exact this])
          have hBwi := ba HBo.out hBi
          go_wp2_with fail
          go_roundw
          case rel => exact ⟨j + 1, by omega, by go_num, by rw [R.out], hBwi⟩
          case measure => simp [intOf]; omega
    · have hjn : j = s.size := by omega
      have R := Lib.hid (show cnO cl (chds l) j = cnO cl (chds l) s.size by rw [hjn])
      have hBB := ba HBx.out HBo.out
      go_wp2_with fail
      go_ret
      exact ⟨by rw [R.out]; rfl, hBB⟩

set_option maxRecDepth 100000 in
theorem spCountCrossings (s : ByteArray) (hs : s.size ≤ 1048576) (w : World) :
    Calls Try.prog 33 #[.string s] w fun e w' => e = .returned (.tuple #[.int .i64 (ccR s), .bool (tkB s)]) ∧ Below w.heap.size w w' := by
  have TG := tkGood_any s hs
  cases ht : tkB s <;> rw [ht] at TG
  · have e1 : ccR s = 0 := by simp [ccR, ht]
    rw [e1]
    have TG := Lib.hid TG
    go_enter Try.func33, Try.ntmps33
    go_wp2_with (go_at_call 72; refine (TG.out _).mono ?_; rintro e w' ⟨rfl, rfl⟩)
    go_returns
    exact ⟨rfl, by go_grown⟩
  · have e1 : ccR s = cnO (clB s) (chds (jp s)) s.size := by simp [ccR, ht]
    rw [e1]
    have TG := Lib.hid TG
    have AC := Lib.hid (arCrossingsP s hs ht)
    go_enter Try.func33, Try.ntmps33
    go_wp2_with (first | (go_at_call 72; refine (TG.out _).mono ?_; rintro e w' ⟨rfl, rfl⟩) | (go_at_call 79; (with_reducible refine (AC.out _).mono ?_); rintro e wA ⟨rfl, h1⟩; (try with_reducible replace h1 := undrew h1); have hB : Below w.heap.size w wA := ba (by go_grown) h1; obtain ⟨hcwA, hfwA⟩ := bcell h1; have hqwA := h1.size; (try simp at hqwA); (try have hz0wA : w.heap.size < wA.heap.size := (by omega)); (try have he0wA : w.heap.size ≤ wA.heap.size := (by omega))))
    go_returns
    exact ⟨rfl, by go_grown⟩

end Go.Proofs.Ytppbbcckijcckaa
