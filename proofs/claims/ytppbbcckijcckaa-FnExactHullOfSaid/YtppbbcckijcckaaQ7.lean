/- Contracts and facts, put together (part 7). Conditions: each says its own. -/
import Derived.Test.YtppbbcckijcckaaQ6

/- Contracts: WindingAround, in the model. -/
namespace Go.Proofs.Ytppbbcckijcckaa
open Go.ChangeShapes Go.WideShapes Go.ChangeAt Go.RowKit Go.Sort

set_option linter.unusedVariables false
set_option linter.unusedSimpArgs false

set_option maxRecDepth 100000 in
set_option maxHeartbeats 3200000 in
theorem spWindingAround (s : ByteArray) (hs : s.size ≤ 1048576) (p : Pn) (w : World) :
    Calls Try.prog 37 #[.string s, pv p] w fun e w' => e = .returned (.tuple #[.int .i64 (waR s p), .bool (waG s p)]) ∧ Below w.heap.size w w' := by
  have CG := clGood_any s hs
  cases hc : clB s <;> rw [hc] at CG
  · have e1 : waG s p = false := by simp [waG, hc]
    have e2 : waR s p = 0 := by simp [waR, e1]
    rw [e1, e2]
    have CG := Lib.hid CG
    go_enter Try.func37, Try.ntmps37
    go_wp2_with (go_at_call 61; (with_reducible refine (CG.out _).mono ?_); rintro e wA ⟨rfl, h1⟩; (try with_reducible replace h1 := undrew h1); have hB : Below w.heap.size w wA := ba (by go_grown) h1; obtain ⟨hcwA, hfwA⟩ := bcell h1; have hqwA := h1.size; (try simp at hqwA); (try have hz0wA : w.heap.size < wA.heap.size := (by omega)); (try have he0wA : w.heap.size ≤ wA.heap.size := (by omega)))
    go_returns
    exact ⟨rfl, by go_grown⟩
  have GP := arGoodP p
  cases hp : plB p <;> rw [hp] at GP
  · have e1 : waG s p = false := by simp [waG, hc, hp]
    have e2 : waR s p = 0 := by simp [waR, e1]
    rw [e1, e2]
    have CG := Lib.hid CG
    go_enter Try.func37, Try.ntmps37
    go_wp2_with (first | (go_at_call 61; (with_reducible refine (CG.out _).mono ?_); rintro e wA ⟨rfl, h1⟩; (try with_reducible replace h1 := undrew h1); have hB : Below w.heap.size w wA := ba (by go_grown) h1; obtain ⟨hcwA, hfwA⟩ := bcell h1; have hqwA := h1.size; (try simp at hqwA); (try have hz0wA : w.heap.size < wA.heap.size := (by omega)); (try have he0wA : w.heap.size ≤ wA.heap.size := (by omega))) | (go_at_call 53; (with_reducible refine (GP _).mono ?_); rintro e wB ⟨rfl, h1⟩; (try with_reducible replace h1 := undrew h1); have hB : Below w.heap.size w wB := ba (by go_grown) h1; obtain ⟨hcwB, hfwB⟩ := bcell h1; have hqwB := h1.size; (try simp at hqwB); (try have hz0wB : w.heap.size < wB.heap.size := (by omega)); (try have he0wB : w.heap.size ≤ wB.heap.size := (by omega))))
    go_returns
    exact ⟨rfl, by go_grown⟩
  · have ht := clB_tk hc
    have h40 := tkB_size ht
    have bp := plB_bd hp
    obtain ⟨a, h0, h1, hs1⟩ := jp_closed hc
    have eG : waG s p = freeC p (chds (jp s)) := by simp [waG, hc, hp]
    have eR : waR s p = cond (freeC p (chds (jp s))) (windI p (chds (jp s))) 0 := by simp [waR, eG]
    rw [eG, eR]
    have CG := Lib.hid CG
    have hl0 := jp_len s
    have hm0 := jp_bd ht
    have hr0 := fun (W : World) (B g cap : Nat) (e : TypeId) (h : W.ownsRow B e 4 (.slice (some ⟨g, 0, none⟩) (s.size + 1) cap) (s.size + 1) (ptCells (lays sp0 s.data.toList))) => rowP_own (n := 0) h
    clear h0 h1 eG eR
    generalize jp s = l at *
    have HL := Lib.hid hl0
    have HM := Lib.hid hm0
    have HR := Lib.hid hr0
    clear hl0 hm0 hr0
    go_enter Try.func37, Try.ntmps37
    go_wp2_with fail
    (go_at_call 61; (with_reducible refine (CG.out _).mono ?_); rintro e wA ⟨rfl, h1⟩; (try with_reducible replace h1 := undrew h1); have hB : Below w.heap.size w wA := ba (by go_grown) h1; obtain ⟨hcwA, hfwA⟩ := bcell h1; have hqwA := h1.size; (try simp at hqwA); (try have hz0wA : w.heap.size < wA.heap.size := (by omega)); (try have he0wA : w.heap.size ≤ wA.heap.size := (by omega)))
    go_wp2_with fail
    (go_at_call 53; (with_reducible refine (GP _).mono ?_); rintro e wB ⟨rfl, h1⟩; (try with_reducible replace h1 := undrew h1); have hB : Below w.heap.size w wB := ba (by go_grown) h1; obtain ⟨hcwB, hfwB⟩ := bcell h1; have hqwB := h1.size; (try simp at hqwB); (try have hz0wB : w.heap.size < wB.heap.size := (by omega)); (try have he0wB : w.heap.size ≤ wB.heap.size := (by omega)))
    go_wp2_with fail
    refine (tkJoints_yes s ht _).mono ?_
    rintro er w1 ⟨g, cap, rfl, hO, hb1⟩
    have H1 := Lib.hid (HR.out _ _ _ _ _ hO)
    have hg := own_lt7 hO
    have hz1 := hb1.size
    have y0 : w.heap.size < w1.heap.size := by omega
    have q0 : w1.cell? ⟨w.heap.size, 0, none⟩ = some (.int .i64 (p).a) ∧ w1.cell? ⟨w.heap.size, 1, none⟩ = some (.int .i64 (p).b) ∧ w1.cell? ⟨w.heap.size, 2, none⟩ = some (.int .i64 (p).c) ∧ w1.cell? ⟨w.heap.size, 3, none⟩ = some (.int .i64 (p).d) := ⟨by rw [hb1.cell (p := ⟨w.heap.size, 0, none⟩) (by omega)]; go_simp, by rw [hb1.cell (p := ⟨w.heap.size, 1, none⟩) (by omega)]; go_simp, by rw [hb1.cell (p := ⟨w.heap.size, 2, none⟩) (by omega)]; go_simp, by rw [hb1.cell (p := ⟨w.heap.size, 3, none⟩) (by omega)]; go_simp⟩
    have HQ := Lib.hid q0
    have HBx := Lib.hid (ba hB hb1)
    clear hO hcwA hfwA hcwB hfwB hb1 q0 hB
    go_wp2_with fail
    go_loopw [7] (fun i wr => ∃ j : Nat, j ≤ s.size ∧ i = .int .i64 ((j : Int) + 1) ∧ freeC p ((chds l).take j) = true ∧ Below w1.heap.size w1 wr) (fun i _ => s.size + 1 - (intOf i).toNat)
    case atStart => exact ⟨0, Nat.zero_le _, rfl, rfl, Below.refl _ _⟩
    case round =>
      obtain ⟨j, hk, rfl, hF, hB⟩ := hrel
      have hzr := hB.size
      have z0 : w.heap.size < wr.heap.size := by omega
      have zg : g < wr.heap.size := by omega
      have HF := Lib.hid hF
      have HBr := Lib.hid (ba HBx.out hB)
      clear hF
      obtain ⟨q0, q1, q2, q3⟩ := HQ.out
      have r0 := (hB.cell (p := ⟨w.heap.size, 0, none⟩) y0).trans q0
      have r1 := (hB.cell (p := ⟨w.heap.size, 1, none⟩) y0).trans q1
      have r2 := (hB.cell (p := ⟨w.heap.size, 2, none⟩) y0).trans q2
      have r3 := (hB.cell (p := ⟨w.heap.size, 3, none⟩) y0).trans q3
      clear q0 q1 q2 q3
      by_cases hlt : j < s.size
      · obtain ⟨a, ha⟩ : ∃ p, l[j]? = some p := ⟨_, List.getElem?_eq_getElem (by rw [HL.out]; omega)⟩
        obtain ⟨b, hbq⟩ : ∃ q, l[j + 1]? = some q := ⟨_, List.getElem?_eq_getElem (by rw [HL.out]; omega)⟩
        have R := H1.out.below hg hB
        obtain ⟨c0, c1, c2, c3⟩ := R j a ha
        obtain ⟨d0, d1, d2, d3⟩ := R (j + 1) b hbq
        have hx := chds_get l j a b ha hbq
        have e : (chds l).take (j + 1) = (chds l).take j ++ [(a, b)] := by rw [List.take_add_one, hx]; rfl
        have HF1 := Lib.hid (show Pn.btw a b p = false → freeC p ((chds l).take (j + 1)) = true from fun h => by
          rw [e]; have := HF.out; unfold freeC at *; rw [List.all_append, this]; simp [h])
        have HF0 := Lib.hid (show Pn.btw a b p = true → freeC p (chds l) = false from fun h => by
          unfold freeC; rw [List.all_eq_false]; exact ⟨(a, b), List.mem_of_getElem? hx, by simp [h]⟩)
        have HBT := arBetweenP a b p (HM.out a (List.mem_of_getElem? ha)) (HM.out b (List.mem_of_getElem? hbq)) bp
        have j1 : (0 : Int) ≤ (j : Int) := by omega
        have j2 : (j : Int) + 1 < (s.size : Int) + 1 := by omega
        have j3 : (j : Int) < (s.size : Int) + 1 := by omega
        have j5 : (0 : Int) ≤ (j : Int) + 1 := by omega
        have j6 : ((j : Int) + 1).toNat = j + 1 := by omega
        have j4 : IntKind.i64.wrap (j : Int) = (j : Int) := IntWalk.i64_in _ ⟨by omega, by omega⟩
        clear R ha hbq hx e
        have kc0 := fun d os => cell_regrown c0 d os
        have kc1 := fun d os => cell_regrown c1 d os
        have kc2 := fun d os => cell_regrown c2 d os
        have kc3 := fun d os => cell_regrown c3 d os
        have kd0 := fun d os => cell_regrown d0 d os
        have kd1 := fun d os => cell_regrown d1 d os
        have kd2 := fun d os => cell_regrown d2 d os
        have kd3 := fun d os => cell_regrown d3 d os
        have kr0 := fun d os => cell_regrown r0 d os
        have kr1 := fun d os => cell_regrown r1 d os
        have kr2 := fun d os => cell_regrown r2 d os
        have kr3 := fun d os => cell_regrown r3 d os
        have HB := HBr.out
        cases hbt : Pn.btw a b p
        · rw [hbt] at HBT HF1
          go_wp2_with fail
          refine wp_region_quiet_below (by kernel_rfl) (by kernel_rfl) ?_
          repeat (quiet_step (first | (go_at_call 57; with_reducible exact Calls.regrown_of (HBT _))))
          refine wpQuiet_nil ?_
          rintro _ ⟨⟨dq, osq⟩, rfl⟩
          have hbw2 := below_regrown wr dq osq
          generalize grow (redrawn wr dq) osq = w2 at hbw2 ⊢
          obtain ⟨hcw2, hfw2⟩ := bcell hbw2
          have hlw2 := hbw2.size
          replace HB := ba HB hbw2
          have hC : Below w1.heap.size w1 w2 := ba hB hbw2
          go_wp2_with fail
          go_roundw
          case rel => exact ⟨j + 1, by omega, by go_num, HF1.out (by simp), hC⟩
          case measure => simp [intOf]; omega
        · rw [hbt] at HBT HF0
          go_wp2_with fail
          refine wp_region_quiet_below (by kernel_rfl) (by kernel_rfl) ?_
          repeat (quiet_step (first | (go_at_call 57; with_reducible exact Calls.regrown_of (HBT _))))
          refine wpQuiet_nil ?_
          rintro _ ⟨⟨dq, osq⟩, rfl⟩
          have hbw2 := below_regrown wr dq osq
          generalize grow (redrawn wr dq) osq = w2 at hbw2 ⊢
          obtain ⟨hcw2, hfw2⟩ := bcell hbw2
          have hlw2 := hbw2.size
          replace HB := ba HB hbw2
          go_wp2_with fail
          go_ret2
          exact ⟨by rw [HF0.out (by simp)]; rfl, HB⟩
      · have hjn : j = s.size := by omega
        have hE : (chds l).take s.size = chds l := List.take_of_length_le (by rw [chds_length, HL.out]; omega)
        have j1 : ¬ (j : Int) + 1 < (s.size : Int) + 1 := by omega
        have hF : freeC p (chds l) = true := by rw [← hE, ← hjn]; exact HF.out
        have AR := Lib.hid (arAroundP g (s.size + 1) cap l p HL.out (by omega) HM.out bp wr zg (H1.out.below hg hB))
        go_wp2_with fail
        refine AR.out.mono ?_
        rintro er w2 ⟨rfl, hb2⟩
        have hBB := ba HBr.out hb2
        go_wp2_with fail
        go_ret2
        exact ⟨by rw [hF]; rfl, hBB⟩

end Go.Proofs.Ytppbbcckijcckaa
