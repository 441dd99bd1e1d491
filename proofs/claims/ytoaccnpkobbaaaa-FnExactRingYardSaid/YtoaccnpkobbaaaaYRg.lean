/- Contract: a ring of switches, in the program. -/
import Derived.Test.YtoaccnpkobbaaaaYRy
import Derived.Test.YtoaccnpkobbaaaaClY
import Derived.Deep.RegionHeld3
import Derived.Deep.DeepCutAuto
namespace Go.Proofs.Ytoaccnpkobbaaaa
open Go.ChangeShapes Go.WideShapes Go.ChangeAt Go.RowKit
open Yd

set_option linter.unusedVariables false

/-- The yard that is being made: in block b, its rows g and h behind W0. -/
structure RgAt (W0 wr : World) (b g c h d n m : Nat) (ks xs : List Int) : Prop where
  q0 : wr.cell? ⟨b, 0, none⟩ = some (.slice (some ⟨g, 0, none⟩) n c)
  q1 : wr.cell? ⟨b, 1, none⟩ = some (.slice (some ⟨h, 0, none⟩) m d)
  bl : W0.heap.size ≤ b
  gl : W0.heap.size ≤ g
  hl : W0.heap.size ≤ h
  bt : b < wr.heap.size
  bh : b ≠ h
  gh : g ≠ h
  kg : RL wr g n ks
  rh : RL wr h m xs
  below : Below W0.heap.size W0 wr

theorem RgAt.join {W0 wr w' : World} {b g c h d n m : Nat} {ks xs ys : List Int} (r : RgAt W0 wr b g c h d n m ks xs) (hr : RL w' h m ys) (k : Apart2 h h wr w') : RgAt W0 w' b g c h d n m ks ys :=
  ⟨(k.cell (a := ⟨b, 0, none⟩) r.bt r.bh r.bh).trans r.q0, (k.cell (a := ⟨b, 1, none⟩) r.bt r.bh r.bh).trans r.q1, r.bl, r.gl, r.hl, Nat.lt_of_lt_of_le r.bt k.size, r.bh, r.gh,
    r.kg.apart k r.gh r.gh, hr, r.below.trans (k.below r.below.size r.hl r.hl)⟩

theorem RgAt.keep {W0 wr w' : World} {b g c h d n m : Nat} {ks xs : List Int} (r : RgAt W0 wr b g c h d n m ks xs) (k : Below wr.heap.size wr w') : RgAt W0 w' b g c h d n m ks xs :=
  ⟨cl_below r.q0 r.bt k, cl_below r.q1 r.bt k, r.bl, r.gl, r.hl, Nat.lt_of_lt_of_le r.bt k.size, r.bh, r.gh, r.kg.keep k, r.rh.keep k, r.below.trans (k.mono r.below.size)⟩

set_option maxRecDepth 100000 in
set_option maxHeartbeats 3200000 in
theorem imRing_big (g c n : Nat) (ks : List Int) (hn : ks.length = n) (hno : 6 < n ∨ n % 2 = 1) (hb : n ≤ 2000000) (w : World) (h1 : RL w g n ks) :
    Calls Try.prog 55 #[.slice (some ⟨g, 0, none⟩) n c] w (R0Post w) := by
  clear hn h1
  by_cases h6 : 6 < n
  · have i1 : (n : Int) > 6 := by omega
    go_enter Try.func55, Try.ntmps55
    go_wp2_with fail
    refine bodyPost_ret (by simp [results, Try.results55, go_sem, *]; try rfl) rfl ?_
    exact ⟨rfl, by go_grown⟩
  · have i1 : ¬ (n : Int) > 6 := by omega
    have i2 : (n : Int) % 2 = 1 := by omega
    go_enter Try.func55, Try.ntmps55
    go_wp2_with fail
    refine bodyPost_ret (by simp [results, Try.results55, go_sem, *]; try rfl) rfl ?_
    exact ⟨rfl, by go_grown⟩

set_option maxRecDepth 100000 in
set_option maxHeartbeats 3200000 in
theorem imRing_even (g c n m : Nat) (ks : List Int) (hn : ks.length = n) (hev : n = 0 ∨ n = 2 ∨ n = 4 ∨ n = 6) (hm : m = 3 * n) (w : World) (h1 : RL w g n ks) :
    Calls Try.prog 55 #[.slice (some ⟨g, 0, none⟩) n c] w (fun e w' => if ydB ks (ryk n n) = true then RyPost n m ks w e w' else R0Post w e w') := by
  have hlt := h1.lt
  have CL := Lib.hid (fun w' (hw : Below w.heap.size w w') => clone_any g 0 n c ks hn (by omega) w' (Nat.lt_of_lt_of_le hlt hw.size) (fun j x hx => by rw [Nat.zero_add]; exact (h1.keep hw).get (by rw [← hn]; exact (List.getElem?_eq_some_iff.1 hx).1) hx))
  have hmk := mkInts m (by omega)
  have hm3 : 3 * (n : Int) = (m : Int) := by omega
  have i1 : ¬ (n : Int) > 6 := by omega
  have i2 : (n : Int) % 2 = 0 := by omega
  have i3 : (n : Int) ≤ 6 := by omega
  have i4 : (0 : Int) ≤ (m : Int) := by omega
  have i5 : (m : Int) ≤ 18 := by omega
  have hwm : IntKind.i64.wrap (m : Int) = (m : Int) := by rw [IntKind.wrap_i64]; omega
  have HM := Lib.hid hm
  have HN := Lib.hid hn
  have HE := Lib.hid hev
  clear hn hm hev h1
  go_enter Try.func55, Try.ntmps55
  go_upto_region 3 with fail
  have B0 := Lib.hid (by go_grown : Below w.heap.size w (w.alloc (.cells #[.slice none 0 0, .slice none 0 0] 27)))
  have q0 : (w.alloc (.cells #[.slice none 0 0, .slice none 0 0] 27)).cell? ⟨w.heap.size, 0, none⟩ = some (.slice none 0 0) := by simp [go_sem]
  have q1 : (w.alloc (.cells #[.slice none 0 0, .slice none 0 0] 27)).cell? ⟨w.heap.size, 1, none⟩ = some (.slice none 0 0) := by simp [go_sem]
  have f0 : (w.alloc (.cells #[.slice none 0 0, .slice none 0 0] 27)).frozen? ⟨w.heap.size, 0, none⟩ = false := by simp [go_sem]
  have f1 : (w.alloc (.cells #[.slice none 0 0, .slice none 0 0] 27)).frozen? ⟨w.heap.size, 1, none⟩ = false := by simp [go_sem]
  generalize hW : w.alloc (.cells #[.slice none 0 0, .slice none 0 0] 27) = W0 at *
  have hz0 : W0.heap.size = w.heap.size + 1 := by rw [← hW]; simp
  have hz1 : w.heap.size < W0.heap.size := by omega
  have HZ := Lib.hid hz0
  clear hW hz0
  have Q := Lib.hid (And.intro q0 (And.intro q1 (And.intro f0 f1)))
  clear q0 q1 f0 f1
  have hS0 : True := trivial
  go_cut [4] (fun s4 wx => ∃ b gk ck hr : Nat, s4 = .pointer (some ⟨b, 0, none⟩) ∧ RgAt W0 wx b gk ck hr m n m ks (List.replicate m 0))
  case first =>
    go_region_held3 (fun w' => True)
      (exact trivial)
      ((go_at_call 76; (with_reducible refine Calls.mono (CL.out _ (B0.out.trans (Below.mono ?_ B0.out.size))) ?_); (focus (go_grown; done)); rintro e wA ⟨gA, cA, rfl, hgA, rA, h1⟩; (try with_reducible replace h1 := undrew h1); have hBA : Below W0.heap.size W0 wA := ba (by go_grown) h1; obtain ⟨hcA, hfA⟩ := bcell h1; have hqA := h1.size; (try simp at hqA); (try simp at hgA); have hz2 : w.heap.size < wA.heap.size := (by omega); have he2 : w.heap.size ≤ wA.heap.size := (by omega); (try have hz3 : W0.heap.size < wA.heap.size := (by omega)); (try have hz4 : W0.heap.size + 1 < wA.heap.size := (by omega)); have hrl := rA.lt; (try (refine (fun (H0 : Below (W0.alloc (.cells (madeCells #[.int .i64 0] m) 3)).heap.size (W0.alloc (.cells (madeCells #[.int .i64 0] m) 3)) wA) => ?_) ?_; rotate_left 1; (focus (refine ba ?_ h1; go_grown; done)); have hM1 := Lib.hid (RL.keep (RL.made W0 m) H0); clear H0)); (try (refine (fun (H0 : Below ((W0.alloc (.cells #[.slice none 0 0, .slice none 0 0] 27)).alloc (.cells (madeCells #[.int .i64 0] m) 3)).heap.size ((W0.alloc (.cells #[.slice none 0 0, .slice none 0 0] 27)).alloc (.cells (madeCells #[.int .i64 0] m) 3)) wA) => ?_) ?_; rotate_left 1; (focus (refine ba ?_ h1; go_grown; done)); have hM2 := Lib.hid (RL.keep (RL.made (W0.alloc (.cells #[.slice none 0 0, .slice none 0 0] 27)) m) H0); clear H0))))
    all_goals
      go_wp2_with fail
      go_meet
    · refine ⟨_, gA, cA, wA.heap.size, rfl, ?_, ?_, ?_, ?_, ?_, ?_, ?_, ?_, ?_, ?_, ?_⟩
      · first | (go_simp; done) | (simp [go_sem, *]; done)
      · first | (go_simp; done) | (simp [go_sem, *]; done)
      · first | omega | (simp <;> omega)
      · first | omega | (simp <;> omega)
      · first | omega | (simp <;> omega)
      · first | omega | (simp <;> omega)
      · first | omega | (simp <;> omega)
      · first | omega | (simp <;> omega)
      · exact rA.keep (by go_grown)
      · exact (RL.made wA m).keep (by go_grown)
      · go_grown
    · refine ⟨_, gA, cA, wA.heap.size + 1, rfl, ?_, ?_, ?_, ?_, ?_, ?_, ?_, ?_, ?_, ?_, ?_⟩
      · first | (go_simp; done) | (simp [go_sem, *]; done)
      · first | (go_simp; done) | (simp [go_sem, *]; done)
      · first | omega | (simp <;> omega)
      · first | omega | (simp <;> omega)
      · first | omega | (simp <;> omega)
      · first | omega | (simp <;> omega)
      · first | omega | (simp <;> omega)
      · first | omega | (simp <;> omega)
      · exact rA.keep (by go_grown)
      · simpa using RL.made (wA.alloc (.cells #[.slice (some ⟨gA, 0, none⟩) n cA, .slice (some ⟨wA.heap.size + 1, 0, none⟩) m m] 27)) m
      · go_grown
    · refine ⟨_, gA, cA, W0.heap.size, rfl, ?_, ?_, ?_, ?_, ?_, ?_, ?_, ?_, ?_, ?_, ?_⟩
      · first | (go_simp; done) | (simp [go_sem, *]; done)
      · first | (go_simp; done) | (simp [go_sem, *]; done)
      · first | omega | (simp <;> omega)
      · first | omega | (simp <;> omega)
      · first | omega | (simp <;> omega)
      · first | omega | (simp <;> omega)
      · first | omega | (simp <;> omega)
      · first | omega | (simp <;> omega)
      · exact rA.keep (by go_grown)
      · exact hM1.out.keep (by go_grown)
      · go_grown
    · refine ⟨_, gA, cA, W0.heap.size, rfl, ?_, ?_, ?_, ?_, ?_, ?_, ?_, ?_, ?_, ?_, ?_⟩
      · first | (go_simp; done) | (simp [go_sem, *]; done)
      · first | (go_simp; done) | (simp [go_sem, *]; done)
      · first | omega | (simp <;> omega)
      · first | omega | (simp <;> omega)
      · first | omega | (simp <;> omega)
      · first | omega | (simp <;> omega)
      · first | omega | (simp <;> omega)
      · first | omega | (simp <;> omega)
      · exact (rA.other (by simp <;> omega) _).other (by simp <;> omega) _
      · exact (hM1.out.other (by simp) _).other (by simp) _
      · go_grown
    · refine ⟨_, gA, cA, wA.heap.size, rfl, ?_, ?_, ?_, ?_, ?_, ?_, ?_, ?_, ?_, ?_, ?_⟩
      · first | (go_simp; done) | (simp [go_sem, *]; done)
      · first | (go_simp; done) | (simp [go_sem, *]; done)
      · first | omega | (simp <;> omega)
      · first | omega | (simp <;> omega)
      · first | omega | (simp <;> omega)
      · first | omega | (simp <;> omega)
      · first | omega | (simp <;> omega)
      · first | omega | (simp <;> omega)
      · exact ((rA.other (a := ⟨W0.heap.size, 0, none⟩) (by simp <;> omega) (.slice (some ⟨gA, 0, none⟩) n cA)).other (a := ⟨W0.heap.size, 1, none⟩) (by simp <;> omega) (.slice (some ⟨wA.heap.size, 0, none⟩) m m)).keep (by go_grown)
      · simpa using RL.made ((wA.setCell ⟨W0.heap.size, 0, none⟩ (.slice (some ⟨gA, 0, none⟩) n cA)).setCell ⟨W0.heap.size, 1, none⟩ (.slice (some ⟨wA.heap.size, 0, none⟩) m m)) m
      · go_grown
    · refine ⟨_, gA, cA, W0.heap.size + 1, rfl, ?_, ?_, ?_, ?_, ?_, ?_, ?_, ?_, ?_, ?_, ?_⟩
      · rw [World.cell?_setCell_other (h := by simp), World.cell?_setCell_same (h := (hcA W0.heap.size 0 (by simp; omega)).trans (show _ = some (Value.slice none 0 0) by simp [go_sem]))]
      · rw [World.cell?_setCell_same (h := (World.cell?_setCell_other (w := wA) (a := ⟨W0.heap.size, 0, none⟩) (b := ⟨W0.heap.size, 1, none⟩) _ (by simp)).trans ((hcA W0.heap.size 1 (by simp; omega)).trans (show _ = some (Value.slice none 0 0) by simp [go_sem])))]
      · first | omega | (simp <;> omega)
      · first | omega | (simp <;> omega)
      · first | omega | (simp <;> omega)
      · first | omega | (simp <;> omega)
      · first | omega | (simp <;> omega)
      · first | omega | (simp <;> omega)
      · exact (rA.other (by simp <;> omega) _).other (by simp <;> omega) _
      · exact ((by simpa using hM2.out : RL wA (W0.heap.size + 1) m (List.replicate m 0)).other (by simp) _).other (by simp) _
      · go_grown
  case rest =>
    obtain ⟨b, gk, ck, hr, rfl, hR⟩ := hcut
    have R0 := Lib.hid hR
    clear hR hS0 hmk
    go_wp2_with fail
    go_loopw [27] (fun i wr => ∃ k : Nat, k ≤ n ∧ i = .int .i64 k ∧ RgAt W0 wr b gk ck hr m n m ks (ryi n k)) (fun i _ => n - (intOf i).toNat)
    case atStart => exact ⟨0, Nat.zero_le _, rfl, by rw [ryi, ← HM.out]; exact R0.out⟩
    case round =>
      obtain ⟨k, hk, rfl, hR⟩ := hrel
      have HR := Lib.hid hR
      by_cases hlt2 : k < n
      · have j1 : (0 : Int) ≤ (k : Int) := by omega
        have j2 : (k : Int) < (n : Int) := by omega
        have j3 : ¬ (n : Int) = 0 := by omega
        have j4 : (0 : Int) ≤ ((k : Int) + 1) % (n : Int) := Int.emod_nonneg _ j3
        have j5 : ((k : Int) + 1) % (n : Int) < (n : Int) := Int.emod_lt_of_pos _ (by omega)
        have q0 := hR.q0
        have q1 := hR.q1
        have qb := hR.bt
        have hmod : (k + 1) % n < n := Nat.mod_lt _ (by omega)
        have HMO := Lib.hid hmod
        have HM2 := HM.out.symm
        clear hR hmod
        go_wp2_with fail
        refine (join_int _ _ gk n ck hr m m (3 * k + 1) (3 * ((k + 1) % n)) (ryi n k) (by simp) (by simp) (by omega) (by have := HMO.out; omega) (by omega) (by rw [ryi_len]; exact HM.out.symm) (by omega) _ HR.out.rh).mono ?_
        rintro e w1 ⟨rfl, r1, k1⟩
        have HR2 := Lib.hid (show RgAt W0 w1 b gk ck hr m n m ks (ryi n (k + 1)) from HR.out.join r1 k1)
        clear r1 k1 HM2 q0 q1 qb
        go_wp2_with fail
        go_roundw
        case rel => exact ⟨k + 1, by omega, by go_num, HR2.out⟩
        case measure => simp [intOf]; omega
      · obtain rfl : k = n := by omega
        clear hR
        go_wp2_with fail
        go_loopw [7] (fun i wr => ∃ j : Nat, 2 * j ≤ k ∧ i = .int .i64 (2 * (j : Int)) ∧ RgAt W0 wr b gk ck hr m k m ks (ryj k j)) (fun i _ => k - (intOf i).toNat)
        case atStart => exact ⟨0, Nat.zero_le _, by simp, HR.out⟩
        case round =>
          obtain ⟨j, hj, rfl, hR⟩ := hrel
          have HRJ := Lib.hid hR
          have q0 := hR.q0
          have q1 := hR.q1
          have qb := hR.bt
          clear hR
          by_cases hlt3 : 2 * j < k
          · have j1 : (0 : Int) ≤ (j : Int) := by omega
            have j2 : 2 * (j : Int) < (k : Int) := by omega
            have HM2 := HM.out.symm
            have HE2 := HE.out
            have hj2 : 2 * j + 2 ≤ k := by omega
            clear HE2
            go_wp2_with fail
            refine (join_int _ _ gk k ck hr m m (6 * j + 2) (6 * j + 5) (ryj k j) (by omega) (by omega) (by omega) (by omega) (by omega) (by rw [ryj_len]; exact HM.out.symm) (by omega) _ HRJ.out.rh).mono ?_
            rintro e w1 ⟨rfl, r1, k1⟩
            have HR2 := Lib.hid (show RgAt W0 w1 b gk ck hr m k m ks (ryj k (j + 1)) from HRJ.out.join r1 k1)
            clear r1 k1 HM2 q0 q1 qb
            go_wp2_with fail
            go_roundw
            case rel => exact ⟨j + 1, by omega, by congr 1, HR2.out⟩
            case measure => simp [intOf]; omega
          · have hjk : j = k / 2 := by have := HE.out; omega
            have j2 : ¬ 2 * (j : Int) < (k : Int) := by omega
            have hry : ryj k j = ryk k k := by rw [hjk]; exact ry_same HE.out
            have HRY := Lib.hid (show RgAt W0 wr b gk ck hr m k m ks (ryk k k) by rw [← hry]; exact HRJ.out)
            clear hry hjk
            go_wp2_with fail
            refine (imIsYard_any gk k ck hr m m ks (ryk k k) HN.out (by rw [ryk_len]; exact HM.out.symm) (by omega) (by omega) _ HRY.out.kg HRY.out.rh).mono ?_
            rintro e w1 ⟨rfl, k1⟩
            have HR3 := Lib.hid (HRY.out.keep k1)
            have d0 := HR3.out.q0
            have d1 := HR3.out.q1
            have B1 := HR3.out.below
            have e0 := cl_below Q.out.1 hz1 B1
            have e1 := cl_below Q.out.2.1 hz1 B1
            have e2 := (B1.frozen (p := ⟨w.heap.size, 0, none⟩) hz1).trans Q.out.2.2.1
            have e3 := (B1.frozen (p := ⟨w.heap.size, 1, none⟩) hz1).trans Q.out.2.2.2
            have HB1 := Lib.hid (B0.out.trans (B1.mono B0.out.size))
            have h1s := B1.size
            have d2 := HR3.out.bl
            clear k1 q0 q1 qb B1
            have g1 := HR3.out.gl
            have g2 := HR3.out.hl
            cases hy : ydB ks (ryk k k)
            · go_wp2_with fail
              all_goals
                refine bodyPost_ret (by simp [results, Try.results55, go_sem, *]; try rfl) rfl ?_
                exact ⟨rfl, (HB1.out.setCell (by simp <;> omega) _).setCell (by simp <;> omega) _⟩
            · go_wp2_with fail
              all_goals
                refine bodyPost_ret (by simp [results, Try.results55, go_sem, *]; try rfl) rfl ?_
                exact ⟨gk, ck, hr, m, rfl, by omega, by omega, HR3.out.gh, (HR3.out.kg.other (by simp <;> omega) _).other (by simp <;> omega) _, (HR3.out.rh.other (by simp <;> omega) _).other (by simp <;> omega) _, (HB1.out.setCell (by simp <;> omega) _).setCell (by simp <;> omega) _⟩

end Go.Proofs.Ytoaccnpkobbaaaa
