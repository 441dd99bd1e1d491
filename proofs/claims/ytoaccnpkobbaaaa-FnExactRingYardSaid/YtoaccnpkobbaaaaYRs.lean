/- Contract: a ring of switches, in the model. -/
import Derived.Test.YtoaccnpkobbaaaaYRg
import Derived.Test.YtoaccnpkobbaaaaYOw
namespace Go.Proofs.Ytoaccnpkobbaaaa
open Go.ChangeShapes Go.WideShapes Go.ChangeAt Go.RowKit
open Yd

set_option linter.unusedVariables false

theorem RgAt.set {W0 wr : World} {b g c h d n m : Nat} {ks xs : List Int} (r : RgAt W0 wr b g c h d n m ks xs) (j : Nat) (hj : j < xs.length) (x : Int) : RgAt W0 (wr.setCell ⟨h, j, none⟩ (.int .i64 x)) b g c h d n m ks (xs.set j x) :=
  r.join (r.rh.set j hj x) (Apart2.of (grown_set wr ⟨h, j, none⟩ (.int .i64 x)) h)

set_option maxRecDepth 100000 in
set_option maxHeartbeats 3200000 in
theorem spRing_big (g c n : Nat) (ks : List Int) (hno : n = 0 ∨ 6 < n ∨ n % 2 = 1) (w : World) :
    Calls Try.prog 53 #[.slice (some ⟨g, 0, none⟩) n c] w (R0Post w) := by
  cases hi : inB (n : Int) 1 6
  · go_enter Try.func53, Try.ntmps53
    go_wp2_with (go_at_call 72; refine (l1In_any _ _ _ _).mono ?_; rintro e w' ⟨rfl, rfl⟩)
    refine bodyPost_ret (by simp [results, Try.results53, go_sem, *]; try rfl) rfl ?_
    exact ⟨rfl, by go_grown⟩
  · have hi2 := hi
    simp [inB] at hi2
    have i2 : (n : Int) % 2 = 1 := by omega
    clear hi2
    go_enter Try.func53, Try.ntmps53
    go_wp2_with (go_at_call 72; refine (l1In_any _ _ _ _).mono ?_; rintro e w' ⟨rfl, rfl⟩)
    refine bodyPost_ret (by simp [results, Try.results53, go_sem, *]; try rfl) rfl ?_
    exact ⟨rfl, by go_grown⟩

set_option maxRecDepth 100000 in
set_option maxHeartbeats 3200000 in
theorem spRing_even (g c n m : Nat) (ks : List Int) (hn : ks.length = n) (hev : n = 2 ∨ n = 4 ∨ n = 6) (hm : m = 3 * n) (w : World) (h1 : RL w g n ks) :
    Calls Try.prog 53 #[.slice (some ⟨g, 0, none⟩) n c] w (fun e w' => if ydB ks (ryk n n) = true then RyPost n m ks w e w' else R0Post w e w') := by
  have hlt := h1.lt
  have CL := Lib.hid (fun w' (hw : Below w.heap.size w w') => l1Own_any g n c ks hn (by omega) w' (h1.keep hw))
  have hmk := mkInts m (by omega)
  have hm3 : 3 * (n : Int) = (m : Int) := by omega
  have i1 : inB (n : Int) 1 6 = true := by simp [inB]; omega
  have i2 : (n : Int) % 2 = 0 := by omega
  have i3 : (n : Int) ≤ 6 := by omega
  have i4 : (0 : Int) ≤ (m : Int) := by omega
  have i5 : (m : Int) ≤ 18 := by omega
  have hwm : IntKind.i64.wrap (m : Int) = (m : Int) := by rw [IntKind.wrap_i64]; omega
  have HM := Lib.hid hm
  have HN := Lib.hid hn
  have HE := Lib.hid hev
  clear hn hm hev h1
  go_enter Try.func53, Try.ntmps53
  go_upto_region 4 with (go_at_call 72; refine (l1In_any _ _ _ _).mono ?_; rintro e w' ⟨rfl, rfl⟩)
  have B0 := Lib.hid (by go_grown : Below w.heap.size w (w.alloc (.cells #[.slice none 0 0, .slice none 0 0] 27)))
  have q0 : (w.alloc (.cells #[.slice none 0 0, .slice none 0 0] 27)).cell? ⟨w.heap.size, 0, none⟩ = some (.slice none 0 0) := by simp [go_sem]
  have q1 : (w.alloc (.cells #[.slice none 0 0, .slice none 0 0] 27)).cell? ⟨w.heap.size, 1, none⟩ = some (.slice none 0 0) := by simp [go_sem]
  have f0 : (w.alloc (.cells #[.slice none 0 0, .slice none 0 0] 27)).frozen? ⟨w.heap.size, 0, none⟩ = false := by simp [go_sem]
  have f1 : (w.alloc (.cells #[.slice none 0 0, .slice none 0 0] 27)).frozen? ⟨w.heap.size, 1, none⟩ = false := by simp [go_sem]
  generalize hW : w.alloc (.cells #[.slice none 0 0, .slice none 0 0] 27) = W0 at *
  have hz0 : W0.heap.size = w.heap.size + 1 := by rw [← hW]; simp
  have hz1 : w.heap.size < W0.heap.size := by omega
  have HZ := Lib.hid hz0
  clear hW hz0
  have Q := Lib.hid (And.intro q0 (And.intro q1 (And.intro f0 f1)))
  clear q0 q1 f0 f1
  have hS0 : True := trivial
  go_cut [5] (fun s5 wx => ∃ b gk ck hr : Nat, s5 = .pointer (some ⟨b, 0, none⟩) ∧ RgAt W0 wx b gk ck hr m n m ks (List.replicate m 0))
  case first =>
    go_region_held3 (fun w' => True)
      (exact trivial)
      ((go_at_call 68; (with_reducible refine Calls.mono (CL.out _ (B0.out.trans (Below.mono ?_ B0.out.size))) ?_); (focus (go_grown; done)); rintro e wA ⟨gA, cA, rfl, hgA, rA, h1⟩; (try with_reducible replace h1 := undrew h1); have hBA : Below W0.heap.size W0 wA := ba (by go_grown) h1; obtain ⟨hcA, hfA⟩ := bcell h1; have hqA := h1.size; (try simp at hqA); (try simp at hgA); have hz2 : w.heap.size < wA.heap.size := (by omega); have he2 : w.heap.size ≤ wA.heap.size := (by omega); (try have hz3 : W0.heap.size < wA.heap.size := (by omega)); (try have hz4 : W0.heap.size + 1 < wA.heap.size := (by omega)); have hrl := rA.lt; (try (refine (fun (H0 : Below (W0.alloc (.cells (madeCells #[.int .i64 0] m) 3)).heap.size (W0.alloc (.cells (madeCells #[.int .i64 0] m) 3)) wA) => ?_) ?_; rotate_left 1; (focus (refine ba ?_ h1; go_grown; done)); have hM1 := Lib.hid (RL.keep (RL.made W0 m) H0); clear H0)); (try (refine (fun (H0 : Below ((W0.alloc (.cells #[.slice none 0 0, .slice none 0 0] 27)).alloc (.cells (madeCells #[.int .i64 0] m) 3)).heap.size ((W0.alloc (.cells #[.slice none 0 0, .slice none 0 0] 27)).alloc (.cells (madeCells #[.int .i64 0] m) 3)) wA) => ?_) ?_; rotate_left 1; (focus (refine ba ?_ h1; go_grown; done)); have hM2 := Lib.hid (RL.keep (RL.made (W0.alloc (.cells #[.slice none 0 0, .slice none 0 0] 27)) m) H0); clear H0))))
    all_goals
      go_wp2_with fail
      go_meet
    · refine ⟨_, gA, cA, wA.heap.size, rfl, ?_, ?_, ?_, ?_, ?_, ?_, ?_, ?_, ?_, ?_, ?_⟩
      · first | (go_simp; done) | (simp [go_sem, *]; done)
      · first | (go_simp; done) | (simp [go_sem, *]; done)
      · first | omega | (simp <;> omega)
      · first | omega | (simp <;> omega)
      · first | omega | (simp <;> omega)
      · first | omega | (simp <;> omega)
      · first | omega | (simp <;> omega)
      · first | omega | (simp <;> omega)
      · exact rA.keep (by go_grown)
      · exact (RL.made wA m).keep (by go_grown)
      · go_grown
    · refine ⟨_, gA, cA, wA.heap.size + 1, rfl, ?_, ?_, ?_, ?_, ?_, ?_, ?_, ?_, ?_, ?_, ?_⟩
      · first | (go_simp; done) | (simp [go_sem, *]; done)
      · first | (go_simp; done) | (simp [go_sem, *]; done)
      · first | omega | (simp <;> omega)
      · first | omega | (simp <;> omega)
      · first | omega | (simp <;> omega)
      · first | omega | (simp <;> omega)
      · first | omega | (simp <;> omega)
      · first | omega | (simp <;> omega)
      · exact rA.keep (by go_grown)
      · simpa using RL.made (wA.alloc (.cells #[.slice (some ⟨gA, 0, none⟩) n cA, .slice (some ⟨wA.heap.size + 1, 0, none⟩) m m] 27)) m
      · go_grown
    · refine ⟨_, gA, cA, W0.heap.size, rfl, ?_, ?_, ?_, ?_, ?_, ?_, ?_, ?_, ?_, ?_, ?_⟩
      · first | (go_simp; done) | (simp [go_sem, *]; done)
      · first | (go_simp; done) | (simp [go_sem, *]; done)
      · first | omega | (simp <;> omega)
      · first | omega | (simp <;> omega)
      · first | omega | (simp <;> omega)
      · first | omega | (simp <;> omega)
      · first | omega | (simp <;> omega)
      · first | omega | (simp <;> omega)
      · exact rA.keep (by go_grown)
      · exact hM1.out.keep (by go_grown)
      · go_grown
    · refine ⟨_, gA, cA, W0.heap.size, rfl, ?_, ?_, ?_, ?_, ?_, ?_, ?_, ?_, ?_, ?_, ?_⟩
      · first | (go_simp; done) | (simp [go_sem, *]; done)
      · first | (go_simp; done) | (simp [go_sem, *]; done)
      · first | omega | (simp <;> omega)
      · first | omega | (simp <;> omega)
      · first | omega | (simp <;> omega)
      · first | omega | (simp <;> omega)
      · first | omega | (simp <;> omega)
      · first | omega | (simp <;> omega)
      · exact (rA.other (by simp <;> omega) _).other (by simp <;> omega) _
      · exact (hM1.out.other (by simp) _).other (by simp) _
      · go_grown
    · refine ⟨_, gA, cA, wA.heap.size, rfl, ?_, ?_, ?_, ?_, ?_, ?_, ?_, ?_, ?_, ?_, ?_⟩
      · first | (go_simp; done) | (simp [go_sem, *]; done)
      · first | (go_simp; done) | (simp [go_sem, *]; done)
      · first | omega | (simp <;> omega)
      · first | omega | (simp <;> omega)
      · first | omega | (simp <;> omega)
      · first | omega | (simp <;> omega)
      · first | omega | (simp <;> omega)
      · first | omega | (simp <;> omega)
      · exact ((rA.other (a := ⟨W0.heap.size, 0, none⟩) (by simp <;> omega) (.slice (some ⟨gA, 0, none⟩) n cA)).other (a := ⟨W0.heap.size, 1, none⟩) (by simp <;> omega) (.slice (some ⟨wA.heap.size, 0, none⟩) m m)).keep (by go_grown)
      · simpa using RL.made ((wA.setCell ⟨W0.heap.size, 0, none⟩ (.slice (some ⟨gA, 0, none⟩) n cA)).setCell ⟨W0.heap.size, 1, none⟩ (.slice (some ⟨wA.heap.size, 0, none⟩) m m)) m
      · go_grown
    · refine ⟨_, gA, cA, W0.heap.size + 1, rfl, ?_, ?_, ?_, ?_, ?_, ?_, ?_, ?_, ?_, ?_, ?_⟩
      · rw [World.cell?_setCell_other (h := by simp), World.cell?_setCell_same (h := (hcA W0.heap.size 0 (by simp; omega)).trans (show _ = some (Value.slice none 0 0) by simp [go_sem]))]
      · rw [World.cell?_setCell_same (h := (World.cell?_setCell_other (w := wA) (a := ⟨W0.heap.size, 0, none⟩) (b := ⟨W0.heap.size, 1, none⟩) _ (by simp)).trans ((hcA W0.heap.size 1 (by simp; omega)).trans (show _ = some (Value.slice none 0 0) by simp [go_sem])))]
      · first | omega | (simp <;> omega)
      · first | omega | (simp <;> omega)
      · first | omega | (simp <;> omega)
      · first | omega | (simp <;> omega)
      · first | omega | (simp <;> omega)
      · first | omega | (simp <;> omega)
      · exact (rA.other (by simp <;> omega) _).other (by simp <;> omega) _
      · exact ((by simpa using hM2.out : RL wA (W0.heap.size + 1) m (List.replicate m 0)).other (by simp) _).other (by simp) _
      · go_grown
  case rest =>
    obtain ⟨b, gk, ck, hr, rfl, hR⟩ := hcut
    have R0 := Lib.hid hR
    clear hR hS0 hmk
    go_wp2_with fail
    go_loopw [6] (fun i wr => ∃ k : Nat, k ≤ n ∧ i = .int .i64 k ∧ RgAt W0 wr b gk ck hr m n m ks (ryk n k)) (fun i _ => n - (intOf i).toNat)
    case atStart => exact ⟨0, Nat.zero_le _, rfl, by rw [ryk, ← HM.out]; exact R0.out⟩
    case round =>
      obtain ⟨k, hk, rfl, hR⟩ := hrel
      have HR := Lib.hid hR
      have q0 := hR.q0
      have q1 := hR.q1
      have qb := hR.bt
      have qh := hR.rh.lt
      have qbh := hR.bh
      by_cases hlt2 : k < n
      · have j1 : (0 : Int) ≤ (k : Int) := by omega
        have j2 : (k : Int) < (n : Int) := by omega
        have j3 : ¬ (n : Int) = 0 := by omega
        have hmod : (k + 1) % n < n := Nat.mod_lt _ (by omega)
        obtain ⟨x, hx⟩ : ∃ x, x = (k + 1) % n := ⟨_, rfl⟩
        have e0 : ((k : Int) + 1) % (n : Int) = (x : Int) := by rw [hx]; simp
        obtain ⟨a1, ha1⟩ : ∃ a1, a1 = 3 * k + 1 := ⟨_, rfl⟩
        obtain ⟨a2, ha2⟩ : ∃ a2, a2 = 3 * x := ⟨_, rfl⟩
        obtain ⟨a3, ha3⟩ : ∃ a3, a3 = 3 * k + 2 := ⟨_, rfl⟩
        obtain ⟨p, hp⟩ : ∃ p, p = k + 1 - 2 * (k % 2) := ⟨_, rfl⟩
        have e1 : 3 * (k : Int) + 1 = (a1 : Int) := by omega
        have e2 : 3 * (x : Int) = (a2 : Int) := by omega
        have e3 : 3 * (k : Int) + 2 = (a3 : Int) := by omega
        have e4 : (k : Int) + 1 - 2 * ((k : Int) % 2) = (p : Int) := by omega
        rw [← hx] at hmod
        have hme := HM.out
        have b1 : a1 < m := by omega
        have b2 : a2 < m := by omega
        have b3 : a3 < m := by omega
        have d1 : a1 ≠ a2 := by omega
        have d2 : a1 ≠ a3 := by omega
        have d3 : a2 ≠ a3 := by omega
        have hpl : p ≤ 6 := by omega
        have hxl : x ≤ 5 := by omega
        have c1 := hR.rh.cell b1
        have c2 := hR.rh.cell b2
        have c3 := hR.rh.cell b3
        have f1 := (hR.rh.2 a1 b1).2
        have f2 := (hR.rh.2 a2 b2).2
        have f3 := (hR.rh.2 a3 b3).2
        have HS := Lib.hid (show RgAt W0 (((wr.setCell ⟨hr, a1, none⟩ (.int .i64 (a2 : Nat))).setCell ⟨hr, a2, none⟩ (.int .i64 (a1 : Nat))).setCell ⟨hr, a3, none⟩ (.int .i64 (3 * (p : Int) + 2))) b gk ck hr m n m ks (ryk n (k + 1)) by
          have := ((hR.set a1 (by rw [ryk_len]; omega) (a2 : Nat)).set a2 (by rw [List.length_set, ryk_len]; omega) (a1 : Nat)).set a3 (by rw [List.length_set, List.length_set, ryk_len]; omega) (3 * (p : Int) + 2)
          rw [ryk, ← hx, ← ha1, ← ha3, ← ha2, ← hp]
          simpa using this)
        generalize (ryk n k).getD a1 0 = u1 at *
        generalize (ryk n k).getD a2 0 = u2 at *
        generalize (ryk n k).getD a3 0 = u3 at *
        have g1 : (a1 : Int) < (m : Int) := by omega
        have g2 : (a2 : Int) < (m : Int) := by omega
        have g3 : (a3 : Int) < (m : Int) := by omega
        have g4 : (0 : Int) ≤ (a1 : Int) := by omega
        have g5 : (0 : Int) ≤ (a2 : Int) := by omega
        have g6 : (0 : Int) ≤ (a3 : Int) := by omega
        have g7 : (0 : Int) ≤ (x : Int) := by omega
        have g8 : (0 : Int) ≤ (p : Int) := by omega
        have g9 : (p : Int) ≤ 6 := by omega
        have g10 : (x : Int) ≤ 5 := by omega
        have HMM := HM
        clear hR hmod hx ha1 ha2 ha3 hp hme
        go_wp2_with fail
        go_roundw
        case rel => exact ⟨k + 1, by omega, by go_num, HS.out⟩
        case measure => simp [intOf]; omega
      · obtain rfl : k = n := by omega
        clear hR
        go_wp2_with fail
        refine (ydGood_any gk k ck hr m m ks (ryk k k) HN.out (by rw [ryk_len]; exact HM.out.symm) (by omega) (by omega) _ HR.out.kg HR.out.rh).mono ?_
        rintro e w1 ⟨rfl, k1⟩
        have HR3 := Lib.hid (HR.out.keep k1)
        have d0 := HR3.out.q0
        have d1 := HR3.out.q1
        have B1 := HR3.out.below
        have e0 := cl_below Q.out.1 hz1 B1
        have e1 := cl_below Q.out.2.1 hz1 B1
        have e2 := (B1.frozen (p := ⟨w.heap.size, 0, none⟩) hz1).trans Q.out.2.2.1
        have e3 := (B1.frozen (p := ⟨w.heap.size, 1, none⟩) hz1).trans Q.out.2.2.2
        have HB1 := Lib.hid (B0.out.trans (B1.mono B0.out.size))
        have h1s := B1.size
        have d2 := HR3.out.bl
        clear k1 q0 q1 qb B1 qbh qh
        have g1 := HR3.out.gl
        have g2 := HR3.out.hl
        cases hy : ydB ks (ryk k k)
        · go_wp2_with fail
          all_goals
            refine bodyPost_ret (by simp [results, Try.results53, go_sem, *]; try rfl) rfl ?_
            exact ⟨rfl, (HB1.out.setCell (by simp <;> omega) _).setCell (by simp <;> omega) _⟩
        · go_wp2_with fail
          all_goals
            refine bodyPost_ret (by simp [results, Try.results53, go_sem, *]; try rfl) rfl ?_
            exact ⟨gk, ck, hr, m, rfl, by omega, by omega, HR3.out.gh, (HR3.out.kg.other (by simp <;> omega) _).other (by simp <;> omega) _, (HR3.out.rh.other (by simp <;> omega) _).other (by simp <;> omega) _, (HB1.out.setCell (by simp <;> omega) _).setCell (by simp <;> omega) _⟩

end Go.Proofs.Ytoaccnpkobbaaaa
