/- Contract of the program: the first tick in front of which all signals are green. -/
import Derived.Test.YtogimjbjdgccnaaDoorCoJ
namespace Go.Proofs.YtogimjbjdgccnaaDoor
open Go.ChangeShapes Go.WideShapes Go.ChangeAt Go.RowKit
open Ln

set_option linter.unusedVariables false

def d1 (l : List UInt8) (gp k : Nat) : Bool := decide (cnt 103 (sg (orb l gp k) gp) ≠ 0)

def d2 (l : List UInt8) (gp k : Nat) : Bool := decide (cnt 114 (sg (orb l gp k) gp) ≠ 0)

theorem d_all {l : List UInt8} {gp p : Nat} (hl : LnOk l) (hg : 1 ≤ gp) (h : ∀ k, k < p → (d1 l gp k && !d2 l gp k) = false) : ffO l gp p = none := by
  by_cases hc : cnt 84 l = 0
  · exact ffO_none hc
  · exact ffO_all fun k hk => by rw [← fre_sg hl hg hc k]; exact h k hk

theorem d_at {l : List UInt8} {gp p k : Nat} (hl : LnOk l) (hg : 1 ≤ gp) (hk : k < p) (hn : ∀ i, i < k → (d1 l gp i && !d2 l gp i) = false) (hy : (d1 l gp k && !d2 l gp k) = true) : ffO l gp p = some k := by
  by_cases hc : cnt 84 l = 0
  · rw [d1, fre_no hl hg hc k] at hy
    cases hy
  · exact ffO_at hc hk (fun i hi => by rw [← fre_sg hl hg hc i]; exact hn i hi) (by rw [← fre_sg hl hg hc k]; exact hy)

set_option maxRecDepth 100000 in
set_option maxHeartbeats 1600000 in
theorem imFirstFree (s : ByteArray) (g : Int) (hs : s.size ≤ 1048576) (w : World) :
    Calls Tryd.prog 43 #[.string s, .int .i64 g] w fun e w' => e = .returned (.tuple #[.int .i64 (ffI s g), .bool (ffB s g)]) ∧ Below w.heap.size w w' := by
  cases hb : askB s g
  · have C0 := courseOf_no s g hs hb
    have HR := Lib.hid (ffR_no hb)
    clear hb
    go_enter Tryd.func43, Tryd.ntmps43
    go_wp2_with fail
    refine (C0 _).mono ?_
    rintro e w1 ⟨rfl, h1⟩
    have H1 := Lib.hid h1
    clear h1
    go_wp2_with fail
    refine wp_loop_rounds 1 ?_
    rw [rounds_succ]
    go_wp2_with fail
    go_ret2
    exact ⟨rI (by rw [ffI, HR.out]; rfl) (by rw [ffB, HR.out]; rfl), H1.out.alloc H1.out.size _⟩
  · obtain ⟨hl, gp, rfl, n1, n3⟩ := ask_yes hb
    obtain ⟨p, q, hP⟩ := per_ex hl gp
    have C0 := courseOf_yes s gp p q hl n1 n3 hP
    unfold CoPost at C0
    have HR := Lib.hid (ffR_yes hb hP)
    have MISS := Lib.hid (fun (h : ∀ k, k < p → (d1 s.data.toList gp k && !d2 s.data.toList gp k) = false) => d_all hl n1 h)
    have HIT := Lib.hid (fun k (hk : k < p) (hn : ∀ i, i < k → (d1 s.data.toList gp i && !d2 s.data.toList gp i) = false) (hy : (d1 s.data.toList gp k && !d2 s.data.toList gp k) = true) => d_at hl n1 hk hn hy)
    have A1 := Lib.hid (fun k => show ∀ w, Calls Tryd.prog 75 #[.string (sgT s.data.toList gp k), .string ⟨#[103]⟩] w fun e w' => e = .returned (.bool (d1 s.data.toList gp k)) ∧ w = w' from has_any _ 103)
    have A2 := Lib.hid (fun k => show ∀ w, Calls Tryd.prog 75 #[.string (sgT s.data.toList gp k), .string ⟨#[114]⟩] w fun e w' => e = .returned (.bool (d2 s.data.toList gp k)) ∧ w = w' from has_any _ 114)
    have hp := hP.2.1
    clear hb hl hP
    obtain ⟨l, hl⟩ : ∃ l, s.data.toList = l := ⟨_, rfl⟩
    rw [hl] at C0 HR MISS HIT A1 A2
    clear hl
    go_enter Tryd.func43, Tryd.ntmps43
    go_wp2_with fail
    refine (C0 _).mono ?_
    rintro e w1 ⟨b, cap, rfl, hg1, hg2, hpc, hcm, hc, h1⟩
    have H1 := Lib.hid (h1.alloc h1.size (.cells #[.slice (some ⟨b, 0, none⟩) p cap, .int .i64 q] 63))
    obtain ⟨c0, c1, hcc, hlt1⟩ := course_cells hg2 hc (Below.refl (w1.heap.size + 1) (w1.alloc (.cells #[.slice (some ⟨b, 0, none⟩) p cap, .int .i64 q] 63)))
    have HC := Lib.hid hcc
    clear h1 hc hcc
    go_wp2_with fail
    go_loop [19] (fun i => ∃ k : Nat, k ≤ p ∧ i = .int .i64 k ∧ Hid (∀ j, j < k → (d1 l gp j && !d2 l gp j) = false)) (fun i => p - (intOf i).toNat)
    case atStart => exact ⟨0, Nat.zero_le _, rfl, Lib.hid fun j hj => absurd hj (by omega)⟩
    case round =>
      obtain ⟨k, hk, rfl, hN⟩ := hrel
      by_cases hlt : k < p
      · have hcell := HC.out k hlt
        have B1 := A1.out k
        have B2 := A2.out k
        have ST := Lib.hid (fun (h : (d1 l gp k && !d2 l gp k) = false) => Lib.hid (fun j (hj : j < k + 1) => show (d1 l gp j && !d2 l gp j) = false by
          by_cases e : j = k
          · rw [e]; exact h
          · exact hN.out j (by omega)))
        have HT := Lib.hid (fun (h : (d1 l gp k && !d2 l gp k) = true) => HR.out.trans (HIT.out k hlt hN.out h))
        generalize sgT l gp k = T at *
        generalize d1 l gp k = x1 at *
        generalize d2 l gp k = x2 at *
        cases x1
        · have E := Lib.hid (ST.out rfl)
          go_wp2_with (go_at_call 75; (with_reducible refine Calls.mono (B1 _) ?_); rintro e w' ⟨rfl, rfl⟩)
          go_round
          case rel => exact ⟨k + 1, by omega, by go_num, E.out⟩
          case measure => simp [intOf]; omega
        · cases x2
          · have E := Lib.hid (HT.out rfl)
            go_wp2_with (first | (go_at_call 75; (with_reducible refine Calls.mono (B1 _) ?_); rintro e w' ⟨rfl, rfl⟩) | (go_at_call 75; (with_reducible refine Calls.mono (B2 _) ?_); rintro e w' ⟨rfl, rfl⟩))
            go_ret2
            exact ⟨rI (by rw [ffI, E.out]; rfl) (by rw [ffB, E.out]; rfl), H1.out⟩
          · have E := Lib.hid (ST.out rfl)
            go_wp2_with (first | (go_at_call 75; (with_reducible refine Calls.mono (B1 _) ?_); rintro e w' ⟨rfl, rfl⟩) | (go_at_call 75; (with_reducible refine Calls.mono (B2 _) ?_); rintro e w' ⟨rfl, rfl⟩))
            go_round
            case rel => exact ⟨k + 1, by omega, by go_num, E.out⟩
            case measure => simp [intOf]; omega
      · obtain rfl : k = p := by omega
        have E := Lib.hid (HR.out.trans (MISS.out hN.out))
        go_wp2_with fail
        go_ret2
        exact ⟨rI (by rw [ffI, E.out]; rfl) (by rw [ffB, E.out]; rfl), H1.out⟩

end Go.Proofs.YtogimjbjdgccnaaDoor
