/- Contract: the spots of a run on a yard, in the program. -/
import Derived.Test.YtoaccnpkobbaaaaYSo
import Derived.Test.YtoaccnpkobbaaaaYNz
namespace Go.Proofs.Ytoaccnpkobbaaaa
open Go.ChangeShapes Go.WideShapes Go.ChangeAt Go.RowKit
open Yd

set_option linter.unusedVariables false

theorem own_lessS {w : World} {B C : Nat} {e : TypeId} {size n : Nat} {v : Value} {xs : List Value} (h : w.ownsRow B e size v n xs) (hC : C ≤ B) : w.ownsRow C e size v n xs := by
  obtain ⟨h1, h2⟩ := h
  refine ⟨h1, ?_⟩
  rcases h2 with h2 | ⟨g, cap, cur, e1, e2, e3⟩
  · exact Or.inl h2
  · exact Or.inr ⟨g, cap, cur, e1, by omega, e3⟩

theorem orb_len6 {ks rs ss : List Int} {a : Nat} (hg : YdOk ks rs) (hr : RnOk ks a ss) (k : Nat) : (orb ks rs a ss k).2.length ≤ 6 := by
  rw [(orb_run hr hg k).len]; exact hg.n6

theorem orL_len6 {ks rs ss : List Int} {a : Nat} (hg : YdOk ks rs) (hr : RnOk ks a ss) (n : Nat) : ∀ y ∈ orL ks rs a ss n, y.2.length ≤ 6 := by
  intro y hy
  obtain ⟨k, _, rfl⟩ := List.mem_map.1 hy
  exact orb_len6 hg hr k

set_option maxRecDepth 100000 in
set_option maxHeartbeats 3200000 in
theorem spotsOf_yes (a N : Nat) (g c h d p q n m l : Nat) (M : Int) (ks rs ss : List Int) (hn : ks.length = n) (hm : rs.length = m) (hl : ss.length = l) (hg : YdOk ks rs) (hr : RnOk ks a ss) (hN : (N : Int) ≤ M) (hM : M ≤ 2000) (w : World) (h1 : RL w g n ks) (h2 : RL w h m rs) (h3 : RL w p l ss) :
    Calls Try.prog 69 #[.agg #[.slice (some ⟨g, 0, none⟩) n c, .slice (some ⟨h, 0, none⟩) m d], .agg #[.int .i64 (a:Nat), .slice (some ⟨p, 0, none⟩) l q], .int .i64 (N : Nat), .int .i64 M] w (SoPost (orL ks rs a ss (N + 1)) w) := by
  obtain ⟨i0, hi, iz0, iz1, iz2⟩ := info_of spInfo
  have n6 := hg.n6
  have hl6 : l ≤ 6 := by rw [← hl, hr.len]; exact n6
  have R := Lib.hid (fun w' (hw : Below w.heap.size w w') => isRunOn_any (a : Nat) g c h d p q n m l ks rs ss hn hm hl (by omega) (by have := hg.nr; omega) (by omega) w' (h1.keep hw) (h2.keep hw) (h3.keep hw))
  have SF := Lib.hid (fun w' (hw : Below w.heap.size w w') => spotFrom_any a p l q ss hl hl6 w' (h3.keep hw))
  have NX := Lib.hid (fun (k : Nat) w' (hw : Below w.heap.size w w') => next_any (orb ks rs a ss k).1 g c h d n m ks rs (orb ks rs a ss k).2 hn hm hg (orb_run hr hg k) w' (h1.keep hw) (h2.keep hw))
  have HR := Lib.hid (show rnB ks rs (a : Nat) ss = true from (run_iff ks rs _ ss).2 ⟨hg, a, rfl, hr⟩)
  have L6 := Lib.hid (orb_len6 hg hr)
  have L7 := Lib.hid (orL_len6 hg hr)
  have hN1 : inB (N : Nat) 0 M = true := by simp [inB]; omega
  have i1 : (0 : Int) ≤ (N : Int) := by omega
  have i2 : (N : Int) ≤ 2000 := by omega
  have iN : (0 : Int) ≤ (N : Int) + 1 := by omega
  obtain ⟨A, hA⟩ : ∃ A, A = madeCells (Value.agg #[.int .i64 0, .int .i64 0, .int .i64 0, .int .i64 0, .int .i64 0, .int .i64 0, .int .i64 0]).cells ((N + 1) * 7) := ⟨_, rfl⟩
  have hAs : A.size = (N + 1) * 7 := by rw [hA, size_madeCells]
  have hmk : ∀ w : World, (Instr.makeSlice 74 (.int .i64 0) (.int .i64 ((N : Int) + 1))).run Try.prog w = .ok (.slice (some ⟨w.heap.size, 0, none⟩) 0 (N + 1)) (w.alloc (.cells A 80)) := fun w => by
    have := run_make (P := Try.prog) w 74 80 i0 _ Try.underlying74 hi iz0 .i64 .i64 0 ((N : Int) + 1) (by decide) (by omega) (by rw [iz2]; omega) (by omega)
    rw [iz1] at this
    rw [hA, this]
    simp
  have hwr : IntKind.i64.wrap ((N : Int) + 1) = (N : Int) + 1 := by rw [IntKind.wrap_i64]; omega
  have OM := Lib.hid (fun (bs : Nat) (w' : World) (hw : bs ≤ w'.heap.size) => World.ownsRow_made (base := bs) (e := 80) (size := 7) w' A (N + 1) hw (by unfold maxLen; omega) hAs)
  obtain ⟨x0, x1, x2, x3, x4, x5, hx, hv⟩ := spC_six (x := (a, ss)) (by show ss.length ≤ 6; omega)
  simp only at hx hv
  rw [hv] at SF
  have HX := Lib.hid hx
  clear hn hm hl h1 h2 h3 hg hr hA hAs hx hv
  go_enter Try.func69, Try.ntmps69
  go_wp2_with fail
  refine (R.out _ (by go_grown)).mono ?_
  rintro e w1 ⟨rfl, k1⟩
  rw [HR.out]
  have hB : Below w.heap.size w w1 := ba (by go_grown) k1
  have hs := k1.size
  simp at hs
  have l0 : w.heap.size < w1.heap.size := by omega
  have l1 : w.heap.size + 1 < w1.heap.size := by omega
  have c0 := cl_below (b := w.heap.size) (o := 0) (v := .slice (some ⟨g, 0, none⟩) n c) (by simp [go_sem]) (by simp <;> omega) k1
  have c1 := cl_below (b := w.heap.size) (o := 1) (v := .slice (some ⟨h, 0, none⟩) m d) (by simp [go_sem]) (by simp <;> omega) k1
  have c2 := cl_below (b := w.heap.size + 1) (o := 0) (v := .int .i64 (a : Nat)) (by simp [go_sem]) (by simp <;> omega) k1
  have c3 := cl_below (b := w.heap.size + 1) (o := 1) (v := .slice (some ⟨p, 0, none⟩) l q) (by simp [go_sem]) (by simp <;> omega) k1
  have B1 := Lib.hid hB
  clear k1
  go_upto_region 1 with (go_at_call 61; refine (isInRange_any _ _ _ _).mono ?_; rintro e w' ⟨rfl, rfl⟩)
  have hS0 := And.intro c0 (And.intro c1 (And.intro c2 c3))
  go_cut [10] (fun s10 wx => ∃ g' cap : Nat, s10 = .slice (some ⟨g', 0, none⟩) 1 cap ∧ wx.ownsRow w1.heap.size 80 7 (.slice (some ⟨g', 0, none⟩) 1 cap) 1 (spC (a, ss)) ∧ (wx.cell? ⟨w.heap.size, 0, none⟩ = some (.slice (some ⟨g, 0, none⟩) n c) ∧ wx.cell? ⟨w.heap.size, 1, none⟩ = some (.slice (some ⟨h, 0, none⟩) m d)) ∧ Below w1.heap.size w1 wx)
  case first =>
    go_region_held3 (fun w' => w'.cell? ⟨w.heap.size, 0, none⟩ = some (.slice (some ⟨g, 0, none⟩) n c) ∧ w'.cell? ⟨w.heap.size, 1, none⟩ = some (.slice (some ⟨h, 0, none⟩) m d) ∧ w'.cell? ⟨w.heap.size + 1, 0, none⟩ = some (.int .i64 (a : Nat)) ∧ w'.cell? ⟨w.heap.size + 1, 1, none⟩ = some (.slice (some ⟨p, 0, none⟩) l q))
      (first | (with_reducible assumption) | (with_reducible exact yy_drew hS0) | (with_reducible exact yy_drew (yy_alloc hS0 _)) | (with_reducible exact yy_alloc (yy_drew hS0) _) | (with_reducible refine yy_drew ?_; with_reducible assumption) | (with_reducible refine yy_alloc ?_ _; with_reducible assumption) | (with_reducible refine yy_re (by with_reducible assumption) ?_ ?_ _; (focus first | (with_reducible assumption) | omega | (simp; done) | (simp; omega)); (focus first | (with_reducible assumption) | omega | (simp; done) | (simp; omega))) | (with_reducible refine yy_below ?_ ?_ ?_ h1; (focus first | (with_reducible assumption) | (with_reducible refine yy_undrew ?_; with_reducible assumption)); (focus first | (with_reducible assumption) | omega | (simp; done) | (simp; omega)); (focus first | (with_reducible assumption) | omega | (simp; done) | (simp; omega))) | ((repeat (with_reducible refine yy_set ?_ _ _ ?_ ?_; rotate_left 1; (focus first | (with_reducible assumption) | omega | (simp; done) | (simp; omega)); (focus first | (with_reducible assumption) | omega | (simp; done) | (simp; omega)))); with_reducible assumption))
      (first | (go_at_call 74; (with_reducible refine Calls.mono (SF.out _ (hB.trans (Below.mono ?_ hB.size))) ?_); (focus (go_grown; done)); rintro e wA ⟨rfl, h1⟩; (try with_reducible replace h1 := undrew h1); have hBA : Below w1.heap.size w1 wA := ba (by go_grown) h1; have hqA := h1.size; (try simp at hqA); have hz0 : w.heap.size < wA.heap.size := (by omega); have hz1 : w.heap.size + 1 < wA.heap.size := (by omega); (try (refine (fun (HOA0 : Below (w1.alloc (.cells A 80)).heap.size (w1.alloc (.cells A 80)) wA) => ?_) ?_; rotate_left 1; (focus (refine ba ?_ h1; go_grown; done)); have HOA := Lib.hid (own_belowS (OM.out w1.heap.size w1 (Nat.le_refl _)) HOA0); clear HOA0)); have HH := Lib.hid hBA) | ((refine step_append_lies _ (by rfl) _ _ _ (by rfl) w1.heap.size 80 i0 _ 7 56 Try.underlying74 hi iz0 iz1 iz2 (by rfl) (by decide) (.slice (some ⟨w1.heap.size, 0, none⟩) 0 (N + 1)) 0 [] ?hs ?hown ⟨wA.heap.size, 0, none⟩ 1 1 (spC (a, ss)) ?hx (by rw [HX.out]; rfl) ?hnews (one_spC (a, ss)) (by decide) (by unfold maxLen; omega) (by omega) ?hbase (wA.heap.size + 1) ?hH ?_); (case hs => rfl); (case hx => rfl); (case hown => exact HOA.out.alloc _); (case hnews => rw [HX.out]; exact World.news_of_block (cs := #[.int .i64 (a : Int), .int .i64 x0, .int .i64 x1, .int .i64 x2, .int .i64 x3, .int .i64 x4, .int .i64 x5]) (heap_alloc_new _ _)); (case hbase => (simp; omega)); (case hH => simp); intro g2 cap2 w3 hown3 hgrow hat hlt3; have hS9 : w3.cell? ⟨w.heap.size, 0, none⟩ = some (.slice (some ⟨g, 0, none⟩) n c) ∧ w3.cell? ⟨w.heap.size, 1, none⟩ = some (.slice (some ⟨h, 0, none⟩) m d) ∧ w3.cell? ⟨w.heap.size + 1, 0, none⟩ = some (.int .i64 (a : Nat)) ∧ w3.cell? ⟨w.heap.size + 1, 1, none⟩ = some (.slice (some ⟨p, 0, none⟩) l q) := yy_far (by with_reducible assumption) (by simp [Value.ownBlock]; omega) (by simp [Value.ownBlock]; omega) hgrow; have hb3 : Below w1.heap.size w1 w3 := Below.grown (by go_grown) hgrow (by simp; omega) (fun k hk => by simp [Value.ownBlock] at hk; omega)) | ((refine step_append_lies _ (by rfl) _ _ _ (by rfl) w1.heap.size 80 i0 _ 7 56 Try.underlying74 hi iz0 iz1 iz2 (by rfl) (by decide) (.slice (some ⟨wA.heap.size, 0, none⟩) 0 (N + 1)) 0 [] ?hs ?hown ⟨wA.heap.size + 1, 0, none⟩ 1 1 (spC (a, ss)) ?hx (by rw [HX.out]; rfl) ?hnews (one_spC (a, ss)) (by decide) (by unfold maxLen; omega) (by omega) ?hbase (wA.heap.size + 1 + 1) ?hH ?_); (case hs => rfl); (case hx => rfl); (case hown => exact (OM.out w1.heap.size wA (by omega)).alloc _); (case hnews => rw [HX.out]; exact World.news_of_block (cs := #[.int .i64 (a : Int), .int .i64 x0, .int .i64 x1, .int .i64 x2, .int .i64 x3, .int .i64 x4, .int .i64 x5]) (by simpa using heap_alloc_new (wA.alloc (.cells A 80)) (.cells #[.int .i64 (a : Int), .int .i64 x0, .int .i64 x1, .int .i64 x2, .int .i64 x3, .int .i64 x4, .int .i64 x5] 80))); (case hbase => (simp; omega)); (case hH => simp); intro g2 cap2 w3 hown3 hgrow hat hlt3; have hS9 : w3.cell? ⟨w.heap.size, 0, none⟩ = some (.slice (some ⟨g, 0, none⟩) n c) ∧ w3.cell? ⟨w.heap.size, 1, none⟩ = some (.slice (some ⟨h, 0, none⟩) m d) ∧ w3.cell? ⟨w.heap.size + 1, 0, none⟩ = some (.int .i64 (a : Nat)) ∧ w3.cell? ⟨w.heap.size + 1, 1, none⟩ = some (.slice (some ⟨p, 0, none⟩) l q) := yy_far (by with_reducible assumption) (by simp [Value.ownBlock]; omega) (by simp [Value.ownBlock]; omega) hgrow; have hb3 : Below w1.heap.size w1 w3 := Below.grown (by go_grown) hgrow (by simp; omega) (fun k hk => by simp [Value.ownBlock] at hk; omega)) | ((refine step_append_lies _ (by rfl) _ _ _ (by rfl) w1.heap.size 80 i0 _ 7 56 Try.underlying74 hi iz0 iz1 iz2 (by rfl) (by decide) (.slice (some ⟨wA.heap.size + 1, 0, none⟩) 0 (N + 1)) 0 [] ?hs ?hown ⟨wA.heap.size, 0, none⟩ 1 1 (spC (a, ss)) ?hx (by rw [HX.out]; rfl) ?hnews (one_spC (a, ss)) (by decide) (by unfold maxLen; omega) (by omega) ?hbase (wA.heap.size + 1 + 1) ?hH ?_); (case hs => rfl); (case hx => rfl); (case hown => (have := OM.out w1.heap.size (wA.alloc (.cells #[.int .i64 (a : Int), .int .i64 x0, .int .i64 x1, .int .i64 x2, .int .i64 x3, .int .i64 x4, .int .i64 x5] 80)) (by simp; omega)); (simp only [World.size_alloc] at this); exact this); (case hnews => rw [HX.out]; exact World.news_of_block (cs := #[.int .i64 (a : Int), .int .i64 x0, .int .i64 x1, .int .i64 x2, .int .i64 x3, .int .i64 x4, .int .i64 x5]) ((Below.heap_alloc _ _ _ (by simp)).trans (heap_alloc_new _ _))); (case hbase => (simp; omega)); (case hH => simp); intro g2 cap2 w3 hown3 hgrow hat hlt3; have hS9 : w3.cell? ⟨w.heap.size, 0, none⟩ = some (.slice (some ⟨g, 0, none⟩) n c) ∧ w3.cell? ⟨w.heap.size, 1, none⟩ = some (.slice (some ⟨h, 0, none⟩) m d) ∧ w3.cell? ⟨w.heap.size + 1, 0, none⟩ = some (.int .i64 (a : Nat)) ∧ w3.cell? ⟨w.heap.size + 1, 1, none⟩ = some (.slice (some ⟨p, 0, none⟩) l q) := yy_far (by with_reducible assumption) (by simp [Value.ownBlock]; omega) (by simp [Value.ownBlock]; omega) hgrow; have hb3 : Below w1.heap.size w1 w3 := Below.grown (by go_grown) hgrow (by simp; omega) (fun k hk => by simp [Value.ownBlock] at hk; omega)))
    all_goals
      go_wp2_with fail
      go_meet
      exact ⟨g2, cap2, rfl, by simpa using hown3, ⟨hS9.1, hS9.2.1⟩, hb3⟩
  case rest =>
    obtain ⟨g0, cap, rfl, hown, ⟨q0, q1⟩, hcb⟩ := hcut
    have HO := Lib.hid hown
    have HB := Lib.hid hcb
    have Q0 := Lib.hid (And.intro q0 q1)
    have hcs := hcb.size
    clear hown hcb c0 c1 c2 c3 hS0 q0 q1
    go_wp2_with fail
    go_loopw [10, 30] (fun v i wr => ∃ k g1 cap : Nat, k ≤ N ∧ i = .int .i64 k ∧ v = .slice (some ⟨g1, 0, none⟩) ((k + 1 : Nat)) cap ∧ wr.ownsRow w1.heap.size 80 7 (.slice (some ⟨g1, 0, none⟩) (k + 1) cap) (k + 1) (spsC (orL ks rs a ss (k + 1))) ∧ (wr.cell? ⟨w.heap.size, 0, none⟩ = some (.slice (some ⟨g, 0, none⟩) n c) ∧ wr.cell? ⟨w.heap.size, 1, none⟩ = some (.slice (some ⟨h, 0, none⟩) m d)) ∧ Below w1.heap.size w1 wr) (fun _ i _ => N - (intOf i).toNat)
    case atStart => exact ⟨0, g0, cap, Nat.zero_le _, rfl, rfl, by simpa [orL, orb, spsC] using HO.out, Q0.out, HB.out⟩
    case round =>
      obtain ⟨k, g1, cap, hk, rfl, rfl, hown, ⟨q0, q1⟩, hb⟩ := hrel
      have hbs := hb.size
      by_cases hlt : k < N
      · have j1 : (0 : Int) ≤ (k : Int) := by omega
        have j2 : (k : Int) < (k : Int) + 1 := by omega
        have j3 : (k : Int) < ((k + 1 : Nat) : Int) := by omega
        have j4 : k < k + 1 := by omega
        have j5 : (k : Int) < (N : Int) := by omega
        obtain ⟨z0, z1, z2, z3, z4, z5, hz, hzv⟩ := spC_six (x := orb ks rs a ss k) (L6.out k)
        obtain ⟨y0, y1, y2, y3, y4, y5, hy, hyv⟩ := spC_six (x := orb ks rs a ss (k + 1)) (L6.out (k + 1))
        have N1 := fun w' hw => NX.out k w' hw
        rw [show spV (stA rs (orb ks rs a ss k).1 (orb ks rs a ss k).2) (stS ks (orb ks rs a ss k).1 (orb ks rs a ss k).2) = spV (orb ks rs a ss (k + 1)).1 (orb ks rs a ss (k + 1)).2 from rfl, hzv, hyv] at N1
        have NN := Lib.hid N1
        have ce := fun i v (hi : i < 7) hv => own_cell (j := 7 * k + i) hown (spsC_get _ k i _ v (L7.out (k + 1)) (orL_get (Nat.lt_succ_self k)) hi hv)
        rw [hz] at ce
        have HL := Lib.hid (show spsC (orL ks rs a ss (k + 1 + 1)) = spsC (orL ks rs a ss (k + 1)) ++ spC (orb ks rs a ss (k + 1)) by rw [orL_succ ks rs a ss (k + 1), spsC_append]; simp [spsC])
        have HY := Lib.hid hy
        generalize (orb ks rs a ss k).1 = x at *
        generalize (orb ks rs a ss (k + 1)).1 = y at *
        have ec : ∀ i, 7 * k + i = k * 7 + i := fun i => by omega
        have hS0 : wr.cell? ⟨w.heap.size, 0, none⟩ = some (.slice (some ⟨g, 0, none⟩) n c) ∧ wr.cell? ⟨w.heap.size, 1, none⟩ = some (.slice (some ⟨h, 0, none⟩) m d) ∧ wr.cell? ⟨g1, k * 7, none⟩ = some (.int .i64 (x : Int)) ∧ wr.cell? ⟨g1, k * 7 + 1, none⟩ = some (.int .i64 z0) ∧ wr.cell? ⟨g1, k * 7 + 2, none⟩ = some (.int .i64 z1) ∧ wr.cell? ⟨g1, k * 7 + 3, none⟩ = some (.int .i64 z2) ∧ wr.cell? ⟨g1, k * 7 + 4, none⟩ = some (.int .i64 z3) ∧ wr.cell? ⟨g1, k * 7 + 5, none⟩ = some (.int .i64 z4) ∧ wr.cell? ⟨g1, k * 7 + 6, none⟩ = some (.int .i64 z5) := by
          refine ⟨q0, q1, ?_, ?_, ?_, ?_, ?_, ?_, ?_⟩
          · simpa [Nat.mul_comm] using ce 0 _ (by decide) rfl
          · exact (ec 1) ▸ ce 1 _ (by decide) rfl
          · exact (ec 2) ▸ ce 2 _ (by decide) rfl
          · exact (ec 3) ▸ ce 3 _ (by decide) rfl
          · exact (ec 4) ▸ ce 4 _ (by decide) rfl
          · exact (ec 5) ▸ ce 5 _ (by decide) rfl
          · exact (ec 6) ▸ ce 6 _ (by decide) rfl
        have m0 : w.heap.size < wr.heap.size := by omega
        have m1 : g1 < wr.heap.size := (hown.lt g1 rfl).2
        have m2 : w1.heap.size ≤ g1 := (hown.lt g1 rfl).1
        have HO2 := Lib.hid hown
        have HB2 := Lib.hid hb
        have hb2 := hb
        clear hown hb ce N1 hz hzv hyv hy ec q0 q1
        go_wp2_with fail
        obtain ⟨s0, s1, s2, s3, s4, s5, s6, s7, s8⟩ := hS0
        go_region_law (first | ((refine step_append_lies _ (by rfl) _ _ _ (by rfl) w1.heap.size 80 i0 _ 7 56 Try.underlying74 hi iz0 iz1 iz2 (by rfl) (by decide) (.slice (some ⟨g1, 0, none⟩) (k + 1) cap) (k + 1) (spsC (orL ks rs a ss (k + 1))) ?hs ?hown ⟨wA.heap.size, 0, none⟩ 1 1 (spC (orb ks rs a ss (k + 1))) ?hx (by rw [HY.out]; rfl) ?hnews (one_spC _) (by decide) (by unfold maxLen; omega) (by omega) ?hbase (wA.heap.size + 1) ?hH ?_); (case hs => first | rfl | simp [Act.eval]); (case hx => first | rfl | simp [Act.eval]); (case hown => exact HOA.out.alloc _); (case hnews => rw [HY.out]; exact World.news_of_block (cs := #[.int .i64 (y : Int), .int .i64 y0, .int .i64 y1, .int .i64 y2, .int .i64 y3, .int .i64 y4, .int .i64 y5]) (heap_alloc_new _ _)); (case hbase => (simp; omega)); (case hH => simp); intro g2 cap2 w3 hown3 hgrow hat hlt3; have hb3 : Below w1.heap.size w1 w3 := Below.grown (hb2.trans (Below.mono (by go_grown : Below wr.heap.size wr _) hbs)) hgrow (by simp; omega) (fun k hk => by simp [Value.ownBlock] at hk; omega)) | (go_simp; go_at_call 75; (with_reducible refine Calls.mono (NN.out _ (B1.out.trans (Below.mono (hb2.trans (Below.mono (B' := w1.heap.size) ?_ hbs)) B1.out.size))) ?_); (focus (go_grown; done)); rintro e wA ⟨rfl, h1⟩; (try with_reducible replace h1 := undrew h1); have hBA : Below wr.heap.size wr wA := ba (by go_grown) h1; have hqA := h1.size; (try simp at hqA); have hz0 : w.heap.size < wA.heap.size := (by omega); have hz1 : g1 < wA.heap.size := (by omega); have HOA := Lib.hid (own_belowS HO2.out hBA)))
        all_goals
          have HW := Lib.hid hown3
          have q2 := cl_below s0 m0 hBA
          have q3 := cl_below s1 m0 hBA
          have q4 := hgrow.cell (cl_alloc q2 _) (by simp [Value.ownBlock]; omega)
          have q5 := hgrow.cell (cl_alloc q3 _) (by simp [Value.ownBlock]; omega)
          have HQ := Lib.hid (And.intro q4 q5)
          have HB3 := Lib.hid hb3
          clear hown3 hgrow hat hlt3 hb3 s0 s1 s2 s3 s4 s5 s6 s7 s8 q2 q3 q4 q5 h1 hBA
          have hwp : IntKind.i64.wrap ((k : Int) + 1) = (k : Int) + 1 := by rw [IntKind.wrap_i64]; omega
          go_wp2_with fail
          go_roundw
          case rel => exact ⟨k + 1, g2, cap2, by omega, by go_num, rfl, by rw [HL.out]; exact HW.out, HQ.out, HB3.out⟩
          case measure => simp [intOf]; omega
      · obtain rfl : k = N := by omega
        have HO3 := Lib.hid hown
        have HB3 := Lib.hid hb
        clear hown hb q0 q1
        go_wp2_with fail
        go_ret2
        exact ⟨g1, cap, by rw [orL_len]; rfl, by have := (HO3.out.lt g1 rfl).1; omega, by rw [orL_len]; exact own_lessS HO3.out (by omega), B1.out.trans (HB3.out.mono B1.out.size)⟩

end Go.Proofs.Ytoaccnpkobbaaaa
