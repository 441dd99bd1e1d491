/- Contract: the runs of which a step makes one, in the model. -/
import Derived.Test.YtoaccnpkobbaaaaYAl
import Derived.Test.YtoaccnpkobbaaaaYTop
import Derived.Test.YtoaccnpkobbaaaaYCr
import Derived.Test.YtoaccnpkobbaaaaCl
import Derived.Deep.RegionHeld3
namespace Go.Proofs.Ytoaccnpkobbaaaa
open Go.ChangeShapes Go.WideShapes Go.ChangeAt Go.RowKit
open Yd

set_option linter.unusedVariables false

/-- A list of runs at v: none is nil. -/
def BkAt (W : World) (B C : Nat) (v : Value) (l : List (Nat × List Int)) : Prop :=
  (l = [] → v = .slice none 0 0) ∧ ∃ xs, W.ownsRow C 36 2 v l.length xs ∧ RunsC W B v.ownBlock l xs

theorem BkAt.keep {W W' : World} {B C : Nat} {v : Value} {l : List (Nat × List Int)} (h : BkAt W B C v l) (k : Below W.heap.size W W') : BkAt W' B C v l :=
  let ⟨h0, xs, h1, h2⟩ := h
  ⟨h0, xs, own_belowS h1 k, h2.keep k⟩

theorem eq_dec (x y : Nat) : ((x : Int) == (y : Int)) = decide (x = y) := by
  by_cases e : x = y
  · simp [e]
  · have : ¬ (x : Int) = (y : Int) := by omega
    simp [e, this]

/-- Of the first k runs. -/
def bkK (ks rs : List Int) (b : Nat) (tt : List Int) (k : Nat) : List (Nat × List Int) := (alN ks.length k).filter fun x => num (stepN ks rs x) == num (b, tt)

theorem bkK_succ (ks rs : List Int) (b : Nat) (tt : List Int) (k : Nat) : bkK ks rs b tt (k + 1) = bkK ks rs b tt k ++ (if num (stepN ks rs (dc ks.length k)) = num (b, tt) then [dc ks.length k] else []) := by
  rw [bkK, alN_succ, List.filter_append, bkK]
  congr 1
  by_cases h : num (stepN ks rs (dc ks.length k)) = num (b, tt) <;> simp [h]

theorem bkK_len (ks rs : List Int) (b : Nat) (tt : List Int) (k : Nat) : (bkK ks rs b tt k).length ≤ k := by
  rw [bkK]; exact Nat.le_trans (List.length_filter_le _ _) (by rw [alN_len]; exact Nat.le_refl _)

set_option maxRecDepth 100000 in
set_option maxHeartbeats 3200000 in
theorem spBack_no (x : Int) (g c h d p q n m l : Nat) (ks rs ss : List Int) (hn : ks.length = n) (hm : rs.length = m) (hl : ss.length = l) (hb : n ≤ 2000000) (hb' : m ≤ 2000000) (hb2 : l ≤ 2000000) (hno : rnB ks rs x ss = false) (w : World) (h1 : RL w g n ks) (h2 : RL w h m rs) (h3 : RL w p l ss) :
    Calls Try.prog 46 #[.agg #[.slice (some ⟨g, 0, none⟩) n c, .slice (some ⟨h, 0, none⟩) m d], .agg #[.int .i64 x, .slice (some ⟨p, 0, none⟩) l q]] w fun e w' => e = .returned (.tuple #[.slice none 0 0, .bool false]) ∧ Below w.heap.size w w' := by
  have R := Lib.hid (fun w' (hw : Below w.heap.size w w') => ydRun_any x g c h d p q n m l ks rs ss hn hm hl hb hb' hb2 w' (h1.keep hw) (h2.keep hw) (h3.keep hw))
  have HS := Lib.hid hno
  clear hn hm hl h1 h2 h3 hno
  go_enter Try.func46, Try.ntmps46
  go_wp2_with fail
  refine (R.out _ (by go_grown)).mono ?_
  rintro e w1 ⟨rfl, k1⟩
  rw [HS.out]
  have hB : Below w.heap.size w w1 := ba (by go_grown) k1
  clear k1
  go_wp2_with fail
  go_ret2
  exact ⟨rfl, hB⟩

set_option maxRecDepth 100000 in
set_option maxHeartbeats 3200000 in
theorem spBack_yes (a : Nat) (g c h d p u n m l : Nat) (ks rs ss : List Int) (hn : ks.length = n) (hm : rs.length = m) (hl : ss.length = l) (hg : YdOk ks rs) (ho : RnOk ks a ss) (w : World) (h1 : RL w g n ks) (h2 : RL w h m rs) (h3 : RL w p l ss) :
    Calls Try.prog 46 #[.agg #[.slice (some ⟨g, 0, none⟩) n c, .slice (some ⟨h, 0, none⟩) m d], .agg #[.int .i64 (a:Nat), .slice (some ⟨p, 0, none⟩) l u]] w fun e w' => ∃ v, e = .returned (.tuple #[v, .bool true]) ∧ BkAt w' w.heap.size w.heap.size v (bkL ks rs a ss) ∧ Below w.heap.size w w' := by
  obtain ⟨j0, ji, jz0, jz1, jz2⟩ := info_of runInfo
  have n1 : 1 ≤ n := by rw [← hn]; exact hg.n1
  have n6 : n ≤ 6 := by rw [← hn]; exact hg.n6
  have hln : l = n := by rw [← hl, ho.len]; exact hn
  subst hln
  have hnr : m = 3 * l := by rw [← hm, ← hn]; exact hg.nr
  have R := Lib.hid (fun w' (hw : Below w.heap.size w w') => ydRun_any (a : Nat) g c h d p u l m l ks rs ss hn hm hl (by omega) (by omega) (by omega) w' (h1.keep hw) (h2.keep hw) (h3.keep hw))
  have HR := Lib.hid ((run_iff ks rs _ ss).2 ⟨hg, a, rfl, ho⟩)
  have AL := Lib.hid (fun w' => ydAll_any g c h d l m n1 n6 hnr w')
  have RN := Lib.hid (fun k (hk : k < 3 * l * 2 ^ l) => show RnOk ks (dc l k).1 (dc l k).2 from by rw [← hn]; exact dc_run (by rw [hn]; exact hk))
  have ST := Lib.hid (fun (a : Nat) ss (hx : RnOk ks a ss) (q c' : Nat) w' (hw : Below w.heap.size w w') (hq : RL w' q l ss) => ydStep_any a g c h d q c' l m l ks rs ss hn hm (by rw [hx.len, hn]) hg hx w' (h1.keep hw) (h2.keep hw) hq)
  have NU := Lib.hid (fun (a : Nat) ss (hx : RnOk ks a ss) (q c' : Nat) w' (hq : RL w' q l ss) => ydNumber_any a q l c' ss (by rw [hx.len, hn]) n6 (by have := hx.at'; omega) hx.mem w' hq)
  have SP := Lib.hid (fun a ss (hx : RnOk ks a ss) => hx.step hg)
  have SL := Lib.hid (fun a ss (hx : RnOk ks a ss) => show ss.length = l from by rw [hx.len, hn])
  have H3 := Lib.hid (fun w' (hw : Below w.heap.size w w') => h3.keep hw)
  have HO := Lib.hid ho
  have BS := Lib.hid (bkK_succ ks rs a ss)
  have BL := Lib.hid (bkK_len ks rs a ss)
  have hE : bkL ks rs a ss = bkK ks rs a ss (3 * l * 2 ^ l) := by rw [bkL, bkK, allR, alN, hn]
  rw [hE, hn] at *
  have hN2 : 3 * l * 2 ^ l ≤ 2000000 := by
    rcases six n1 n6 with e | e | e | e | e | e <;> rw [e] <;> decide
  generalize hN : 3 * l * 2 ^ l = N at *
  have ALN := Lib.hid hN
  clear hn hm hl h1 h2 h3 hg ho hnr hE hN
  go_enter Try.func46, Try.ntmps46
  go_wp2_with fail
  refine (R.out _ (by go_grown)).mono ?_
  rintro e w1 ⟨rfl, k1⟩
  rw [HR.out]
  have hB : Below w.heap.size w w1 := ba (by go_grown) k1
  have hs := k1.size
  simp at hs
  have z0 : w.heap.size < w1.heap.size := by omega
  have z1 : w.heap.size + 1 < w1.heap.size := by omega
  have c0 := cl_below (b := w.heap.size) (o := 0) (v := .slice (some ⟨g, 0, none⟩) _ c) (by simp [go_sem]; rfl) (by simp <;> omega) k1
  have c1 := cl_below (b := w.heap.size) (o := 1) (v := .slice (some ⟨h, 0, none⟩) _ d) (by simp [go_sem]; rfl) (by simp <;> omega) k1
  have c2 := cl_below (b := w.heap.size + 1) (o := 0) (v := .int .i64 (a : Nat)) (by simp [go_sem]) (by simp <;> omega) k1
  have c3 := cl_below (b := w.heap.size + 1) (o := 1) (v := .slice (some ⟨p, 0, none⟩) l u) (by simp [go_sem]) (by simp <;> omega) k1
  clear k1
  go_wp2_with fail
  refine (AL.out _).mono ?_
  rintro e w2 ⟨gA, cA, xs, rfl, hown, hC, k2⟩
  rw [ALN.out] at hown hC
  rw [ALN.out]
  have hs2 := k2.size
  have B2 := Lib.hid (hB.trans (k2.mono hB.size))
  have d0 := cl_below c0 z0 k2
  have d1 := cl_below c1 z0 k2
  have d2 := cl_below c2 z1 k2
  have d3 := cl_below c3 z1 k2
  have z2 : w.heap.size < w2.heap.size := by omega
  have z3 : w.heap.size + 1 < w2.heap.size := by omega
  have hgA := (hown.lt gA rfl).2
  have HOW := Lib.hid hown
  have HC := Lib.hid hC
  clear c0 c1 c2 c3 k2 hown hC hB
  go_wp2_with fail
  go_loopw [6, 16] (fun v i wr => ∃ k : Nat, k ≤ N ∧ i = .int .i64 k ∧ BkAt wr w.heap.size w2.heap.size v (bkK ks rs a ss k) ∧ Below w2.heap.size w2 wr) (fun _ i _ => N - (intOf i).toNat)
  case atStart => exact ⟨0, Nat.zero_le _, rfl, ⟨fun _ => rfl, [], World.ownsRow_nil _ _ _ _, RunsC.nil _ _ _⟩, Below.refl _ _⟩
  case round =>
    obtain ⟨k, hk, rfl, hL, hB⟩ := hrel
    have hsr := hB.size
    have HBR := Lib.hid (B2.out.trans (hB.mono B2.out.size))
    by_cases hlt : k < N
    · have i1 : (0 : Int) ≤ (k : Int) := by omega
      have i2 : (k : Int) < (N : Int) := by omega
      obtain ⟨gq, cq, e1, e2, _, hgB, hq⟩ := HC.out.2 k (dc l k) (alN_get hlt)
      obtain ⟨b, tt, hx⟩ : ∃ b tt, dc l k = (b, tt) := ⟨_, _, rfl⟩
      have hRn := RN.out k hlt
      have hM := BS.out k
      rw [hx] at hRn hM hq e1 e2
      simp only at hRn hM hq e1 e2
      have hql := hq.lt
      rw [SL.out b tt hRn] at e2 hq
      have a0 := cl_below ((HOW.out.cellAt (2 * k) (by omega)).trans e1) hgA hB
      have a1 := cl_below ((HOW.out.cellAt (2 * k + 1) (by omega)).trans e2) hgA hB
      rw [Nat.mul_comm] at a0 a1
      have y0 := cl_below d0 z2 hB
      have y1 := cl_below d1 z2 hB
      have y2 := cl_below d2 z3 hB
      have y3 := cl_below d3 z3 hB
      have hgr : gA < wr.heap.size := by omega
      have zr : w.heap.size < wr.heap.size := by omega
      have zr1 : w.heap.size + 1 < wr.heap.size := by omega
      have HQ := Lib.hid (hq.keep hB)
      have HRN := Lib.hid hRn
      have HM := Lib.hid hM
      have HL := Lib.hid hL
      have HB := Lib.hid hB
      clear hRn hM hq e1 e2 hL hB hx
      go_upto_region 7 with fail
      have hB1 := Lib.hid (by go_grown : Below wr.heap.size wr (wr.alloc (.cells #[.int .i64 (b : Nat), .slice (some ⟨gq, 0, none⟩) l cq] 36)))
      have x0 : (wr.alloc (.cells #[.int .i64 (b : Nat), .slice (some ⟨gq, 0, none⟩) l cq] 36)).cell? ⟨wr.heap.size, 0, none⟩ = some (.int .i64 (b : Nat)) := by simp [go_sem]
      have x1 : (wr.alloc (.cells #[.int .i64 (b : Nat), .slice (some ⟨gq, 0, none⟩) l cq] 36)).cell? ⟨wr.heap.size, 1, none⟩ = some (.slice (some ⟨gq, 0, none⟩) l cq) := by simp [go_sem]
      have hz4 : (wr.alloc (.cells #[.int .i64 (b : Nat), .slice (some ⟨gq, 0, none⟩) l cq] 36)).heap.size = wr.heap.size + 1 := by simp
      generalize hW : wr.alloc (.cells #[.int .i64 (b : Nat), .slice (some ⟨gq, 0, none⟩) l cq] 36) = W1 at *
      have HZ := Lib.hid hz4
      have hz5 : wr.heap.size < W1.heap.size := by omega
      have hz6 : w.heap.size < W1.heap.size := by omega
      have hz7 : w.heap.size + 1 < W1.heap.size := by omega
      have w0 := cl_below y0 zr hB1.out
      have w1' := cl_below y1 zr hB1.out
      have w2' := cl_below y2 zr1 hB1.out
      have w3' := cl_below y3 zr1 hB1.out
      have hS0 := And.intro w0 (And.intro w1' (And.intro w2' (And.intro w3' (And.intro x0 x1))))
      have BW := Lib.hid (HBR.out.trans (hB1.out.mono HBR.out.size))
      have S1 := Lib.hid (fun w' (hw : Below W1.heap.size W1 w') => ST.out b tt HRN.out gq cq w' (BW.out.trans (hw.mono BW.out.size)) ((HQ.out.keep hB1.out).keep hw))
      have S2 := Lib.hid (fun q c' w' hr => NU.out (stA rs b tt) (stS ks b tt) (SP.out b tt HRN.out) q c' w' hr)
      have S3 := Lib.hid (fun w' (hw : Below W1.heap.size W1 w') => NU.out a ss HO.out p u w' (H3.out w' (BW.out.trans (hw.mono BW.out.size))))
      clear hW hz4 w0 w1' w2' w3' x0 x1 y0 y1 y2 y3 a0 a1
      generalize hqn : num (stA rs b tt, stS ks b tt) = qn at *
      generalize hqm : num (a, ss) = qm at *
      go_cut [26] (fun s26 wx => s26 = .bool (decide (qn = qm)) ∧ (wx.cell? ⟨w.heap.size, 0, none⟩ = some (.slice (some ⟨g, 0, none⟩) l c) ∧ wx.cell? ⟨w.heap.size, 1, none⟩ = some (.slice (some ⟨h, 0, none⟩) m d) ∧ wx.cell? ⟨w.heap.size + 1, 0, none⟩ = some (.int .i64 (a : Nat)) ∧ wx.cell? ⟨w.heap.size + 1, 1, none⟩ = some (.slice (some ⟨p, 0, none⟩) l u) ∧ wx.cell? ⟨wr.heap.size, 0, none⟩ = some (.int .i64 (b : Nat)) ∧ wx.cell? ⟨wr.heap.size, 1, none⟩ = some (.slice (some ⟨gq, 0, none⟩) l cq)) ∧ Below W1.heap.size W1 wx)
      case first =>
        go_region_held3 (fun w' => w'.cell? ⟨w.heap.size, 0, none⟩ = some (.slice (some ⟨g, 0, none⟩) l c) ∧ w'.cell? ⟨w.heap.size, 1, none⟩ = some (.slice (some ⟨h, 0, none⟩) m d) ∧ w'.cell? ⟨w.heap.size + 1, 0, none⟩ = some (.int .i64 (a : Nat)) ∧ w'.cell? ⟨w.heap.size + 1, 1, none⟩ = some (.slice (some ⟨p, 0, none⟩) l u) ∧ w'.cell? ⟨wr.heap.size, 0, none⟩ = some (.int .i64 (b : Nat)) ∧ w'.cell? ⟨wr.heap.size, 1, none⟩ = some (.slice (some ⟨gq, 0, none⟩) l cq))
          (first | (with_reducible assumption) | (with_reducible exact sss_drew hS0) | (with_reducible exact sss_drew (sss_alloc hS0 _)) | (with_reducible exact sss_alloc (sss_drew hS0) _) | (with_reducible refine sss_drew ?_; with_reducible assumption) | (with_reducible refine sss_alloc ?_ _; with_reducible assumption) | (with_reducible refine sss_re (by with_reducible assumption) ?_ ?_ ?_ _; (focus first | (with_reducible assumption) | omega | (simp; done) | (simp; omega)); (focus first | (with_reducible assumption) | omega | (simp; done) | (simp; omega)); (focus first | (with_reducible assumption) | omega | (simp; done) | (simp; omega))) | (with_reducible refine sss_below ?_ ?_ ?_ ?_ h1; (focus first | (with_reducible assumption) | (with_reducible refine sss_undrew ?_; with_reducible assumption)); (focus first | (with_reducible assumption) | omega | (simp; done) | (simp; omega)); (focus first | (with_reducible assumption) | omega | (simp; done) | (simp; omega)); (focus first | (with_reducible assumption) | omega | (simp; done) | (simp; omega))) | ((repeat (with_reducible refine sss_set ?_ _ _ ?_ ?_ ?_; rotate_left 1; (focus first | (with_reducible assumption) | omega | (simp; done) | (simp; omega)); (focus first | (with_reducible assumption) | omega | (simp; done) | (simp; omega)); (focus first | (with_reducible assumption) | omega | (simp; done) | (simp; omega)))); with_reducible assumption))
          (first | (go_at_call 66; (with_reducible refine Calls.mono (S1.out _ ?_) ?_); (focus (go_grown; done)); rintro e wA ⟨q1, c1', rfl, hq1, r1, h1⟩; (try with_reducible replace h1 := undrew h1); have hBA : Below W1.heap.size W1 wA := ba (by go_grown) h1; obtain ⟨hcA, hfA⟩ := bcell h1; have hqA := h1.size; (try simp at hqA); have R1 := Lib.hid r1; clear r1; have hy0 : w.heap.size < wA.heap.size := (by omega); have hy1 : w.heap.size + 1 < wA.heap.size := (by omega); have hy2 : wr.heap.size < wA.heap.size := (by omega); have hy3 : w.heap.size ≤ wA.heap.size := (by omega)) | (go_at_call 71; (with_reducible refine Calls.mono (S2.out _ _ _ ?_) ?_); (focus (exact R1.out.keep (by go_grown))); rintro e wB ⟨rfl, h1⟩; (try with_reducible replace h1 := undrew h1); have hBB : Below W1.heap.size W1 wB := ba (by go_grown) h1; obtain ⟨hcB, hfB⟩ := bcell h1; have hqB := h1.size; (try simp at hqB); have hu0 : w.heap.size < wB.heap.size := (by omega); have hu1 : w.heap.size + 1 < wB.heap.size := (by omega); have hu2 : wr.heap.size < wB.heap.size := (by omega); have hu3 : w.heap.size ≤ wB.heap.size := (by omega)) | (go_at_call 71; (with_reducible refine Calls.mono (S3.out _ ?_) ?_); (focus (go_grown; done)); rintro e wC ⟨rfl, h1⟩; (try with_reducible replace h1 := undrew h1); have hBC : Below W1.heap.size W1 wC := ba (by go_grown) h1; obtain ⟨hcC, hfC⟩ := bcell h1; have hqC := h1.size; (try simp at hqC); have hv0 : w.heap.size < wC.heap.size := (by omega); have hv1 : w.heap.size + 1 < wC.heap.size := (by omega); have hv2 : wr.heap.size < wC.heap.size := (by omega); have hv3 : w.heap.size ≤ wC.heap.size := (by omega); (try have R1 := Lib.hid (R1.out.keep (ba (by go_grown) h1)))))
        all_goals
          go_wp2_with fail
          go_meet
          exact ⟨congrArg Value.bool (eq_dec qn qm), by with_reducible assumption, by go_grown⟩
      case rest =>
        obtain ⟨rfl, ⟨_, _, _, _, x0, x1⟩, hcb⟩ := hcut
        have hsc := hcb.size
        have BC := Lib.hid (hB1.out.trans (hcb.mono hB1.out.size))
        have BC2 := Lib.hid (HB.out.trans (BC.out.mono HB.out.size))
        have QC := Lib.hid (HQ.out.keep BC.out)
        have LC := Lib.hid (HL.out.keep BC.out)
        have hql2 : gq < w2.heap.size := by omega
        clear hcb hS0
        by_cases e : qn = qm
        · have hMM := Lib.hid (show bkK ks rs a ss (k + 1) = bkK ks rs a ss k ++ [(b, tt)] by
            have := HM.out
            rw [show stepN ks rs (b, tt) = (stA rs b tt, stS ks b tt) from rfl, hqn, if_pos e] at this
            exact this)
          have e2 : decide (qn = qm) = true := by simp [e]
          rw [e2]
          obtain ⟨_, xr, ho1, ho2⟩ := LC.out
          have HX1 := Lib.hid ho1
          have HX2 := Lib.hid ho2
          have hll := Lib.hid (BL.out k)
          have hlw := Lib.hid (fun bb ee => (HX1.out.lt bb ee).1)
          clear ho1 ho2 e e2 hqn hqm
          generalize hlen : (bkK ks rs a ss k).length = L at *
          have hL2 : L ≤ 2000000 := by have := hll.out; omega
          go_wp2_with (at_builtin; refine wpList_append_lies _ rfl _ _ 56 rfl w2.heap.size 36 j0 (.agg #[.int .i64 0, .slice none 0 0]) 2 32 Try.underlying56 ji jz0 jz1 jz2 rfl (by decide) _ L xr rfl (HX1.out.alloc _) ⟨wc.heap.size, 0, none⟩ 1 1 [.int .i64 (b : Nat), .slice (some ⟨gq, 0, none⟩) l cq] rfl rfl ?c1 ?c2 (by decide) ?c3 ?c4 ?c5 (wc.heap.size + 1) ?c6 ?_; rotate_right 1; intro g2 cap2 w3 hown hgrow hat hlt9)
          case c1 => exact World.news_of_block (cs := #[.int .i64 (b : Nat), .slice (some ⟨gq, 0, none⟩) l cq]) (heap_alloc_new _ _)
          case c2 => intro u hu; simp at hu; rcases hu with rfl | rfl <;> rfl
          case c3 => unfold maxLen; omega
          case c4 => omega
          case c5 => simp; omega
          case c6 => simp
          have hne1 : some gq ≠ u6.ownBlock := fun ee => by have := hlw.out gq ee.symm; omega
          have hne2 : gq ≠ g2 := fun ee => by
            rcases hat with hat | hat
            · have := hlw.out g2 hat; omega
            · omega
          have hC := (HX2.out.keep (by go_grown : Below wc.heap.size wc (wc.alloc (.cells #[.int .i64 (b : Nat), .slice (some ⟨gq, 0, none⟩) l cq] 36)))).grown hgrow (g' := g2) (by
            rcases hat with hat | hat
            · exact Or.inl hat
            · right; simp; omega)
          have hC2 := hC.snoc (b, tt) gq l cq (SL.out b tt HRN.out) (by intro ee; injection ee with ee; exact hne2 ee) (by omega) ((QC.out.keep (by go_grown)).of_block hgrow.size (hgrow.block gq (by simp; omega) hne1))
          refine ⟨⟨k + 1, by omega, by simp, ⟨fun ee => ?_, xr ++ [.int .i64 (b : Nat), .slice (some ⟨gq, 0, none⟩) l cq], ?_, ?_⟩, ?_⟩, by simp [intOf]; omega⟩
          · rw [hMM.out] at ee; simp at ee
          · rw [hMM.out, List.length_append, hlen]; exact hown
          · rw [hMM.out]; exact hC2
          · exact Below.grown (BC2.out.trans (Below.mono (by go_grown : Below wc.heap.size wc _) BC2.out.size)) hgrow (by simp; omega) (fun bb ee => hlw.out bb ee)
        · have hMM := Lib.hid (show bkK ks rs a ss (k + 1) = bkK ks rs a ss k by
            have := HM.out
            rw [show stepN ks rs (b, tt) = (stA rs b tt, stS ks b tt) from rfl, hqn, if_neg e, List.append_nil] at this
            exact this)
          have e2 : decide (qn = qm) = false := by simp [e]
          rw [e2]
          clear e e2 hqn hqm
          go_wp2_with fail
          go_roundw
          case rel => exact ⟨k + 1, by omega, by go_num, by rw [hMM.out]; exact LC.out, BC2.out⟩
          case measure => simp [intOf]; omega
    · obtain rfl : k = N := by omega
      have HL := Lib.hid hL
      have HB := Lib.hid (B2.out.trans (hB.mono B2.out.size))
      clear hL hB
      go_wp2_with fail
      go_ret2
      obtain ⟨h0, xr, ho1, ho2⟩ := HL.out
      exact ⟨u6, rfl, ⟨h0, xr, ho1.mono (by omega), ho2⟩, HB.out⟩

end Go.Proofs.Ytoaccnpkobbaaaa
