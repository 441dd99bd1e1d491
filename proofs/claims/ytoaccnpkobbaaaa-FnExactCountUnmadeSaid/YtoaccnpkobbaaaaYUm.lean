/- Contract: how many runs no step makes, in the model. -/
import Derived.Test.YtoaccnpkobbaaaaYAl
import Derived.Test.YtoaccnpkobbaaaaYCr
namespace Go.Proofs.Ytoaccnpkobbaaaa
open Go.ChangeShapes Go.WideShapes Go.ChangeAt Go.RowKit
open Yd

set_option linter.unusedVariables false

/-- Block g holds n truths, f of their places. -/
def BLs (w : World) (g n : Nat) (f : Nat → Bool) : Prop := g < w.heap.size ∧ ∀ j : Nat, j < n → w.cell? ⟨g, j, none⟩ = some (.bool (f j)) ∧ w.frozen? ⟨g, j, none⟩ = false

theorem BLs.keep {w w' : World} {g n : Nat} {f : Nat → Bool} (h : BLs w g n f) (hb : Below w.heap.size w w') : BLs w' g n f :=
  ⟨Nat.lt_of_lt_of_le h.1 hb.size, fun j hj => ⟨cl_below (h.2 j hj).1 h.1 hb, (hb.frozen (p := ⟨g, j, none⟩) h.1).trans (h.2 j hj).2⟩⟩

theorem BLs.set {w : World} {g n k : Nat} {f f' : Nat → Bool} (h : BLs w g n f) (hf : ∀ j, f' j = (f j || k == j)) : BLs (w.setCell ⟨g, k, none⟩ (.bool true)) g n f' :=
  ⟨by simpa using h.1, fun j hj => ⟨by
    rw [hf]
    by_cases e : k = j
    · subst e
      rw [World.cell?_setCell_same (h := (h.2 k hj).1)]; simp
    · rw [World.cell?_setCell_other (h := fun q => e (by injection q)), (h.2 j hj).1]; simp [e], by rw [World.frozen?_setCell]; exact (h.2 j hj).2⟩⟩

theorem boolInfo : (Try.prog.info? 4).map (fun i => (i.zero, i.size, i.bytes)) = some (some (.bool false), 1, 1) := by kernel_rfl

theorem mkBools (n : Nat) (hn : n ≤ 2000000) (w : World) : (Instr.makeSlice 86 (.int .i64 ((n : Nat) : Int)) (.int .i64 ((n : Nat) : Int))).run Try.prog w = .ok (.slice (some ⟨w.heap.size, 0, none⟩) n n) (w.alloc (.cells (madeCells #[.bool false] n) 4)) :=
  run_make_row' (P := Try.prog) 86 4 (.bool false) 1 Try.underlying86 boolInfo rfl .i64 .i64 n (by omega) (by omega) w

theorem BLs.made (w : World) (n : Nat) : BLs (w.alloc (.cells (madeCells #[.bool false] n) 4)) w.heap.size n (fun _ => false) :=
  let h := World.rowIs_made w (.bool false) n 4
  ⟨World.rowIs.lt h, fun j hj => ⟨World.rowIs.cell h hj, World.rowIs.frozen h j⟩⟩

/-- Is the run with number i made of one of the first k? -/
def mdF (ks rs : List Int) (k i : Nat) : Bool := (List.range k).any fun m => num (stepN ks rs (dc ks.length m)) == i

theorem mdF_succ (ks rs : List Int) (k i : Nat) : mdF ks rs (k + 1) i = (mdF ks rs k i || num (stepN ks rs (dc ks.length k)) == i) := by simp [mdF, List.range_succ]

/-- How many of the first k are not made. -/
def unC (ks rs : List Int) (N k : Nat) : Nat := (List.range k).countP fun i => !mdF ks rs N i

theorem unC_succ (ks rs : List Int) (N k : Nat) : unC ks rs N (k + 1) = unC ks rs N k + (if mdF ks rs N k = true then 0 else 1) := by
  rw [unC, List.range_succ, List.countP_append]
  cases h : mdF ks rs N k <;> simp [unC, h]

theorem unC_le (ks rs : List Int) (N k : Nat) : unC ks rs N k ≤ k := by
  rw [unC]; have := List.countP_le_length (p := fun i => !mdF ks rs N i) (l := List.range k); simpa using this

theorem unC_all {ks rs : List Int} (hg : YdOk ks rs) : unC ks rs (3 * ks.length * 2 ^ ks.length) (3 * ks.length * 2 ^ ks.length) = crN ks rs / 3 := by
  have e : crN ks rs / 3 = unN ks rs := by rw [crN_yes ((good_iff ks rs).2 hg), Nat.mul_assoc, Nat.mul_div_cancel_left _ (by decide), unN_eq hg]
  rw [e]; rfl

set_option maxRecDepth 100000 in
set_option maxHeartbeats 3200000 in
theorem spCountUnmade (g c h d n m : Nat) (ks rs : List Int) (hn : ks.length = n) (hm : rs.length = m) (hb : n ≤ 2000000) (hb' : m ≤ 2000000) (w : World) (h1 : RL w g n ks) (h2 : RL w h m rs) :
    Calls Try.prog 51 #[.agg #[.slice (some ⟨g, 0, none⟩) n c, .slice (some ⟨h, 0, none⟩) m d]] w fun e w' => e = .returned (.tuple #[.int .i64 ((crN ks rs / 3 : Nat) : Int), .bool (ydB ks rs)]) ∧ Below w.heap.size w w' := by
  have P := Lib.hid (fun w' (hw : Below w.heap.size w w') => ydGood_any g n c h m d ks rs hn hm hb hb' w' (h1.keep hw) (h2.keep hw))
  cases hy : ydB ks rs
  · have HY := Lib.hid hy
    clear hn hm h1 h2
    go_enter Try.func51, Try.ntmps51
    go_wp2_with fail
    refine (P.out _ (by go_grown)).mono ?_
    rintro e w1 ⟨rfl, k1⟩
    have hB : Below w.heap.size w w1 := ba (by go_grown) k1
    clear k1
    go_wp2_with fail
    go_ret2
    exact ⟨by rw [crN_no HY.out]; rfl, hB⟩
  · have hg := (good_iff ks rs).1 hy
    have hnr : m = 3 * n := by rw [← hm, ← hn]; exact hg.nr
    have n1 : 1 ≤ n := by rw [← hn]; exact hg.n1
    have n6 : n ≤ 6 := by rw [← hn]; exact hg.n6
    have hU := unC_all hg
    have AL := Lib.hid (fun w' => ydAll_any g c h d n m n1 n6 hnr w')
    have RN := Lib.hid (fun k (hk : k < 3 * n * 2 ^ n) => show RnOk ks (dc n k).1 (dc n k).2 from by rw [← hn]; exact dc_run (by rw [hn]; exact hk))
    have ST := Lib.hid (fun (a : Nat) ss (hx : RnOk ks a ss) (q c' : Nat) w' (hw : Below w.heap.size w w') (hq : RL w' q n ss) => ydStep_any a g c h d q c' n m n ks rs ss hn hm (by rw [hx.len, hn]) hg hx w' (h1.keep hw) (h2.keep hw) hq)
    have NU := Lib.hid (fun (a : Nat) ss (hx : RnOk ks a ss) (q c' : Nat) w' (hq : RL w' q n ss) => ydNumber_any a q n c' ss (by rw [hx.len, hn]) n6 (by have := hx.at'; omega) hx.mem w' hq)
    have SP := Lib.hid (fun a ss (hx : RnOk ks a ss) => hx.step hg)
    have NL := Lib.hid (fun a ss (hx : RnOk ks a ss) => show num (a, ss) < 3 * n * 2 ^ n from by have := num_lt hx; rw [hn] at this; exact this)
    have SL := Lib.hid (fun a ss (hx : RnOk ks a ss) => show ss.length = n from by rw [hx.len, hn])
    have MS := Lib.hid (mdF_succ ks rs)
    rw [hn] at MS hU
    have hN2 : 3 * n * 2 ^ n ≤ 2000000 := by
      rcases six n1 n6 with e | e | e | e | e | e <;> rw [e] <;> decide
    have hN0 : 0 < 3 * n * 2 ^ n := Nat.mul_pos (by omega) (Nat.two_pow_pos n)
    rw [← hU]
    clear hU
    have HY := Lib.hid hy
    generalize hN : 3 * n * 2 ^ n = N at *
    have ALN := Lib.hid hN
    have hmk := mkBools N hN2
    clear hn hm h1 h2 hg hy hnr hN
    go_enter Try.func51, Try.ntmps51
    go_wp2_with fail
    refine (P.out _ (by go_grown)).mono ?_
    rintro e w1 ⟨rfl, k1⟩
    rw [HY.out]
    have hB : Below w.heap.size w w1 := ba (by go_grown) k1
    have hs := k1.size
    simp at hs
    have z0 : w.heap.size < w1.heap.size := by omega
    have c0 := cl_below (b := w.heap.size) (o := 0) (v := .slice (some ⟨g, 0, none⟩) _ c) (by simp [go_sem]; rfl) (by simp <;> omega) k1
    have c1 := cl_below (b := w.heap.size) (o := 1) (v := .slice (some ⟨h, 0, none⟩) _ d) (by simp [go_sem]; rfl) (by simp <;> omega) k1
    clear k1
    go_wp2_with fail
    refine (AL.out _).mono ?_
    rintro e w2 ⟨gA, cA, xs, rfl, hown, hC, k2⟩
    rw [ALN.out] at hown hC
    rw [ALN.out]
    have hs2 := k2.size
    have B2 := Lib.hid (hB.trans (k2.mono hB.size))
    have d0 := cl_below c0 z0 k2
    have d1 := cl_below c1 z0 k2
    have z2 : w.heap.size < w2.heap.size := by omega
    have hgA := (hown.lt gA rfl).2
    have HO := Lib.hid hown
    have HC := Lib.hid hC
    clear c0 c1 k2 hown hC hB
    go_wp2_with fail
    have R0 := Lib.hid (BLs.made w2 N)
    have RB := Lib.hid (by go_grown : Below w2.heap.size w2 (w2.alloc (.cells (madeCells #[.bool false] N) 4)))
    go_loopw [21] (fun i wr => ∃ k : Nat, k ≤ N ∧ i = .int .i64 k ∧ BLs wr w2.heap.size N (mdF ks rs k) ∧ Below w2.heap.size w2 wr) (fun i _ => N - (intOf i).toNat)
    case atStart => exact ⟨0, Nat.zero_le _, rfl, R0.out, RB.out⟩
    case round =>
      obtain ⟨k, hk, rfl, hL, hB⟩ := hrel
      have hsr := hB.size
      have HBR := Lib.hid (B2.out.trans (hB.mono B2.out.size))
      by_cases hlt : k < N
      · have i1 : (0 : Int) ≤ (k : Int) := by omega
        have i2 : (k : Int) < (N : Int) := by omega
        obtain ⟨gq, cq, e1, e2, _, _, hq⟩ := HC.out.2 k (dc n k) (alN_get hlt)
        obtain ⟨a, ss, hx⟩ : ∃ a ss, dc n k = (a, ss) := ⟨_, _, rfl⟩
        have hR := RN.out k hlt
        have hM := MS.out k
        rw [hx] at hR hM hq e1 e2
        simp only at hR hM hq e1 e2
        rw [SL.out a ss hR] at e2 hq
        have a0 := cl_below ((HO.out.cellAt (2 * k) (by omega)).trans e1) hgA hB
        have a1 := cl_below ((HO.out.cellAt (2 * k + 1) (by omega)).trans e2) hgA hB
        rw [Nat.mul_comm] at a0 a1
        have y0 := cl_below d0 z2 hB
        have y1 := cl_below d1 z2 hB
        have hgr : gA < wr.heap.size := by omega
        have zr : w.heap.size < wr.heap.size := by omega
        have S1 := Lib.hid (fun w' hw => ST.out a ss hR gq cq w' (HBR.out.trans (Below.mono hw HBR.out.size)) (hq.keep (hB.trans (Below.mono hw hB.size))))
        have S2 := Lib.hid (fun q c' w' hr => NU.out (stA rs a ss) (stS ks a ss) (SP.out a ss hR) q c' w' hr)
        have hnl := NL.out _ _ (SP.out a ss hR)
        have HM := Lib.hid (show ∀ i, mdF ks rs (k + 1) i = (mdF ks rs k i || num (stA rs a ss, stS ks a ss) == i) from hM)
        have HL := Lib.hid hL
        have HB := Lib.hid hB
        clear hR hM hq e1 e2 hL hB hx
        go_wp2_with fail
        refine (S1.out _ (by go_grown)).mono ?_
        rintro e wA ⟨q1, c1', rfl, hq1, r1, k1⟩
        have BA := Lib.hid (ba (by go_grown) k1 : Below wr.heap.size wr wA)
        clear k1
        go_wp2_with fail
        refine (S2.out _ _ _ r1).mono ?_
        rintro e wB ⟨rfl, k2⟩
        have BB := Lib.hid (BA.out.trans (k2.mono BA.out.size))
        have hBL := HL.out.keep BB.out
        obtain ⟨b0, b1⟩ := hBL.2 _ hnl
        generalize num (stA rs a ss, stS ks a ss) = q at *
        have HBL := Lib.hid hBL
        have i3 : (0 : Int) ≤ (q : Int) := by omega
        have i4 : (q : Int) < (N : Int) := by omega
        clear k2 r1 hBL
        go_wp2_with fail
        go_roundw
        case rel => exact ⟨k + 1, by omega, by go_num, HBL.out.set (fun j => by rw [HM.out]), (HB.out.trans (BB.out.mono hsr)).setCell (by simp) _⟩
        case measure => simp [intOf]; omega
      · obtain rfl : k = N := by omega
        have HL := Lib.hid hL
        have HB := Lib.hid hB
        clear hL hB
        go_wp2_with fail
        go_loop [8, 34] (fun v i => ∃ j : Nat, j ≤ k ∧ i = .int .i64 j ∧ v = .int .i64 (unC ks rs k j : Nat)) (fun _ i => k - (intOf i).toNat)
        case atStart => exact ⟨0, Nat.zero_le _, rfl, rfl⟩
        case round =>
          obtain ⟨j, hj, rfl, rfl⟩ := hrel
          by_cases hlt2 : j < k
          · have i1 : (0 : Int) ≤ (j : Int) := by omega
            have i2 : (j : Int) < (k : Int) := by omega
            have hU := Lib.hid (unC_succ ks rs k j)
            have hle := unC_le ks rs k j
            have a0 := (HL.out.2 j hlt2).1
            generalize unC ks rs k j = q at *
            have i3 : (0 : Int) ≤ (q : Int) := by omega
            have i4 : (q : Int) ≤ 2000000 := by omega
            cases hf : mdF ks rs k j
            · rw [hf] at a0
              have HF := Lib.hid hf
              clear hf
              go_wp2_with fail
              go_round
              case rel => exact ⟨j + 1, by omega, by go_num, by rw [hU.out, HF.out]; simp⟩
              case measure => simp [intOf]; omega
            · rw [hf] at a0
              have HF := Lib.hid hf
              clear hf
              go_wp2_with fail
              go_round
              case rel => exact ⟨j + 1, by omega, by go_num, by rw [hU.out, HF.out]; simp⟩
              case measure => simp [intOf]; omega
          · obtain rfl : j = k := by omega
            generalize hq : unC ks rs j j = q
            go_wp2_with fail
            go_ret2
            exact ⟨rfl, HBR.out⟩

end Go.Proofs.Ytoaccnpkobbaaaa
