/- Contract of the model: FarthestEnd. -/
import Derived.Test.YtkmgcmgnaeamaaaFy
import Derived.Test.YtkmgcmgnaeamaaaEz
import Derived.Test.YtkmgcmgnaeamaaaQ5
namespace Go.Proofs.Ytkmgcmgnaeamaaa
open Go.ChangeShapes Go.WideShapes Go.ChangeAt Go.RowKit Go.Joins Go.Sort

set_option linter.unusedVariables false
set_option linter.unusedSimpArgs false

/-- The farthest of a first text and the first j ones. -/
def fmB (l : List (List UInt8)) (r : List UInt8) (j : Nat) : List UInt8 := (l.take j).foldl (fun g x => if fgW x g then x else g) r

theorem fmB_next {l : List (List UInt8)} {r b : List UInt8} {j : Nat} (h : l[j]? = some b) : fmB l r (j + 1) = if fgW b (fmB l r j) then b else fmB l r j := by
  rw [fmB, List.take_add_one, h, Option.toList_some, List.foldl_append]
  rfl

theorem fmB_mem {l : List (List UInt8)} {r : List UInt8} (hr : r ∈ l) : ∀ j, fmB l r j ∈ l
  | 0 => by simpa [fmB] using hr
  | j + 1 => by
    have ih := fmB_mem hr j
    by_cases h : j < l.length
    · rw [fmB_next (List.getElem?_eq_getElem h)]
      split
      · exact List.getElem_mem h
      · exact ih
    · rw [show fmB l r (j + 1) = fmB l r j by rw [fmB, fmB, List.take_of_length_le (by omega), List.take_of_length_le (by omega)]]
      exact ih

theorem fm_fg (r : List UInt8) (l : List (List UInt8)) : l.foldl (fgS fgW) (some r) = some (l.foldl (fun g x => if fgW x g then x else g) r) := by
  induction l generalizing r with
  | nil => rfl
  | cons x l ih => rw [List.foldl_cons, List.foldl_cons]; exact ih _

theorem fmB_end {l : List (List UInt8)} {r : List UInt8} (h : l[0]? = some r) : feO l l.length = some (fmB l r l.length) := by
  rw [feO, fmB, List.take_length]
  cases l with
  | nil => simp at h
  | cons x l =>
    simp only [List.getElem?_cons_zero, Option.some.injEq] at h
    subst h
    show fgO fgW (x :: l) = some (l.foldl (fun g x => if fgW x g then x else g) (if fgW x x then x else x))
    rw [ite_self]
    exact fm_fg x l

/-- A block that is one point, not frozen. -/
def PoB (W : World) (g : Nat) (q : Sp) : Prop := W.heap[g]? = some (.cells #[.int .i64 q.x0, .int .i64 q.x1, .int .i64 q.x2, .int .i64 q.x3] 79 (0, 0))

theorem PoB.below {W W' : World} {g m : Nat} {q : Sp} (h : PoB W g q) (hg : g < m) (hb : Below m W W') : PoB W' g q := (hb.block g hg).trans h

theorem PoB.lt {W : World} {g : Nat} {q : Sp} (h : PoB W g q) : g < W.heap.size := (Array.getElem?_eq_some_iff.1 h).1

theorem PoB.cells {W : World} {g : Nat} {q : Sp} (h : PoB W g q) : W.cell? ⟨g, 0, none⟩ = some (.int .i64 q.x0) ∧ W.cell? ⟨g, 1, none⟩ = some (.int .i64 q.x1) ∧ W.cell? ⟨g, 2, none⟩ = some (.int .i64 q.x2) ∧ W.cell? ⟨g, 3, none⟩ = some (.int .i64 q.x3) := blk_cells h

theorem PoB.free {W : World} {g : Nat} {q : Sp} (h : PoB W g q) (i : Nat) : W.frozen? ⟨g, i, none⟩ = false := by
  unfold PoB at h
  simp [World.frozen?, h]

theorem PoB.set {W : World} {g : Nat} {q : Sp} (h : PoB W g q) (p : Sp) : PoB ((((W.setCell ⟨g, 0, none⟩ (.int .i64 p.x0)).setCell ⟨g, 1, none⟩ (.int .i64 p.x1)).setCell ⟨g, 2, none⟩ (.int .i64 p.x2)).setCell ⟨g, 3, none⟩ (.int .i64 p.x3)) g p := blk_set h _ _ _ _

theorem PoB.new (W : World) (q : Sp) : PoB (W.alloc (.cells #[.int .i64 q.x0, .int .i64 q.x1, .int .i64 q.x2, .int .i64 q.x3] 79)) W.heap.size q := heap_alloc_new _ _

set_option maxRecDepth 100000 in
set_option maxHeartbeats 3200000 in
theorem spFarthestEnd (b : Bq) (w : World) : Calls Try.prog 42 #[bv b] w fun e w' => e = .returned (.tuple #[.string (oT (feG b)), bv (feN (feG b)), .bool (bxB 8 b)]) ∧ Below w.heap.size w w' := by
  have PS := Lib.hid (spSmB_any b 8 (by decide))
  unfold feG
  cases hb : bxB 8 b
  · rw [hb] at PS
    have h0 : feN (cond false (feO (bxW b.x.toNat b.r.toNat) (bxW b.x.toNat b.r.toNat).length) none) = ⟨0, 0⟩ := feN_none
    have h1 : oT (cond false (feO (bxW b.x.toNat b.r.toNat) (bxW b.x.toNat b.r.toNat).length) none) = ByteArray.empty := rfl
    rw [h0, h1]
    clear hb h0 h1
    go_enter Try.func42, Try.ntmps42
    go_wp2_with fail
    (go_at_call 64; (with_reducible refine (PS.out _).mono ?_); rintro e wA ⟨rfl, h1⟩; (try with_reducible replace h1 := undrew h1); have hB : Below w.heap.size w wA := ba (by go_grown) h1; obtain ⟨hcwA, hfwA⟩ := bcell h1; have hqwA := h1.size; (try simp at hqwA); (try have hz0wA : w.heap.size < wA.heap.size := (by omega)); (try have he0wA : w.heap.size ≤ wA.heap.size := (by omega)); (try have hz1wA : w.heap.size + 1 < wA.heap.size := (by omega)); (try have he1wA : w.heap.size + 1 ≤ wA.heap.size := (by omega)))
    go_wp2_with fail
    refine bodyPost_ret (by simp [results, Try.results42, go_sem, *]; try rfl) rfl ?_
    exact ⟨rfl, by go_grown⟩
  · rw [hb] at PS
    obtain ⟨s, c, rfl, hsc⟩ := bxB_nat (m := 8) hb
    simp only [Int.toNat_natCast, cond_true]
    have PA := Lib.hid (spAll_any s c (by omega))
    unfold AllPost at PA
    have hlen := bxW8 hsc
    have hpos := bxW_pos s c
    have HTK := Lib.hid (fun r (hr : r ∈ bxW s c) => And.intro (en_okE hsc hr) (fin_okE hsc hr))
    have HFE := Lib.hid (fun r (hr : (bxW s c)[0]? = some r) => fmB_end hr)
    generalize bxW s c = R at *
    obtain ⟨N, hN⟩ : ∃ N, R.length = N := ⟨_, rfl⟩
    have HN := Lib.hid hN
    rw [hN] at hlen hpos
    rw [hN]
    obtain ⟨r0, hr0⟩ : ∃ r, R[0]? = some r := ⟨_, List.getElem?_eq_getElem (by rw [hN]; exact hpos)⟩
    have hfe := HFE.out r0 hr0
    rw [hN] at hfe
    have hm0 := List.mem_of_getElem? hr0
    have HM := Lib.hid (fun j => fmB_mem hm0 j)
    have HR0 := Lib.hid hr0
    rw [hfe]
    have hres : oT (some (fmB R r0 N)) = ofL (fmB R r0 N) ∧ bv (feN (some (fmB R r0 N))) = .agg #[.int .i64 (fin sp0 (fmB R r0 N)).n0, .int .i64 (fin sp0 (fmB R r0 N)).n1] := ⟨rfl, rfl⟩
    rw [hres.1, hres.2]
    clear hb hN hsc hfe hres hr0 HFE
    go_enter Try.func42, Try.ntmps42
    go_wp2_with fail
    (go_at_call 64; (with_reducible refine (PS.out _).mono ?_); rintro e wA ⟨rfl, h1⟩; (try with_reducible replace h1 := undrew h1); have hB : Below w.heap.size w wA := ba (by go_grown) h1; obtain ⟨hcwA, hfwA⟩ := bcell h1; have hqwA := h1.size; (try simp at hqwA); (try have hz0wA : w.heap.size < wA.heap.size := (by omega)); (try have he0wA : w.heap.size ≤ wA.heap.size := (by omega)); (try have hz1wA : w.heap.size + 1 < wA.heap.size := (by omega)); (try have he1wA : w.heap.size + 1 ≤ wA.heap.size := (by omega)))
    go_wp2_with fail
    (with_reducible refine Calls.mono (PA.out _) ?_)
    rintro e w1 ⟨v, rfl, hO, hb1⟩
    rw [HN.out] at hO
    have hB1 := hB.trans (hb1.mono hB.size)
    obtain ⟨g, cv, rfl, _⟩ := hO.form (by omega)
    have hgl := (hO.lt g rfl).2
    have HST := Lib.hid (str_of hO HN.out)
    obtain ⟨hc1, hf1⟩ := bcell hb1
    have hz1 := hb1.size
    have yA1 : w.heap.size + 1 < wA.heap.size := by omega
    have y1 : w.heap.size + 1 < w1.heap.size := by omega
    have q0 : w1.cell? ⟨w.heap.size + 1, 0, none⟩ = some (.int .i64 0) := by go_simp
    have q1 : w1.cell? ⟨w.heap.size + 1, 1, none⟩ = some (.int .i64 0) := by go_simp
    have q2 : w1.frozen? ⟨w.heap.size + 1, 0, none⟩ = false := by go_simp
    have q3 : w1.frozen? ⟨w.heap.size + 1, 1, none⟩ = false := by go_simp
    have HQ := Lib.hid (And.intro (And.intro q0 q1) (And.intro q2 q3))
    have HB1 := Lib.hid hB1
    have c0 := HST.out 0 r0 HR0.out
    obtain ⟨⟨t1, t2⟩, _⟩ := HTK.out r0 hm0
    have TE := tkEnd_yes (ofL r0) t1
    rw [t2] at TE
    have TEH := Lib.hid TE
    clear hO hb1 hB hcwA hfwA h1 hc1 hf1 q0 q1 q2 q3 TE t1 t2
    have hB := hB1
    clear hB1
    obtain ⟨T0, hT0⟩ : ∃ T, ofL r0 = T := ⟨_, rfl⟩
    have HT0 := Lib.hid hT0
    rw [hT0] at c0 TEH
    have hposI : (0 : Int) < (N : Int) := by omega
    clear hT0
    go_wp2_with fail
    (go_at_call 75; (with_reducible refine (TEH.out _).mono ?_); rintro e wB ⟨rfl, h1⟩; (try with_reducible replace h1 := undrew h1); have hB : Below w.heap.size w wB := ba (by go_grown) h1; obtain ⟨hcwB, hfwB⟩ := bcell h1; have hqwB := h1.size; (try simp at hqwB); )
    have HBB := Lib.hid h1
    have hzB := h1.size
    clear h1 hcwB hfwB c0 hB
    go_wp2_with fail
    go_loopw [6, 29] (fun t i wr => ∃ j : Nat, j ≤ N ∧ i = .int .i64 j ∧ t = .string (ofL (fmB R r0 j)) ∧ PoB wr wB.heap.size (fin sp0 (fmB R r0 j)) ∧ Below wB.heap.size wB wr) (fun _ i _ => N - (intOf i).toNat)
    case atStart => exact ⟨0, Nat.zero_le _, rfl, by rw [← HT0.out]; rfl, PoB.new _ _, (Below.refl _ _).alloc (Nat.le_refl _) _⟩
    case round =>
      obtain ⟨j, hj, rfl, rfl, hq, hb⟩ := hrel
      have hzr := hb.size
      have hqlt := hq.lt
      have hB1w : Below w1.heap.size w1 wr := HBB.out.trans (hb.mono hzB)
      obtain ⟨wi, rfl⟩ : ∃ wi : World, wi = wr := ⟨_, rfl⟩
      have hmm := HM.out j
      obtain ⟨_, hbo⟩ := HTK.out _ hmm
      by_cases hlt : j < N
      · obtain ⟨r, hr⟩ : ∃ r, R[j]? = some r := ⟨_, List.getElem?_eq_getElem (by rw [HN.out]; exact hlt)⟩
        obtain ⟨⟨t1, t2⟩, hro⟩ := HTK.out r (List.mem_of_getElem? hr)
        have cr := HST.out.below hgl hB1w j r hr
        have TE := tkEnd_yes (ofL r) t1
        rw [t2] at TE
        have hNX := fmB_next (r := r0) hr
        have hcg : fgW r (fmB R r0 j) = decide (0 < sgn2 ((fin sp0 r).n0 - (fin sp0 (fmB R r0 j)).n0) ((fin sp0 r).n1 - (fin sp0 (fmB R r0 j)).n1)) := rfl
        obtain ⟨a0, a1, a2, a3⟩ := fe_nm hro
        obtain ⟨b0, b1, b2, b3⟩ := fe_nm hbo
        have PC := Lib.hid (ptCompare_any (fin sp0 r).n0 (fin sp0 r).n1 (fin sp0 (fmB R r0 j)).n0 (fin sp0 (fmB R r0 j)).n1 (by omega) (by omega) (by omega) (by omega) (by omega) (by omega) (by omega) (by omega))
        have NA0 : ∀ w, Calls Try.prog 78 #[.agg #[.int .i64 (fin sp0 r).x0, .int .i64 (fin sp0 r).x1, .int .i64 (fin sp0 r).x2, .int .i64 (fin sp0 r).x3]] w fun e w' => e = .returned (.agg #[.int .i64 (fin sp0 r).n0, .int .i64 (fin sp0 r).n1]) ∧ Below w.heap.size w w' := fun w => spNorm_any _ _ _ _ w
        have NB0 : ∀ w, Calls Try.prog 78 #[.agg #[.int .i64 (fin sp0 (fmB R r0 j)).x0, .int .i64 (fin sp0 (fmB R r0 j)).x1, .int .i64 (fin sp0 (fmB R r0 j)).x2, .int .i64 (fin sp0 (fmB R r0 j)).x3]] w fun e w' => e = .returned (.agg #[.int .i64 (fin sp0 (fmB R r0 j)).n0, .int .i64 (fin sp0 (fmB R r0 j)).n1]) ∧ Below w.heap.size w w' := fun w => spNorm_any _ _ _ _ w
        have hE1 : fgW r (fmB R r0 j) = true → ofL (fmB R r0 (j + 1)) = ofL r ∧ fin sp0 (fmB R r0 (j + 1)) = fin sp0 r := fun h => by rw [hNX, h]; exact ⟨rfl, rfl⟩
        have hE0 : fgW r (fmB R r0 j) = false → ofL (fmB R r0 (j + 1)) = ofL (fmB R r0 j) ∧ fin sp0 (fmB R r0 (j + 1)) = fin sp0 (fmB R r0 j) := fun h => by rw [hNX, h]; exact ⟨rfl, rfl⟩
        have HE1 := Lib.hid hE1
        have HE0 := Lib.hid hE0
        have NA := Lib.hid NA0
        have NB := Lib.hid NB0
        have TEH2 := Lib.hid TE
        clear hE1 hE0 NA0 NB0 TE hNX hr hro hbo hmm t1 t2 a0 a1 a2 a3 b0 b1 b2 b3 hposI
        generalize fgW r (fmB R r0 j) = B at *
        generalize fmB R r0 j = y at *
        generalize sgn2 ((fin sp0 r).n0 - (fin sp0 y).n0) ((fin sp0 r).n1 - (fin sp0 y).n1) = z at *
        generalize (fin sp0 r).n0 = m0 at *
        generalize (fin sp0 r).n1 = m1 at *
        generalize (fin sp0 y).n0 = l0 at *
        generalize (fin sp0 y).n1 = l1 at *
        generalize fin sp0 r = x at *
        generalize fin sp0 y = q at *
        generalize ofL r = X at *
        generalize ofL y = Y at *
        have HB := Lib.hid hb
        have HQB := Lib.hid hq
        have hwB := Lib.hid (HB1.out.trans (hB1w.mono HB1.out.size))
        clear hb hq hB1w
        cases B
        · have hz0 : ¬ 0 < z := by simpa using hcg
          have HU := Lib.hid (HE0.out rfl)
          have hB : Below w.heap.size w wi := hwB.out
          clear hcg HE0 HE1
          go_wp2_with fail
          (go_at_call 75; (with_reducible refine (TEH2.out _).mono ?_); rintro e wT ⟨rfl, h1⟩; (try with_reducible replace h1 := undrew h1); have hB : Below w.heap.size w wT := ba (by go_grown) h1; obtain ⟨hcwT, hfwT⟩ := bcell h1; have hqwT := h1.size; (try simp at hqwT); )
          have hqT := HQB.out.below hqlt h1
          have hqltT := hqT.lt
          obtain ⟨e0, e1, e2, e3⟩ := hqT.cells
          have hzT := h1.size
          have hbT := HB.out.trans (h1.mono hzr)
          replace hB : Below w.heap.size w wT := hwB.out.trans (h1.mono hwB.out.size)
          have HQT := Lib.hid hqT
          have HBT := Lib.hid hbT
          clear h1 hcwT hfwT cr hqT hbT
          go_wp2_with fail
          refine absWB (F := fun V => (V.cell? ⟨wT.heap.size, 0, none⟩ = some (.int .i64 x.x0)) ∧ (V.cell? ⟨wT.heap.size, 1, none⟩ = some (.int .i64 x.x1)) ∧ (V.cell? ⟨wT.heap.size, 2, none⟩ = some (.int .i64 x.x2)) ∧ (V.cell? ⟨wT.heap.size, 3, none⟩ = some (.int .i64 x.x3)) ∧ (V.cell? ⟨wB.heap.size, 0, none⟩ = some (.int .i64 q.x0)) ∧ (V.cell? ⟨wB.heap.size, 1, none⟩ = some (.int .i64 q.x1)) ∧ (V.cell? ⟨wB.heap.size, 2, none⟩ = some (.int .i64 q.x2)) ∧ (V.cell? ⟨wB.heap.size, 3, none⟩ = some (.int .i64 q.x3)) ∧ (Below wT.heap.size wT V) ∧ (PoB V wT.heap.size x) ∧ Below w.heap.size w V) ⟨by go_simp, by go_simp, by go_simp, by go_simp, by go_simp, by go_simp, by go_simp, by go_simp, (Below.refl _ wT).alloc (Nat.le_refl _) _, PoB.new _ _, by go_grown⟩ ?_
          rintro V ⟨ca0_0, ca1_1, ca2_2, ca3_3, cb0_0, cb1_1, cb2_2, cb3_3, hqX, hnX, HB⟩
          have ka0_0 := fun d os => cell_regrown ca0_0 d os
          have ka1_1 := fun d os => cell_regrown ca1_1 d os
          have ka2_2 := fun d os => cell_regrown ca2_2 d os
          have ka3_3 := fun d os => cell_regrown ca3_3 d os
          have kb0_0 := fun d os => cell_regrown cb0_0 d os
          have kb1_1 := fun d os => cell_regrown cb1_1 d os
          have kb2_2 := fun d os => cell_regrown cb2_2 d os
          have kb3_3 := fun d os => cell_regrown cb3_3 d os
          refine wp_region_quiet_below (by kernel_rfl) (by kernel_rfl) ?_
          repeat (quiet_step (first | (go_at_call 78; with_reducible exact Calls.regrown_of (NA.out _)) | (go_at_call 78; with_reducible exact Calls.regrown_of (NB.out _)) | (go_at_call 77; with_reducible exact Calls.regrown_of (PC.out _))))
          refine wpQuiet_nil ?_
          rintro _ ⟨⟨dq, osq⟩, rfl⟩
          have hbwz := below_regrown V dq osq
          generalize grow (redrawn V dq) osq = wz at hbwz ⊢
          obtain ⟨hcwz, hfwz⟩ := bcell hbwz
          have hlwz := hbwz.size
          replace HB := ba HB hbwz
          have hqz := ba hqX hbwz
          have HBZ := Lib.hid (HBT.out.trans (hqz.mono (by omega)))
          have HQZ := Lib.hid (HQT.out.below hqltT hqz)
          clear hqX hbwz hcwz hfwz hqz hnX hB e0 e1 e2 e3
          go_wp2_with fail
          go_roundw
          case rel => exact ⟨j + 1, by omega, by go_num, by rw [HU.out.1], by rw [HU.out.2]; exact HQZ.out, HBZ.out⟩
          case measure => simp [intOf]; omega
        · have hz0 : 0 < z := by simpa using hcg
          have HU := Lib.hid (HE1.out rfl)
          have hB : Below w.heap.size w wi := hwB.out
          clear hcg HE0 HE1
          go_wp2_with fail
          (go_at_call 75; (with_reducible refine (TEH2.out _).mono ?_); rintro e wT ⟨rfl, h1⟩; (try with_reducible replace h1 := undrew h1); have hB : Below w.heap.size w wT := ba (by go_grown) h1; obtain ⟨hcwT, hfwT⟩ := bcell h1; have hqwT := h1.size; (try simp at hqwT); )
          have hqT := HQB.out.below hqlt h1
          have hqltT := hqT.lt
          obtain ⟨e0, e1, e2, e3⟩ := hqT.cells
          have hzT := h1.size
          have hbT := HB.out.trans (h1.mono hzr)
          replace hB : Below w.heap.size w wT := hwB.out.trans (h1.mono hwB.out.size)
          have HQT := Lib.hid hqT
          have HBT := Lib.hid hbT
          clear h1 hcwT hfwT cr hqT hbT
          go_wp2_with fail
          refine absWB (F := fun V => (V.cell? ⟨wT.heap.size, 0, none⟩ = some (.int .i64 x.x0)) ∧ (V.cell? ⟨wT.heap.size, 1, none⟩ = some (.int .i64 x.x1)) ∧ (V.cell? ⟨wT.heap.size, 2, none⟩ = some (.int .i64 x.x2)) ∧ (V.cell? ⟨wT.heap.size, 3, none⟩ = some (.int .i64 x.x3)) ∧ (V.cell? ⟨wB.heap.size, 0, none⟩ = some (.int .i64 q.x0)) ∧ (V.cell? ⟨wB.heap.size, 1, none⟩ = some (.int .i64 q.x1)) ∧ (V.cell? ⟨wB.heap.size, 2, none⟩ = some (.int .i64 q.x2)) ∧ (V.cell? ⟨wB.heap.size, 3, none⟩ = some (.int .i64 q.x3)) ∧ (Below wT.heap.size wT V) ∧ (PoB V wT.heap.size x) ∧ Below w.heap.size w V) ⟨by go_simp, by go_simp, by go_simp, by go_simp, by go_simp, by go_simp, by go_simp, by go_simp, (Below.refl _ wT).alloc (Nat.le_refl _) _, PoB.new _ _, by go_grown⟩ ?_
          rintro V ⟨ca0_0, ca1_1, ca2_2, ca3_3, cb0_0, cb1_1, cb2_2, cb3_3, hqX, hnX, HB⟩
          have ka0_0 := fun d os => cell_regrown ca0_0 d os
          have ka1_1 := fun d os => cell_regrown ca1_1 d os
          have ka2_2 := fun d os => cell_regrown ca2_2 d os
          have ka3_3 := fun d os => cell_regrown ca3_3 d os
          have kb0_0 := fun d os => cell_regrown cb0_0 d os
          have kb1_1 := fun d os => cell_regrown cb1_1 d os
          have kb2_2 := fun d os => cell_regrown cb2_2 d os
          have kb3_3 := fun d os => cell_regrown cb3_3 d os
          refine wp_region_quiet_below (by kernel_rfl) (by kernel_rfl) ?_
          repeat (quiet_step (first | (go_at_call 78; with_reducible exact Calls.regrown_of (NA.out _)) | (go_at_call 78; with_reducible exact Calls.regrown_of (NB.out _)) | (go_at_call 77; with_reducible exact Calls.regrown_of (PC.out _))))
          refine wpQuiet_nil ?_
          rintro _ ⟨⟨dq, osq⟩, rfl⟩
          have hbwz := below_regrown V dq osq
          generalize grow (redrawn V dq) osq = wz at hbwz ⊢
          obtain ⟨hcwz, hfwz⟩ := bcell hbwz
          have hlwz := hbwz.size
          replace HB := ba HB hbwz
          have hqz := ba hqX hbwz
          have HBZ := Lib.hid (HBT.out.trans (hqz.mono (by omega)))
          have hpz := HQT.out.below hqltT hqz
          have hnz := hnX.below hnX.lt hbwz
          have HQZ := Lib.hid (hpz.set x)
          obtain ⟨s0, s1, s2, s3⟩ := hpz.cells
          obtain ⟨u0, u1, u2, u3⟩ := hnz.cells
          have f0 := hpz.free 0
          have f1 := hpz.free 1
          have f2 := hpz.free 2
          have f3 := hpz.free 3
          have HBS := Lib.hid ((((HBZ.out.setCell (p := ⟨wB.heap.size, 0, none⟩) (Nat.le_refl _) (.int .i64 x.x0)).setCell (p := ⟨wB.heap.size, 1, none⟩) (Nat.le_refl _) (.int .i64 x.x1)).setCell (p := ⟨wB.heap.size, 2, none⟩) (Nat.le_refl _) (.int .i64 x.x2)).setCell (p := ⟨wB.heap.size, 3, none⟩) (Nat.le_refl _) (.int .i64 x.x3))
          clear hqX hbwz hcwz hfwz hqz hnX hB e0 e1 e2 e3 hpz hnz
          go_wp2_with fail
          go_roundw
          case rel => exact ⟨j + 1, by omega, by go_num, by rw [HU.out.1], by rw [HU.out.2]; exact HQZ.out, HBS.out⟩
          case measure => simp [intOf]; omega
      · obtain rfl : j = N := by omega
        have NB0 : ∀ w, Calls Try.prog 78 #[.agg #[.int .i64 (fin sp0 (fmB R r0 j)).x0, .int .i64 (fin sp0 (fmB R r0 j)).x1, .int .i64 (fin sp0 (fmB R r0 j)).x2, .int .i64 (fin sp0 (fmB R r0 j)).x3]] w fun e w' => e = .returned (.agg #[.int .i64 (fin sp0 (fmB R r0 j)).n0, .int .i64 (fin sp0 (fmB R r0 j)).n1]) ∧ Below w.heap.size w w' := fun w => spNorm_any _ _ _ _ w
        have NB := Lib.hid NB0
        obtain ⟨⟨q0, q1⟩, q2, q3⟩ := HQ.out
        have p0 : wi.cell? ⟨w.heap.size + 1, 0, none⟩ = some (.int .i64 0) := by rw [hB1w.cell (p := ⟨w.heap.size + 1, 0, none⟩) y1]; exact q0
        have p1 : wi.cell? ⟨w.heap.size + 1, 1, none⟩ = some (.int .i64 0) := by rw [hB1w.cell (p := ⟨w.heap.size + 1, 1, none⟩) y1]; exact q1
        have p2 : wi.frozen? ⟨w.heap.size + 1, 0, none⟩ = false := by rw [hB1w.frozen (p := ⟨w.heap.size + 1, 0, none⟩) y1]; exact q2
        have p3 : wi.frozen? ⟨w.heap.size + 1, 1, none⟩ = false := by rw [hB1w.frozen (p := ⟨w.heap.size + 1, 1, none⟩) y1]; exact q3
        have hB : Below w.heap.size w wi := HB1.out.trans (hB1w.mono HB1.out.size)
        have hwi := hB1w.size
        have yi : w.heap.size + 1 < wi.heap.size := by omega
        obtain ⟨e0, e1, e2, e3⟩ := hq.cells
        clear NB0 q0 q1 q2 q3 hbo hmm hb hB1w hposI hq
        generalize E0 : (fin sp0 (fmB R r0 j)).n0 = l0 at *
        generalize E1 : (fin sp0 (fmB R r0 j)).n1 = l1 at *
        have HE := Lib.hid (And.intro E0 E1)
        clear E0 E1
        generalize fin sp0 (fmB R r0 j) = q at e0 e1 e2 e3 NB
        generalize E2 : ofL (fmB R r0 j) = Y at *
        have HY := Lib.hid E2
        clear E2
        go_wp2_with fail
        (go_at_call 78; (with_reducible refine (NB.out _).mono ?_); rintro e wN ⟨rfl, h1⟩; (try with_reducible replace h1 := undrew h1); have hB : Below w.heap.size w wN := ba (by go_grown) h1; obtain ⟨hcwN, hfwN⟩ := bcell h1; have hqwN := h1.size; (try simp at hqwN); (try have hz0wN : w.heap.size + 1 < wN.heap.size := (by omega)); (try have he0wN : w.heap.size + 1 ≤ wN.heap.size := (by omega)))
        go_wp2_with fail
        refine bodyPost_ret (by simp [results, Try.results42, go_sem, *]; try rfl) rfl ?_
        exact ⟨by rw [HE.out.1, HE.out.2, HY.out], by go_grown⟩

end Go.Proofs.Ytkmgcmgnaeamaaa
