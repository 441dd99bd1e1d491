/- Contract: the tracks laid whole from a box, with their ends, in the program. -/
import Derived.Test.YtkmgcmgnaeamaaaQ5
namespace Go.Proofs.Ytkmgcmgnaeamaaa
open Go.ChangeShapes Go.WideShapes Go.ChangeAt Go.RowKit Go.Joins Go.Sort

set_option linter.unusedVariables false
set_option linter.unusedSimpArgs false

/-- Those of the first j parts that have s straights. -/
def wtU (s : Nat) (R : List (Sp × List UInt8)) (j : Nat) : List (Sp × List UInt8) := (R.take j).filter fun p => cnt 83 p.2 == s

theorem wtU_next {s : Nat} {R : List (Sp × List UInt8)} {j : Nat} {p : Sp × List UInt8} (h : R[j]? = some p) : wtU s R (j + 1) = if cnt 83 p.2 = s then wtU s R j ++ [p] else wtU s R j := by
  simp only [wtU, List.take_add_one, h, Option.toList_some, List.filter_append, List.filter_cons, List.filter_nil, beq_iff_eq]
  split <;> simp

theorem wtU_le (s : Nat) (R : List (Sp × List UInt8)) (j : Nat) : (wtU s R j).length ≤ j := Nat.le_trans (List.length_filter_le _ _) (List.length_take_le _ _)

/-- The tracks laid whole from a box, with their ends. -/
def wtP (s c : Nat) : List (Sp × List UInt8) := (bxW s c).map fun w => (fin sp0 w, w)

theorem wtU_end (s c : Nat) : wtU s (parts sp0 (s + c)) (parts sp0 (s + c)).length = wtP s c := by
  rw [wtU, List.take_length, wtP, bxW, parts, List.filter_map]
  rfl

theorem wt_ok {n : Nat} (hn : n ≤ 40) {p : Sp × List UInt8} (h : p ∈ parts sp0 n) : tkB (ofL p.2) = true ∧ stN (ofL p.2) = cnt 83 p.2 ∧ cvN (ofL p.2) = n - cnt 83 p.2 ∧ cnt 83 p.2 ≤ n := by
  obtain ⟨r, hr, rfl⟩ := List.mem_map.1 h
  have h1 := (words_iffB n r).1 hr
  have e : (ofL r).data.toList = r := by simp [ofL]
  have := cnt_le 83 r
  exact ⟨tkB_ltr (show r.length ≤ 40 by omega) h1.2, by rw [stN, e], by rw [cvN, e, ofL_size, h1.1], by show cnt 83 r ≤ n; omega⟩

theorem parts8 {n : Nat} (h : n ≤ 8) : 3 ^ n ≤ 6561 := Nat.le_trans (Nat.pow_le_pow_right (by decide) h) (by decide)

set_option maxRecDepth 100000 in
theorem pieces_anyW (s c n : Nat) (hn : s + c = n) (h : n ≤ 40) (w : World) : Calls Try.prog 67 #[bv ⟨(s : Int), (c : Int)⟩] w fun e w' => e = .returned (.int .i64 (n : Int)) ∧ Below w.heap.size w w' := by
  have e : (s : Int) + (c : Int) = (n : Int) := by omega
  have e2 := w64N n (by omega)
  clear hn
  go_enter Try.func67, Try.ntmps67
  go_wp2_with fail
  go_returns
  exact ⟨rfl, by go_grown⟩

/-- A block that is one part. -/
def PtB (W : World) (g : Nat) (q : Sp) (T : ByteArray) : Prop := W.heap[g]? = some (.cells #[.int .i64 q.x0, .int .i64 q.x1, .int .i64 q.x2, .int .i64 q.x3, .int .i64 q.h, .string T] 93 (0, 0))

theorem PtB.below {W W' : World} {g m : Nat} {q : Sp} {T : ByteArray} (h : PtB W g q T) (hg : g < m) (hb : Below m W W') : PtB W' g q T := (hb.block g hg).trans h

def WtPost (s c : Nat) (w : World) (e : Ending) (w' : World) : Prop :=
  ∃ v, e = .returned v ∧ w'.ownsRow w.heap.size 93 6 v (wtP s c).length (prtCells (wtP s c)) ∧ Below w.heap.size w w'

set_option maxRecDepth 100000 in
set_option maxHeartbeats 1600000 in
theorem wholeTracks_any (s c : Nat) (h : s + c ≤ 8) (w : World) : Calls Try.prog 76 #[bv ⟨(s : Int), (c : Int)⟩] w (WtPost s c w) := by
  obtain ⟨i0, hi, iz0, iz1, iz2⟩ := info_parts ptInfoP
  obtain ⟨n, hn⟩ : ∃ n, s + c = n := ⟨_, rfl⟩
  have PP := Lib.hid (pieces_anyW s c n hn (by omega))
  have PF0 : ∀ w, Calls Try.prog 94 #[.agg #[.int .i64 0, .int .i64 0, .int .i64 0, .int .i64 0, .int .i64 0], .int .i64 (n : Nat)] w (PrtPost sp0 n w) := fun w => partsFrom_any sp0 (sp0_ok.mono (by decide)) n (by omega) w
  unfold PrtPost at PF0
  have HOK := Lib.hid (fun p (hp : p ∈ parts sp0 n) => wt_ok (by omega) hp)
  have hE := wtU_end s c
  rw [hn] at hE
  have hN := parts_len sp0 n
  have hN2 : 3 ^ n ≤ 6561 := parts8 (by omega)
  rw [hN] at hE
  unfold WtPost
  have SB := Lib.hid (boxSupply_any ⟨(s : Int), (c : Int)⟩)
  generalize wtP s c = RF at *
  generalize parts sp0 n = R at *
  generalize 3 ^ n = N at *
  have PF := Lib.hid PF0
  have HE := Lib.hid hE
  have HN := Lib.hid hN
  have HNC := Lib.hid hn
  clear hE hN hn h PF0
  go_enter Try.func76, Try.ntmps76
  go_wp2_with fail
  (go_at_call 67; (with_reducible refine (PP.out _).mono ?_); rintro e wB ⟨rfl, h1⟩; (try with_reducible replace h1 := undrew h1); have hB : Below w.heap.size w wB := ba (by go_grown) h1; obtain ⟨hcwB, hfwB⟩ := bcell h1; have hqwB := h1.size; (try simp at hqwB); (try have hz0wB : w.heap.size < wB.heap.size := (by omega)); (try have he0wB : w.heap.size ≤ wB.heap.size := (by omega)))
  go_wp2_with fail
  (with_reducible refine Calls.mono (PF.out _) ?_)
  rintro e w1 ⟨g, cap, rfl, hO, hb1⟩
  have c0 : wB.cell? ⟨w.heap.size, 0, none⟩ = some (.int .i64 (s : Int)) := by go_simp
  have c1 : wB.cell? ⟨w.heap.size, 1, none⟩ = some (.int .i64 (c : Int)) := by go_simp
  have hwB : w.heap.size < wB.heap.size := by omega
  have HC := Lib.hid (And.intro (show w1.cell? ⟨w.heap.size, 0, none⟩ = some (.int .i64 (s : Int)) by rw [hb1.cell (p := ⟨w.heap.size, 0, none⟩) hwB]; exact c0) (show w1.cell? ⟨w.heap.size, 1, none⟩ = some (.int .i64 (c : Int)) by rw [hb1.cell (p := ⟨w.heap.size, 1, none⟩) hwB]; exact c1))
  have HB1 := Lib.hid (ba hB hb1 : Below w.heap.size w w1)
  have hw1 : w.heap.size < w1.heap.size := by have := hb1.size; omega
  have HO := Lib.hid hO
  have HP := Lib.hid (prt_of hO HN.out)
  have hg1 : g < w1.heap.size := (hO.lt g rfl).2
  clear hb1 hO hB h1 hcwB hfwB c0 c1
  go_wp2_with fail
  go_loopw [3, 11] (fun t i wr => ∃ (j : Nat) (v : Value), j ≤ N ∧ i = .int .i64 j ∧ v = t ∧ wr.ownsRow w1.heap.size 93 6 v (wtU s R j).length (prtCells (wtU s R j)) ∧ Below w1.heap.size w1 wr) (fun _ i _ => N - (intOf i).toNat)
  case atStart => exact ⟨0, _, Nat.zero_le _, rfl, rfl, World.ownsRow_nil _ _ _ _, Below.refl _ _⟩
  case round =>
    obtain ⟨j, u, hj, rfl, rfl, hU, hb⟩ := hrel
    have hz : w1.heap.size ≤ wr.heap.size := hb.size
    have hle := wtU_le s R j
    have HU := Lib.hid hU
    have HBi := Lib.hid hb
    obtain ⟨wi, rfl⟩ : ∃ wi : World, wi = wr := ⟨_, rfl⟩
    by_cases hlt : j < N
    · obtain ⟨p, hp⟩ : ∃ p, R[j]? = some p := ⟨_, List.getElem?_eq_getElem (by rw [HN.out]; exact hlt)⟩
      obtain ⟨t1, t2, t3, t4⟩ := HOK.out p (List.mem_of_getElem? hp)
      obtain ⟨c0, c1, c2, c3, c4, c5⟩ := (HP.out.below hg1 hb) j p hp
      have b0 : wi.cell? ⟨w.heap.size, 0, none⟩ = some (.int .i64 (s : Int)) := by rw [hb.cell (p := ⟨w.heap.size, 0, none⟩) hw1]; exact HC.out.1
      have b1 : wi.cell? ⟨w.heap.size, 1, none⟩ = some (.int .i64 (c : Int)) := by rw [hb.cell (p := ⟨w.heap.size, 1, none⟩) hw1]; exact HC.out.2
      have NO := needsOf_any (ofL p.2) t1
      rw [t2, t3] at NO
      have HNX := Lib.hid (wtU_next (s := s) hp)
      have hBw : Below w.heap.size w wi := HB1.out.trans (hb.mono HB1.out.size)
      have hwi : w.heap.size < wi.heap.size := by omega
      obtain ⟨q, r⟩ := p
      simp only at c0 c1 c2 c3 c4 c5 t1 t2 t3 t4 NO HNX
      obtain ⟨T, hT⟩ : ∃ T, ofL r = T := ⟨_, rfl⟩
      have HT := Lib.hid hT
      rw [hT] at NO c5
      have hkX : PtB (wi.alloc (.cells #[.int .i64 q.x0, .int .i64 q.x1, .int .i64 q.x2, .int .i64 q.x3, .int .i64 q.h, .string T] 93)) wi.heap.size q T := heap_alloc_new _ _
      have HKX := Lib.hid hkX
      clear hkX
      by_cases hc : cnt 83 r = s
      · have hcc : n - cnt 83 r = c := by have := HNC.out; omega
        have NO2 : ∀ w, Calls Try.prog 56 #[.string T] w fun e w' => e = .returned (bv ⟨(s : Int), (c : Int)⟩) ∧ Below w.heap.size w w' := fun w => by
          have := NO w
          rw [hc, show n - s = c by have := HNC.out; omega] at this
          exact this
        have NOH := Lib.hid NO2
        have HN2 := Lib.hid (show wtU s R (j + 1) = wtU s R j ++ [(q, r)] by rw [HNX.out, if_pos hc])
        clear hU hb hp NO NO2 t1 t2 t3 t4 hc hcc hT
        go_wp2_with fail
        refine absWB (F := fun X => (X.cell? ⟨w.heap.size, 0, none⟩ = some (.int .i64 (s : Int))) ∧ (X.cell? ⟨w.heap.size, 1, none⟩ = some (.int .i64 (c : Int))) ∧ (X.cell? ⟨wi.heap.size, 5, none⟩ = some (.string T)) ∧ (Below wi.heap.size wi X) ∧ (PtB X wi.heap.size q T) ∧ (wi.heap.size < X.heap.size) ∧ Below w.heap.size w X) ⟨by go_simp, by go_simp, by go_simp, (Below.refl _ wi).alloc (Nat.le_refl _) _, HKX.out, by simp, by go_grown⟩ ?_
        rintro X ⟨ca_0, cb_1, cd_5, hqX, hkX, hzX, HB⟩
        have ka_0 := fun d os => cell_regrown ca_0 d os
        have kb_1 := fun d os => cell_regrown cb_1 d os
        have kd_5 := fun d os => cell_regrown cd_5 d os
        refine wp_region_quiet_below (by kernel_rfl) (by kernel_rfl) ?_
        repeat (quiet_step (first | (go_at_call 56; with_reducible exact Calls.regrown_of (NOH.out _)) | (go_at_call 58; with_reducible exact Calls.regrown_of (SB.out _))))
        refine wpQuiet_nil ?_
        rintro _ ⟨⟨dq, osq⟩, rfl⟩
        have hbwz := below_regrown X dq osq
        generalize grow (redrawn X dq) osq = wz at hbwz ⊢
        obtain ⟨hcwz, hfwz⟩ := bcell hbwz
        have hlwz := hbwz.size
        replace HB := ba HB hbwz
        have hqz := ba hqX hbwz
        have hzz := hqz.size
        have hzz1 := hbwz.size
        obtain ⟨d0, d1, d2, d3, d4, d5⟩ := blk6 (hkX.below hzX hbwz)
        have HBA := Lib.hid ((HBi.out.trans (hqz.mono hz)).alloc (by omega) (.cells #[.int .i64 q.x0, .int .i64 q.x1, .int .i64 q.x2, .int .i64 q.x3, .int .i64 q.h, .string T] 93))
        have HOA := Lib.hid ((HU.out.kept (below_grown hqz) (by cases u.ownBlock <;> simp)).alloc (.cells #[.int .i64 q.x0, .int .i64 q.x1, .int .i64 q.x2, .int .i64 q.x3, .int .i64 q.h, .string T] 93))
        clear hqX hbwz hcwz hfwz hqz c0 c1 c2 c3 c4 c5 b0 b1 hBw hkX
        go_wp2_with (at_builtin; refine wpList_append_own_at _ rfl _ _ 90 rfl w1.heap.size 93 i0 (.agg #[.int .i64 0, .int .i64 0, .int .i64 0, .int .i64 0, .int .i64 0, .string ByteArray.empty]) 6 56 Try.underlying90 hi iz0 iz1 iz2 rfl (by decide) u _ _ rfl HOA.out ⟨wz.heap.size, 0, none⟩ 1 1 [.int .i64 q.x0, .int .i64 q.x1, .int .i64 q.x2, .int .i64 q.x3, .int .i64 q.h, .string T] rfl rfl (World.news_of_block (heap_alloc_new _ _)) (by intro x hx; simp at hx; rcases hx with rfl | rfl | rfl | rfl | rfl | rfl <;> rfl) (by unfold maxLen; omega) (by omega) (by simp; omega) ?_; intro v' w4 hown' hgrow hnil hloc)
        have hlt' := HOA.out.lt
        have HB8 := Lib.hid (HBA.out.grown hgrow (by simp; omega) (fun k hk => (hlt' k hk).1))
        have HO8 := Lib.hid hown'
        clear hlt' hgrow hown' hnil hloc d0 d1 d2 d3 d4 d5
        go_roundw
        case rel => exact ⟨j + 1, v', by omega, by go_num, rfl, by rw [HN2.out, prtCells_append, List.length_append]; simp only [prtCells, prtC, List.map_cons, List.map_nil, List.flatten_cons, List.flatten_nil, List.append_nil, HT.out]; exact HO8.out, HB8.out⟩
        case measure => simp [intOf]; omega
      · have HN2 := Lib.hid (show wtU s R (j + 1) = wtU s R j by rw [HNX.out, if_neg hc])
        have hab : ((cnt 83 r : Int) == (s : Int)) = false := by simp; omega
        have NOH := Lib.hid NO
        generalize n - cnt 83 r = d at *
        generalize cnt 83 r = a at *
        clear hU hb hp NO t1 t2 t3 t4 hc hT
        go_wp2_with fail
        refine absWB (F := fun X => (X.cell? ⟨w.heap.size, 0, none⟩ = some (.int .i64 (s : Int))) ∧ (X.cell? ⟨w.heap.size, 1, none⟩ = some (.int .i64 (c : Int))) ∧ (X.cell? ⟨wi.heap.size, 5, none⟩ = some (.string T)) ∧ (Below wi.heap.size wi X) ∧ Below w.heap.size w X) ⟨by go_simp, by go_simp, by go_simp, (Below.refl _ wi).alloc (Nat.le_refl _) _, by go_grown⟩ ?_
        rintro X ⟨ca_0, cb_1, cd_5, hqX, HB⟩
        have ka_0 := fun d os => cell_regrown ca_0 d os
        have kb_1 := fun d os => cell_regrown cb_1 d os
        have kd_5 := fun d os => cell_regrown cd_5 d os
        refine wp_region_quiet_below (by kernel_rfl) (by kernel_rfl) ?_
        repeat (quiet_step (first | (go_at_call 56; with_reducible exact Calls.regrown_of (NOH.out _)) | (go_at_call 58; with_reducible exact Calls.regrown_of (SB.out _))))
        refine wpQuiet_nil ?_
        rintro _ ⟨⟨dq, osq⟩, rfl⟩
        have hbwz := below_regrown X dq osq
        generalize grow (redrawn X dq) osq = wz at hbwz ⊢
        obtain ⟨hcwz, hfwz⟩ := bcell hbwz
        have hlwz := hbwz.size
        replace HB := ba HB hbwz
        have hqz := ba hqX hbwz
        have HBA := Lib.hid (HBi.out.trans (hqz.mono hz))
        have HOA := Lib.hid (HU.out.kept (below_grown hqz) (by cases u.ownBlock <;> simp))
        clear hqX hbwz hcwz hfwz hqz c0 c1 c2 c3 c4 c5 b0 b1 hBw
        go_wp2_with fail
        go_roundw
        case rel => exact ⟨j + 1, u, by omega, by go_num, rfl, by rw [HN2.out]; exact HOA.out, HBA.out⟩
        case measure => simp [intOf]; omega
    · obtain rfl : j = N := by omega
      rw [HE.out] at hU
      have HO2 := Lib.hid (own_lessP hU HB1.out.size)
      have HBF := Lib.hid (HB1.out.trans (hb.mono HB1.out.size))
      clear hU hb
      go_wp2_with fail
      go_ret
      exact ⟨_, rfl, HO2.out, HBF.out⟩

end Go.Proofs.Ytkmgcmgnaeamaaa
