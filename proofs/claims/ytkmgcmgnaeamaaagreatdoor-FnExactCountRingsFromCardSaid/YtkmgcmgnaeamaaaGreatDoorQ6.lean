/- Contracts and facts, put together (part 6). Conditions: each says its own. -/
import Derived.Test.YtkmgcmgnaeamaaaGreatDoorQ5

/- Contracts: RingsFrom and CountRingsFrom, in the model and in the program. -/
namespace Go.Proofs.YtkmgcmgnaeamaaaGreatDoor
open Go.ChangeShapes Go.WideShapes Go.ChangeAt Go.RowKit Go.Sort

set_option linter.unusedVariables false
set_option linter.unusedSimpArgs false

def rfG (b : Bq) : Bool := bxB 12 b

def rfR (b : Bq) : List (List UInt8) := cond (rfG b) (bxF b.x.toNat b.r.toNat) []

theorem rfR_len (b : Bq) : (rfR b).length ≤ 900000 := by
  unfold rfR
  cases h : rfG b
  · exact Nat.zero_le _
  · obtain ⟨s, c, rfl, hsc⟩ := bxB_nat (m := 12) h
    simp only [Int.toNat_natCast, cond_true]
    have h1 : (bxF s c).length ≤ (bxR s c).length := List.length_filter_le _ _
    have h2 := bxR_le s c
    have h3 : 3 ^ (s + c) ≤ 3 ^ 12 := Nat.pow_le_pow_right (by decide) hsc
    have h4 : (3 : Nat) ^ 12 = 531441 := by decide
    omega

theorem acF (s c : Nat) (h : s + c ≤ 12) : bxF s c = (acR ((s + c : Nat) : Int)).filter fun w => cnt 83 w == s := by
  by_cases h0 : 0 < s + c
  · have hb : acB ((s + c : Nat) : Int) = true := by simp [acB, inB]; omega
    rw [ac_yes hb, Int.toNat_natCast, bxF_ac h0]
  · obtain rfl : s = 0 := by omega
    obtain rfl : c = 0 := by omega
    have hb : acB ((0 + 0 : Nat) : Int) = false := by simp [acB, inB]
    rw [ac_no hb, bxF, bxR_zero]; rfl

/-- The first j of them that are first ones of their classes. -/
def fsU (R : List (List UInt8)) (j : Nat) : List (List UInt8) := ((R.take j).filter rgb).filter isFst

theorem fsU_next {R : List (List UInt8)} {j : Nat} {r : List UInt8} (h : R[j]? = some r) : fsU R (j + 1) = if rgb r && isFst r then fsU R j ++ [r] else fsU R j := by
  simp only [fsU, List.take_add_one, h, Option.toList_some, List.filter_append, List.filter_cons, List.filter_nil]
  cases hrg : rgb r <;> cases hfs : isFst r <;> simp [hrg, hfs]

theorem fsU_le (R : List (List UInt8)) (j : Nat) : (fsU R j).length ≤ j := Nat.le_trans (List.length_filter_le _ _) (Nat.le_trans (List.length_filter_le _ _) (List.length_take_le _ _))

/-- The first j of some that have s straights. -/
def stU (s : Nat) (R : List (List UInt8)) (j : Nat) : List (List UInt8) := (R.take j).filter fun w => cnt 83 w == s

theorem stU_next {s : Nat} {R : List (List UInt8)} {j : Nat} {r : List UInt8} (h : R[j]? = some r) : stU s R (j + 1) = if cnt 83 r == s then stU s R j ++ [r] else stU s R j := by
  simp only [stU, List.take_add_one, h, Option.toList_some, List.filter_append, List.filter_cons, List.filter_nil]
  split <;> simp

theorem stU_le (s : Nat) (R : List (List UInt8)) (j : Nat) : (stU s R j).length ≤ j := Nat.le_trans (List.length_filter_le _ _) (List.length_take_le _ _)

set_option maxRecDepth 100000 in
set_option maxHeartbeats 1600000 in
theorem spRingsFrom (b : Bq) (w : World) : Calls Tryz.prog 8 #[bv b] w (STPost (rfR b) (rfG b) w) := by
  have PS := Lib.hid (spSmB_any b 12 (by decide))
  unfold rfR rfG
  cases hb : bxB 12 b
  · rw [hb] at PS
    clear hb
    go_enter Tryz.func8, Tryz.ntmps8
    go_wp2_with (go_at_call 13; refine (PS.out _).mono ?_; rintro e w1 ⟨rfl, h1⟩; have hB : Below w.heap.size w w1 := ba (by go_grown) h1; obtain ⟨hc1, hf1⟩ := bcell h1; have hq := h1.size; (try simp at hq); have hz0 : w.heap.size < w1.heap.size := (by omega); have HK1 := Lib.hid h1; clear h1 hq)
    go_ret2
    exact stNo (by go_grown)
  · rw [hb] at PS
    obtain ⟨s, c, rfl, hsc⟩ := bxB_nat (m := 12) hb
    simp only [Int.toNat_natCast, cond_true]
    obtain ⟨i0, hi, iz0, iz1, iz2⟩ := info_parts srInfo
    have P := Lib.hid (spAll_any s c hsc)
    have hlen : (bxW s c).length ≤ 531441 := Nat.le_trans (bxW_le s c) (Nat.pow_le_pow_right (by decide) hsc)
    have HE := Lib.hid (show fsU (bxW s c) (bxW s c).length = bxF s c by rw [fsU, List.take_length]; rfl)
    have HTK := Lib.hid (fun r (hr : r ∈ bxW s c) => bxW_tk (s := s) (c := c) (by omega) hr)
    unfold AllPost at P
    generalize bxW s c = R at *
    generalize bxF s c = RF at *
    obtain ⟨N, hN⟩ : ∃ N, R.length = N := ⟨_, rfl⟩
    have HN := Lib.hid hN
    have HSC := Lib.hid hsc
    rw [hN] at hlen HE
    clear hN hb
    go_enter Tryz.func8, Tryz.ntmps8
    go_wp2_with fail
    (go_at_call 13; (with_reducible refine (PS.out _).mono ?_); rintro e wA ⟨rfl, h1⟩; (try with_reducible replace h1 := undrew h1); have hB : Below w.heap.size w wA := ba (by go_grown) h1; obtain ⟨hcwA, hfwA⟩ := bcell h1; have hqwA := h1.size; (try simp at hqwA); (try have hz0wA : w.heap.size < wA.heap.size := (by omega)); (try have he0wA : w.heap.size ≤ wA.heap.size := (by omega)))
    go_wp2_with fail
    (with_reducible refine Calls.mono (P.out _) ?_)
    rintro e w1 ⟨v, rfl, hO, hb1⟩
    rw [HN.out] at hO
    obtain ⟨av, cv, rfl⟩ := own_formC hO
    have HO := Lib.hid hO
    have HB1 := Lib.hid (ba hB hb1 : Below w.heap.size w w1)
    clear hb1 hO hB h1 hcwA hfwA
    go_wp2_with fail
    go_loopw [4, 13] (fun t i wr => ∃ (j : Nat) (v : Value), j ≤ N ∧ i = .int .i64 j ∧ v = t ∧ wr.ownsRow w1.heap.size 9 1 v (fsU R j).length (strV (fsU R j)) ∧ Below w1.heap.size w1 wr) (fun _ i _ => N - (intOf i).toNat)
    case atStart => exact ⟨0, _, Nat.zero_le _, rfl, rfl, World.ownsRow_nil _ _ _ _, Below.refl _ _⟩
    case round =>
      obtain ⟨j, u, hj, rfl, rfl, hU, hb⟩ := hrel
      have hz : w1.heap.size ≤ wr.heap.size := hb.size
      have hle := fsU_le R j
      have HU := Lib.hid hU
      have HB := Lib.hid hb
      obtain ⟨wi, rfl⟩ : ∃ wi : World, wi = wr := ⟨_, rfl⟩
      by_cases hlt : j < N
      · obtain ⟨r, hr⟩ : ∃ r, R[j]? = some r := ⟨_, List.getElem?_eq_getElem (by rw [HN.out]; exact hlt)⟩
        obtain ⟨t1, t2, t3⟩ := HTK.out r (List.mem_of_getElem? hr)
        obtain ⟨g, rfl⟩ : ∃ g, av = some ⟨g, 0, none⟩ := by
          rcases HO.out.2 with ⟨h, h0⟩ | ⟨g, cap, _, h, _⟩
          · omega
          · injection h with h; exact ⟨g, h⟩
        have cr := (str_of HO.out HN.out).below (HO.out.lt g rfl).2 hb j r hr
        have hrl : r.length ≤ 12 := by have := HSC.out; omega
        have CR := Lib.hid (csRing_any (ofL r) (by rw [ofL_size]; omega))
        rw [t2] at CR
        have HNX := Lib.hid (fsU_next hr)
        have hBw : Below w.heap.size w wi := HB1.out.trans (hb.mono HB1.out.size)
        have CC := Lib.hid (fun W => csClass_any r t1 W)
        have he := eq_text (classL r) r
        obtain ⟨T, hT⟩ : ∃ T, ofL r = T := ⟨_, rfl⟩
        have HT := Lib.hid hT
        rw [hT] at CR cr he
        have CC0 : ∀ W, Calls Tryz.prog 19 #[.string T] W fun e w' => e = .returned (.string (ofL (classL r))) ∧ Below W.heap.size W w' := fun W => by have := CC.out W; rw [hT] at this; exact this
        have CCH := Lib.hid CC0
        generalize ofL (classL r) = C at *
        clear hU hb hr t1 t2 t3 hT CC0
        cases hrg : rgb r
        · rw [hrg] at CR HNX
          have HN2 := Lib.hid (show fsU R (j + 1) = fsU R j from HNX.out)
          clear hrg he
          go_wp2_with fail
          (go_at_call 18; (with_reducible refine (CR.out _).mono ?_); rintro e wC ⟨rfl, h1⟩; (try with_reducible replace h1 := undrew h1); have hB : Below w.heap.size w wC := ba (by go_grown) h1; obtain ⟨hcwC, hfwC⟩ := bcell h1; have hqwC := h1.size; (try simp at hqwC); )
          have HB2 := Lib.hid (HB.out.trans (h1.mono hz))
          have HU2 := Lib.hid (HU.out.kept (below_grown h1) (by cases u.ownBlock <;> simp))
          clear h1 hcwC hfwC cr hBw hB
          go_wp2_with fail
          go_roundw
          case rel => exact ⟨j + 1, u, by omega, by go_num, rfl, by rw [HN2.out]; exact HU2.out, HB2.out⟩
          case measure => simp [intOf]; omega
        · cases hf : isFst r
          · have hf' : decide (classL r = r) = false := hf
            rw [hf'] at he
            rw [hrg] at CR
            rw [hrg, hf] at HNX
            have HN2 := Lib.hid (show fsU R (j + 1) = fsU R j from HNX.out)
            clear hrg hf hf'
            go_wp2_with fail
            (go_at_call 18; (with_reducible refine (CR.out _).mono ?_); rintro e wC ⟨rfl, h1⟩; (try with_reducible replace h1 := undrew h1); have hB : Below w.heap.size w wC := ba (by go_grown) h1; obtain ⟨hcwC, hfwC⟩ := bcell h1; have hqwC := h1.size; (try simp at hqwC); )
            have hq1 := Lib.hid h1
            clear h1
            go_wp2_with fail
            (go_at_call 19; (with_reducible refine (CCH.out _).mono ?_); rintro e wD ⟨rfl, h1⟩; (try with_reducible replace h1 := undrew h1); have hB : Below w.heap.size w wD := ba (by go_grown) h1; obtain ⟨hcwD, hfwD⟩ := bcell h1; have hqwD := h1.size; (try simp at hqwD); )
            have hqD := hq1.out.trans (h1.mono hq1.out.size)
            have HB2 := Lib.hid (HB.out.trans (hqD.mono hz))
            have HU2 := Lib.hid (HU.out.kept (below_grown hqD) (by cases u.ownBlock <;> simp))
            clear h1 hcwC hfwC hcwD hfwD cr hBw hB hqD
            go_wp2_with fail
            go_roundw
            case rel => exact ⟨j + 1, u, by omega, by go_num, rfl, by rw [HN2.out]; exact HU2.out, HB2.out⟩
            case measure => simp [intOf]; omega
          · have hf' : decide (classL r = r) = true := hf
            rw [hf'] at he
            rw [hrg] at CR
            rw [hrg, hf] at HNX
            have HN2 := Lib.hid (show fsU R (j + 1) = fsU R j ++ [r] from HNX.out)
            clear hrg hf hf'
            go_wp2_with fail
            (go_at_call 18; (with_reducible refine (CR.out _).mono ?_); rintro e wC ⟨rfl, h1⟩; (try with_reducible replace h1 := undrew h1); have hB : Below w.heap.size w wC := ba (by go_grown) h1; obtain ⟨hcwC, hfwC⟩ := bcell h1; have hqwC := h1.size; (try simp at hqwC); )
            have hq1 := Lib.hid h1
            clear h1
            go_wp2_with fail
            (go_at_call 19; (with_reducible refine (CCH.out _).mono ?_); rintro e wD ⟨rfl, h1⟩; (try with_reducible replace h1 := undrew h1); have hB : Below w.heap.size w wD := ba (by go_grown) h1; obtain ⟨hcwD, hfwD⟩ := bcell h1; have hqwD := h1.size; (try simp at hqwD); )
            have hqD := hq1.out.trans (h1.mono hq1.out.size)
            have hzD := hqD.size
            have HBA := Lib.hid ((HB.out.trans (hqD.mono hz)).alloc (by omega) (.cells #[.string T] 9))
            have HOA := Lib.hid ((HU.out.kept (below_grown hqD) (by cases u.ownBlock <;> simp)).alloc (.cells #[.string T] 9))
            have hnews := cell_one_new wD (.string T) 9
            clear h1 hcwC hfwC hcwD hfwD cr hBw hB hqD
            go_wp2_with (at_builtin; refine wpList_append_own_at _ rfl _ _ 29 rfl w1.heap.size 9 i0 (.string ByteArray.empty) 1 16 Tryz.underlying29 hi iz0 iz1 iz2 rfl (by decide) u _ _ rfl HOA.out ⟨wD.heap.size, 0, none⟩ 1 1 [.string T] rfl rfl hnews (by intro x hx; simp at hx; subst hx; rfl) (by unfold maxLen; omega) (by omega) (by simp; omega) ?_; intro v' w4 hown' hgrow hnil hloc)
            have hlt' := HOA.out.lt
            have HB8 := Lib.hid (HBA.out.grown hgrow (by simp; omega) (fun k hk => (hlt' k hk).1))
            have HO8 := Lib.hid hown'
            clear hlt' hgrow hown' hnil hloc hnews
            go_roundw
            case rel => exact ⟨j + 1, v', by omega, by go_num, rfl, by rw [HN2.out, strV_append, List.length_append]; simp only [strV, List.map_cons, List.map_nil, HT.out]; exact HO8.out, HB8.out⟩
            case measure => simp [intOf]; omega
      · obtain rfl : j = N := by omega
        rw [HE.out] at hU
        have HO2 := Lib.hid (own_lessP hU HB1.out.size)
        have HBF := Lib.hid (HB1.out.trans (hb.mono HB1.out.size))
        obtain ⟨av', cv', rfl⟩ := own_formC hU
        clear hU hb
        go_wp2_with fail
        go_ret2
        exact ⟨_, rfl, HO2.out, HBF.out⟩

set_option maxRecDepth 100000 in
theorem pieces_anyR (s c n : Nat) (hn : s + c = n) (h : n ≤ 40) (w : World) : Calls Tryz.prog 22 #[bv ⟨(s : Int), (c : Int)⟩] w fun e w' => e = .returned (.int .i64 (n : Int)) ∧ Below w.heap.size w w' := by
  have e : (s : Int) + (c : Int) = (n : Int) := by omega
  have e2 := w64N n (by omega)
  clear hn
  go_enter Tryz.func22, Tryz.ntmps22
  go_wp2_with fail
  go_returns
  exact ⟨rfl, by go_grown⟩

theorem acR_fit {s c : Nat} (hsc : s + c ≤ 12) {r : List UInt8} (h : r ∈ acR ((s + c : Nat) : Int)) : tkB (ofL r) = true ∧ stN (ofL r) = cnt 83 r ∧ cvN (ofL r) = s + c - cnt 83 r ∧ cnt 83 r ≤ s + c ∧ 0 < r.length ∧ r.length ≤ 12 := by
  cases hb : acB ((s + c : Nat) : Int)
  · rw [ac_no hb] at h; simp at h
  · obtain ⟨m, hm, h0, hm2⟩ := ac_num hb
    obtain rfl : m = s + c := by omega
    rw [ac_yes hb, Int.toNat_natCast] at h
    obtain ⟨h1, h2, h3⟩ := ac_ok h0 hm2 h
    have e : (ofL r).data.toList = r := by simp [ofL]
    have := cnt_le 83 r
    exact ⟨h2, by rw [stN, e], by rw [cvN, e, ofL_size, h1], by omega, by omega, by omega⟩

set_option maxRecDepth 100000 in
set_option maxHeartbeats 1600000 in
theorem imRingsFrom (b : Bq) (w : World) : Calls Tryz.prog 9 #[bv b] w (STPost (rfR b) (rfG b) w) := by
  have PS := Lib.hid (isWithinB_any b 12 (by decide) (by decide))
  unfold rfR rfG
  cases hb : bxB 12 b
  · rw [hb] at PS
    clear hb
    go_enter Tryz.func9, Tryz.ntmps9
    go_wp2_with (go_at_call 20; refine (PS.out _).mono ?_; rintro e w1 ⟨rfl, h1⟩; have hB : Below w.heap.size w w1 := ba (by go_grown) h1; obtain ⟨hc1, hf1⟩ := bcell h1; have hq := h1.size; (try simp at hq); have hz0 : w.heap.size < w1.heap.size := (by omega); have HK1 := Lib.hid h1; clear h1 hq)
    go_ret2
    exact stNo (by go_grown)
  · rw [hb] at PS
    obtain ⟨s, c, rfl, hsc⟩ := bxB_nat (m := 12) hb
    simp only [Int.toNat_natCast, cond_true]
    obtain ⟨i0, hi, iz0, iz1, iz2⟩ := info_parts srInfo
    have hac := acF s c hsc
    have hok := fun r (hr : r ∈ acR ((s + c : Nat) : Int)) => acR_fit hsc hr
    have hlen := AllClasses_len ((s + c : Nat) : Int)
    have AC := Lib.hid (imAllClasses ((s + c : Nat) : Int))
    unfold STPost at AC
    obtain ⟨n, hn⟩ : ∃ n, s + c = n := ⟨_, rfl⟩
    have PP := Lib.hid (pieces_anyR s c n hn (by omega))
    rw [hn] at hac hok hlen AC
    have HE := Lib.hid (show stU s (acR (n : Int)) (acR (n : Int)).length = bxF s c by rw [hac, stU, List.take_length])
    have SB := Lib.hid (boxSupply_any ⟨(s : Int), (c : Int)⟩)
    have HNC := Lib.hid hn
    generalize acR (n : Int) = R at *
    generalize acB (n : Int) = bo at *
    generalize bxF s c = RF at *
    obtain ⟨N, hN⟩ : ∃ N, R.length = N := ⟨_, rfl⟩
    have HN := Lib.hid hN
    have HOK := Lib.hid hok
    rw [hN] at hlen HE
    clear hN hb hac hok hn
    go_enter Tryz.func9, Tryz.ntmps9
    go_wp2_with fail
    (go_at_call 20; (with_reducible refine (PS.out _).mono ?_); rintro e wA ⟨rfl, h1⟩; (try with_reducible replace h1 := undrew h1); have hB : Below w.heap.size w wA := ba (by go_grown) h1; obtain ⟨hcwA, hfwA⟩ := bcell h1; have hqwA := h1.size; (try simp at hqwA); (try have hz0wA : w.heap.size < wA.heap.size := (by omega)); (try have he0wA : w.heap.size ≤ wA.heap.size := (by omega)))
    go_wp2_with fail
    (go_at_call 22; (with_reducible refine (PP.out _).mono ?_); rintro e wB ⟨rfl, h1⟩; (try with_reducible replace h1 := undrew h1); have hB : Below w.heap.size w wB := ba (by go_grown) h1; obtain ⟨hcwB, hfwB⟩ := bcell h1; have hqwB := h1.size; (try simp at hqwB); (try have hz0wB : w.heap.size < wB.heap.size := (by omega)); (try have he0wB : w.heap.size ≤ wB.heap.size := (by omega)); (try have hz1wB : wA.heap.size < wB.heap.size := (by omega)); (try have he1wB : wA.heap.size ≤ wB.heap.size := (by omega)))
    go_wp2_with fail
    (with_reducible refine Calls.mono (AC.out _) ?_)
    rintro e w1 ⟨v, rfl, hO, hb1⟩
    rw [HN.out] at hO
    have c0 : wB.cell? ⟨w.heap.size, 0, none⟩ = some (.int .i64 (s : Int)) := by go_simp
    have c1 : wB.cell? ⟨w.heap.size, 1, none⟩ = some (.int .i64 (c : Int)) := by go_simp
    have hwB : w.heap.size < wB.heap.size := by omega
    have HC := Lib.hid (And.intro (show w1.cell? ⟨w.heap.size, 0, none⟩ = some (.int .i64 (s : Int)) by rw [hb1.cell (p := ⟨w.heap.size, 0, none⟩) hwB]; exact c0) (show w1.cell? ⟨w.heap.size, 1, none⟩ = some (.int .i64 (c : Int)) by rw [hb1.cell (p := ⟨w.heap.size, 1, none⟩) hwB]; exact c1))
    have HB1 := Lib.hid (ba hB hb1 : Below w.heap.size w w1)
    have hw1 : w.heap.size < w1.heap.size := by have := hb1.size; omega
    obtain ⟨av, cv, rfl⟩ := own_formC hO
    have HO := Lib.hid hO
    clear hb1 hO hB h1 hcwA hfwA hcwB hfwB c0 c1
    go_wp2_with fail
    go_loopw [6, 20] (fun t i wr => ∃ (j : Nat) (v : Value), j ≤ N ∧ i = .int .i64 j ∧ v = t ∧ wr.ownsRow w1.heap.size 9 1 v (stU s R j).length (strV (stU s R j)) ∧ Below w1.heap.size w1 wr) (fun _ i _ => N - (intOf i).toNat)
    case atStart => exact ⟨0, _, Nat.zero_le _, rfl, rfl, World.ownsRow_nil _ _ _ _, Below.refl _ _⟩
    case round =>
      obtain ⟨j, u, hj, rfl, rfl, hU, hb⟩ := hrel
      have hz : w1.heap.size ≤ wr.heap.size := hb.size
      have hle := stU_le s R j
      have HU := Lib.hid hU
      have HBi := Lib.hid hb
      obtain ⟨wi, rfl⟩ : ∃ wi : World, wi = wr := ⟨_, rfl⟩
      by_cases hlt : j < N
      · obtain ⟨r, hr⟩ : ∃ r, R[j]? = some r := ⟨_, List.getElem?_eq_getElem (by rw [HN.out]; exact hlt)⟩
        obtain ⟨t1, t2, t3, t4, _, _⟩ := HOK.out r (List.mem_of_getElem? hr)
        obtain ⟨g, rfl⟩ : ∃ g, av = some ⟨g, 0, none⟩ := by
          rcases HO.out.2 with ⟨h, h0⟩ | ⟨g, cap, _, h, _⟩
          · omega
          · injection h with h; exact ⟨g, h⟩
        have cr := (str_of HO.out HN.out).below (HO.out.lt g rfl).2 hb j r hr
        have b0 : wi.cell? ⟨w.heap.size, 0, none⟩ = some (.int .i64 (s : Int)) := by rw [hb.cell (p := ⟨w.heap.size, 0, none⟩) hw1]; exact HC.out.1
        have b1 : wi.cell? ⟨w.heap.size, 1, none⟩ = some (.int .i64 (c : Int)) := by rw [hb.cell (p := ⟨w.heap.size, 1, none⟩) hw1]; exact HC.out.2
        have NO := needsOf_any (ofL r) t1
        rw [t2, t3] at NO
        have HNX := Lib.hid (stU_next (s := s) hr)
        have hBw : Below w.heap.size w wi := HB1.out.trans (hb.mono HB1.out.size)
        by_cases hc : cnt 83 r = s
        · have hcc : n - cnt 83 r = c := by have := HNC.out; omega
          have NO2 : ∀ w, Calls Tryz.prog 23 #[.string (ofL r)] w fun e w' => e = .returned (bv ⟨(s : Int), (c : Int)⟩) ∧ Below w.heap.size w w' := fun w => by
            have := NO w
            rw [hc, show n - s = c by have := HNC.out; omega] at this
            exact this
          have NOH := Lib.hid NO2
          have HN2 := Lib.hid (show stU s R (j + 1) = stU s R j ++ [r] by rw [HNX.out, hc]; simp)
          obtain ⟨T, hT⟩ : ∃ T, ofL r = T := ⟨_, rfl⟩
          have HT := Lib.hid hT
          rw [hT] at NOH cr
          clear hU hb hr NO NO2 t1 t2 t3 t4 hc hcc hT
          go_wp2_with fail
          refine absWB (F := fun X => (X.cell? ⟨w.heap.size, 0, none⟩ = some (.int .i64 (s : Int))) ∧ (X.cell? ⟨w.heap.size, 1, none⟩ = some (.int .i64 (c : Int))) ∧ (Below wi.heap.size wi X) ∧ Below w.heap.size w X) ⟨by go_simp, by go_simp, Below.refl _ _, by go_grown⟩ ?_
          rintro X ⟨ca_0, cb_1, hqX, HB⟩
          have ka_0 := fun d os => cell_regrown ca_0 d os
          have kb_1 := fun d os => cell_regrown cb_1 d os
          refine wp_region_quiet_below (by kernel_rfl) (by kernel_rfl) ?_
          repeat (quiet_step (first | (go_at_call 23; with_reducible exact Calls.regrown_of (NOH.out _)) | (go_at_call 24; with_reducible exact Calls.regrown_of (SB.out _))))
          refine wpQuiet_nil ?_
          rintro _ ⟨⟨dq, osq⟩, rfl⟩
          have hbwz := below_regrown X dq osq
          generalize grow (redrawn X dq) osq = wz at hbwz ⊢
          obtain ⟨hcwz, hfwz⟩ := bcell hbwz
          have hlwz := hbwz.size
          replace HB := ba HB hbwz
          have hqz := ba hqX hbwz
          have hzz := hqz.size
          have HBA := Lib.hid ((HBi.out.trans (hqz.mono hz)).alloc (by omega) (.cells #[.string T] 9))
          have HOA := Lib.hid ((HU.out.kept (below_grown hqz) (by cases u.ownBlock <;> simp)).alloc (.cells #[.string T] 9))
          have hnews := cell_one_new wz (.string T) 9
          clear hqX hbwz hcwz hfwz hqz cr b0 b1 hBw HB ka_0 kb_1 ca_0 cb_1
          go_wp2_with (at_builtin; refine wpList_append_own_at _ rfl _ _ 29 rfl w1.heap.size 9 i0 (.string ByteArray.empty) 1 16 Tryz.underlying29 hi iz0 iz1 iz2 rfl (by decide) u _ _ rfl HOA.out ⟨wz.heap.size, 0, none⟩ 1 1 [.string T] rfl rfl hnews (by intro x hx; simp at hx; subst hx; rfl) (by unfold maxLen; omega) (by omega) (by simp; omega) ?_; intro v' w4 hown' hgrow hnil hloc)
          have hlt' := HOA.out.lt
          have HB8 := Lib.hid (HBA.out.grown hgrow (by simp; omega) (fun k hk => (hlt' k hk).1))
          have HO8 := Lib.hid hown'
          clear hlt' hgrow hown' hnil hloc hnews
          go_roundw
          case rel => exact ⟨j + 1, v', by omega, by go_num, rfl, by rw [HN2.out, strV_append, List.length_append]; simp only [strV, List.map_cons, List.map_nil, HT.out]; exact HO8.out, HB8.out⟩
          case measure => simp [intOf]; omega
        · have HN2 := Lib.hid (show stU s R (j + 1) = stU s R j by rw [HNX.out]; simp [hc])
          have hab : ((cnt 83 r : Int) == (s : Int)) = false := by simp; omega
          have NOH := Lib.hid NO
          obtain ⟨T, hT⟩ : ∃ T, ofL r = T := ⟨_, rfl⟩
          rw [hT] at NOH cr
          generalize n - cnt 83 r = d at *
          generalize cnt 83 r = a at *
          clear hU hb hr NO t1 t2 t3 t4 hT
          go_wp2_with fail
          refine absWB (F := fun X => (X.cell? ⟨w.heap.size, 0, none⟩ = some (.int .i64 (s : Int))) ∧ (X.cell? ⟨w.heap.size, 1, none⟩ = some (.int .i64 (c : Int))) ∧ (Below wi.heap.size wi X) ∧ Below w.heap.size w X) ⟨by go_simp, by go_simp, Below.refl _ _, by go_grown⟩ ?_
          rintro X ⟨ca_0, cb_1, hqX, HB⟩
          have ka_0 := fun d os => cell_regrown ca_0 d os
          have kb_1 := fun d os => cell_regrown cb_1 d os
          refine wp_region_quiet_below (by kernel_rfl) (by kernel_rfl) ?_
          repeat (quiet_step (first | (go_at_call 23; with_reducible exact Calls.regrown_of (NOH.out _)) | (go_at_call 24; with_reducible exact Calls.regrown_of (SB.out _))))
          refine wpQuiet_nil ?_
          rintro _ ⟨⟨dq, osq⟩, rfl⟩
          have hbwz := below_regrown X dq osq
          generalize grow (redrawn X dq) osq = wz at hbwz ⊢
          obtain ⟨hcwz, hfwz⟩ := bcell hbwz
          have hlwz := hbwz.size
          replace HB := ba HB hbwz
          have hqz := ba hqX hbwz
          have HBA := Lib.hid (HBi.out.trans (hqz.mono hz))
          have HOA := Lib.hid (HU.out.kept (below_grown hqz) (by cases u.ownBlock <;> simp))
          clear hqX hbwz hcwz hfwz hqz cr b0 b1 hBw HB ka_0 kb_1 ca_0 cb_1
          go_wp2_with fail
          go_roundw
          case rel => exact ⟨j + 1, u, by omega, by go_num, rfl, by rw [HN2.out]; exact HOA.out, HBA.out⟩
          case measure => simp [intOf]; omega
      · obtain rfl : j = N := by omega
        rw [HE.out] at hU
        have HO2 := Lib.hid (own_lessP hU HB1.out.size)
        have HBF := Lib.hid (HB1.out.trans (hb.mono HB1.out.size))
        obtain ⟨av', cv', rfl⟩ := own_formC hU
        clear hU hb
        go_wp2_with fail
        go_ret2
        exact ⟨_, rfl, HO2.out, HBF.out⟩

/-- How many rings. -/
def crN (b : Bq) : Nat := cond (rfG b) (bxR b.x.toNat b.r.toNat).length 0

theorem crN_sum (b : Bq) : crN b = sumV (rfR b) := by
  unfold crN rfR
  cases rfG b
  · rfl
  · exact (rings_sum _ _).symm

theorem spCountRingsFrom (b : Bq) (w : World) : Calls Tryz.prog 5 #[bv b] w fun e w' => e = .returned (.tuple #[.int .i64 (crN b : Nat), .bool (rfG b)]) ∧ Below w.heap.size w w' := by
  have PS := Lib.hid (spSmB_any b 12 (by decide))
  unfold crN rfG
  cases hb : bxB 12 b
  · rw [hb] at PS
    clear hb
    go_enter Tryz.func5, Tryz.ntmps5
    go_wp2_with (go_at_call 13; refine (PS.out _).mono ?_; rintro e w1 ⟨rfl, h1⟩; have hB : Below w.heap.size w w1 := ba (by go_grown) h1; obtain ⟨hc1, hf1⟩ := bcell h1; have hq := h1.size; (try simp at hq); have hz0 : w.heap.size < w1.heap.size := (by omega); have HK1 := Lib.hid h1; clear h1 hq)
    go_returns
    exact ⟨rfl, by go_grown⟩
  · rw [hb] at PS
    obtain ⟨s, c, rfl, hsc⟩ := bxB_nat (m := 12) hb
    simp only [Int.toNat_natCast, cond_true]
    have PR := Lib.hid (spRings_any s c hsc)
    generalize (bxR s c).length = L at *
    clear hb hsc
    go_enter Tryz.func5, Tryz.ntmps5
    go_wp2_with fail
    (go_at_call 13; (with_reducible refine (PS.out _).mono ?_); rintro e wA ⟨rfl, h1⟩; (try with_reducible replace h1 := undrew h1); have hB : Below w.heap.size w wA := ba (by go_grown) h1; obtain ⟨hcwA, hfwA⟩ := bcell h1; have hqwA := h1.size; (try simp at hqwA); (try have hz0wA : w.heap.size < wA.heap.size := (by omega)); (try have he0wA : w.heap.size ≤ wA.heap.size := (by omega)))
    go_wp2_with fail
    (go_at_call 14; (with_reducible refine (PR.out _).mono ?_); rintro e wB ⟨rfl, h1⟩; (try with_reducible replace h1 := undrew h1); have hB : Below w.heap.size w wB := ba (by go_grown) h1; obtain ⟨hcwB, hfwB⟩ := bcell h1; have hqwB := h1.size; (try simp at hqwB); (try have hz0wB : w.heap.size < wB.heap.size := (by omega)); (try have he0wB : w.heap.size ≤ wB.heap.size := (by omega)); (try have hz1wB : wA.heap.size < wB.heap.size := (by omega)); (try have he1wB : wA.heap.size ≤ wB.heap.size := (by omega)))
    go_wp2_with fail
    go_returns
    exact ⟨rfl, by go_grown⟩

theorem sumV_take {l : List (List UInt8)} {j : Nat} {r : List UInt8} (h : l[j]? = some r) : sumV (l.take (j + 1)) = sumV (l.take j) + varN r := by
  rw [List.take_add_one, h]
  exact sumV_snoc _ _

theorem sumV_le {l : List (List UInt8)} (h : ∀ r ∈ l, varN r ≤ 160) : ∀ j, sumV (l.take j) ≤ j * 160
  | 0 => by simp [sumV]
  | j + 1 => by
    have ih := sumV_le h j
    cases hr : l[j]? with
    | none =>
      have : l.take (j + 1) = l.take j := by rw [List.take_add_one, hr]; simp
      rw [this]; omega
    | some r =>
      rw [sumV_take hr]
      have := h r (List.mem_of_getElem? hr)
      omega

theorem rfR_ok {b : Bq} {r : List UInt8} (h : r ∈ rfR b) : tkB (ofL r) = true ∧ 0 < r.length ∧ r.length ≤ 12 := by
  unfold rfR at h
  cases hg : rfG b
  · rw [hg] at h; simp at h
  · obtain ⟨s, c, rfl, hsc⟩ := bxB_nat (m := 12) hg
    rw [hg] at h
    simp only [Int.toNat_natCast, cond_true] at h
    have h1 := bxR_iff.1 (List.mem_filter.1 h).1
    have hl := h1.1.1.1
    exact ⟨tkB_ltr (by omega) h1.1.1.2, h1.2.1, by omega⟩

set_option maxRecDepth 100000 in
set_option maxHeartbeats 1600000 in
theorem imCountRingsFrom (b : Bq) (w : World) : Calls Tryz.prog 7 #[bv b] w fun e w' => e = .returned (.tuple #[.int .i64 (crN b : Nat), .bool (rfG b)]) ∧ Below w.heap.size w w' := by
  rw [crN_sum]
  have RF := Lib.hid (imRingsFrom b)
  unfold STPost at RF
  have hz := (zero_of_info (P := Tryz.prog) lpInfo).1
  obtain ⟨K, hK⟩ : ∃ K, K = 40 := ⟨_, rfl⟩
  have zE := zK hK
  have HK := Lib.hid hK
  have hlen := rfR_len b
  have hok := fun r (hr : r ∈ rfR b) => rfR_ok hr
  have hsm := sumV_le (fun r (hr : r ∈ rfR b) => varN_le (rfR_ok hr).2.1 (by have := (rfR_ok hr).2.2; omega))
  generalize rfR b = l at *
  generalize rfG b = G at *
  obtain ⟨N, hN⟩ : ∃ N, l.length = N := ⟨_, rfl⟩
  have HN := Lib.hid hN
  have HOK := Lib.hid hok
  have HSM := Lib.hid hsm
  have HTA := Lib.hid (show l.take N = l by rw [← hN, List.take_length])
  rw [hN] at hlen
  clear hN hok hsm hK
  go_enter Tryz.func7, Tryz.ntmps7
  go_wp2_with fail
  (with_reducible refine Calls.mono (RF.out _) ?_)
  rintro e w1 ⟨v, rfl, hO, hb⟩
  rw [HN.out] at hO
  obtain ⟨av, cv, rfl⟩ := own_formC hO
  have HOR := Lib.hid hO
  have HB := Lib.hid (ba (by go_grown) hb : Below w.heap.size w w1)
  clear hb hO
  go_wp2_with fail
  go_loopw [6, 16] (fun t i wr => ∃ j : Nat, j ≤ N ∧ i = .int .i64 j ∧ t = .int .i64 (sumV (l.take j) : Nat) ∧ Below w1.heap.size w1 wr) (fun _ i _ => N - (intOf i).toNat)
  case atStart => exact ⟨0, Nat.zero_le _, rfl, rfl, Below.refl _ _⟩
  case round =>
    obtain ⟨j, hj, rfl, rfl, hb2⟩ := hrel
    have hz2 := hb2.size
    by_cases hlj : j < N
    · obtain ⟨r, hr⟩ : ∃ r, l[j]? = some r := ⟨_, List.getElem?_eq_getElem (by rw [HN.out]; exact hlj)⟩
      obtain ⟨h2, h1, h1'⟩ := HOK.out r (List.mem_of_getElem? hr)
      obtain ⟨g, rfl⟩ : ∃ g, av = some ⟨g, 0, none⟩ := by
        rcases HOR.out.2 with ⟨h, h0⟩ | ⟨g, cap, _, h, _⟩
        · omega
        · injection h with h; exact ⟨g, h⟩
      have c0 := (str_of HOR.out HN.out).below (HOR.out.lt g rfl).2 hb2 j r hr
      have LF := Lib.hid (fun W => loopFrom_any r (by omega) W)
      have VA := Lib.hid (fun W => variants_any r h2 h1 W)
      have VL := Lib.hid (fun V (h : IsVar r V) => h.len h1 (by omega))
      obtain ⟨y, hy⟩ : ∃ y, mkLp r = y := ⟨_, rfl⟩
      rw [hy] at LF VA
      have hAy := aK HK.out y
      have hst := sumV_take hr
      have hs1 := HSM.out (j + 1)
      have hs0 := HSM.out j
      have HST := Lib.hid hst
      rw [hst] at hs1
      generalize hS : sumV (l.take j) = S at *
      have HB2 := Lib.hid hb2
      obtain ⟨wi, rfl⟩ : ∃ wi : World, wi = wr := ⟨_, rfl⟩
      clear hr hy h2 hst hS hb2
      go_wp2_with fail
      refine (LF.out _).mono ?_
      rintro e wa ⟨rfl, hba⟩
      have hzA := hba.size
      have HBA := Lib.hid (HB2.out.trans (hba.mono hz2))
      clear hba
      go_wp2_with fail
      refine (VA.out _).mono ?_
      rintro e w2 ⟨g2, cap2, V, rfl, hV, hR2, hg2w, hg2l, hb2⟩
      have hvl := VL.out V hV
      have HBF := Lib.hid (HBA.out.trans (hb2.mono (by omega)))
      obtain ⟨M, hM⟩ : ∃ M, V.length = M := ⟨_, rfl⟩
      rw [hM] at hvl ⊢
      subst hvl
      have e1 : wrap64 ((S : Int) + (varN r : Int)) = ((S + varN r : Nat) : Int) := by rw [IntWalk.wrap64_in _ ⟨by omega, by omega⟩]; omega
      have HE1 := Lib.hid e1
      clear hR2 hV hM hb2 e1
      go_wp2_with fail
      go_roundw
      case rel => exact ⟨j + 1, by omega, by go_num, by rw [HST.out]; first | exact congrArg _ HE1.out | (congr 1; done) | (congr 1; omega), HBF.out⟩
      case measure => simp [intOf]; omega
    · obtain rfl : j = N := by omega
      rw [HTA.out]
      have HBF := Lib.hid (HB.out.trans (hb2.mono HB.out.size))
      clear hb2
      go_wp2_with fail
      go_ret2
      exact ⟨rfl, HBF.out⟩

end Go.Proofs.YtkmgcmgnaeamaaaGreatDoor
