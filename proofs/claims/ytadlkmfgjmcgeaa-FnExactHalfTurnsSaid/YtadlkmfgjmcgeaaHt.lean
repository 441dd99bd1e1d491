/- Contracts: half turns. -/
import Derived.Test.YtadlkmfgjmcgeaaSs
import Derived.Test.YtadlkmfgjmcgeaaRn
import Derived.Test.YtadlkmfgjmcgeaaCw
import Derived.Test.YtadlkmfgjmcgeaaCc
namespace Go.Proofs.Ytadlkmfgjmcgeaa
open Go.ChangeShapes Go.WideShapes Go.ChangeAt Go.RowKit

set_option linter.unusedVariables false

def hbW (w : List UInt8) : Bool := clB (ofL (w ++ w))
def htL (n : Int) : List (List UInt8) := cond (inB n 0 6) ((words n.toNat).filter hbW) []
def htB (n : Int) : Bool := inB n 0 6
theorem HalfTurns_len (n : Int) : (htL n).length ≤ 900000 := by
  cases h : inB n 0 6
  · simp [htL, h]
  · have g : 0 ≤ n ∧ n ≤ 6 := by simpa [inB] using h
    simp only [htL, h, cond_true]
    have h1 := List.length_filter_le hbW (words n.toNat)
    rw [words_count] at h1
    have h2 : 3 ^ n.toNat ≤ 3 ^ 6 := Nat.pow_le_pow_right (by decide) (by omega)
    have h3 : (3 : Nat) ^ 6 = 729 := by decide
    omega

theorem tkB_of {l : List UInt8} (h1 : l.all pcb = true) (h2 : l.length ≤ 40) : tkB (ofL l) = true := by
  simp only [tkB, ofL_size, Bool.and_eq_true, decide_eq_true_eq]
  exact ⟨h2, h1⟩
theorem hb_tk {n : Nat} (hn : n ≤ 6) {u : List UInt8} (h : u ∈ words n) : tkB (ofL (u ++ u)) = true :=
  tkB_of (by rw [List.all_append, words_pcb n u h]; rfl) (by rw [List.length_append, words_len n u h]; omega)
/-- The program asks whether the end is its own way back. -/
theorem hb_back {n : Nat} (hn : n ≤ 6) (h0 : 0 < n) {u : List UInt8} (h : u ∈ words n) : hbW u = spE (fin sp0 u) (wayB (fin sp0 u)) := by
  have ht := hb_tk hn h
  have hl := words_len n u h
  have hok := fin_ok sp0_ok u
  simp only [Sp.okB] at hok
  have hb := fin_back (fin sp0 u) hok.2.2.2.2.1 hok.2.2.2.2.2 u
  rw [← fin_append] at hb
  rw [hbW, clB_yes ht, ofL_size, decide_eq_true (by rw [List.length_append]; omega), Bool.true_and]
  have he : enS (ofL (u ++ u)) = fin sp0 (u ++ u) := enS_yes ht
  have hz : zS (ofL (u ++ u)) = spE (fin sp0 (u ++ u)) sp0 := by
    rw [zS, zP, he]
    rfl
  rw [hz, Bool.eq_iff_iff, spE_iff, spE_iff, hb]
theorem ht_zero : htL 0 = [] := by
  have : hbW [] = false := by simp [hbW, clB, ofL, ByteArray.size]
  simp [htL, words, this]

theorem filt_take {α : Type} {l : List α} {j : Nat} {x : α} (f : α → Bool) (h : l[j]? = some x) : (l.take (j + 1)).filter f = (l.take j).filter f ++ cond (f x) [x] [] := by
  rw [List.take_add_one, h, List.filter_append]
  cases hf : f x <;> simp [hf]

set_option maxRecDepth 100000 in
set_option maxHeartbeats 1600000 in
theorem spHalfTurns (n : Int) (w : World) : Calls Try.prog 21 #[.int .i64 n] w (STPost (htL n) (htB n) w) := by
  obtain ⟨i0, hi, iz0, iz1, iz2⟩ := info_parts srInfo
  cases h1 : inB n 0 6
  · have hb : htB n = false := h1
    have hl : htL n = [] := by simp [htL, h1]
    rw [hl, hb]
    go_enter Try.func21, Try.ntmps21
    go_wp2_with (go_at_call 46; refine (l1In_any _ _ _ _).mono ?_; rintro e w' ⟨rfl, rfl⟩)
    go_ret2
    exact stNo (by go_grown)
  · have g1 : 0 ≤ n ∧ n ≤ 6 := by simpa [inB] using h1
    obtain ⟨m, rfl⟩ : ∃ m : Nat, n = m := ⟨n.toNat, by omega⟩
    have hm6 : m ≤ 6 := by omega
    have hb : htB (m : Int) = true := h1
    have hl : htL (m : Int) = (words m).filter hbW := by simp [htL, h1]
    rw [hl, hb]
    have P := Lib.hid (clWords_any m (by omega))
    have hct : ∀ u ∈ words m, ∀ w : World, Calls Try.prog 37 #[.string (ofL (u ++ u))] w fun e w' => e = .returned (.bool (hbW u)) ∧ Below w.heap.size w w' := fun u hu w => clClosed_any _ (hb_tk hm6 hu) w
    have hul : ∀ u ∈ words m, u.length ≤ 10 := fun u hu => by rw [words_len m u hu]; omega
    have hlen := words_count m
    obtain ⟨M, hM⟩ : ∃ M, 3 ^ m = M := ⟨_, rfl⟩
    have hM1 : M ≤ 729 := by rw [← hM]; exact Nat.pow_le_pow_right (by decide) hm6
    rw [hM] at hlen
    generalize words m = l at *
    have HCT := Lib.hid hct
    have HUL := Lib.hid hul
    have HL := Lib.hid hlen
    clear hl hb hct hul hlen hM
    go_enter Try.func21, Try.ntmps21
    go_wp2_with (go_at_call 46; refine (l1In_any _ _ _ _).mono ?_; rintro e w' ⟨rfl, rfl⟩)
    refine (P.out _).mono ?_
    rintro e w1 ⟨v1, rfl, o1, hb1⟩
    rw [HL.out] at o1
    obtain ⟨av, cv, rfl⟩ := own_formC o1
    have HB1 := Lib.hid hb1
    have O1 := Lib.hid o1
    clear hb1 o1
    go_wp2_with fail
    go_loopw [4, 13] (fun t j wr => ∃ (jj : Nat) (v : Value), jj ≤ M ∧ j = .int .i64 jj ∧ v = t ∧ wr.ownsRow w1.heap.size 9 1 v ((l.take jj).filter hbW).length (strV ((l.take jj).filter hbW)) ∧ Below w1.heap.size w1 wr) (fun _ j _ => M - (intOf j).toNat)
    case atStart => exact ⟨0, _, Nat.zero_le _, rfl, rfl, World.ownsRow_nil _ _ _ _, Below.refl _ _⟩
    case round =>
      obtain ⟨j, v, hj, rfl, rfl, hN, hb2⟩ := hrel
      have hz2 := hb2.size
      have hfl := List.length_filter_le hbW (l.take j)
      rw [List.length_take] at hfl
      by_cases hlj : j < M
      · obtain ⟨u, hu⟩ : ∃ u, l[j]? = some u := ⟨_, List.getElem?_eq_getElem (by rw [HL.out]; exact hlj)⟩
        have hmu := List.mem_of_getElem? hu
        obtain ⟨g, rfl⟩ : ∃ g, av = some ⟨g, 0, none⟩ := by
          rcases O1.out.2 with ⟨h, h0⟩ | ⟨g, cap, _, h, _⟩
          · omega
          · injection h with h; exact ⟨g, h⟩
        have c0 := (str_of O1.out HL.out).below (O1.out.lt g rfl).2 hb2 j u hu
        have hul := HUL.out u hmu
        have CL := Lib.hid (HCT.out u hmu)
        have HF := Lib.hid (filt_take hbW hu)
        obtain ⟨T, hT⟩ : ∃ T, ofL u = T := ⟨_, rfl⟩
        obtain ⟨T2, hT2⟩ : ∃ T, ofL (u ++ u) = T := ⟨_, rfl⟩
        have k1 : ∀ w : World, (Op.stringOp .add T T).run Try.prog w = .ok (.string T2) w := fun w => concat_run (by rw [← hT2, ← hT]; exact ofL_append u u) (by rw [← hT, ofL_size]; omega) w
        rw [hT2] at CL
        rw [hT] at c0
        have HT := Lib.hid hT
        have HN := Lib.hid hN
        have HB2 := Lib.hid hb2
        generalize (l.take j).filter hbW = A at *
        clear hu hmu hN hb2 hT hT2
        cases hv : hbW u
        · rw [hv] at CL HF
          go_wp2_with fail
          refine (CL.out _).mono ?_
          rintro e w2 ⟨rfl, hb3⟩
          have HN3 := Lib.hid (HN.out.kept (below_grown hb3) (by cases v.ownBlock <;> simp))
          have HB3 := Lib.hid (HB2.out.trans (hb3.mono hz2))
          clear hb3
          go_wp2_with fail
          go_roundw
          case rel => exact ⟨j + 1, v, by omega, by go_num, rfl, by rw [HF.out, cond_false, List.append_nil]; exact HN3.out, HB3.out⟩
          case measure => simp [intOf]; omega
        · rw [hv] at CL HF
          go_wp2_with fail
          refine (CL.out _).mono ?_
          rintro e w2 ⟨rfl, hb3⟩
          have HN3 := Lib.hid ((HN.out.kept (below_grown hb3) (by cases v.ownBlock <;> simp)).alloc (.cells #[.string T] 9))
          have HB3 := Lib.hid ((HB2.out.trans (hb3.mono hz2)).alloc (Nat.le_trans hz2 hb3.size) (.cells #[.string T] 9))
          have hz3 := hb3.size
          clear hb3
          go_wp2_with (at_builtin; refine wpList_append_own_at _ rfl _ _ 30 rfl w1.heap.size 9 i0 (.string ByteArray.empty) 1 16 Try.underlying30 hi iz0 iz1 iz2 rfl (by decide) v _ _ rfl HN3.out ⟨w2.heap.size, 0, none⟩ 1 1 [.string T] rfl rfl (cell_one_new _ _ _) (by intro u hu; simp at hu; subst hu; rfl) (by unfold maxLen; omega) (by omega) (by simp; omega) ?_; intro v' w3 hown' hgrow hnil hloc)
          have hlt' := HN3.out.lt
          have HB8 := Lib.hid (HB3.out.grown hgrow (by simp; omega) (fun k hk => (hlt' k hk).1))
          have HO8 := Lib.hid hown'
          clear hlt' hgrow hown' hnil hloc
          go_roundw
          case rel => exact ⟨j + 1, v', by omega, by go_num, rfl, by rw [HF.out, cond_true, strV_append, List.length_append]; simp only [strV, List.map_cons, List.map_nil, HT.out]; exact HO8.out, HB8.out⟩
          case measure => simp [intOf]; omega
      · obtain rfl : j = M := by omega
        have hta : l.take j = l := List.take_of_length_le (by rw [HL.out]; exact Nat.le_refl _)
        rw [hta] at hN
        have HN := Lib.hid (own_lessP hN HB1.out.size)
        have HB2 := Lib.hid (HB1.out.trans (hb2.mono HB1.out.size))
        clear hN hb2 hta
        go_wp2_with fail
        go_ret2
        exact ⟨_, rfl, HN.out, HB2.out⟩

/-- What the program keeps of its parts. -/
def keepP (m : Nat) (p : Sp × List UInt8) : Bool := decide (0 < m) && spE p.1 (wayB p.1)
theorem keep_eq {m : Nat} (hm : m ≤ 6) : ((parts sp0 m).filter (keepP m)).map Prod.snd = (words m).filter hbW := by
  rw [parts, List.filter_map, List.map_map]
  have e1 : ((Prod.snd : Sp × List UInt8 → List UInt8) ∘ fun w => (fin sp0 w, w)) = id := rfl
  rw [e1, List.map_id]
  apply List.filter_congr
  intro u hu
  by_cases h0 : 0 < m
  · rw [hb_back hm h0 hu]
    simp [keepP, h0]
  · obtain rfl : m = 0 := by omega
    simp only [words, List.mem_cons, List.not_mem_nil, or_false] at hu
    subst hu
    simp [keepP, hbW, clB, ofL, ByteArray.size]

set_option maxRecDepth 100000 in
set_option maxHeartbeats 3200000 in
theorem imHalfTurns (n : Int) (w : World) : Calls Try.prog 22 #[.int .i64 n] w (STPost (htL n) (htB n) w) := by
  obtain ⟨i0, hi, iz0, iz1, iz2⟩ := info_parts srInfo
  cases h1 : inB n 0 6
  · have hb : htB n = false := h1
    have hl : htL n = [] := by simp [htL, h1]
    rw [hl, hb]
    go_enter Try.func22, Try.ntmps22
    go_wp2_with (go_at_call 47; refine (isInRange_any _ _ _ _).mono ?_; rintro e w' ⟨rfl, rfl⟩)
    go_ret2
    exact stNo (by go_grown)
  · have g1 : 0 ≤ n ∧ n ≤ 6 := by simpa [inB] using h1
    obtain ⟨m, rfl⟩ : ∃ m : Nat, n = m := ⟨n.toNat, by omega⟩
    have hm6 : m ≤ 6 := by omega
    have hb : htB (m : Int) = true := h1
    have hl : htL (m : Int) = ((parts sp0 m).filter (keepP m)).map Prod.snd := by rw [keep_eq hm6]; simp [htL, h1]
    rw [hl, hb]
    have P := Lib.hid (fun w => (partsFrom_any sp0 (sp0_ok.mono (by decide)) m (by omega) w : Calls Try.prog 50 #[.agg #[.int .i64 0, .int .i64 0, .int .i64 0, .int .i64 0, .int .i64 0], .int .i64 (m : Nat)] w (PrtPost sp0 m w)))
    have hok : ∀ p ∈ parts sp0 m, p.1.okB 1000 ∧ p.2.length ≤ 10 := fun p hp => ⟨(parts_ok sp0_ok hp).1.mono (by omega), by rw [(parts_ok sp0_ok hp).2]; omega⟩
    have hlen := parts_len sp0 m
    obtain ⟨M, hM⟩ : ∃ M, 3 ^ m = M := ⟨_, rfl⟩
    have hM1 : M ≤ 729 := by rw [← hM]; exact Nat.pow_le_pow_right (by decide) hm6
    rw [hM] at hlen
    generalize hpl : parts sp0 m = l at *
    have HPL := Lib.hid hpl
    have HOK := Lib.hid hok
    have HL := Lib.hid hlen
    have HM := Lib.hid hM
    clear hl hb hok hlen hM hpl
    go_enter Try.func22, Try.ntmps22
    go_wp2_with (go_at_call 47; refine (isInRange_any _ _ _ _).mono ?_; rintro e w' ⟨rfl, rfl⟩)
    refine (P.out _).mono ?_
    rintro e w1 ⟨g, cap, rfl, o1, hb1⟩
    rw [HM.out, HPL.out] at o1
    rw [HM.out]
    have HP := Lib.hid (prt_of o1 HL.out)
    have hg := (o1.lt g rfl).2
    have HB1 := Lib.hid hb1
    clear hb1 o1
    go_wp2_with fail
    go_loopw [4, 14] (fun t j wr => ∃ (jj : Nat) (v : Value), jj ≤ M ∧ j = .int .i64 jj ∧ v = t ∧ wr.ownsRow w1.heap.size 9 1 v (((l.take jj).filter (keepP m)).map Prod.snd).length (strV (((l.take jj).filter (keepP m)).map Prod.snd)) ∧ Below w1.heap.size w1 wr) (fun _ j _ => M - (intOf j).toNat)
    case atStart => exact ⟨0, _, Nat.zero_le _, rfl, rfl, World.ownsRow_nil _ _ _ _, Below.refl _ _⟩
    case round =>
      obtain ⟨j, v, hj, rfl, rfl, hN, hb2⟩ := hrel
      have hz2 := hb2.size
      have hfl := List.length_filter_le (keepP m) (l.take j)
      rw [List.length_take] at hfl
      by_cases hlj : j < M
      · obtain ⟨p, hp⟩ : ∃ p, l[j]? = some p := ⟨_, List.getElem?_eq_getElem (by rw [HL.out]; exact hlj)⟩
        obtain ⟨c0, c1, c2, c3, c4, c5⟩ := (HP.out.below hg hb2) j p hp
        obtain ⟨hpo, hpl⟩ := HOK.out p (List.mem_of_getElem? hp)
        have hF := filt_take (keepP m) hp
        obtain ⟨s, u⟩ := p
        simp only at c0 c1 c2 c3 c4 c5 hpo hpl
        have WB := Lib.hid (wayBack_any s (hpo.mono (by decide)))
        have hA : (((l.take j).filter (keepP m)).map Prod.snd).length ≤ j := by rw [List.length_map]; omega
        have hF2 : ((l.take (j + 1)).filter (keepP m)).map Prod.snd = ((l.take j).filter (keepP m)).map Prod.snd ++ cond (keepP m (s, u)) [u] [] := by
          rw [hF, List.map_append]
          cases keepP m (s, u) <;> rfl
        have HF := Lib.hid hF2
        have HN := Lib.hid hN
        have HB2 := Lib.hid hb2
        obtain ⟨T, hT⟩ : ∃ T, ofL u = T := ⟨_, rfl⟩
        rw [hT] at c5
        have HT := Lib.hid hT
        generalize ((l.take j).filter (keepP m)).map Prod.snd = A at *
        obtain ⟨wi, rfl⟩ : ∃ wi : World, wi = wr := ⟨_, rfl⟩
        clear hp hF hF2 hN hb2 hT hpo hfl
        by_cases hm0 : m = 0
        · have HV := Lib.hid (show keepP m (s, u) = false by simp [keepP, hm0])
          rw [HV.out] at HF
          subst hm0
          have HN3 := Lib.hid (HN.out.alloc (.cells #[.int .i64 s.x0, .int .i64 s.x1, .int .i64 s.x2, .int .i64 s.x3, .int .i64 s.h, .string T] 55))
          have HB3 := Lib.hid (HB2.out.alloc hz2 (.cells #[.int .i64 s.x0, .int .i64 s.x1, .int .i64 s.x2, .int .i64 s.x3, .int .i64 s.h, .string T] 55))
          go_wp2_with fail
          go_region
          all_goals
            go_wp2_with fail
            go_roundw
            case rel => exact ⟨j + 1, v, by omega, by go_num, rfl, by rw [HF.out, cond_false, List.append_nil]; exact HN3.out, HB3.out.trans ⟨rfl, rfl, rfl, Nat.le_refl _, fun _ _ => rfl⟩⟩
            case measure => simp [intOf]; omega
        · have hm1 : (0 : Int) < (m : Int) := by omega
          have hm1n : 0 < m := by omega
          have hK : keepP m (s, u) = ((s.x0 == (wayB s).x0 && (s.x1 == (wayB s).x1 && (s.x2 == (wayB s).x2 && s.x3 == (wayB s).x3))) && s.h == (wayB s).h) := by simp [keepP, spE, show 0 < m by omega]
          generalize wayB s = q at hK WB
          have HK := Lib.hid hK
          clear hK
          have hS0 := blk6 (heap_alloc_new wi (.cells #[.int .i64 s.x0, .int .i64 s.x1, .int .i64 s.x2, .int .i64 s.x3, .int .i64 s.h, .string T] 55))
          go_wp2_with fail
          go_region_held3 (fun w' => w'.cell? ⟨wi.heap.size, 0, none⟩ = some (.int .i64 s.x0) ∧ w'.cell? ⟨wi.heap.size, 1, none⟩ = some (.int .i64 s.x1) ∧ w'.cell? ⟨wi.heap.size, 2, none⟩ = some (.int .i64 s.x2) ∧ w'.cell? ⟨wi.heap.size, 3, none⟩ = some (.int .i64 s.x3) ∧ w'.cell? ⟨wi.heap.size, 4, none⟩ = some (.int .i64 s.h) ∧ w'.cell? ⟨wi.heap.size, 5, none⟩ = some (.string T))
            (first | (with_reducible assumption) | (with_reducible exact pr_drew hS0) | (with_reducible exact pr_drew (pr_alloc hS0 _)) | (with_reducible exact pr_alloc (pr_drew hS0) _) | (with_reducible refine pr_drew ?_; with_reducible assumption) | (with_reducible refine pr_alloc ?_ _; with_reducible assumption) | (with_reducible refine pr_re (by with_reducible assumption) ?_ _; (focus first | (with_reducible assumption) | omega | (simp; done) | (simp; omega))) | (with_reducible refine pr_below ?_ ?_ h1; (focus first | (with_reducible assumption) | (with_reducible refine pr_undrew ?_; with_reducible assumption)); (focus first | (with_reducible assumption) | omega | (simp; done) | (simp; omega))) | ((repeat (with_reducible refine pr_set ?_ _ _ ?_; rotate_left 1; (focus first | (with_reducible assumption) | omega | (simp; done) | (simp; omega)))); with_reducible assumption))
            (((with_reducible refine (WB.out _).mono ?_); rintro e wA ⟨rfl, h1⟩; (try with_reducible replace h1 := undrew h1)))
          all_goals
            have hAA := (HB2.out.alloc hz2 (.cells #[.int .i64 s.x0, .int .i64 s.x1, .int .i64 s.x2, .int .i64 s.x3, .int .i64 s.h, .string T] 55)).trans (h1.mono (by simp; omega))
            have HNA := Lib.hid ((HN.out.alloc (.cells #[.int .i64 s.x0, .int .i64 s.x1, .int .i64 s.x2, .int .i64 s.x3, .int .i64 s.h, .string T] 55)).kept (below_grown h1) (by cases v.ownBlock <;> simp))
            have c5' : wA.cell? ⟨wi.heap.size, 5, none⟩ = some (.string T) := cl_below hS0.2.2.2.2.2 (by simp) h1
            have HAA := Lib.hid hAA
            have hzA := hAA.size
            clear hS0 h1 hAA
            cases hv : ((s.x0 == q.x0 && (s.x1 == q.x1 && (s.x2 == q.x2 && s.x3 == q.x3))) && s.h == q.h)
            · have HV := Lib.hid (HK.out.trans hv)
              rw [HV.out] at HF
              go_wp2_with fail
              go_roundw
              case rel => exact ⟨j + 1, v, by omega, by go_num, rfl, by rw [HF.out, cond_false, List.append_nil]; exact HNA.out, HAA.out⟩
              case measure => simp [intOf]; omega
            · have HV := Lib.hid (HK.out.trans hv)
              rw [HV.out] at HF
              have HNB := Lib.hid (HNA.out.alloc (.cells #[.string T] 9))
              have HAB := Lib.hid (HAA.out.alloc hzA (.cells #[.string T] 9))
              go_wp2_with (at_builtin; refine wpList_append_own_at _ rfl _ _ 30 rfl w1.heap.size 9 i0 (.string ByteArray.empty) 1 16 Try.underlying30 hi iz0 iz1 iz2 rfl (by decide) v _ _ rfl HNB.out ⟨wA.heap.size, 0, none⟩ 1 1 [.string T] rfl rfl (cell_one_new _ _ _) (by intro u hu; simp at hu; subst hu; rfl) (by unfold maxLen; omega) (by omega) (by simp; omega) ?_; intro v' w3 hown' hgrow hnil hloc)
              have hlt' := HNB.out.lt
              have HB8 := Lib.hid (HAB.out.grown hgrow (by simp; omega) (fun k hk => (hlt' k hk).1))
              have HO8 := Lib.hid hown'
              clear hlt' hgrow hown' hnil hloc
              go_roundw
              case rel => exact ⟨j + 1, v', by omega, by go_num, rfl, by rw [HF.out, cond_true, strV_append, List.length_append]; simp only [strV, List.map_cons, List.map_nil, HT.out]; exact HO8.out, HB8.out⟩
              case measure => simp [intOf]; omega
      · obtain rfl : j = M := by omega
        have hta : l.take j = l := List.take_of_length_le (by rw [HL.out]; exact Nat.le_refl _)
        rw [hta] at hN
        have HN := Lib.hid (own_lessP hN HB1.out.size)
        have HB2 := Lib.hid (HB1.out.trans (hb2.mono HB1.out.size))
        clear hN hb2 hta
        go_wp2_with fail
        go_ret2
        exact ⟨_, rfl, HN.out, HB2.out⟩

end Go.Proofs.Ytadlkmfgjmcgeaa
