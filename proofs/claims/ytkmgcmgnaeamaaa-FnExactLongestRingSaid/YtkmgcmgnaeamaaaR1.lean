/- Contracts and facts, put together (part 1). Conditions: each says its own. -/
import Derived.Test.YtkmgcmgnaeamaaaQ5
import Derived.Sort.Walk0
import Derived.ChangeSlices
import Derived.Deep.Slices
import Derived.Deep.OwnRows
import Derived.Laws.MakeOwn

/- Contract: LongestRing, in the model. -/
namespace Go.Proofs.Ytkmgcmgnaeamaaa
open Go.ChangeShapes Go.WideShapes Go.ChangeAt Go.RowKit Go.Sort

set_option linter.unusedVariables false
set_option linter.unusedSimpArgs false

theorem less_runB (a b : List UInt8) : Op.bytesLess (ofL a).toList (ofL b).toList = decide (a < b) := by
  rw [bytesLess_eq, ByteArray.toList_eq, ByteArray.toList_eq]
  rfl

theorem eq_nilB (a : List UInt8) : ((ofL a).toList == []) = decide (a = []) := by
  rw [ByteArray.toList_eq]
  exact (show (a == []) = decide (a = []) by by_cases h : a = [] <;> simp [h])

theorem isLs_nil {X : List UInt8 → Prop} (h : IsLs X []) : ∀ w, ¬ X w := by
  rcases h with ⟨_, h⟩ | ⟨_, h, _⟩
  · exact h
  · exact absurd h (by simp)

theorem bxW_le12 {s c : Nat} (h : s + c ≤ 12) : (bxW s c).length ≤ 531441 := Nat.le_trans (bxW_le s c) (Nat.pow_le_pow_right (by decide) h)

theorem kd_le {k m d n : Nat} (hd : m - k = d) (h : k ≤ m) (h2 : m ≤ n) (h3 : n ≤ 12) : k + d ≤ 12 := by omega

theorem kd_pos {k m d : Nat} (hd : m - k = d) (h : k ≤ m) (h0 : 0 < m) : 0 < k + d := by omega

theorem w64K {k : Nat} (h : k ≤ 12) : wrap64 ((k : Int) + 1) = (k : Int) + 1 := IntWalk.wrap64_in _ ⟨by omega, by omega⟩

theorem msK {m k : Nat} (h : k ≤ m) : m + 2 - (intOf (.int .i64 ((k : Int) + 1))).toNat < m + 2 - (intOf (.int .i64 (k : Int))).toNat := by simp [intOf]; omega

theorem ms1 {m : Nat} (h : 0 < m) (h2 : m ≤ 12) : (intOf (.int .i64 ((m : Int) - 1))).toNat < (intOf (.int .i64 (m : Int))).toNat := by simp [intOf]; omega

theorem w64M {m : Nat} (h : 0 < m) (h2 : m ≤ 12) : Value.int .i64 ((m : Int) - 1) = .int .i64 ((m - 1 : Nat) : Int) := by congr 1; omega

def boxesUp (s c m k : Nat) (w : List UInt8) : Prop := ∃ k', m - c ≤ k' ∧ k' < k ∧ k' ≤ s ∧ k' ≤ m ∧ w ∈ bxR k' (m - k')

def textsUp (R : List (List UInt8)) (q : Nat) (w : List UInt8) : Prop := ∃ t, t < q ∧ R[t]? = some w ∧ rgb w = true

set_option maxRecDepth 100000 in
set_option maxHeartbeats 3200000 in
theorem spLongestRing (b : Bq) (w : World) : Calls Try.prog 33 #[bv b] w fun e w' => e = .returned (.tuple #[.string (oT (lgG b)), .bool (lgG b).isSome]) ∧ Below w.heap.size w w' := by
  have PS := Lib.hid (spSmB_any b 12 (by decide))
  unfold lgG
  cases hb : bxB 12 b
  · rw [hb] at PS
    clear hb
    go_enter Try.func33, Try.ntmps33
    go_wp2_with (go_at_call 64; refine (PS.out _).mono ?_; rintro e w1 ⟨rfl, h1⟩; have hB : Below w.heap.size w w1 := ba (by go_grown) h1; obtain ⟨hc1, hf1⟩ := bcell h1; have hq := h1.size; (try simp at hq); have hz0 : w.heap.size < w1.heap.size := (by omega); have HK1 := Lib.hid h1; clear h1 hq)
    go_returns
    exact ⟨rfl, by go_grown⟩
  · rw [hb] at PS
    obtain ⟨s, c, rfl, hsc⟩ := bxB_nat (m := 12) hb
    simp only [Int.toNat_natCast, cond_true]
    obtain ⟨n, hn⟩ : ∃ n, s + c = n := ⟨_, rfl⟩
    have hni : (s : Int) + (c : Int) = (n : Int) := by omega
    have hnw := w64N n (by omega)
    have HNO := Lib.hid (fun (h : ∀ m, 0 < m → m ≤ n → lgN s c m = []) => (isLs_none (s := s) (c := c) (by rw [hn]; exact h)))
    have HYE := Lib.hid (fun (m : Nat) (x : List UInt8) (h : IsLs (fun w => w ∈ lgN s c m) x) (hm : 0 < m) (hmn : m ≤ n) (hno : ∀ m', m < m' → m' ≤ n → lgN s c m' = []) (hx : x ≠ []) => isLs_long h hm (by rw [hn]; exact hmn) (by rw [hn]; exact hno) hx)
    generalize lgO s c = O at *
    clear hb
    go_enter Try.func33, Try.ntmps33
    go_wp2_with fail
    (go_at_call 64; (with_reducible refine (PS.out _).mono ?_); rintro e wA ⟨rfl, h1⟩; (try with_reducible replace h1 := undrew h1); have hB : Below w.heap.size w wA := ba (by go_grown) h1; obtain ⟨hcwA, hfwA⟩ := bcell h1; have hqwA := h1.size; (try simp at hqwA); (try have hz0wA : w.heap.size < wA.heap.size := (by omega)); (try have he0wA : w.heap.size ≤ wA.heap.size := (by omega)))
    go_wp2_with fail
    have c0 : wA.cell? ⟨w.heap.size, 0, none⟩ = some (.int .i64 (s : Int)) := by go_simp
    have c1 : wA.cell? ⟨w.heap.size, 1, none⟩ = some (.int .i64 (c : Int)) := by go_simp
    have HBB := Lib.hid hB
    have HC := Lib.hid (And.intro c0 c1)
    have hwA : w.heap.size < wA.heap.size := by omega
    clear hcwA hfwA hB c0 c1 h1
    go_loopw [4] (fun i wr => ∃ m : Nat, m ≤ n ∧ i = .int .i64 m ∧ (∀ m', m < m' → m' ≤ n → lgN s c m' = []) ∧ Below wA.heap.size wA wr) (fun i _ => (intOf i).toNat)
    case atStart => exact ⟨n, Nat.le_refl _, rfl, fun m' h1 h2 => by omega, Below.refl _ _⟩
    case round =>
      obtain ⟨m, hm, rfl, hno, hb⟩ := hrel
      have HNM := Lib.hid hno
      have HB := Lib.hid hb
      have hzm : wA.heap.size ≤ wr.heap.size := hb.size
      have b0 : wr.cell? ⟨w.heap.size, 0, none⟩ = some (.int .i64 (s : Int)) := by rw [hb.cell (p := ⟨w.heap.size, 0, none⟩) hwA]; exact HC.out.1
      have b1 : wr.cell? ⟨w.heap.size, 1, none⟩ = some (.int .i64 (c : Int)) := by rw [hb.cell (p := ⟨w.heap.size, 1, none⟩) hwA]; exact HC.out.2
      obtain ⟨wi, rfl⟩ : ∃ wi : World, wi = wr := ⟨_, rfl⟩
      by_cases hm0 : m = 0
      · subst hm0
        have HO := Lib.hid (HNO.out (fun m h0 h1 => HNM.out m h0 h1))
        have HBF := Lib.hid (HBB.out.trans (hb.mono HBB.out.size))
        clear hno hb
        go_wp2_with fail
        go_ret2
        exact ⟨by rw [HO.out]; rfl, HBF.out⟩
      · have hmp : (0 : Int) < (m : Int) := by omega
        have hmpN : 0 < m := by omega
        have hdm : decide ((0 : Int) < (m : Int)) = true := by simp; omega
        obtain ⟨k0, hk0⟩ : ∃ k0, m - c = k0 := ⟨_, rfl⟩
        have hmc : wrap64 ((m : Int) - (c : Int)) = (m : Int) - (c : Int) := IntWalk.wrap64_in _ ⟨by omega, by omega⟩
        have LM0 : ∀ w, Calls Try.prog 60 #[.int .i64 0, .int .i64 ((m : Int) - (c : Int))] w fun e w' => e = .returned (.int .i64 (k0 : Int)) ∧ w = w' := fun w => by
          have := l1Most_any 0 ((m : Int) - (c : Int)) w
          rw [show max 0 ((m : Int) - (c : Int)) = (k0 : Int) by omega] at this
          exact this
        have LM := Lib.hid LM0
        clear hno hb LM0
        go_wp2_with (go_at_call 60; refine (LM.out _).mono ?_; rintro e w' ⟨rfl, rfl⟩)
        go_loopw [5, 6] (fun u i wr => ∃ (k : Nat) (x : List UInt8), k0 ≤ k ∧ k ≤ m + 1 ∧ i = .int .i64 k ∧ u = .string (ofL x) ∧ IsLs (boxesUp s c m k) x ∧ Below wA.heap.size wA wr) (fun _ i _ => m + 2 - (intOf i).toNat)
        case atStart => exact ⟨k0, [], Nat.le_refl _, by omega, rfl, rfl, .inl ⟨rfl, fun w ⟨k', h1, h2, _⟩ => by omega⟩, HB.out⟩
        case round =>
          obtain ⟨k, x, hk0k, hkm, rfl, rfl, hx, hb⟩ := hrel
          have HX := Lib.hid hx
          have HBk := Lib.hid hb
          have hzk : wA.heap.size ≤ wr.heap.size := hb.size
          have d0 : wr.cell? ⟨w.heap.size, 0, none⟩ = some (.int .i64 (s : Int)) := by rw [hb.cell (p := ⟨w.heap.size, 0, none⟩) hwA]; exact HC.out.1
          have d1 : wr.cell? ⟨w.heap.size, 1, none⟩ = some (.int .i64 (c : Int)) := by rw [hb.cell (p := ⟨w.heap.size, 1, none⟩) hwA]; exact HC.out.2
          obtain ⟨wk, rfl⟩ : ∃ wk : World, wk = wr := ⟨_, rfl⟩
          clear b0 b1
          have hend : ¬ (k ≤ s ∧ k ≤ m) → ∀ w, boxesUp s c m k w ↔ w ∈ lgN s c m := fun hn w => by
            rw [lgN_box hmpN]
            constructor
            · rintro ⟨k', h1, h2, h3, h4, h5⟩; exact ⟨k', h1, h3, h4, h5⟩
            · rintro ⟨k', h1, h3, h4, h5⟩; exact ⟨k', h1, by omega, h3, h4, h5⟩
          by_cases hksm : k ≤ s ∧ k ≤ m
          · obtain ⟨hks, hkm2⟩ := hksm
            have e1 : (k : Int) ≤ (s : Int) := by omega
            have e2 : (k : Int) ≤ (m : Int) := by omega
            have dk1 : decide ((k : Int) ≤ (s : Int)) = true := by simp; omega
            have dk2 : decide ((k : Int) ≤ (m : Int)) = true := by simp; omega
            obtain ⟨d, hd⟩ : ∃ d, m - k = d := ⟨_, rfl⟩
            have hmd : (m : Int) - (k : Int) = (d : Int) := by omega
            have hdw := w64N d (by omega)
            have hkd := kd_le hd hkm2 hm (by rw [← hn]; exact hsc)
            have PA := Lib.hid (spAll_any k d hkd)
            unfold AllPost at PA
            have hlen := bxW_le12 hkd
            have HTK := Lib.hid (fun r (hr : r ∈ bxW k d) => bxW_tk (s := k) (c := d) (Nat.le_trans hkd (by decide)) hr)
            have HRR := Lib.hid (show ∀ w, w ∈ bxR k d ↔ ∃ t, (bxW k d)[t]? = some w ∧ rgb w = true from fun w => by
              rw [bxR, List.mem_filter, List.mem_iff_getElem?]
              exact ⟨fun ⟨⟨t, ht⟩, h⟩ => ⟨t, ht, h⟩, fun ⟨t, ht, h⟩ => ⟨⟨t, ht⟩, h⟩⟩)
            have HD := Lib.hid hd
            generalize bxW k d = R at *
            obtain ⟨N, hN⟩ : ∃ N, R.length = N := ⟨_, rfl⟩
            have HN := Lib.hid hN
            rw [hN] at hlen
            have hBw : Below w.heap.size w wk := HBB.out.trans (hb.mono HBB.out.size)
            have HBND := Lib.hid (show m - c ≤ k from by rw [hk0]; exact hk0k)
            have HAR := Lib.hid (show k0 ≤ k + 1 ∧ k + 1 ≤ m + 1 ∧ 0 < k + d ∧ k + d ≤ 12 ∧ k ≤ s ∧ k ≤ m from ⟨Nat.le_succ_of_le hk0k, Nat.succ_le_succ hkm2, kd_pos hd hkm2 hmpN, hkd, hks, hkm2⟩)
            clear hx hb hN hd hend hnw hni hmc hk0 hk0k hkm hkd hkm2 hks hm0 hmp hmpN hdm hm hsc
            go_wp2_with fail
            (with_reducible refine Calls.mono (PA.out _) ?_)
            rintro e w1 ⟨v, rfl, hO, hb1⟩
            rw [HN.out] at hO
            have HB1 := Lib.hid (HBk.out.trans (hb1.mono hzk))
            obtain ⟨av, cv, rfl⟩ := own_formC hO
            have HO := Lib.hid hO
            clear hb1 hO
            go_wp2_with fail
            go_loopw [5, 44] (fun u i wr => ∃ (q : Nat) (y : List UInt8), q ≤ N ∧ i = .int .i64 q ∧ u = .string (ofL y) ∧ IsLs (fun w => boxesUp s c m k w ∨ textsUp R q w) y ∧ Below w1.heap.size w1 wr) (fun _ i _ => N - (intOf i).toNat)
            case atStart => exact ⟨0, x, Nat.zero_le _, rfl, rfl, isLs_ext HX.out fun w => ⟨.inl, fun h => h.elim id fun ⟨t, ht, _⟩ => by omega⟩, Below.refl _ _⟩
            case round =>
              obtain ⟨q, y, hq, rfl, rfl, hy, hb⟩ := hrel
              have HY := Lib.hid hy
              have HBq := Lib.hid hb
              by_cases hql : q < N
              · obtain ⟨r, hr⟩ : ∃ r, R[q]? = some r := ⟨_, List.getElem?_eq_getElem (by rw [HN.out]; exact hql)⟩
                obtain ⟨t1, t2, t3⟩ := HTK.out r (List.mem_of_getElem? hr)
                obtain ⟨g, rfl⟩ : ∃ g, av = some ⟨g, 0, none⟩ := by
                  rcases HO.out.2 with ⟨h, h0⟩ | ⟨g, cap, _, h, _⟩
                  · omega
                  · injection h with h; exact ⟨g, h⟩
                have cr := (str_of HO.out HN.out).below (HO.out.lt g rfl).2 hb q r hr
                have h12 := HAR.out.2.2.2.1
                have hpos := HAR.out.2.2.1
                have CR := Lib.hid (csRing_any (ofL r) (by rw [ofL_size]; omega))
                rw [t2] at CR
                have hBq : Below w.heap.size w wr := HBB.out.trans ((HB1.out.trans (hb.mono HB1.out.size)).mono HBB.out.size)
                have hrl : 0 < r.length := by omega
                clear h12 hpos
                have HRQ := Lib.hid hr
                have htx : ∀ w, textsUp R (q + 1) w ↔ textsUp R q w ∨ (w = r ∧ rgb r = true) := fun w => by
                  constructor
                  · rintro ⟨t, ht, h1, h2⟩
                    by_cases htq : t = q
                    · subst htq
                      rw [HRQ.out] at h1
                      injection h1 with h1
                      subst h1
                      exact .inr ⟨rfl, h2⟩
                    · exact .inl ⟨t, by omega, h1, h2⟩
                  · rintro (⟨t, ht, h1, h2⟩ | ⟨rfl, h2⟩)
                    · exact ⟨t, by omega, h1, h2⟩
                    · exact ⟨q, by omega, HRQ.out, h2⟩
                have HTX := Lib.hid htx
                cases hrg : rgb r
                · rw [hrg] at CR
                  have HY2 := Lib.hid (show IsLs (fun w => boxesUp s c m k w ∨ textsUp R (q + 1) w) y from isLs_ext hy fun w => by rw [HTX.out w, hrg]; simp)
                  clear hy hb hr t1 t2 t3 hrg htx
                  go_wp2_with fail
                  (go_at_call 66; (with_reducible refine (CR.out _).mono ?_); rintro e wC ⟨rfl, h1⟩; (try with_reducible replace h1 := undrew h1); have hB : Below w.heap.size w wC := ba (by go_grown) h1; obtain ⟨hcwC, hfwC⟩ := bcell h1; have hqwC := h1.size; (try simp at hqwC); )
                  have HB2 := Lib.hid (HBq.out.trans (h1.mono HBq.out.size))
                  clear h1 hcwC hfwC cr hBq hB
                  go_wp2_with fail
                  go_roundw
                  case rel => exact ⟨q + 1, y, by omega, by go_num, rfl, HY2.out, HB2.out⟩
                  case measure => simp [intOf]; omega
                · rw [hrg] at CR
                  have HY2 := Lib.hid (show IsLs (fun w => boxesUp s c m k w ∨ textsUp R (q + 1) w) (lsN y r) from isLs_ext (isLs_next hy hrl) fun w => by rw [HTX.out w, hrg]; simp [or_assoc])
                  have hE := eq_nilB y
                  have hL := less_runB r y
                  have hLS : lsN y r = if y = [] ∨ r < y then r else y := rfl
                  by_cases hy0 : y = []
                  · rw [decide_eq_true hy0] at hE
                    rw [if_pos (.inl hy0)] at hLS
                    rw [hLS] at HY2
                    clear hy hb hr t1 t2 t3 hrg htx hL hLS hy0
                    generalize ofL y = Y at *
                    go_wp2_with fail
                    (go_at_call 66; (with_reducible refine (CR.out _).mono ?_); rintro e wC ⟨rfl, h1⟩; (try with_reducible replace h1 := undrew h1); have hB : Below w.heap.size w wC := ba (by go_grown) h1; obtain ⟨hcwC, hfwC⟩ := bcell h1; have hqwC := h1.size; (try simp at hqwC); )
                    have HB2 := Lib.hid (HBq.out.trans (h1.mono HBq.out.size))
                    clear h1 hcwC hfwC cr hBq hB
                    go_wp2_with fail
                    go_roundw
                    case rel => exact ⟨q + 1, r, by omega, by go_num, rfl, HY2.out, HB2.out⟩
                    case measure => simp [intOf]; omega
                  · rw [decide_eq_false hy0] at hE
                    by_cases hlt : r < y
                    · rw [decide_eq_true hlt] at hL
                      rw [if_pos (.inr hlt)] at hLS
                      rw [hLS] at HY2
                      clear hy hb hr t1 t2 t3 hrg htx hLS hy0 hlt
                      generalize ofL y = Y at *
                      go_wp2_with fail
                      (go_at_call 66; (with_reducible refine (CR.out _).mono ?_); rintro e wC ⟨rfl, h1⟩; (try with_reducible replace h1 := undrew h1); have hB : Below w.heap.size w wC := ba (by go_grown) h1; obtain ⟨hcwC, hfwC⟩ := bcell h1; have hqwC := h1.size; (try simp at hqwC); )
                      have HB2 := Lib.hid (HBq.out.trans (h1.mono HBq.out.size))
                      clear h1 hcwC hfwC cr hBq hB
                      go_wp2_with fail
                      go_roundw
                      case rel => exact ⟨q + 1, r, by omega, by go_num, rfl, HY2.out, HB2.out⟩
                      case measure => simp [intOf]; omega
                    · rw [decide_eq_false hlt] at hL
                      rw [if_neg (fun h => h.elim hy0 hlt)] at hLS
                      rw [hLS] at HY2
                      clear hy hb hr t1 t2 t3 hrg htx hLS hy0 hlt
                      generalize hYY : ofL y = Y at *
                      have HYY := Lib.hid hYY
                      clear hYY
                      go_wp2_with fail
                      (go_at_call 66; (with_reducible refine (CR.out _).mono ?_); rintro e wC ⟨rfl, h1⟩; (try with_reducible replace h1 := undrew h1); have hB : Below w.heap.size w wC := ba (by go_grown) h1; obtain ⟨hcwC, hfwC⟩ := bcell h1; have hqwC := h1.size; (try simp at hqwC); )
                      have HB2 := Lib.hid (HBq.out.trans (h1.mono HBq.out.size))
                      clear h1 hcwC hfwC cr hBq hB
                      go_wp2_with fail
                      go_roundw
                      case rel => exact ⟨q + 1, y, by omega, by go_num, by rw [HYY.out], HY2.out, HB2.out⟩
                      case measure => simp [intOf]; omega
              · obtain rfl : q = N := by omega
                have HX2 := Lib.hid (show IsLs (boxesUp s c m (k + 1)) y from isLs_ext hy fun w => by
                  constructor
                  · rintro (⟨k', h1, h2, h3, h4, h5⟩ | ⟨t, ht, h1, h2⟩)
                    · exact ⟨k', h1, Nat.lt_succ_of_lt h2, h3, h4, h5⟩
                    · exact ⟨k, HBND.out, Nat.lt_succ_self k, HAR.out.2.2.2.2.1, HAR.out.2.2.2.2.2, by rw [HD.out]; exact (HRR.out w).2 ⟨t, h1, h2⟩⟩
                  · rintro ⟨k', h1, h2, h3, h4, h5⟩
                    by_cases hkk : k' = k
                    · subst hkk
                      rw [HD.out] at h5
                      obtain ⟨t, ht, h6⟩ := (HRR.out w).1 h5
                      exact .inr ⟨t, by have := (List.getElem?_eq_some_iff.1 ht).1; rw [HN.out] at this; exact this, ht, h6⟩
                    · exact .inl ⟨k', h1, Nat.lt_of_le_of_ne (Nat.le_of_lt_succ h2) hkk, h3, h4, h5⟩)
                have HB2 := Lib.hid (HB1.out.trans (hb.mono HB1.out.size))
                have hk12 : k ≤ 12 := Nat.le_trans (Nat.le_add_right k d) HAR.out.2.2.2.1
                clear hy hb hlen hq hql
                have hkw := w64K hk12
                go_wp2_with fail
                go_roundw
                case rel => exact ⟨k + 1, y, HAR.out.1, HAR.out.2.1, by rw [hkw]; rfl, rfl, HX2.out, HB2.out⟩
                case measure => rw [hkw]; exact msK HAR.out.2.2.2.2.2
          · have HL := Lib.hid (isLs_ext hx (hend hksm))
            have hE := eq_nilB x
            have HBw := Lib.hid (HBB.out.trans (hb.mono HBB.out.size))
            have hcond : ¬ (k : Int) ≤ (s : Int) ∨ (k : Int) ≤ (s : Int) ∧ ¬ (k : Int) ≤ (m : Int) := by omega
            have hm12 : m ≤ 12 := by omega
            by_cases hx0 : x = []
            · rw [decide_eq_true hx0] at hE
              have HNM2 := Lib.hid (show ∀ m', m - 1 < m' → m' ≤ n → lgN s c m' = [] from fun m' h1 h2 => by
                by_cases h3 : m' = m
                · subst h3
                  have h4 := HL.out
                  rw [hx0] at h4
                  exact List.eq_nil_iff_forall_not_mem.2 (isLs_nil h4)
                · exact HNM.out m' (by omega) h2)
              have hm1 : m - 1 ≤ n := by omega
              clear hx hb hend hnw hni hmc hk0 hk0k hkm hksm hx0 hsc hm
              rcases hcond with hks | ⟨hks, hkm⟩
              · go_wp2_with fail
                go_roundw
                case rel => exact ⟨m - 1, hm1, w64M hmpN hm12, HNM2.out, HBk.out⟩
                case measure => exact ms1 hmpN hm12
              · go_wp2_with fail
                go_roundw
                case rel => exact ⟨m - 1, hm1, w64M hmpN hm12, HNM2.out, HBk.out⟩
                case measure => exact ms1 hmpN hm12
            · rw [decide_eq_false hx0] at hE
              have HYO := Lib.hid (HYE.out m x HL.out hmpN hm HNM.out hx0)
              clear hx hb hend hnw hni hmc hk0 hk0k hkm hksm hx0 hsc hm
              rcases hcond with hks | ⟨hks, hkm⟩
              · go_wp2_with fail
                go_ret2
                exact ⟨by rw [HYO.out]; rfl, HBw.out⟩
              · go_wp2_with fail
                go_ret2
                exact ⟨by rw [HYO.out]; rfl, HBw.out⟩

end Go.Proofs.Ytkmgcmgnaeamaaa

/- An argument that is a list of texts, opened; lists of texts counted and copied in the laws. -/
namespace Go.Proofs.Ytkmgcmgnaeamaaa
open Go.ChangeShapes Go.WideShapes Go.ChangeAt Go.RowKit Go.Joins Go.Deep

set_option linter.unusedVariables false

theorem cell_blockT {w : World} {a : Addr} {v : Value} (h : w.cell? a = some v) : a.block < w.heap.size := by
  refine Classical.byContradiction fun hn => ?_
  rw [World.cell?, Array.getElem?_eq_none (by omega)] at h
  cases h

theorem add_blockT (a : Addr) (n : Nat) : (a.add n).block = a.block := by by_cases e : n = 0 <;> simp [Addr.add, e]

/-- The slice at a reads the texts l, below block N. -/
def TxA (N : Nat) (w : World) (a : Option Addr) (l : List (List UInt8)) : Prop := ∀ (j : Nat) u, l[j]? = some u → ∃ b : Addr, a = some b ∧ b.block < N ∧ w.cell? (b.add j) = some (.string (ofL u)) ∧ u.length ≤ maxLen

theorem TxA.below {w w' : World} {N m : Nat} {a : Option Addr} {l : List (List UInt8)} (h : TxA N w a l) (hg : N ≤ m) (hb : Below m w w') : TxA N w' a l := fun j x hx => by
  obtain ⟨b, h1, h2, h3, h4⟩ := h j x hx
  refine ⟨b, h1, h2, ?_, h4⟩
  rw [hb.cell (by rw [add_blockT]; omega)]
  exact h3

set_option maxRecDepth 100000 in
theorem open_texts {H : Type} {enc : TypeId × Value → H} {W : World} {base : Nat} {spare : Nat → Bool} {held : Bool} {r : Reach} {b0 : Nat} {v : Value} {d : DataW H} {p : List MemPlace}
    (hv : Value.okWide Try.prog W r b0 36 v) (h : DataW.Trod enc Try.prog W base spare held 36 v d p) : ∃ (a : Option Addr) (n c : Nat) (l : List (List UInt8)), v = .slice a n c ∧ l.length = n ∧ n ≤ maxLen ∧ TxA W.heap.size W a l := by
  obtain ⟨a0, len, cap, rfl⟩ := okWide_slice Try.underlying36 hv
  obtain ⟨fuel, hf⟩ := h
  have hf' : DataW.trod enc Try.prog W base spare held fuel 36 [.slice a0 len cap] = some (d, p) := by simpa [Value.cells] using hf
  have ce : Try.prog.cellsOf 9 = 1 := by kernel_rfl
  rcases open_slice Try.underlying36 hf' with ⟨hcs, _⟩ | ⟨a, l2, c2, m, n, D, Pl, hcs, hb, hl, hm, hmm, _, hx⟩
  · simp at hcs
    obtain ⟨rfl, rfl, rfl⟩ := hcs
    exact ⟨none, 0, 0, [], rfl, rfl, Nat.zero_le _, fun j x hx => by simp at hx⟩
  · simp at hcs
    obtain ⟨rfl, rfl, rfl⟩ := hcs
    have hlm : len ≤ m := by rw [hmm]; split <;> omega
    have each : ∀ i, i < len → ∃ u : List UInt8, W.cell? (a.add i) = some (.string (ofL u)) ∧ u.length ≤ maxLen := by
      intro i hi
      obtain ⟨cs', h1, h2⟩ := hx i (by omega)
      rw [ce] at h1
      obtain ⟨_, hlen, hcell⟩ := World.cells?_some h1
      obtain ⟨s, rfl, _, hs⟩ := DataW.trod_string Try.underlying9 h2
      have e0 := hcell 0 (by simp)
      refine ⟨s.data.toList, ?_, by simpa using hs⟩
      rw [ofL_self]
      simpa [Addr.add] using e0
    obtain ⟨q, hq⟩ := choose_lt each
    refine ⟨some a, len, cap, (List.range len).map q, rfl, by simp, by omega, fun j p hp => ?_⟩
    have hj : j < len := by have := (List.getElem?_eq_some_iff.1 hp).1; simpa using this
    rw [List.getElem?_map, List.getElem?_range hj] at hp
    simp only [Option.map_some, Option.some.injEq] at hp
    subst hp
    obtain ⟨q1, q2⟩ := hq j hj
    refine ⟨a, rfl, ?_, q1, q2⟩
    have hb1 := cell_blockT q1
    rwa [add_blockT] at hb1

/-- Block g begins with n texts: those of l, then empty ones; nothing of them is frozen. -/
def RT (w : World) (g n : Nat) (l : List (List UInt8)) : Prop := g < w.heap.size ∧ ∀ j : Nat, j < n → w.cell? ⟨g, j, none⟩ = some (.string (ofL (l.getD j []))) ∧ w.frozen? ⟨g, j, none⟩ = false

theorem RT.cell {w : World} {g n j : Nat} {l : List (List UInt8)} (h : RT w g n l) (hj : j < n) : w.cell? ⟨g, j, none⟩ = some (.string (ofL (l.getD j []))) := (h.2 j hj).1

theorem RT.str {w : World} {g n : Nat} {l : List (List UInt8)} (h : RT w g n l) (hn : l.length = n) : StrAt w g l := fun j x hx => by
  have hj : j < n := by rw [← hn]; exact (List.getElem?_eq_some_iff.1 hx).1
  rw [h.cell hj]
  simp [hx]

theorem RT.set {w : World} {g n : Nat} {l : List (List UInt8)} (h : RT w g n l) (j : Nat) (hj : j < l.length) (x : List UInt8) : RT (w.setCell ⟨g, j, none⟩ (.string (ofL x))) g n (l.set j x) :=
  ⟨by simpa using h.1, fun i hi => by
    refine ⟨?_, by rw [World.frozen?_setCell]; exact (h.2 i hi).2⟩
    by_cases e : j = i
    · subst e
      rw [World.cell?_setCell_same (h := h.cell hi)]
      simp [hj]
    · rw [World.cell?_setCell_other (h := fun q => e (by injection q)), h.cell hi]
      simp [e]⟩

theorem RT.of_row {w : World} {g n : Nat} {l : List (List UInt8)} (h : w.rowIs g 9 n fun j => .string (ofL (l.getD j []))) : RT w g n l := ⟨World.rowIs.lt h, fun j hj => ⟨World.rowIs.cell h hj, World.rowIs.frozen h j⟩⟩

theorem RT.made (w : World) (n : Nat) : RT (w.alloc (.cells (madeCells #[.string ByteArray.empty] n) 9)) w.heap.size n (List.replicate n []) := by
  refine RT.of_row (World.rowIs.congr (World.rowIs_made w (.string ByteArray.empty) n 9) fun i hi => ?_)
  simp [hi]
  rfl

theorem RT.below {w w' : World} {g n m : Nat} {l : List (List UInt8)} (h : RT w g n l) (hg : g < m) (hb : Below m w w') : RT w' g n l :=
  ⟨Nat.lt_of_lt_of_le h.1 hb.size, fun j hj => by
    rw [hb.cell (p := ⟨g, j, none⟩) hg, hb.frozen (p := ⟨g, j, none⟩) hg]
    exact h.2 j hj⟩

theorem mkStrs (n : Nat) (hn : n ≤ 2000000) (w : World) : (Instr.makeSlice 36 (.int .i64 ((n : Nat) : Int)) (.int .i64 ((n : Nat) : Int))).run Try.prog w = .ok (.slice (some ⟨w.heap.size, 0, none⟩) n n) (w.alloc (.cells (madeCells #[.string ByteArray.empty] n) 9)) :=
  run_make_row' (P := Try.prog) 36 9 (.string ByteArray.empty) 16 Try.underlying36 srInfo rfl .i64 .i64 n (by omega) (by omega) w

theorem take_rowT {l : List (List UInt8)} {k n : Nat} {x : List UInt8} (hx : l[k]? = some x) (hk : k < n) : (l.take k ++ List.replicate (n - k) []).set k x = l.take (k + 1) ++ List.replicate (n - (k + 1)) [] := by
  have hl : (l.take k).length = k := by rw [List.length_take]; have := (List.getElem?_eq_some_iff.1 hx).1; omega
  rw [List.set_append_right _ _ (by omega), hl, Nat.sub_self, show n - k = n - (k + 1) + 1 by omega, List.replicate_succ, List.set_cons_zero, List.take_add_one, hx, List.append_assoc]
  rfl

set_option maxRecDepth 100000 in
set_option maxHeartbeats 800000 in
theorem szStringS_any (a : Option Addr) (n c : Nat) (l : List (List UInt8)) (hn : l.length = n) (hm : n ≤ maxLen) (w : World) (N : Nat) (h : TxA N w a l) :
    Calls Try.prog 26 #[.slice a n c, .int .i64 1048576] w fun e w' => (∃ r : Int, e = .returned (.int .i64 r) ∧ (r < 0 ∨ (0 ≤ r ∧ n ≤ 1048576 ∧ ∀ u ∈ l, u.length ≤ 1048576))) ∧ w = w' := by
  have HN := Lib.hid hn
  have H1 := Lib.hid h
  unfold maxLen at hm
  clear hn h
  by_cases h0 : n ≤ 1048576
  · have h1 : ¬ (1048576 : Int) - (n : Int) < 0 := by omega
    go_enter Try.func26, Try.ntmps26
    go_wp2_with fail
    go_loop [1, 5] (fun t i => ∃ (k : Nat) (L : Int), k ≤ n ∧ i = .int .i64 k ∧ t = .int .i64 L ∧ 0 ≤ L ∧ L ≤ 1048576 ∧ ∀ j u, j < k → l[j]? = some u → u.length ≤ 1048576) (fun _ i => n - (intOf i).toNat)
    case atStart => exact ⟨0, _, Nat.zero_le _, rfl, rfl, by omega, by omega, fun j u hj => absurd hj (by omega)⟩
    case round =>
      obtain ⟨k, L, hk, rfl, rfl, hL0, hL1, hu⟩ := hrel
      have HU := Lib.hid hu
      clear hu
      by_cases hlt : k < n
      · obtain ⟨u, hu⟩ : ∃ u, l[k]? = some u := ⟨_, List.getElem?_eq_getElem (by rw [HN.out]; exact hlt)⟩
        obtain ⟨b, rfl, _, hc, hml⟩ := H1.out k u hu
        have hz := ofL_size u
        unfold maxLen at hml
        have HUU := Lib.hid hu
        obtain ⟨z, hzz⟩ : ∃ z, u.length = z := ⟨_, rfl⟩
        rw [hzz] at hz hml
        have HZ := Lib.hid hzz
        generalize ofL u = U at *
        have i1 : (0 : Int) ≤ (k : Int) := by omega
        have i2 : (k : Int) < (n : Int) := by omega
        clear hu hzz
        by_cases hneg : L - (z : Int) < 0
        · go_wp2_with fail
          go_ret
          exact ⟨⟨-1, rfl, .inl (by omega)⟩, rfl⟩
        · go_wp2_with fail
          go_round
          case rel => exact ⟨k + 1, L - (z : Int), by omega, by go_num, by go_num, by omega, by omega, fun j x hj hx => by
            by_cases e : j = k
            · subst e
              rw [HUU.out] at hx
              injection hx with hx
              subst hx
              rw [HZ.out]; omega
            · exact HU.out j x (by omega) hx⟩
          case measure => simp [intOf]; omega
      · go_wp2_with fail
        go_ret
        have hall : ∀ u ∈ l, u.length ≤ 1048576 := fun u hu => by
          obtain ⟨j, hj⟩ := List.mem_iff_getElem?.1 hu
          exact HU.out j u (by have := (List.getElem?_eq_some_iff.1 hj).1; rw [HN.out] at this; omega) hj
        exact ⟨⟨L, rfl, .inr (by first | exact ⟨hL0, h0, hall⟩ | exact ⟨hL0, hall⟩)⟩, rfl⟩
  · have h1 : (1048576 : Int) - (n : Int) < 0 := by omega
    go_enter Try.func26, Try.ntmps26
    go_wp2_with fail
    go_ret
    exact ⟨⟨-1, rfl, .inl (by omega)⟩, rfl⟩

set_option maxRecDepth 100000 in
set_option maxHeartbeats 800000 in
theorem toStringS_any (a : Option Addr) (n c : Nat) (l : List (List UInt8)) (hn : l.length = n) (hb : n ≤ 2000000) (w : World) (N : Nat) (hN : N ≤ w.heap.size) (h : TxA N w a l) :
    Calls Try.prog 28 #[.slice a n c] w fun e w' => e = .returned (.slice (some ⟨w.heap.size, 0, none⟩) n n) ∧ RT w' w.heap.size n l ∧ Below w.heap.size w w' := by
  have HN := Lib.hid hn
  have H1 := Lib.hid h
  have HM := Lib.hid (RT.made w n)
  clear hn h
  have hmk := mkStrs n (by omega)
  go_enter Try.func28, Try.ntmps28
  go_wp2_with fail
  go_loopw [4] (fun i wr => ∃ k : Nat, k ≤ n ∧ i = .int .i64 k ∧ RT wr w.heap.size n (l.take k ++ List.replicate (n - k) []) ∧ Below w.heap.size w wr) (fun i _ => n - (intOf i).toNat)
  case atStart => exact ⟨0, Nat.zero_le _, rfl, HM.out, by go_grown⟩
  case round =>
    obtain ⟨k, hk, rfl, r1, hB⟩ := hrel
    have HB := Lib.hid hB
    have R1 := Lib.hid r1
    clear hB r1
    by_cases hlt : k < n
    · obtain ⟨x, hx⟩ : ∃ x, l[k]? = some x := ⟨_, List.getElem?_eq_getElem (by rw [HN.out]; exact hlt)⟩
      obtain ⟨b, rfl, hb1, hb2, _⟩ := H1.out k x hx
      have c0 := HB.out.cell (p := b.add k) (by rw [add_blockT]; omega)
      rw [hb2] at c0
      obtain ⟨c1, e1⟩ : ∃ y, wr.cell? ⟨w.heap.size, k, none⟩ = some y := ⟨_, R1.out.cell hlt⟩
      have f1 := (R1.out.2 k hlt).2
      have R2 := Lib.hid (R1.out.set k (by rw [List.length_append, List.length_take, List.length_replicate, HN.out]; omega) x)
      rw [take_rowT hx hlt] at R2
      have i1 : (0 : Int) ≤ (k : Int) := by omega
      have i2 : (k : Int) < (n : Int) := by omega
      clear hb2 hx
      go_wp2_with fail
      go_roundw
      case rel => exact ⟨k + 1, by omega, by go_num, R2.out, HB.out.setCell (Nat.le_refl _) _⟩
      case measure => simp [intOf]; omega
    · obtain rfl : k = n := by omega
      have hR := R1.out
      rw [show k - k = 0 by omega, List.replicate_zero, List.append_nil, List.take_of_length_le (by rw [HN.out]; exact Nat.le_refl _)] at hR
      have HR := Lib.hid hR
      clear hR
      go_wp2_with fail
      go_ret
      exact ⟨rfl, HR.out, HB.out⟩

end Go.Proofs.Ytkmgcmgnaeamaaa

/- Contracts: EnoughFor, in the model and in the program. -/
namespace Go.Proofs.Ytkmgcmgnaeamaaa
open Go.ChangeShapes Go.WideShapes Go.ChangeAt Go.RowKit Go.Sort

set_option linter.unusedVariables false
set_option linter.unusedSimpArgs false

/-- The first j texts: all tracks, and the greater numbers of pieces. -/
def enB (l : List (List UInt8)) (j : Nat) : Bool := (l.take j).all fun u => tkB (ofL u)

def enS1 (m : Bq) (u : List UInt8) : Bq := ⟨max m.x (stN (ofL u)), max m.r (cvN (ofL u))⟩

def enQ (l : List (List UInt8)) (j : Nat) : Bq := (l.take j).foldl enS1 ⟨0, 0⟩

theorem enQ_next {l : List (List UInt8)} {j : Nat} {u : List UInt8} (h : l[j]? = some u) : enQ l (j + 1) = enS1 (enQ l j) u := by
  rw [enQ, List.take_add_one, h]
  simp [enQ]

theorem enB_next {l : List (List UInt8)} {j : Nat} {u : List UInt8} (h : l[j]? = some u) : enB l (j + 1) = (enB l j && tkB (ofL u)) := by
  rw [enB, List.take_add_one, h]
  simp [enB]

theorem enB_no {l : List (List UInt8)} {j : Nat} {u : List UInt8} (h : l[j]? = some u) (hu : tkB (ofL u) = false) : (l.all fun u => tkB (ofL u)) = false := by
  rw [List.all_eq_false]
  exact ⟨u, List.mem_of_getElem? h, by simp [hu]⟩

theorem enB_all (l : List (List UInt8)) : enB l l.length = l.all fun u => tkB (ofL u) := by rw [enB, List.take_length]

theorem enQ_bd {l : List (List UInt8)} (h : ∀ u ∈ l, tkB (ofL u) = true) : ∀ j, (0 ≤ (enQ l j).x ∧ (enQ l j).x ≤ 40) ∧ (0 ≤ (enQ l j).r ∧ (enQ l j).r ≤ 40)
  | 0 => by simp [enQ]
  | j + 1 => by
    have ih := enQ_bd h j
    cases hu : l[j]? with
    | none =>
      have : l.take (j + 1) = l.take j := by rw [List.take_add_one, hu]; simp
      rw [enQ, this]; exact ih
    | some u =>
      rw [enQ_next hu]
      have h1 := st_cv (ofL u)
      have h2 := tkB_size (h u (List.mem_of_getElem? hu))
      simp only [enS1]
      omega

def enG (l : List (List UInt8)) : Bool := decide (l.length ≤ 20) && ((l.all fun u => tkB (ofL u)) && bxB 40 (enQ l l.length))

def enR (l : List (List UInt8)) : Bq := cond (enG l) (enQ l l.length) ⟨0, 0⟩

theorem enG_long {l : List (List UInt8)} (h : ¬ l.length ≤ 20) : enG l = false := by rw [enG, decide_eq_false h]; rfl

theorem enG_bad {l : List (List UInt8)} (h : (l.all fun u => tkB (ofL u)) = false) : enG l = false := by rw [enG, h]; simp

theorem enG_good {l : List (List UInt8)} (h0 : l.length ≤ 20) (h : (l.all fun u => tkB (ofL u)) = true) : enG l = bxB 40 (enQ l l.length) := by rw [enG, decide_eq_true h0, h]; simp

set_option maxRecDepth 100000 in
set_option maxHeartbeats 1600000 in
theorem imEnoughFor (g n cap : Nat) (l : List (List UInt8)) (hl : l.length = n) (hn : n ≤ 1048576) (hu : ∀ u ∈ l, u.length ≤ 1048576) (w : World) (hg : g < w.heap.size) (hv : StrAt w g l) :
    Calls Try.prog 29 #[.slice (some ⟨g, 0, none⟩) n cap] w fun e w' => e = .returned (.tuple #[bv (enR l), .bool (enG l)]) ∧ Below w.heap.size w w' := by
  have HL := Lib.hid hl
  have HU := Lib.hid hu
  have HV := Lib.hid hv
  unfold enR
  by_cases h20 : n ≤ 20
  · have h20i : ¬ (20 : Int) < (n : Int) := by omega
    have HG0 := Lib.hid (fun (h : (l.all fun u => tkB (ofL u)) = false) => enG_bad h)
    have HG1 := Lib.hid (fun (h : (l.all fun u => tkB (ofL u)) = true) => enG_good (by rw [hl]; exact h20) h)
    generalize enG l = G at *
    have T0 := Lib.hid (TwoAt.new w ⟨0, 0⟩ 25)
    have T1 := Lib.hid (TwoAt.new (w.alloc (.cells #[.int .i64 0, .int .i64 0] 25)) ⟨0, 0⟩ 66)
    clear hl hu hv
    go_enter Try.func29, Try.ntmps29
    go_wp2_with fail
    go_loopw [13] (fun i wr => ∃ j : Nat, j ≤ n ∧ i = .int .i64 j ∧ enB l j = true ∧ TwoAt wr w.heap.size ⟨0, 0⟩ ∧ TwoAt wr (w.heap.size + 1) (enQ l j) ∧ w.heap.size + 1 < wr.heap.size ∧ Below w.heap.size w wr) (fun i _ => n - (intOf i).toNat)
    case atStart =>
      refine ⟨0, Nat.zero_le _, rfl, rfl, ?_, ?_, by simp, by go_grown⟩
      · exact T0.out.below (by simp) (Below.alloc (Below.refl _ _) (Nat.le_refl _) _)
      · have := T1.out
        rw [show (w.alloc (.cells #[.int .i64 0, .int .i64 0] 25)).heap.size = w.heap.size + 1 by simp] at this
        exact this
    case round =>
      obtain ⟨j, hj, rfl, hall, t0, t1, hz, hb⟩ := hrel
      have A0 := Lib.hid t0
      have A1 := Lib.hid t1
      have HB := Lib.hid hb
      have HAL := Lib.hid hall
      obtain ⟨wi, rfl⟩ : ∃ wi : World, wi = wr := ⟨_, rfl⟩
      have hzw : w.heap.size ≤ wi.heap.size := hb.size
      by_cases hlt : j < n
      · obtain ⟨u, hu⟩ : ∃ u, l[j]? = some u := ⟨_, List.getElem?_eq_getElem (by rw [HL.out]; exact hlt)⟩
        have hul := HU.out u (List.mem_of_getElem? hu)
        have c0 := (HV.out.below hg hb) j u hu
        have hus : (ofL u).size ≤ 1048576 := by rw [ofL_size]; exact hul
        have IT := Lib.hid (imIsTrack_any (ofL u) hus)
        obtain ⟨x0, x1, x2, x3⟩ := A1.out
        obtain ⟨y0, y1, y2, y3⟩ := A0.out
        cases ht : tkB (ofL u)
        · rw [ht] at IT
          have HGF := Lib.hid (HG0.out (enB_no hu ht))
          clear hu hul hus t0 t1 hall ht
          go_wp2_with (go_at_call 55; refine (IT.out _).mono ?_; rintro e w' ⟨rfl, rfl⟩)
          refine bodyPost_ret (by simp [results, Try.results29, go_sem, *]; try rfl) rfl ?_
          exact ⟨by rw [HGF.out]; rfl, by go_grown⟩
        · rw [ht] at IT
          have NO := needsOf_any (ofL u) ht
          have HEQ := Lib.hid (enQ_next hu)
          have HEB := Lib.hid (show enB l (j + 1) = true by rw [enB_next hu, HAL.out, ht]; rfl)
          have MO := Lib.hid (show ∀ w, Calls Try.prog 61 #[bv (enQ l j), bv ⟨(stN (ofL u) : Int), (cvN (ofL u) : Int)⟩] w fun e w' => e = .returned (bv (enQ l (j + 1))) ∧ Below w.heap.size w w' from fun w => by rw [HEQ.out]; exact most_any (enQ l j) ⟨(stN (ofL u) : Int), (cvN (ofL u) : Int)⟩ w)
          have NOH := Lib.hid NO
          generalize (⟨(stN (ofL u) : Int), (cvN (ofL u) : Int)⟩ : Bq) = d at *
          generalize enQ l j = q at *
          generalize hq' : enQ l (j + 1) = q' at *
          have HQ' := Lib.hid hq'
          clear hu hul hus t0 t1 hall ht NO hq' x0 x1 x2 x3
          obtain ⟨x0, x1, x2, x3⟩ := A1.out
          have hBi : Below wi.heap.size wi wi := Below.refl _ _
          go_wp2_with (go_at_call 55; refine (IT.out _).mono ?_; rintro e w' ⟨rfl, rfl⟩)
          refine absWB (F := fun X => (X.cell? ⟨w.heap.size + 1, 0, none⟩ = some (.int .i64 q.x)) ∧ (X.cell? ⟨w.heap.size + 1, 1, none⟩ = some (.int .i64 q.r)) ∧ (X.cell? ⟨w.heap.size, 0, none⟩ = some (.int .i64 0)) ∧ (X.frozen? ⟨w.heap.size + 1, 0, none⟩ = false) ∧ (X.frozen? ⟨w.heap.size + 1, 1, none⟩ = false) ∧ (w.heap.size + 1 < X.heap.size) ∧ (Below wi.heap.size wi X) ∧ Below w.heap.size w X) ⟨by go_simp, by go_simp, by go_simp, x2, x3, by omega, hBi, by go_grown⟩ ?_
          rintro X ⟨ca_0, cb_1, cc_0, fz0, fz1, hzX, hqX, HB⟩
          have ka_0 := fun d os => cell_regrown ca_0 d os
          have kb_1 := fun d os => cell_regrown cb_1 d os
          have kc_0 := fun d os => cell_regrown cc_0 d os
          refine region_below_tail 4 (by kernel_rfl) (by kernel_rfl) ?_
          simp only [List.take_succ_cons, List.take_zero, List.drop_succ_cons, List.drop_zero]
          repeat (quiet_step (first | (go_at_call 56; with_reducible exact Calls.regrown_of (NOH.out _)) | (go_at_call 61; with_reducible exact Calls.regrown_of (MO.out _))))
          refine wpQuiet_nil ?_
          rintro _ ⟨⟨dq, osq⟩, rfl⟩
          have hbwz := below_regrown X dq osq
          generalize grow (redrawn X dq) osq = wz at hbwz ⊢
          obtain ⟨hcwz, hfwz⟩ := bcell hbwz
          have hlwz := hbwz.size
          replace HB := ba HB hbwz
          have hqz := ba hqX hbwz
          have hzz := hqz.size
          have F1 := Lib.hid ((A1.out.below hz hqz).put q')
          have F0 := Lib.hid (((A0.out.below (by omega) hqz).other (a := ⟨w.heap.size + 1, 0, none⟩) (by simp) (.int .i64 q'.x)).other (a := ⟨w.heap.size + 1, 1, none⟩) (by simp) (.int .i64 q'.r))
          have FB := Lib.hid ((HB.setCell (show w.heap.size ≤ (⟨w.heap.size + 1, 0, none⟩ : Addr).block by show _ ≤ w.heap.size + 1; omega) (.int .i64 q'.x)).setCell (show w.heap.size ≤ (⟨w.heap.size + 1, 1, none⟩ : Addr).block by show _ ≤ w.heap.size + 1; omega) (.int .i64 q'.r))
          obtain ⟨z0, z1, z2, z3⟩ := A1.out.below hz hqz
          clear hqX hbwz hcwz hfwz x0 x1 x2 x3 y0 y1 y2 y3 hqz
          go_wp2_with fail
          go_roundw
          case rel => exact ⟨j + 1, by omega, by go_num, HEB.out, F0.out, by rw [HQ'.out]; exact F1.out, by simp; omega, FB.out⟩
          case measure => simp [intOf]; omega
      · obtain rfl : j = n := by omega
        have hga := HG1.out (by rw [← enB_all, HL.out]; exact HAL.out)
        rw [HL.out] at hga
        have OB := onlyBox_any (enQ l j)
        rw [← hga] at OB
        have SBX := Lib.hid (supplyBox_any (enQ l j))
        obtain ⟨x0, x1, x2, x3⟩ := A1.out
        obtain ⟨y0, y1, y2, y3⟩ := A0.out
        clear t0 t1 hall hga
        have OB2 : ∀ w, Calls Try.prog 63 #[bv (enQ l j)] w fun e w' => e = .returned (.tuple #[bv (cond G (enQ l j) ⟨0, 0⟩), .bool G]) ∧ Below w.heap.size w w' := fun w => by
          have := OB w
          cases G <;> exact this
        have OBH := Lib.hid OB2
        have HLO := Lib.hid (show cond G (enQ l j) ⟨0, 0⟩ = cond G (enQ l l.length) ⟨0, 0⟩ by rw [HL.out])
        generalize hres : cond G (enQ l j) (⟨0, 0⟩ : Bq) = res at *
        have hzi0 : w.heap.size < wi.heap.size := by omega
        clear OB OB2 hres
        go_wp2_with fail
        (go_at_call 57; (with_reducible refine (SBX.out _).mono ?_); rintro e wC ⟨rfl, h1⟩; (try with_reducible replace h1 := undrew h1); have hB : Below w.heap.size w wC := ba (by go_grown) h1; obtain ⟨hcwC, hfwC⟩ := bcell h1; have hqwC := h1.size; (try simp at hqwC); (try have hz0wC : w.heap.size < wC.heap.size := (by omega)); (try have he0wC : w.heap.size ≤ wC.heap.size := (by omega)); (try have hz1wC : w.heap.size + 1 < wC.heap.size := (by omega)); (try have he1wC : w.heap.size + 1 ≤ wC.heap.size := (by omega)))
        go_wp2_with fail
        (go_at_call 63; (with_reducible refine (OBH.out _).mono ?_); rintro e wD ⟨rfl, h1⟩; (try with_reducible replace h1 := undrew h1); have hB : Below w.heap.size w wD := ba (by go_grown) h1; obtain ⟨hcwD, hfwD⟩ := bcell h1; have hqwD := h1.size; (try simp at hqwD); (try have hz0wD : w.heap.size < wD.heap.size := (by omega)); (try have he0wD : w.heap.size ≤ wD.heap.size := (by omega)); (try have hz1wD : w.heap.size + 1 < wD.heap.size := (by omega)); (try have he1wD : w.heap.size + 1 ≤ wD.heap.size := (by omega)); (try have hz2wD : wC.heap.size < wD.heap.size := (by omega)); (try have he2wD : wC.heap.size ≤ wD.heap.size := (by omega)))
        go_wp2_with fail
        refine bodyPost_ret (by simp [results, Try.results29, go_sem, *]; try rfl) rfl ?_
        exact ⟨by rw [← HLO.out], by go_grown⟩
  · have h20i : (20 : Int) < (n : Int) := by omega
    have HG := Lib.hid (enG_long (l := l) (by rw [hl]; exact h20))
    clear hl hu hv
    go_enter Try.func29, Try.ntmps29
    go_wp2_with fail
    refine bodyPost_ret (by simp [results, Try.results29, go_sem, *]; try rfl) rfl ?_
    exact ⟨by rw [HG.out]; rfl, by go_grown⟩

set_option maxRecDepth 100000 in
set_option maxHeartbeats 1600000 in
theorem spEnoughFor (g n cap : Nat) (l : List (List UInt8)) (hl : l.length = n) (hn : n ≤ 1048576) (hu : ∀ u ∈ l, u.length ≤ 1048576) (w : World) (hg : g < w.heap.size) (hv : StrAt w g l) :
    Calls Try.prog 27 #[.slice (some ⟨g, 0, none⟩) n cap] w fun e w' => e = .returned (.tuple #[bv (enR l), .bool (enG l)]) ∧ Below w.heap.size w w' := by
  have HL := Lib.hid hl
  have HU := Lib.hid hu
  have HV := Lib.hid hv
  unfold enR
  by_cases h20 : n ≤ 20
  · have h20i : ¬ (20 : Int) < (n : Int) := by omega
    have HG0 := Lib.hid (fun (h : (l.all fun u => tkB (ofL u)) = false) => enG_bad h)
    have HG1 := Lib.hid (fun (h : (l.all fun u => tkB (ofL u)) = true) => enG_good (by rw [hl]; exact h20) h)
    generalize enG l = G at *
    have T0 := Lib.hid (TwoAt.new w ⟨0, 0⟩ 25)
    have T1 := Lib.hid (TwoAt.new (w.alloc (.cells #[.int .i64 0, .int .i64 0] 25)) ⟨0, 0⟩ 25)
    clear hl hu hv
    go_enter Try.func27, Try.ntmps27
    go_wp2_with fail
    go_loopw [15] (fun i wr => ∃ j : Nat, j ≤ n ∧ i = .int .i64 j ∧ enB l j = true ∧ TwoAt wr w.heap.size ⟨0, 0⟩ ∧ TwoAt wr (w.heap.size + 1) (enQ l j) ∧ w.heap.size + 1 < wr.heap.size ∧ Below w.heap.size w wr) (fun i _ => n - (intOf i).toNat)
    case atStart =>
      refine ⟨0, Nat.zero_le _, rfl, rfl, ?_, ?_, by simp, by go_grown⟩
      · exact T0.out.below (by simp) (Below.alloc (Below.refl _ _) (Nat.le_refl _) _)
      · have := T1.out
        rw [show (w.alloc (.cells #[.int .i64 0, .int .i64 0] 25)).heap.size = w.heap.size + 1 by simp] at this
        exact this
    case round =>
      obtain ⟨j, hj, rfl, hall, t0, t1, hz, hb⟩ := hrel
      have A0 := Lib.hid t0
      have A1 := Lib.hid t1
      have HBi := Lib.hid hb
      have HAL := Lib.hid hall
      obtain ⟨wi, rfl⟩ : ∃ wi : World, wi = wr := ⟨_, rfl⟩
      have hzw : w.heap.size ≤ wi.heap.size := hb.size
      have hzi0 : w.heap.size < wi.heap.size := by omega
      by_cases hlt : j < n
      · obtain ⟨u, hu⟩ : ∃ u, l[j]? = some u := ⟨_, List.getElem?_eq_getElem (by rw [HL.out]; exact hlt)⟩
        have hul := HU.out u (List.mem_of_getElem? hu)
        have c0 := (HV.out.below hg hb) j u hu
        have hus : (ofL u).size ≤ 1048576 := by rw [ofL_size]; exact hul
        have IT := Lib.hid (tkGood_any (ofL u) hus)
        obtain ⟨x0, x1, x2, x3⟩ := A1.out
        obtain ⟨y0, y1, y2, y3⟩ := A0.out
        cases ht : tkB (ofL u)
        · rw [ht] at IT
          have HGF := Lib.hid (HG0.out (enB_no hu ht))
          clear hu hul hus t0 t1 hall ht
          go_wp2_with (go_at_call 53; refine (IT.out _).mono ?_; rintro e w' ⟨rfl, rfl⟩)
          refine bodyPost_ret (by simp [results, Try.results27, go_sem, *]; try rfl) rfl ?_
          exact ⟨by rw [HGF.out]; rfl, by go_grown⟩
        · rw [ht] at IT
          have SO := spOf_any (ofL u) ht
          have HEQ := Lib.hid (enQ_next hu)
          have HEB := Lib.hid (show enB l (j + 1) = true by rw [enB_next hu, HAL.out, ht]; rfl)
          have SOH := Lib.hid SO
          have M0 := l1Most_any (enQ l j).x (stN (ofL u) : Int)
          have M1 := l1Most_any (enQ l j).r (cvN (ofL u) : Int)
          have hq'x : (enQ l (j + 1)).x = max (enQ l j).x (stN (ofL u) : Int) := by rw [HEQ.out]; rfl
          have hq'r : (enQ l (j + 1)).r = max (enQ l j).r (cvN (ofL u) : Int) := by rw [HEQ.out]; rfl
          rw [← hq'x] at M0
          rw [← hq'r] at M1
          have M0H := Lib.hid M0
          have M1H := Lib.hid M1
          clear M0 M1 hq'x hq'r
          generalize (stN (ofL u) : Int) = dx at *
          generalize (cvN (ofL u) : Int) = dr at *
          generalize enQ l j = q at *
          generalize hq' : enQ l (j + 1) = q' at *
          have HQ' := Lib.hid hq'
          obtain ⟨qx, qr⟩ := q
          obtain ⟨px, pr⟩ := q'
          clear hu hul hus t0 t1 hall ht SO hq' x0 x1 x2 x3
          obtain ⟨x0, x1, x2, x3⟩ := A1.out
          simp only at x0 x1
          go_wp2_with (go_at_call 53; refine (IT.out _).mono ?_; rintro e w' ⟨rfl, rfl⟩)
          (go_at_call 54; (with_reducible refine (SOH.out _).mono ?_); rintro e wN ⟨rfl, h1⟩; (try with_reducible replace h1 := undrew h1); have hB : Below w.heap.size w wN := ba (by go_grown) h1; obtain ⟨hcwN, hfwN⟩ := bcell h1; have hqwN := h1.size; (try simp at hqwN); (try have hz0wN : w.heap.size < wN.heap.size := (by omega)); (try have he0wN : w.heap.size ≤ wN.heap.size := (by omega)); (try have hz1wN : w.heap.size + 1 < wN.heap.size := (by omega)); (try have he1wN : w.heap.size + 1 ≤ wN.heap.size := (by omega)))
          have hqN := Lib.hid (h1 : Below wi.heap.size wi wN)
          have n0 : wN.cell? ⟨w.heap.size + 1, 0, none⟩ = some (.int .i64 qx) := by go_simp
          have n1 : wN.cell? ⟨w.heap.size + 1, 1, none⟩ = some (.int .i64 qr) := by go_simp
          have n2 : wN.frozen? ⟨w.heap.size + 1, 0, none⟩ = false := by go_simp
          have n3 : wN.frozen? ⟨w.heap.size + 1, 1, none⟩ = false := by go_simp
          have n4 : w.heap.size + 1 < wN.heap.size := by omega
          have n5 : w.heap.size < wN.heap.size := by omega
          clear h1 hcwN hfwN x0 x1 x2 x3 y0 y1 y2 y3
          go_wp2_with fail
          refine absWB (F := fun X => (X.cell? ⟨w.heap.size + 1, 0, none⟩ = some (.int .i64 qx)) ∧ (X.cell? ⟨w.heap.size + 1, 1, none⟩ = some (.int .i64 qr)) ∧ (X.cell? ⟨wN.heap.size, 0, none⟩ = some (.int .i64 dx)) ∧ (X.cell? ⟨wN.heap.size, 1, none⟩ = some (.int .i64 dr)) ∧ (X.frozen? ⟨w.heap.size + 1, 0, none⟩ = false) ∧ (X.frozen? ⟨w.heap.size + 1, 1, none⟩ = false) ∧ (w.heap.size + 1 < X.heap.size) ∧ (Below wi.heap.size wi X) ∧ Below w.heap.size w X) ⟨by go_simp, by go_simp, by go_simp, by go_simp, by go_simp, by go_simp, by first | omega | (simp; omega), hqN.out.alloc hqN.out.size _, by go_grown⟩ ?_
          rintro X ⟨ca_0, cb_1, cd_0, ce_1, fz0, fz1, hzX, hqX, HB⟩
          have ka_0 := fun d os => cell_regrown ca_0 d os
          have kb_1 := fun d os => cell_regrown cb_1 d os
          have kd_0 := fun d os => cell_regrown cd_0 d os
          have ke_1 := fun d os => cell_regrown ce_1 d os
          refine region_below_tail 11 (by kernel_rfl) (by kernel_rfl) ?_
          simp only [List.take_succ_cons, List.take_zero, List.drop_succ_cons, List.drop_zero]
          repeat (quiet_step (first | (go_at_call 60; with_reducible exact same_regrownB (M0H.out _)) | (go_at_call 60; with_reducible exact same_regrownB (M1H.out _))))
          refine wpQuiet_nil ?_
          rintro _ ⟨⟨dq, osq⟩, rfl⟩
          have hbwz := below_regrown X dq osq
          generalize grow (redrawn X dq) osq = wz at hbwz ⊢
          obtain ⟨hcwz, hfwz⟩ := bcell hbwz
          have hlwz := hbwz.size
          replace HB := ba HB hbwz
          have hqz := ba hqX hbwz
          have hzz := hqz.size
          have F1 := Lib.hid ((A1.out.below hz hqz).put ⟨px, pr⟩)
          have F0 := Lib.hid (((A0.out.below (by omega) hqz).other (a := ⟨w.heap.size + 1, 0, none⟩) (by simp) (.int .i64 px)).other (a := ⟨w.heap.size + 1, 1, none⟩) (by simp) (.int .i64 pr))
          have FB := Lib.hid ((HB.setCell (show w.heap.size ≤ (⟨w.heap.size + 1, 0, none⟩ : Addr).block by show _ ≤ w.heap.size + 1; omega) (.int .i64 px)).setCell (show w.heap.size ≤ (⟨w.heap.size + 1, 1, none⟩ : Addr).block by show _ ≤ w.heap.size + 1; omega) (.int .i64 pr))
          obtain ⟨z0, z1, z2, z3⟩ := A1.out.below hz hqz
          clear hqX hbwz hcwz hfwz hqz
          go_wp2_with fail
          go_roundw
          case rel => exact ⟨j + 1, by omega, by go_num, HEB.out, F0.out, by rw [HQ'.out]; exact F1.out, by simp; omega, FB.out⟩
          case measure => simp [intOf]; omega
      · obtain rfl : j = n := by omega
        have hga := HG1.out (by rw [← enB_all, HL.out]; exact HAL.out)
        rw [HL.out] at hga
        have SBX := spBox_any (enQ l j)
        rw [← hga] at SBX
        have SBH := Lib.hid SBX
        have HLO := Lib.hid HL.out
        obtain ⟨x0, x1, x2, x3⟩ := A1.out
        obtain ⟨y0, y1, y2, y3⟩ := A0.out
        clear t0 t1 hall hga SBX
        cases hG : G
        all_goals
          rw [hG] at SBH
          have HGG := Lib.hid hG
          go_wp2_with fail
          (go_at_call 51; (with_reducible refine (SBH.out _).mono ?_); rintro e wC ⟨rfl, h1⟩; (try with_reducible replace h1 := undrew h1); have hB : Below w.heap.size w wC := ba (by go_grown) h1; obtain ⟨hcwC, hfwC⟩ := bcell h1; have hqwC := h1.size; (try simp at hqwC); (try have hz0wC : w.heap.size < wC.heap.size := (by omega)); (try have he0wC : w.heap.size ≤ wC.heap.size := (by omega)); (try have hz1wC : w.heap.size + 1 < wC.heap.size := (by omega)); (try have he1wC : w.heap.size + 1 ≤ wC.heap.size := (by omega)))
          go_wp2_with fail
          refine bodyPost_ret (by simp [results, Try.results27, go_sem, *]; try rfl) rfl ?_
          exact ⟨by rw [HL.out]; first | rfl | (rw [HGG.out]; rfl), by go_grown⟩
  · have h20i : (20 : Int) < (n : Int) := by omega
    have HG := Lib.hid (enG_long (l := l) (by rw [hl]; exact h20))
    clear hl hu hv
    go_enter Try.func27, Try.ntmps27
    go_wp2_with fail
    refine bodyPost_ret (by simp [results, Try.results27, go_sem, *]; try rfl) rfl ?_
    exact ⟨by rw [HG.out]; rfl, by go_grown⟩

end Go.Proofs.Ytkmgcmgnaeamaaa
