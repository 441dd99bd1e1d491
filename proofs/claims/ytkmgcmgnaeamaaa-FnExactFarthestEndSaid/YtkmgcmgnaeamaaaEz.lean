/- Contract of the model: CountEnds. -/
import Derived.Test.YtkmgcmgnaeamaaaEy
import Derived.Test.YtkmgcmgnaeamaaaQ5
namespace Go.Proofs.Ytkmgcmgnaeamaaa
open Go.ChangeShapes Go.WideShapes Go.ChangeAt Go.RowKit Go.Joins Go.Sort

set_option linter.unusedVariables false
set_option linter.unusedSimpArgs false

theorem any_takeE {T : List Sp} {k : Nat} {p : Sp} (x : Sp) (h : T[k]? = some p) : (T.take (k + 1)).any (fun y => spE y x) = ((T.take k).any (fun y => spE y x) || spE p x) := by
  rw [List.take_add_one, h, Option.toList_some, List.any_append]
  simp

theorem en_okE {s c : Nat} (h : s + c ≤ 8) {r : List UInt8} (hr : r ∈ bxW s c) : tkB (ofL r) = true ∧ enS (ofL r) = fin sp0 r := by
  have h1 := (bxW_tk (s := s) (c := c) (by omega) hr).1
  exact ⟨h1, by rw [enS_yes h1]; simp [ofL]⟩

set_option maxRecDepth 100000 in
set_option maxHeartbeats 3200000 in
theorem spCountEnds (b : Bq) (w : World) : Calls Try.prog 40 #[bv b] w fun e w' => e = .returned (.tuple #[.int .i64 (ceN b : Nat), .bool (bxB 8 b)]) ∧ Below w.heap.size w w' := by
  obtain ⟨i0, hi, iz0, iz1, iz2⟩ := info_parts ptInfo
  obtain ⟨j0, ji, jz0, jz1, jz2⟩ := info_parts nmInfo
  have PS := Lib.hid (spSmB_any b 8 (by decide))
  unfold ceN
  cases hb : bxB 8 b
  · rw [hb] at PS
    clear hb
    go_enter Try.func40, Try.ntmps40
    go_wp2_with (go_at_call 64; refine (PS.out _).mono ?_; rintro e w1 ⟨rfl, h1⟩; have hB : Below w.heap.size w w1 := ba (by go_grown) h1; obtain ⟨hc1, hf1⟩ := bcell h1; have hq := h1.size; (try simp at hq); have hz0 : w.heap.size < w1.heap.size := (by omega); have HK1 := Lib.hid h1; clear h1 hq)
    go_returns
    exact ⟨rfl, by go_grown⟩
  · rw [hb] at PS
    obtain ⟨s, c, rfl, hsc⟩ := bxB_nat (m := 8) hb
    simp only [Int.toNat_natCast, cond_true]
    have PA := Lib.hid (spAll_any s c (by omega))
    unfold AllPost at PA
    have hlen := bxW8 hsc
    have HTK := Lib.hid (fun r (hr : r ∈ bxW s c) => en_okE hsc hr)
    generalize bxW s c = R at *
    obtain ⟨N, hN⟩ : ∃ N, R.length = N := ⟨_, rfl⟩
    have HN := Lib.hid hN
    rw [hN] at hlen
    rw [hN]
    clear hb hN hsc
    go_enter Try.func40, Try.ntmps40
    go_wp2_with fail
    (go_at_call 64; (with_reducible refine (PS.out _).mono ?_); rintro e wA ⟨rfl, h1⟩; (try with_reducible replace h1 := undrew h1); have hB : Below w.heap.size w wA := ba (by go_grown) h1; obtain ⟨hcwA, hfwA⟩ := bcell h1; have hqwA := h1.size; (try simp at hqwA); (try have hz0wA : w.heap.size < wA.heap.size := (by omega)); (try have he0wA : w.heap.size ≤ wA.heap.size := (by omega)))
    go_wp2_with fail
    (with_reducible refine Calls.mono (PA.out _) ?_)
    rintro e w1 ⟨v, rfl, hO, hb1⟩
    rw [HN.out] at hO
    have HB1 := Lib.hid (hB.trans (hb1.mono hB.size))
    obtain ⟨av, cv, rfl⟩ := own_formC hO
    have HO := Lib.hid hO
    clear hb1 hO hB hcwA hfwA h1
    go_wp2_with fail
    go_loopw [4, 5, 19] (fun P H i wr => ∃ (j : Nat) (u v : Value), j ≤ N ∧ i = .int .i64 j ∧ u = P ∧ v = H ∧ wr.ownsRow w1.heap.size 79 4 u (edT R j).length (ptCells (edT R j)) ∧ wr.ownsRow w1.heap.size 3 1 v (edT R j).length (hdCells (edT R j)) ∧ Below w1.heap.size w1 wr) (fun _ _ i _ => N - (intOf i).toNat)
    case atStart => exact ⟨0, _, _, Nat.zero_le _, rfl, rfl, rfl, World.ownsRow_nil _ _ _ _, World.ownsRow_nil _ _ _ _, Below.refl _ _⟩
    case round =>
      obtain ⟨j, u, v, hj, rfl, rfl, rfl, hP, hH, hb⟩ := hrel
      have hle := edT_le R j
      have hzr := hb.size
      obtain ⟨wi, rfl⟩ : ∃ wi : World, wi = wr := ⟨_, rfl⟩
      by_cases hlt : j < N
      · obtain ⟨r, hr⟩ : ∃ r, R[j]? = some r := ⟨_, List.getElem?_eq_getElem (by rw [HN.out]; exact hlt)⟩
        obtain ⟨g, rfl⟩ : ∃ g, av = some ⟨g, 0, none⟩ := by
          rcases HO.out.2 with ⟨h, h0⟩ | ⟨g, cap, _, h, _⟩
          · omega
          · injection h with h; exact ⟨g, h⟩
        obtain ⟨t1, t2⟩ := HTK.out r (List.mem_of_getElem? hr)
        have cr := (str_of HO.out HN.out).below (HO.out.lt g rfl).2 hb j r hr
        have TE := tkEnd_yes (ofL r) t1
        rw [t2] at TE
        have HNX := Lib.hid (edT_next hr)
        generalize fin sp0 r = x at *
        generalize edT R j = T at *
        generalize ofL r = U at *
        obtain ⟨K, hK⟩ : ∃ K, T.length = K := ⟨_, rfl⟩
        rw [hK] at hP hH hle
        have HK := Lib.hid hK
        obtain ⟨au, cu, rfl⟩ := own_formC hP
        obtain ⟨ah, ch, rfl⟩ := own_formC hH
        have TEH := Lib.hid TE
        have HP := Lib.hid hP
        have HH := Lib.hid hH
        have HB := Lib.hid hb
        have hB : Below w.heap.size w wi := HB1.out.trans (hb.mono HB1.out.size)
        clear hr t1 t2 TE hP hH hb hK
        go_wp2_with fail
        (go_at_call 75; (with_reducible refine (TEH.out _).mono ?_); rintro e wT ⟨rfl, h1⟩; (try with_reducible replace h1 := undrew h1); have hB : Below w.heap.size w wT := ba (by go_grown) h1; obtain ⟨hcwT, hfwT⟩ := bcell h1; have hqwT := h1.size; (try simp at hqwT); )
        have hzT := h1.size
        have HBT := Lib.hid h1
        clear h1 hcwT hfwT cr hB
        go_wp2_with fail
        go_loopw [10, 30] (fun f i wk => ∃ k : Nat, k ≤ K ∧ i = .int .i64 k ∧ f = .bool ((T.take k).any fun y => spE y x) ∧ wk.heap[wT.heap.size]? = some (.cells #[.int .i64 x.x0, .int .i64 x.x1, .int .i64 x.x2, .int .i64 x.x3] 79 (0, 0)) ∧ Below wT.heap.size wT wk) (fun _ i _ => K - (intOf i).toNat)
        case atStart => exact ⟨0, Nat.zero_le _, rfl, rfl, heap_alloc_new _ _, (Below.refl _ _).alloc (Nat.le_refl _) _⟩
        case round =>
          obtain ⟨k, hk, rfl, rfl, hq, hbk⟩ := hrel
          have hzk := hbk.size
          have hqlt := (Array.getElem?_eq_some_iff.1 hq).1
          have HQ := Lib.hid hq
          have HBK := Lib.hid hbk
          obtain ⟨wm, rfl⟩ : ∃ wm : World, wm = wr := ⟨_, rfl⟩
          obtain ⟨e0, e1, e2, e3⟩ := blk_cells hq
          by_cases hlk : k < K
          · obtain ⟨p, hp⟩ : ∃ p, T[k]? = some p := ⟨_, List.getElem?_eq_getElem (by rw [HK.out]; exact hlk)⟩
            obtain ⟨gu, rfl⟩ : ∃ gu, au = some ⟨gu, 0, none⟩ := by
              rcases HP.out.2 with ⟨h, h0⟩ | ⟨g, cap, _, h, _⟩
              · omega
              · injection h with h; exact ⟨g, h⟩
            obtain ⟨gh, rfl⟩ : ∃ gh, ah = some ⟨gh, 0, none⟩ := by
              rcases HH.out.2 with ⟨h, h0⟩ | ⟨g, cap, _, h, _⟩
              · omega
              · injection h with h; exact ⟨g, h⟩
            have hghm : gh < wm.heap.size := by have := (HH.out.lt gh rfl).2; omega
            have hbw : Below wi.heap.size wi wm := HBT.out.trans (hbk.mono hzT)
            have hq2 := own_pt (own_belowL HP.out hbw) HK.out hp
            obtain ⟨c0, c1, c2, c3⟩ := hq2
            have c4 := own_hd (own_belowL HH.out hbw) HK.out hp
            have hany := any_takeE x hp
            have hsp : spE p x = ((p.x0 == x.x0 && (p.x1 == x.x1 && (p.x2 == x.x2 && p.x3 == x.x3))) && p.h == x.h) := rfl
            clear hq hbk hp hbw
            cases hf : (T.take k).any fun y => spE y x
            · rw [hf, Bool.false_or, hsp] at hany
              cases hqq : (p.x0 == x.x0 && (p.x1 == x.x1 && (p.x2 == x.x2 && p.x3 == x.x3)))
              · rw [hqq, Bool.false_and] at hany
                have HF2 := Lib.hid hany
                clear hany hsp hf
                have HB8 := Lib.hid (HBK.out.alloc hzk (.cells #[.int .i64 p.x0, .int .i64 p.x1, .int .i64 p.x2, .int .i64 p.x3] 79))
                have HQ8 := Lib.hid ((Below.heap_alloc wm (.cells #[.int .i64 p.x0, .int .i64 p.x1, .int .i64 p.x2, .int .i64 p.x3] 79) _ hqlt).trans HQ.out)
                go_wp2_with fail
                go_roundw
                case rel => exact ⟨k + 1, by omega, by go_num, by rw [HF2.out], HQ8.out, HB8.out⟩
                case measure => simp [intOf]; omega
              · rw [hqq, Bool.true_and] at hany
                have HF2 := Lib.hid hany
                clear hany hsp hf
                have HB8 := Lib.hid (HBK.out.alloc hzk (.cells #[.int .i64 p.x0, .int .i64 p.x1, .int .i64 p.x2, .int .i64 p.x3] 79))
                have HQ8 := Lib.hid ((Below.heap_alloc wm (.cells #[.int .i64 p.x0, .int .i64 p.x1, .int .i64 p.x2, .int .i64 p.x3] 79) _ hqlt).trans HQ.out)
                go_wp2_with fail
                go_roundw
                case rel => exact ⟨k + 1, by omega, by go_num, by rw [HF2.out], HQ8.out, HB8.out⟩
                case measure => simp [intOf]; omega
            · rw [hf, Bool.true_or] at hany
              have HF2 := Lib.hid hany
              clear hany hsp hf
              have HB8 := Lib.hid (HBK.out.alloc hzk (.cells #[.int .i64 p.x0, .int .i64 p.x1, .int .i64 p.x2, .int .i64 p.x3] 79))
              have HQ8 := Lib.hid ((Below.heap_alloc wm (.cells #[.int .i64 p.x0, .int .i64 p.x1, .int .i64 p.x2, .int .i64 p.x3] 79) _ hqlt).trans HQ.out)
              go_wp2_with fail
              go_roundw
              case rel => exact ⟨k + 1, by omega, by go_num, by rw [HF2.out], HQ8.out, HB8.out⟩
              case measure => simp [intOf]; omega
          · obtain rfl : k = K := by omega
            have hta : T.take k = T := List.take_of_length_le (by rw [HK.out]; exact Nat.le_refl _)
            rw [hta]
            have hds : ddS T x = if T.any (fun y => spE y x) then T else T ++ [x] := rfl
            have hbw : Below wi.heap.size wi wm := HBT.out.trans (hbk.mono hzT)
            have HBW := Lib.hid (HB.out.trans (hbw.mono hzr))
            have HPW := Lib.hid (own_belowL HP.out hbw)
            have HHW := Lib.hid (own_belowL HH.out hbw)
            have hzw := HBW.out.size
            clear hq hbk hbw hta
            cases hf : T.any fun y => spE y x
            · have HN2 := Lib.hid (show edT R (j + 1) = T ++ [x] by rw [HNX.out, hds, hf]; rfl)
              have HKN := Lib.hid (show (T ++ [x]).length = k + 1 by rw [List.length_append, HK.out]; rfl)
              have HPA := Lib.hid (HPW.out.alloc (.cells #[.int .i64 x.x0, .int .i64 x.x1, .int .i64 x.x2, .int .i64 x.x3] 79))
              have HHA := Lib.hid (HHW.out.alloc (.cells #[.int .i64 x.x0, .int .i64 x.x1, .int .i64 x.x2, .int .i64 x.x3] 79))
              have HBA := Lib.hid (HBW.out.alloc hzw (.cells #[.int .i64 x.x0, .int .i64 x.x1, .int .i64 x.x2, .int .i64 x.x3] 79))
              clear hds hf hlk
              go_wp2_with (at_builtin; refine wpList_append_own_at _ rfl _ _ 85 rfl w1.heap.size 79 i0 (.agg #[.int .i64 0, .int .i64 0, .int .i64 0, .int .i64 0]) 4 32 Try.underlying85 hi iz0 iz1 iz2 rfl (by decide) (.slice au k cu) _ _ rfl HPA.out ⟨wm.heap.size, 0, none⟩ 1 1 [.int .i64 x.x0, .int .i64 x.x1, .int .i64 x.x2, .int .i64 x.x3] rfl rfl (World.news_of_block (heap_alloc_new _ _)) (by intro x hx; simp at hx; rcases hx with rfl | rfl | rfl | rfl <;> rfl) (by unfold maxLen; omega) (by omega) ?c5 ?_)
              case c5 => simp; omega
              intro v' w4 hown' hgrow hnil hloc
              have hlt1 := HPA.out.lt
              have HH4 := Lib.hid ((HHA.out.kept hgrow (own_ne HHA.out HPA.out (by decide))).alloc (.cells #[.int .i64 x.h] 3))
              have HP4 := Lib.hid (hown'.alloc (.cells #[.int .i64 x.h] 3))
              have hb4 : Below w1.heap.size w1 w4 := HBA.out.grown hgrow (by simp; omega) (fun k hk => (hlt1 k hk).1)
              have hz4 := hb4.size
              have HB4 := Lib.hid (hb4.alloc hz4 (.cells #[.int .i64 x.h] 3))
              clear hlt1 hgrow hown' hnil hloc hb4 e0 e1 e2 e3
              go_wp2_with (at_builtin; refine wpList_append_own_at _ rfl _ _ 86 rfl w1.heap.size 3 j0 (.int .i64 0) 1 8 Try.underlying86 ji jz0 jz1 jz2 rfl (by decide) (.slice ah k ch) _ _ rfl HH4.out ⟨w4.heap.size, 0, none⟩ 1 1 [.int .i64 x.h] rfl rfl (World.news_of_block (heap_alloc_new _ _)) (by intro x hx; simp at hx; subst hx; rfl) (by unfold maxLen; omega) (by omega) (by simp; omega) ?_; intro v'' w5 hown' hgrow hnil hloc)
              have hlt2 := HH4.out.lt
              have HP5 := Lib.hid (HP4.out.kept hgrow (own_ne HP4.out HH4.out (by decide)))
              have HB5 := Lib.hid (HB4.out.grown hgrow (by simp; omega) (fun k hk => (hlt2 k hk).1))
              have HH5 := Lib.hid hown'
              clear hlt2 hgrow hown' hnil hloc
              go_wp2_with fail
              go_roundw
              case rel => exact ⟨j + 1, v', v'', by omega, by go_num, rfl, rfl, by rw [HN2.out, HKN.out, ptCells_append]; exact HP5.out, by rw [HN2.out, HKN.out, hdCells_append]; exact HH5.out, HB5.out⟩
              case measure => simp [intOf]; omega
            · have HN2 := Lib.hid (show edT R (j + 1) = T by rw [HNX.out, hds, hf]; rfl)
              clear hds hf hlk
              go_wp2_with fail
              go_roundw
              case rel => exact ⟨j + 1, _, _, by omega, by go_num, rfl, rfl, by rw [HN2.out, HK.out]; exact HPW.out, by rw [HN2.out, HK.out]; exact HHW.out, HBW.out⟩
              case measure => simp [intOf]; omega
      · obtain rfl : j = N := by omega
        have HB2 := Lib.hid (HB1.out.trans (hb.mono HB1.out.size))
        obtain ⟨au, cu, rfl⟩ := own_formC hP
        clear hP hH hb
        go_wp2_with fail
        go_ret2
        exact ⟨rfl, HB2.out⟩

end Go.Proofs.Ytkmgcmgnaeamaaa
