/- Contracts of the program: the period of a ring; whether a ring is its own mirror or its own back. -/
import Derived.Test.YtoenkgenoloihaaDoorSv
namespace Go.Proofs.YtoenkgenoloihaaDoor
open Go.ChangeShapes Go.WideShapes Go.ChangeAt Go.RowKit

set_option linter.unusedVariables false
set_option linter.unusedSimpArgs false

theorem eqL_mk {a b : List UInt8} (ha : a.length ≤ 40) (hl : a.length = b.length) : eqL (mkLp a) (mkLp b) = decide (a = b) := by
  by_cases h : a = b
  · subst h; rw [decide_eq_true rfl]; exact (eqL_iff _ _).2 rfl
  · rw [decide_eq_false h]
    cases he : eqL (mkLp a) (mkLp b) with
    | false => rfl
    | true => exact absurd (mk_inj ha hl ((eqL_iff _ _).1 he)) h

theorem rot1_get {l : List UInt8} {k : Nat} (hk : k < l.length) : ((rot1 l).map mkLp)[k]! = mkLp (spn l (k + 1)) := by
  rw [getElem!_pos _ k (by rw [List.length_map, rot1_len]; exact hk)]
  simp [rot1]

theorem idx_per {l : List UInt8} (h0 : 0 < l.length) (hl : l.length ≤ 40) : Lib.idxBy eqL ((rot1 l).map mkLp) (mkLp l) = ((perN l - 1 : Nat) : Int) := by
  have hp := per_le h0
  have hp1 : 1 ≤ perN l := by unfold perN; omega
  have hs : spn l (perN l) = l ∧ ∀ j, j < perN l - 1 → spn l (j + 1) ≠ l := by
    have hlt : (rot1 l).findIdx (· == l) < (rot1 l).length := by rw [rot1_len]; unfold perN at hp; omega
    have h1 := List.findIdx_getElem (p := (· == l)) (xs := rot1 l) (w := hlt)
    refine ⟨by simp only [rot1, List.getElem_map, List.getElem_range, beq_iff_eq] at h1; exact h1, fun j hj e => ?_⟩
    have := List.not_of_lt_findIdx (p := (· == l)) (xs := rot1 l) (i := j) (by unfold perN at hj; omega)
    simp only [rot1, List.getElem_map, List.getElem_range, beq_eq_false_iff_ne, ne_eq] at this
    exact this e
  have hlen : ((rot1 l).map mkLp).length = l.length := by rw [List.length_map, rot1_len]
  have h := Lib.idxBy_hit eqL ((rot1 l).map mkLp) l.length (perN l - 1) (mkLp l) (by omega) (by omega)
    (by rw [rot1_get (by omega), show perN l - 1 + 1 = perN l by omega, hs.1]; exact (eqL_iff _ _).2 rfl)
    (fun j hj => by rw [rot1_get (by omega), eqL_mk hl (by rw [spn_len])]; exact decide_eq_false fun e => hs.2 j hj e.symm)
  rwa [List.take_of_length_le (by omega)] at h

section
variable {B : Nat} {x : Lp} {cs : List Value} {W w1 : World}
theorem lpMid (y : Lp) : (Tryd.prog.info? 45).map (·.size) = some (encLp y).length := by
  rw [encLp_len]; kernel_rfl

theorem rg_mk (h : LpAt W B x) (hcs : encLp x = cs) : W.rangeAt B 0 cs ∧ Hid (B < W.heap.size) := ⟨fun j v hv => by
  subst hcs
  rw [Nat.zero_add, cell_of_row _ _ j _ _ (0, 0) h]
  simpa [arr] using hv, Lib.hid h.lt⟩

theorem rg_drew (h : W.rangeAt B 0 cs ∧ Hid (B < W.heap.size)) : W.drew.rangeAt B 0 cs ∧ Hid (B < W.drew.heap.size) := h

theorem rg_undrew (h : W.drew.rangeAt B 0 cs ∧ Hid (B < W.drew.heap.size)) : W.rangeAt B 0 cs ∧ Hid (B < W.heap.size) := h

theorem rg_below (h : W.rangeAt B 0 cs ∧ Hid (B < W.heap.size)) (hb : Below W.heap.size W w1) : w1.rangeAt B 0 cs ∧ Hid (B < w1.heap.size) :=
  ⟨fun j v hv => by rw [hb.cell (p := ⟨B, 0 + j, none⟩) h.2.out]; exact h.1 j v hv, Lib.hid (Nat.lt_of_lt_of_le h.2.out hb.size)⟩
end

set_option maxRecDepth 100000 in
set_option maxHeartbeats 800000 in
theorem imPeriodOfRing (s : ByteArray) (hs : s.size ≤ 1048576) (w : World) :
    Calls Tryd.prog 20 #[.string s] w fun e w' => e = .returned (.tuple #[.int .i64 (prI s), .bool (clB s)]) ∧ Below w.heap.size w w' := by
  have HLO := Lib.hid (loopOf_any s hs)
  have hz := (zero_of_info (P := Tryd.prog) lpInfo).1
  obtain ⟨K, hK⟩ : ∃ K, K = 40 := ⟨_, rfl⟩
  have zE := zK hK
  have HK := Lib.hid hK
  have hAl := aK hK (loL s)
  cases tc : clB s
  · have G := Lib.hid tc
    rw [tc] at HLO
    clear hK
    go_enter Tryd.func20, Tryd.ntmps20
    go_wp2_with fail
    refine (HLO.out _).mono ?_
    rintro e w1 ⟨rfl, hb1⟩
    have a1 := LpAt.new w1 zLp
    have st := a1.store (loL s)
    have HB := Lib.hid (below_setRow ((ba (by go_grown) hb1 : Below w.heap.size w w1).alloc hb1.size (.cells (arr zLp) 45)) hb1.size (arr (loL s)))
    clear a1 hb1
    go_wp2_with fail
    go_ret2
    exact ⟨pr_no G.out, HB.out⟩
  · have G := Lib.hid tc
    obtain ⟨ht, h0⟩ := cl_data tc
    have hl40 := tk_le ht
    have hlo : loL s = mkLp s.data.toList := by simp [loL, tc]
    rw [tc, hlo] at HLO
    rw [hlo] at hAl
    have hSP := spins_any s.data.toList hl40 (tk_nz ht)
    have hper := per_le h0
    have hp1 : 1 ≤ perN s.data.toList := by unfold perN; omega
    have hIX := fun g cap w hr => index_any (mkLp s.data.toList) ((rot1 s.data.toList).map mkLp) s.data.toList.length (by rw [List.length_map, rot1_len]) (by omega) g cap w hr
    rw [idx_per h0 hl40] at hIX
    obtain ⟨k, hk⟩ : ∃ k, perN s.data.toList - 1 = k := ⟨_, rfl⟩
    have HP := Lib.hid (show (perN s.data.toList : Int) = (k : Int) + 1 by omega)
    rw [hk] at hIX
    have hkb : k ≤ 40 := by omega
    have hw : IntKind.i64.wrap ((k : Int) + 1) = (k : Int) + 1 := by rw [IntKind.wrap_i64]; omega
    have hln : ((rot1 s.data.toList).map mkLp).length = s.data.toList.length := by rw [List.length_map, rot1_len]
    obtain ⟨n, hn⟩ : ∃ n, s.data.toList.length = n := ⟨_, rfl⟩
    rw [hn] at hSP h0 hIX hln
    have HSP := Lib.hid hSP
    have HIX := Lib.hid hIX
    have HLN := Lib.hid hln
    generalize (rot1 s.data.toList).map mkLp = L at *
    obtain ⟨y, hy⟩ : ∃ y, mkLp s.data.toList = y := ⟨_, rfl⟩
    rw [hy] at HSP HIX HLO hAl
    clear hSP hIX hln hlo hK hy hn hk hper hp1
    go_enter Tryd.func20, Tryd.ntmps20
    go_wp2_with fail
    refine (HLO.out _).mono ?_
    rintro e w1 ⟨rfl, hb1⟩
    have a1 := LpAt.new w1 zLp
    have st := a1.store y
    have A1 := Lib.hid (a1.set y)
    have HB := Lib.hid (below_setRow ((ba (by go_grown) hb1 : Below w.heap.size w w1).alloc hb1.size (.cells (arr zLp) 45)) hb1.size (arr y))
    clear a1 hb1
    go_wp2_with fail
    clear st
    obtain ⟨b, hb⟩ : ∃ b, w1.heap.size = b := ⟨_, rfl⟩
    rw [hb] at A1 HB ⊢
    generalize (w1.alloc (.cells (arr zLp) 45)).setRow b (arr y) = W1 at *
    obtain ⟨cs, hcs⟩ : ∃ cs, encLp y = cs := ⟨_, rfl⟩
    have hcl : (Tryd.prog.info? 45).map (·.size) = some cs.length := by rw [← hcs]; exact lpMid y
    have hund := Tryd.underlying45
    have hS0 := rg_mk A1.out hcs
    have hAr : arr y = cs.toArray := by rw [← hcs]; rfl
    rw [hAr] at HSP HIX
    clear hcs hAr
    refine wp_region_held_drew (S := (fun w' => w'.rangeAt b 0 cs ∧ Hid (b < w'.heap.size))) (by kernel_rfl) (rg_drew hS0) (fun hHeld => ?_)
    refine wpAnyH_take (i := 0) rfl (by kernel_rfl) (by kernel_rfl) (by kernel_rfl) (fun _ _ _ h => h) (yieldsIf_load_mid (by rfl) _ _ rfl _ _ rfl _ _ (fun w h => h.1) hund rfl hcl) (by assumption) ?_
    try simp only [Act.put, List.setIfInBounds_toArray, List.set_cons_zero, List.set_cons_succ]
    refine wpAnyH_take (i := 2) rfl (by kernel_rfl) (by kernel_rfl) (by kernel_rfl) (fun _ _ _ h => h) (yieldsIf_load_mid (by rfl) _ _ rfl _ _ rfl _ _ (fun w h => h.1) hund rfl hcl) (by assumption) ?_
    try simp only [Act.put, List.setIfInBounds_toArray, List.set_cons_zero, List.set_cons_succ]
    refine wpAnyH_ready (rs := [1]) (by kernel_rfl) (by simp) (AllReadyH.cons rfl (fun K hK => ?_) AllReadyH.nil)
    rw [if_pos (by rfl)]
    go_simp
    go_at_call 49
    refine (HSP.out _).mono ?_
    rintro e w2 ⟨v, rfl, hO, h1⟩
    replace h1 := undrew h1
    obtain ⟨g, cap, rfl, hg0, hcp⟩ := hO.form h0
    have hg := (hO.lt g rfl).2
    have R := Lib.hid (RowLp.of hO HLN.out)
    have HB := Lib.hid (HB.out.trans (h1.mono HB.out.size))
    clear hO
    go_simp
    refine hK.out _ _ ?_ (fun hHeld => ?_)
    · exact rg_below (rg_undrew hHeld) h1
    clear hK K
    try simp only [Act.put, List.setIfInBounds_toArray, List.set_cons_zero, List.set_cons_succ]
    refine wpAnyH_ready (rs := [3]) (by kernel_rfl) (by simp) (AllReadyH.cons rfl (fun K hK => ?_) AllReadyH.nil)
    rw [if_pos (by rfl)]
    go_simp
    go_at_call 55
    refine (HIX.out _ _ _ R.out).mono ?_
    rintro e w3 ⟨rfl, h1⟩
    have HB := Lib.hid (HB.out.trans (h1.mono HB.out.size))
    go_simp
    refine hK.out _ _ ?_ (fun hHeld => ?_)
    · exact rg_below hHeld h1
    clear hK K
    try simp only [Act.put, List.setIfInBounds_toArray, List.set_cons_zero, List.set_cons_succ]
    refine wpAnyH_ready (rs := [4]) (by kernel_rfl) (by simp) (AllReadyH.cons rfl (fun K hK => ?_) AllReadyH.nil)
    rw [if_pos (by rfl)]
    go_simp
    refine hK.out _ _ ?_ (fun hHeld => ?_)
    · assumption
    clear hK K
    try simp only [Act.put, List.setIfInBounds_toArray, List.set_cons_zero, List.set_cons_succ]
    refine wpAnyH_ready (rs := [5]) (by kernel_rfl) (by simp) (AllReadyH.cons rfl (fun K hK => ?_) AllReadyH.nil)
    rw [if_pos (by rfl)]
    go_simp
    refine hK.out _ _ ?_ (fun hHeld => ?_)
    · assumption
    clear hK K
    try simp only [Act.put, List.setIfInBounds_toArray, List.set_cons_zero, List.set_cons_succ]
    refine wpAnyH_ready (rs := [6]) (by kernel_rfl) (by simp) (AllReadyH.cons rfl (fun K hK => ?_) AllReadyH.nil)
    rw [if_pos (by rfl)]
    go_simp
    refine hK.out _ _ ?_ (fun hHeld => ?_)
    · assumption
    clear hK K
    try simp only [Act.put, List.setIfInBounds_toArray, List.set_cons_zero, List.set_cons_succ]
    refine wpAnyH_done (by kernel_rfl) ?_ _
    go_wp2_with fail
    go_ret2
    exact ⟨by rw [← HP.out]; exact pr_yes G.out, HB.out⟩

theorem any_own {l m : List UInt8} (h0 : 0 < l.length) (hl : l.length ≤ 40) (hm : m.length = l.length) : ((rot1 l).map mkLp).any (fun y => eqL (mkLp m) y) = decide (leastL m = leastL l) := by
  rw [Bool.eq_iff_iff, List.any_eq_true, decide_eq_true_iff]
  constructor
  · rintro ⟨y, hy, e⟩
    obtain ⟨a, ha, rfl⟩ := List.mem_map.1 hy
    have ho := (rot1_mem h0).1 ha
    have := mk_inj (by omega) (by rw [orb_len ho, hm]) ((eqL_iff _ _).1 e)
    subst this
    exact (leastL_eq h0 ho).symm
  · intro h
    have ho := orb_symm ((leastL_iff (by omega) h0).1 h)
    exact ⟨mkLp m, List.mem_map_of_mem ((rot1_mem h0).2 ho), (eqL_iff _ _).2 rfl⟩

set_option maxRecDepth 100000 in
set_option maxHeartbeats 1600000 in
theorem isOwn_mirror (s : ByteArray) (hs : s.size ≤ 1048576) (w : World) :
    Calls Tryd.prog 59 #[.string s, .func (.func 60) #[] #[]] w fun e w' => e = .returned (.tuple #[.bool (omB s), .bool (clB s)]) ∧ Below w.heap.size w w' := by
  have HLO := Lib.hid (loopOf_any s hs)
  have hz := (zero_of_info (P := Tryd.prog) lpInfo).1
  obtain ⟨K, hK⟩ : ∃ K, K = 40 := ⟨_, rfl⟩
  have zE := zK hK
  have HK := Lib.hid hK
  have hAl := aK hK (loL s)
  cases tc : clB s
  · rw [om_no tc]
    rw [tc] at HLO
    clear hK
    go_enter Tryd.func59, Tryd.ntmps59
    go_wp2_with fail
    refine (HLO.out _).mono ?_
    rintro e w1 ⟨rfl, hb1⟩
    have a1 := LpAt.new w1 zLp
    have st := a1.store (loL s)
    have HB := Lib.hid (below_setRow ((ba (by go_grown) hb1 : Below w.heap.size w w1).alloc hb1.size (.cells (arr zLp) 45)) hb1.size (arr (loL s)))
    clear a1 hb1
    go_wp2_with fail
    go_ret2
    exact ⟨rfl, HB.out⟩
  · obtain ⟨ht, h0⟩ := cl_data tc
    have hl40 := tk_le ht
    have hlo : loL s = mkLp s.data.toList := by simp [loL, tc]
    rw [tc, hlo] at HLO
    rw [hlo] at hAl
    have hSP := spins_any s.data.toList hl40 (tk_nz ht)
    have hCH := mirror_any s.data.toList ht
    have hIX := fun g cap w hr => contains_any (mkLp (s.data.toList.map mir)) ((rot1 s.data.toList).map mkLp) s.data.toList.length (by rw [List.length_map, rot1_len]) (by omega) g cap w hr
    rw [any_own h0 hl40 (by simp [bak])] at hIX
    rw [om_yes tc]
    have hln : ((rot1 s.data.toList).map mkLp).length = s.data.toList.length := by rw [List.length_map, rot1_len]
    generalize decide (leastL (s.data.toList.map mir) = leastL s.data.toList) = r at *
    obtain ⟨n, hn⟩ : ∃ n, s.data.toList.length = n := ⟨_, rfl⟩
    rw [hn] at hSP h0 hIX hln
    have HSP := Lib.hid hSP
    have HIX := Lib.hid hIX
    have HLN := Lib.hid hln
    have HCH := Lib.hid hCH
    generalize (rot1 s.data.toList).map mkLp = L at *
    obtain ⟨y2, hy2⟩ : ∃ y2, mkLp (s.data.toList.map mir) = y2 := ⟨_, rfl⟩
    rw [hy2] at HCH HIX
    obtain ⟨y, hy⟩ : ∃ y, mkLp s.data.toList = y := ⟨_, rfl⟩
    rw [hy] at HSP HCH HLO hAl
    have hAy2 := aK hK y2
    clear hSP hIX hln hlo hK hy hn hCH hy2
    go_enter Tryd.func59, Tryd.ntmps59
    go_wp2_with fail
    refine (HLO.out _).mono ?_
    rintro e w1 ⟨rfl, hb1⟩
    have a1 := LpAt.new w1 zLp
    have st := a1.store y
    have A1 := Lib.hid (a1.set y)
    have HB := Lib.hid (below_setRow ((ba (by go_grown) hb1 : Below w.heap.size w w1).alloc hb1.size (.cells (arr zLp) 45)) hb1.size (arr y))
    clear a1 hb1
    go_wp2_with fail
    clear st
    obtain ⟨b, hb⟩ : ∃ b, w1.heap.size = b := ⟨_, rfl⟩
    rw [hb] at A1 HB ⊢
    generalize (w1.alloc (.cells (arr zLp) 45)).setRow b (arr y) = W1 at *
    obtain ⟨cs, hcs⟩ : ∃ cs, encLp y = cs := ⟨_, rfl⟩
    have hcl : (Tryd.prog.info? 45).map (·.size) = some cs.length := by rw [← hcs]; exact lpMid y
    have hund := Tryd.underlying45
    have hS0 := rg_mk A1.out hcs
    have hAr : arr y = cs.toArray := by rw [← hcs]; rfl
    rw [hAr] at HSP HCH
    clear hcs hAr
    refine wp_region_held_drew (S := (fun w' => w'.rangeAt b 0 cs ∧ Hid (b < w'.heap.size))) (by kernel_rfl) (rg_drew hS0) (fun hHeld => ?_)
    refine wpAnyH_take (i := 0) rfl (by kernel_rfl) (by kernel_rfl) (by kernel_rfl) (fun _ _ _ h => h) (yieldsIf_load_mid (by rfl) _ _ rfl _ _ rfl _ _ (fun w h => h.1) hund rfl hcl) (by assumption) ?_
    try simp only [Act.put, List.setIfInBounds_toArray, List.set_cons_zero, List.set_cons_succ]
    refine wpAnyH_take (i := 2) (v := .func (.func 60) #[] #[]) rfl (by kernel_rfl) (by kernel_rfl) (by kernel_rfl) (fun _ _ _ h => h) (Or.inl ⟨by rfl, by (intro w hSw; (try dsimp only at hSw); go_simp)⟩) (by assumption) ?_
    try simp only [Act.put, List.setIfInBounds_toArray, List.set_cons_zero, List.set_cons_succ]
    refine wpAnyH_take (i := 3) rfl (by kernel_rfl) (by kernel_rfl) (by kernel_rfl) (fun _ _ _ h => h) (yieldsIf_load_mid (by rfl) _ _ rfl _ _ rfl _ _ (fun w h => h.1) hund rfl hcl) (by assumption) ?_
    try simp only [Act.put, List.setIfInBounds_toArray, List.set_cons_zero, List.set_cons_succ]
    refine wpAnyH_ready (rs := [1]) (by kernel_rfl) (by simp) (AllReadyH.cons rfl (fun K hK => ?_) AllReadyH.nil)
    rw [if_pos (by rfl)]
    go_simp
    go_at_call 49
    refine (HSP.out _).mono ?_
    rintro e w2 ⟨v, rfl, hO, h1⟩
    replace h1 := undrew h1
    obtain ⟨g, cap, rfl, hg0, hcp⟩ := hO.form h0
    have hg := (hO.lt g rfl).2
    have R := Lib.hid (RowLp.of hO HLN.out)
    have HB := Lib.hid (HB.out.trans (h1.mono HB.out.size))
    clear hO
    go_simp
    refine hK.out _ _ ?_ (fun hHeld => ?_)
    · exact rg_below (rg_undrew hHeld) h1
    clear hK K
    try simp only [Act.put, List.setIfInBounds_toArray, List.set_cons_zero, List.set_cons_succ]
    refine wpAnyH_ready (rs := [4]) (by kernel_rfl) (by simp) (AllReadyH.cons rfl (fun K hK => ?_) AllReadyH.nil)
    rw [if_pos (by rfl)]
    go_simp
    go_at_call 60
    refine (HCH.out _).mono ?_
    rintro e w4 ⟨rfl, h1⟩
    have R := Lib.hid (R.out.below hg h1)
    have HB := Lib.hid (HB.out.trans (h1.mono HB.out.size))
    go_simp
    refine hK.out _ _ ?_ (fun hHeld => ?_)
    · exact rg_below hHeld h1
    clear hK K
    try simp only [Act.put, List.setIfInBounds_toArray, List.set_cons_zero, List.set_cons_succ]
    refine wpAnyH_ready (rs := [5]) (by kernel_rfl) (by simp) (AllReadyH.cons rfl (fun K hK => ?_) AllReadyH.nil)
    rw [if_pos (by rfl)]
    go_simp
    go_at_call 82
    refine (HIX.out _ _ _ R.out).mono ?_
    rintro e w3 ⟨rfl, h1⟩
    have HB := Lib.hid (HB.out.trans (h1.mono HB.out.size))
    go_simp
    refine hK.out _ _ ?_ (fun hHeld => ?_)
    · exact rg_below hHeld h1
    clear hK K
    try simp only [Act.put, List.setIfInBounds_toArray, List.set_cons_zero, List.set_cons_succ]
    refine wpAnyH_ready (rs := [6]) (by kernel_rfl) (by simp) (AllReadyH.cons rfl (fun K hK => ?_) AllReadyH.nil)
    rw [if_pos (by rfl)]
    go_simp
    refine hK.out _ _ ?_ (fun hHeld => ?_)
    · assumption
    clear hK K
    try simp only [Act.put, List.setIfInBounds_toArray, List.set_cons_zero, List.set_cons_succ]
    refine wpAnyH_ready (rs := [7]) (by kernel_rfl) (by simp) (AllReadyH.cons rfl (fun K hK => ?_) AllReadyH.nil)
    rw [if_pos (by rfl)]
    go_simp
    refine hK.out _ _ ?_ (fun hHeld => ?_)
    · assumption
    clear hK K
    try simp only [Act.put, List.setIfInBounds_toArray, List.set_cons_zero, List.set_cons_succ]
    refine wpAnyH_done (by kernel_rfl) ?_ _
    all_goals go_wp2_with fail
    all_goals go_ret2
    all_goals exact ⟨rfl, HB.out⟩

set_option maxRecDepth 100000 in
theorem imIsOwnMirror (s : ByteArray) (hs : s.size ≤ 1048576) (w : World) :
    Calls Tryd.prog 24 #[.string s] w fun e w' => e = .returned (.tuple #[.bool (omB s), .bool (clB s)]) ∧ Below w.heap.size w w' := by
  have HC := Lib.hid (isOwn_mirror s hs)
  go_enter Tryd.func24, Tryd.ntmps24
  go_wp2_with (go_at_call 59; (with_reducible refine (HC.out _).mono ?_); rintro e wA ⟨rfl, h1⟩; (try with_reducible replace h1 := undrew h1); have hB : Below w.heap.size w wA := ba (by go_grown) h1; obtain ⟨hcwA, hfwA⟩ := bcell h1; have hqwA := h1.size; (try simp at hqwA); )
  go_ret2
  exact ⟨rfl, by go_grown⟩

set_option maxRecDepth 100000 in
set_option maxHeartbeats 1600000 in
theorem isOwn_back (s : ByteArray) (hs : s.size ≤ 1048576) (w : World) :
    Calls Tryd.prog 59 #[.string s, .func (.func 62) #[] #[]] w fun e w' => e = .returned (.tuple #[.bool (obB s), .bool (clB s)]) ∧ Below w.heap.size w w' := by
  have HLO := Lib.hid (loopOf_any s hs)
  have hz := (zero_of_info (P := Tryd.prog) lpInfo).1
  obtain ⟨K, hK⟩ : ∃ K, K = 40 := ⟨_, rfl⟩
  have zE := zK hK
  have HK := Lib.hid hK
  have hAl := aK hK (loL s)
  cases tc : clB s
  · rw [ob_no tc]
    rw [tc] at HLO
    clear hK
    go_enter Tryd.func59, Tryd.ntmps59
    go_wp2_with fail
    refine (HLO.out _).mono ?_
    rintro e w1 ⟨rfl, hb1⟩
    have a1 := LpAt.new w1 zLp
    have st := a1.store (loL s)
    have HB := Lib.hid (below_setRow ((ba (by go_grown) hb1 : Below w.heap.size w w1).alloc hb1.size (.cells (arr zLp) 45)) hb1.size (arr (loL s)))
    clear a1 hb1
    go_wp2_with fail
    go_ret2
    exact ⟨rfl, HB.out⟩
  · obtain ⟨ht, h0⟩ := cl_data tc
    have hl40 := tk_le ht
    have hlo : loL s = mkLp s.data.toList := by simp [loL, tc]
    rw [tc, hlo] at HLO
    rw [hlo] at hAl
    have hSP := spins_any s.data.toList hl40 (tk_nz ht)
    have hCH := back_anyL s.data.toList ht
    have hIX := fun g cap w hr => contains_any (mkLp (bak s.data.toList)) ((rot1 s.data.toList).map mkLp) s.data.toList.length (by rw [List.length_map, rot1_len]) (by omega) g cap w hr
    rw [any_own h0 hl40 (by simp [bak])] at hIX
    rw [ob_yes tc]
    have hln : ((rot1 s.data.toList).map mkLp).length = s.data.toList.length := by rw [List.length_map, rot1_len]
    generalize decide (leastL (bak s.data.toList) = leastL s.data.toList) = r at *
    obtain ⟨n, hn⟩ : ∃ n, s.data.toList.length = n := ⟨_, rfl⟩
    rw [hn] at hSP h0 hIX hln
    have HSP := Lib.hid hSP
    have HIX := Lib.hid hIX
    have HLN := Lib.hid hln
    have HCH := Lib.hid hCH
    generalize (rot1 s.data.toList).map mkLp = L at *
    obtain ⟨y2, hy2⟩ : ∃ y2, mkLp (bak s.data.toList) = y2 := ⟨_, rfl⟩
    rw [hy2] at HCH HIX
    obtain ⟨y, hy⟩ : ∃ y, mkLp s.data.toList = y := ⟨_, rfl⟩
    rw [hy] at HSP HCH HLO hAl
    have hAy2 := aK hK y2
    clear hSP hIX hln hlo hK hy hn hCH hy2
    go_enter Tryd.func59, Tryd.ntmps59
    go_wp2_with fail
    refine (HLO.out _).mono ?_
    rintro e w1 ⟨rfl, hb1⟩
    have a1 := LpAt.new w1 zLp
    have st := a1.store y
    have A1 := Lib.hid (a1.set y)
    have HB := Lib.hid (below_setRow ((ba (by go_grown) hb1 : Below w.heap.size w w1).alloc hb1.size (.cells (arr zLp) 45)) hb1.size (arr y))
    clear a1 hb1
    go_wp2_with fail
    clear st
    obtain ⟨b, hb⟩ : ∃ b, w1.heap.size = b := ⟨_, rfl⟩
    rw [hb] at A1 HB ⊢
    generalize (w1.alloc (.cells (arr zLp) 45)).setRow b (arr y) = W1 at *
    obtain ⟨cs, hcs⟩ : ∃ cs, encLp y = cs := ⟨_, rfl⟩
    have hcl : (Tryd.prog.info? 45).map (·.size) = some cs.length := by rw [← hcs]; exact lpMid y
    have hund := Tryd.underlying45
    have hS0 := rg_mk A1.out hcs
    have hAr : arr y = cs.toArray := by rw [← hcs]; rfl
    rw [hAr] at HSP HCH
    clear hcs hAr
    refine wp_region_held_drew (S := (fun w' => w'.rangeAt b 0 cs ∧ Hid (b < w'.heap.size))) (by kernel_rfl) (rg_drew hS0) (fun hHeld => ?_)
    refine wpAnyH_take (i := 0) rfl (by kernel_rfl) (by kernel_rfl) (by kernel_rfl) (fun _ _ _ h => h) (yieldsIf_load_mid (by rfl) _ _ rfl _ _ rfl _ _ (fun w h => h.1) hund rfl hcl) (by assumption) ?_
    try simp only [Act.put, List.setIfInBounds_toArray, List.set_cons_zero, List.set_cons_succ]
    refine wpAnyH_take (i := 2) (v := .func (.func 62) #[] #[]) rfl (by kernel_rfl) (by kernel_rfl) (by kernel_rfl) (fun _ _ _ h => h) (Or.inl ⟨by rfl, by (intro w hSw; (try dsimp only at hSw); go_simp)⟩) (by assumption) ?_
    try simp only [Act.put, List.setIfInBounds_toArray, List.set_cons_zero, List.set_cons_succ]
    refine wpAnyH_take (i := 3) rfl (by kernel_rfl) (by kernel_rfl) (by kernel_rfl) (fun _ _ _ h => h) (yieldsIf_load_mid (by rfl) _ _ rfl _ _ rfl _ _ (fun w h => h.1) hund rfl hcl) (by assumption) ?_
    try simp only [Act.put, List.setIfInBounds_toArray, List.set_cons_zero, List.set_cons_succ]
    refine wpAnyH_ready (rs := [1]) (by kernel_rfl) (by simp) (AllReadyH.cons rfl (fun K hK => ?_) AllReadyH.nil)
    rw [if_pos (by rfl)]
    go_simp
    go_at_call 49
    refine (HSP.out _).mono ?_
    rintro e w2 ⟨v, rfl, hO, h1⟩
    replace h1 := undrew h1
    obtain ⟨g, cap, rfl, hg0, hcp⟩ := hO.form h0
    have hg := (hO.lt g rfl).2
    have R := Lib.hid (RowLp.of hO HLN.out)
    have HB := Lib.hid (HB.out.trans (h1.mono HB.out.size))
    clear hO
    go_simp
    refine hK.out _ _ ?_ (fun hHeld => ?_)
    · exact rg_below (rg_undrew hHeld) h1
    clear hK K
    try simp only [Act.put, List.setIfInBounds_toArray, List.set_cons_zero, List.set_cons_succ]
    refine wpAnyH_ready (rs := [4]) (by kernel_rfl) (by simp) (AllReadyH.cons rfl (fun K hK => ?_) AllReadyH.nil)
    rw [if_pos (by rfl)]
    go_simp
    go_at_call 62
    refine (HCH.out _).mono ?_
    rintro e w4 ⟨rfl, h1⟩
    have R := Lib.hid (R.out.below hg h1)
    have HB := Lib.hid (HB.out.trans (h1.mono HB.out.size))
    go_simp
    refine hK.out _ _ ?_ (fun hHeld => ?_)
    · exact rg_below hHeld h1
    clear hK K
    try simp only [Act.put, List.setIfInBounds_toArray, List.set_cons_zero, List.set_cons_succ]
    refine wpAnyH_ready (rs := [5]) (by kernel_rfl) (by simp) (AllReadyH.cons rfl (fun K hK => ?_) AllReadyH.nil)
    rw [if_pos (by rfl)]
    go_simp
    go_at_call 82
    refine (HIX.out _ _ _ R.out).mono ?_
    rintro e w3 ⟨rfl, h1⟩
    have HB := Lib.hid (HB.out.trans (h1.mono HB.out.size))
    go_simp
    refine hK.out _ _ ?_ (fun hHeld => ?_)
    · exact rg_below hHeld h1
    clear hK K
    try simp only [Act.put, List.setIfInBounds_toArray, List.set_cons_zero, List.set_cons_succ]
    refine wpAnyH_ready (rs := [6]) (by kernel_rfl) (by simp) (AllReadyH.cons rfl (fun K hK => ?_) AllReadyH.nil)
    rw [if_pos (by rfl)]
    go_simp
    refine hK.out _ _ ?_ (fun hHeld => ?_)
    · assumption
    clear hK K
    try simp only [Act.put, List.setIfInBounds_toArray, List.set_cons_zero, List.set_cons_succ]
    refine wpAnyH_ready (rs := [7]) (by kernel_rfl) (by simp) (AllReadyH.cons rfl (fun K hK => ?_) AllReadyH.nil)
    rw [if_pos (by rfl)]
    go_simp
    refine hK.out _ _ ?_ (fun hHeld => ?_)
    · assumption
    clear hK K
    try simp only [Act.put, List.setIfInBounds_toArray, List.set_cons_zero, List.set_cons_succ]
    refine wpAnyH_done (by kernel_rfl) ?_ _
    all_goals go_wp2_with fail
    all_goals go_ret2
    all_goals exact ⟨rfl, HB.out⟩

set_option maxRecDepth 100000 in
theorem imIsOwnBack (s : ByteArray) (hs : s.size ≤ 1048576) (w : World) :
    Calls Tryd.prog 26 #[.string s] w fun e w' => e = .returned (.tuple #[.bool (obB s), .bool (clB s)]) ∧ Below w.heap.size w w' := by
  have HC := Lib.hid (isOwn_back s hs)
  go_enter Tryd.func26, Tryd.ntmps26
  go_wp2_with (go_at_call 59; (with_reducible refine (HC.out _).mono ?_); rintro e wA ⟨rfl, h1⟩; (try with_reducible replace h1 := undrew h1); have hB : Below w.heap.size w wA := ba (by go_grown) h1; obtain ⟨hcwA, hfwA⟩ := bcell h1; have hqwA := h1.size; (try simp at hqwA); )
  go_ret2
  exact ⟨rfl, by go_grown⟩

end Go.Proofs.YtoenkgenoloihaaDoor
