/- Contracts and facts, put together (part 7). Conditions: each says its own. -/
import Derived.Test.YthiimllafcfieaaQ6
import Derived.Sort.Walk0

/- Contracts: LongestRing, in the program. -/
namespace Go.Proofs.Ythiimllafcfieaa
open Go.ChangeShapes Go.WideShapes Go.ChangeAt Go.RowKit Go.Sort

set_option linter.unusedVariables false
set_option linter.unusedSimpArgs false

theorem cmp_lgt (x g : List UInt8) : decide (0 < cmpI (x.length : Int) (g.length : Int)) = lgt x g := by
  unfold cmpI lgt
  by_cases h1 : (x.length : Int) < (g.length : Int)
  · rw [if_pos h1]; simp; omega
  · rw [if_neg h1]
    by_cases h2 : (g.length : Int) < (x.length : Int)
    · rw [if_pos h2]; simp; omega
    · rw [if_neg h2]; simp; omega

set_option maxRecDepth 100000 in
theorem lenCmp_any (x g : List UInt8) (hx : x.length ≤ 1000) (hg : g.length ≤ 1000) (w : World) :
    Calls Try.prog 72 #[.string (ofL x), .string (ofL g)] w fun e w' => e = .returned (.int .i64 (cmpI (x.length : Int) (g.length : Int))) ∧ w = w' := by
  have PC := Lib.hid (cmpInt_any (x.length : Int) (g.length : Int))
  have h1 := ofL_size x
  have h2 := ofL_size g
  generalize ofL x = X at *
  generalize ofL g = G at *
  generalize cmpI (x.length : Int) (g.length : Int) = z at *
  have e1 : (X.size : Int) = (x.length : Int) := by omega
  have e2 : (G.size : Int) = (g.length : Int) := by omega
  have HE := Lib.hid (And.intro h1 h2)
  clear h1 h2
  go_enter Try.func72, Try.ntmps72
  go_wp2_with (go_at_call 73; refine (PC.out _).mono ?_; rintro e w' ⟨rfl, rfl⟩)
  go_ret
  exact ⟨rfl, rfl⟩

/-- The first j texts: the first longest one of them. -/
def lnO (l : List (List UInt8)) (j : Nat) : Option (List UInt8) := fgO lgt (l.take j)

theorem lnO_next {l : List (List UInt8)} {j : Nat} {b : List UInt8} (h : l[j]? = some b) : lnO l (j + 1) = fgS lgt (lnO l j) b := by
  rw [lnO, List.take_add_one, h]
  exact fgO_snoc _ _ _

theorem lnO_some {l : List (List UInt8)} {j : Nat} (h0 : 0 < j) (h : j ≤ l.length) : ∃ g, lnO l j = some g ∧ g ∈ l := by
  obtain ⟨g, hg⟩ := fgO_some lgt (l.take j) (fun e => by
    have h1 := congrArg List.length e
    rw [List.length_take] at h1
    have h2 : min j l.length = 0 := h1
    omega)
  exact ⟨g, hg, List.mem_of_mem_take (fgO_mem _ _ _ hg)⟩

def oT (o : Option (List UInt8)) : ByteArray := ofL (o.getD [])

set_option maxRecDepth 100000 in
set_option maxHeartbeats 1600000 in
theorem fgText_any (v : Value) (l : List (List UInt8)) (hl : l.length ≤ 900000) (hok : ∀ b ∈ l, b.length ≤ 1000) (w : World) (hv : StrV w v l) :
    Calls Try.prog 71 #[v, .func (.func 72) #[] #[]] w fun e w' => e = .returned (.tuple #[.string (oT (lnO l l.length)), .bool (decide (0 < l.length))]) ∧ Below w.heap.size w w' := by
  obtain ⟨av, cap, rfl, hv⟩ := hv
  obtain ⟨N, hN⟩ : ∃ N, l.length = N := ⟨_, rfl⟩
  have HN := Lib.hid hN
  have HV := Lib.hid hv
  have HOK := Lib.hid hok
  rw [hN] at hl ⊢
  clear hN hv hok
  go_enter Try.func71, Try.ntmps71
  go_wp2_with fail
  go_loopw [6, 11] (fun t i wr => ∃ j : Nat, j ≤ N ∧ i = .int .i64 j ∧ t = .string (oT (lnO l j)) ∧ Below w.heap.size w wr) (fun _ i _ => N - (intOf i).toNat)
  case atStart => exact ⟨0, Nat.zero_le _, rfl, rfl, Below.refl _ _⟩
  case round =>
    obtain ⟨j, hj, rfl, rfl, hb⟩ := hrel
    by_cases hlt : j < N
    · obtain ⟨b, hb1⟩ : ∃ b, l[j]? = some b := ⟨_, List.getElem?_eq_getElem (by rw [HN.out]; exact hlt)⟩
      have hbok := HOK.out b (List.mem_of_getElem? hb1)
      have HNX := Lib.hid (lnO_next hb1)
      obtain ⟨g, rfl, hg, hBA⟩ := HV.out.resolve_left (fun e => by have := HN.out; rw [e] at this; simp at this; omega)
      have d0 := (hBA.below hg hb) j b hb1
      by_cases hj0 : j = 0
      · subst hj0
        have HN2 := Lib.hid (show oT (lnO l (0 + 1)) = ofL b by rw [HNX.out]; rfl)
        clear hb1 hBA
        go_wp2_with fail
        go_roundw
        case rel => exact ⟨1, by omega, by go_num, by rw [HN2.out], hb⟩
        case measure => simp [intOf]; omega
      · obtain ⟨r, hr, hrm⟩ := lnO_some (Nat.pos_of_ne_zero hj0) (show j ≤ l.length by rw [HN.out]; exact hj)
        have hrok := HOK.out r hrm
        have CP := Lib.hid (lenCmp_any b r hbok hrok)
        have hcg := cmp_lgt b r
        have hnx : lnO l (j + 1) = some (if lgt b r then b else r) := by have := HNX.out; rw [hr] at this; exact this
        have hor : oT (lnO l j) = ofL r := by rw [hr]; rfl
        have HOR := Lib.hid hor
        have hjn : ¬ (j : Int) = 0 := by omega
        have hji : ((j : Int) == 0) = false := by simp; omega
        rw [hor]
        generalize cmpI (b.length : Int) (r.length : Int) = z at *
        clear hb1 hBA hr hrm hbok hrok hor
        cases hqc : lgt b r
        · rw [hqc] at hcg hnx
          have hz0 : ¬ 0 < z := by simpa using hcg
          have HN2 := Lib.hid (show oT (lnO l (j + 1)) = ofL r by rw [hnx]; rfl)
          clear hcg hqc hnx
          go_wp2_with fail
          (with_reducible refine Calls.mono (CP.out _) ?_)
          rintro e w' ⟨rfl, rfl⟩
          go_wp2_with fail
          go_roundw
          case rel => exact ⟨j + 1, by omega, by go_num, by rw [HN2.out], hb⟩
          case measure => simp [intOf]; omega
        · rw [hqc] at hcg hnx
          have hz0 : 0 < z := by simpa using hcg
          have HN2 := Lib.hid (show oT (lnO l (j + 1)) = ofL b by rw [hnx]; rfl)
          clear hcg hqc hnx
          go_wp2_with fail
          (with_reducible refine Calls.mono (CP.out _) ?_)
          rintro e w' ⟨rfl, rfl⟩
          go_wp2_with fail
          go_roundw
          case rel => exact ⟨j + 1, by omega, by go_num, by rw [HN2.out], hb⟩
          case measure => simp [intOf]; omega
    · obtain rfl : j = N := by omega
      go_wp2_with fail
      go_ret2
      exact ⟨by first | rfl | (congr 3; simp), hb⟩

end Go.Proofs.Ythiimllafcfieaa

/- Contracts: LongestRing, in the program and in the model. -/
namespace Go.Proofs.Ythiimllafcfieaa
open Go.ChangeShapes Go.WideShapes Go.ChangeAt Go.RowKit Go.Sort

set_option linter.unusedVariables false
set_option linter.unusedSimpArgs false

def lgG (b : Bq) : Option (List UInt8) := cond (bxB 12 b) (lgO b.x.toNat b.r.toNat) none

theorem lgL_le (s c : Nat) : ∀ k, (lgL s c k).length * 2 + 3 ≤ 3 ^ (k + 1)
  | 0 => by simp [lgL]
  | k + 1 => by
    have ih := lgL_le s c k
    have h1 : (lgN s c (k + 1)).length ≤ 3 ^ (k + 1) := Nat.le_trans (List.length_filter_le _ _) (Nat.le_trans (List.length_filter_le _ _) (by rw [words_count]; exact Nat.le_refl _))
    rw [lgL_succ, List.length_append, Nat.pow_succ]
    omega

theorem lgL_bd {s c k : Nat} (hk : k ≤ 12) : (lgL s c k).length ≤ 800000 := by
  have h1 := lgL_le s c k
  have h2 : 3 ^ (k + 1) ≤ 3 ^ 13 := Nat.pow_le_pow_right (by decide) (by omega)
  have h3 : (3 : Nat) ^ 13 = 1594323 := by decide
  omega

/-- The rings laid from s straights and c curves, of the first q. -/
def lgP (s c : Nat) (R : List (List UInt8)) (q : Nat) : List (List UInt8) := (R.take q).filter (cvr s c)

theorem lgP_next {s c : Nat} {R : List (List UInt8)} {q : Nat} {r : List UInt8} (h : R[q]? = some r) : lgP s c R (q + 1) = if cvr s c r then lgP s c R q ++ [r] else lgP s c R q := by
  simp only [lgP, List.take_add_one, h, Option.toList_some, List.filter_append, List.filter_cons, List.filter_nil]
  split <;> simp

theorem lgP_end (s c : Nat) (R : List (List UInt8)) : lgP s c R R.length = R.filter (cvr s c) := by rw [lgP, List.take_length]

theorem lgP_le (s c : Nat) (R : List (List UInt8)) (q : Nat) : (lgP s c R q).length ≤ R.length := Nat.le_trans (List.length_filter_le _ _) (List.length_take_le' _ _)

theorem cvr_fit {n s c : Nat} {r : List UInt8} (h : r ∈ clsL sp0 n) : (decide ((cnt 83 r : Int) ≤ (s : Int)) && decide (((n - cnt 83 r : Nat) : Int) ≤ (c : Int))) = cvr s c r := by
  have h1 := (cls_iffB.1 h).1.1
  have h2 := cnt_le 83 r
  rw [cvr, Bool.eq_iff_iff]
  simp
  omega

set_option maxRecDepth 100000 in
theorem pieces_any (s c n : Nat) (hn : s + c = n) (h : n ≤ 40) (w : World) : Calls Try.prog 67 #[bv ⟨(s : Int), (c : Int)⟩] w fun e w' => e = .returned (.int .i64 (n : Int)) ∧ Below w.heap.size w w' := by
  have e : (s : Int) + (c : Int) = (n : Int) := by omega
  have e2 := w64N n (by omega)
  clear hn
  go_enter Try.func67, Try.ntmps67
  go_wp2_with fail
  go_returns
  exact ⟨rfl, by go_grown⟩

set_option maxRecDepth 100000 in
set_option maxHeartbeats 3200000 in
theorem imLongestRing (b : Bq) (w : World) : Calls Try.prog 34 #[bv b] w fun e w' => e = .returned (.tuple #[.string (oT (lgG b)), .bool (lgG b).isSome]) ∧ Below w.heap.size w w' := by
  have PS := Lib.hid (isWithinB_any b 12 (by decide) (by decide))
  unfold lgG
  cases hb : bxB 12 b
  · rw [hb] at PS
    clear hb
    go_enter Try.func34, Try.ntmps34
    go_wp2_with (go_at_call 66; refine (PS.out _).mono ?_; rintro e w1 ⟨rfl, h1⟩; have hB : Below w.heap.size w w1 := ba (by go_grown) h1; obtain ⟨hc1, hf1⟩ := bcell h1; have hq := h1.size; (try simp at hq); have hz0 : w.heap.size < w1.heap.size := (by omega); have HK1 := Lib.hid h1; clear h1 hq)
    go_returns
    exact ⟨rfl, by go_grown⟩
  · rw [hb] at PS
    obtain ⟨s, c, rfl, hsc⟩ := bxB_nat (m := 12) hb
    simp only [Int.toNat_natCast, cond_true]
    obtain ⟨i0, hi, iz0, iz1, iz2⟩ := info_parts srInfo
    have hres : lgO s c = fgO lgt (lgL s c (s + c)) := rfl
    rw [hres, fgO_isSome, show fgO lgt (lgL s c (s + c)) = lnO (lgL s c (s + c)) (lgL s c (s + c)).length by rw [lnO, List.take_length]]
    obtain ⟨n, hn⟩ : ∃ n, s + c = n := ⟨_, rfl⟩
    have PP := Lib.hid (pieces_any s c n hn (by omega))
    rw [hn] at hsc ⊢
    have SB := Lib.hid (boxSupply_any ⟨(s : Int), (c : Int)⟩)
    have CL := Lib.hid (fun (k : Nat) (hk : k ≤ 12) w => (closings_any sp0 (sp0_ok.mono (by omega)) k (by omega) w : Calls Try.prog 51 #[.agg #[.int .i64 0, .int .i64 0, .int .i64 0, .int .i64 0, .int .i64 0], .int .i64 (k : Nat)] w (StrPost (clsL sp0 k) w)))
    have HN := Lib.hid hn
    clear hb hres hn
    go_enter Try.func34, Try.ntmps34
    go_wp2_with fail
    (go_at_call 66; (with_reducible refine (PS.out _).mono ?_); rintro e wA ⟨rfl, h1⟩; (try with_reducible replace h1 := undrew h1); have hB : Below w.heap.size w wA := ba (by go_grown) h1; obtain ⟨hcwA, hfwA⟩ := bcell h1; have hqwA := h1.size; (try simp at hqwA); (try have hz0wA : w.heap.size < wA.heap.size := (by omega)); (try have he0wA : w.heap.size ≤ wA.heap.size := (by omega)))
    go_wp2_with fail
    (go_at_call 67; (with_reducible refine (PP.out _).mono ?_); rintro e wB ⟨rfl, h1⟩; (try with_reducible replace h1 := undrew h1); have hB : Below w.heap.size w wB := ba (by go_grown) h1; obtain ⟨hcwB, hfwB⟩ := bcell h1; have hqwB := h1.size; (try simp at hqwB); (try have hz0wB : w.heap.size < wB.heap.size := (by omega)); (try have he0wB : w.heap.size ≤ wB.heap.size := (by omega)); (try have hz1wB : wA.heap.size < wB.heap.size := (by omega)); (try have he1wB : wA.heap.size ≤ wB.heap.size := (by omega)))
    go_wp2_with fail
    have c0 : wB.cell? ⟨w.heap.size, 0, none⟩ = some (.int .i64 (s : Int)) := by go_simp
    have c1 : wB.cell? ⟨w.heap.size, 1, none⟩ = some (.int .i64 (c : Int)) := by go_simp
    have HBB := Lib.hid hB
    have HC := Lib.hid (And.intro c0 c1)
    have hwB : w.heap.size < wB.heap.size := by omega
    clear hcwA hfwA hcwB hfwB hB c0 c1 h1
    go_loopw [4, 13] (fun t i wr => ∃ (k : Nat) (v : Value), k ≤ n ∧ i = .int .i64 k ∧ v = t ∧ wr.ownsRow wB.heap.size 9 1 v (lgL s c k).length (strV (lgL s c k)) ∧ Below wB.heap.size wB wr) (fun _ i _ => n - (intOf i).toNat)
    case atStart => exact ⟨0, _, Nat.zero_le _, rfl, rfl, World.ownsRow_nil _ _ _ _, Below.refl _ _⟩
    case round =>
      obtain ⟨k, v, hk, rfl, rfl, hO, hb⟩ := hrel
      have hzk : wB.heap.size ≤ wr.heap.size := hb.size
      have HO := Lib.hid hO
      have HB := Lib.hid hb
      obtain ⟨wi, rfl⟩ : ∃ wi : World, wi = wr := ⟨_, rfl⟩
      by_cases hlt : k < n
      · have hdk : decide ((k : Int) < (n : Int)) = true := by simp; omega
        have hk1 : (k : Int) + 1 = ((k + 1 : Nat) : Int) := by omega
        have CLK := Lib.hid (CL.out (k + 1) (by omega))
        have HSU := Lib.hid (lgL_succ s c k)
        have HLN := Lib.hid (show lgN s c (k + 1) = (clsL sp0 (k + 1)).filter (cvr s c) from rfl)
        have HOK := Lib.hid (fun r (hr : r ∈ clsL sp0 (k + 1)) => And.intro (cls_ok (n := k + 1) (by omega) hr) (cvr_fit (s := s) (c := c) hr))
        have hbd := lgL_bd (s := s) (c := c) (show k + 1 ≤ 12 by omega)
        have hlen := clsB_le (n := k + 1) (by omega)
        generalize clsL sp0 (k + 1) = R at *
        obtain ⟨K, hK⟩ : ∃ K : Nat, k + 1 = K := ⟨_, rfl⟩
        rw [hK] at CLK hk1
        have hKw := w64N K (by omega)
        obtain ⟨N, hN⟩ : ∃ N, R.length = N := ⟨_, rfl⟩
        have HNN := Lib.hid hN
        have HKK := Lib.hid hK
        have hLL : (lgL s c k ++ lgP s c R R.length).length ≤ 800000 := by rw [lgP_end, ← HLN.out, ← HSU.out]; exact hbd
        rw [hN] at hlen
        clear hO hb hN hK hbd
        go_wp2_with fail
        refine (CLK.out _).mono ?_
        rintro e w1 ⟨vR, rfl, oR, hb1⟩
        rw [HNN.out] at oR
        obtain ⟨av, cv, rfl⟩ := own_formC oR
        have HOR := Lib.hid oR
        have HO1 := Lib.hid (HO.out.kept (below_grown hb1) (by cases v.ownBlock <;> simp))
        have HB1 := Lib.hid (HB.out.trans (hb1.mono hzk))
        have hz1 := HB1.out.size
        have hap : ∀ g, av = some ⟨g, 0, none⟩ → v.ownBlock ≠ some g := fun g hg e => by
          have h1 := (HOR.out.lt g (by rw [hg]; rfl)).1
          have h2 := (HO.out.lt g e).2
          omega
        have HAP := Lib.hid hap
        clear oR hb1 hap
        go_wp2_with fail
        go_loopw [4, 21] (fun t i wr => ∃ (q : Nat) (u : Value), q ≤ N ∧ i = .int .i64 q ∧ u = t ∧ wr.ownsRow wB.heap.size 9 1 u (lgL s c k ++ lgP s c R q).length (strV (lgL s c k ++ lgP s c R q)) ∧ w1.heap.size ≤ wr.heap.size ∧ (∀ g, av = some ⟨g, 0, none⟩ → wr.heap[g]? = w1.heap[g]? ∧ u.ownBlock ≠ some g) ∧ Below wB.heap.size wB wr) (fun _ i _ => N - (intOf i).toNat)
        case atStart => exact ⟨0, v, Nat.zero_le _, rfl, rfl, by simpa [lgP] using HO1.out, Nat.le_refl _, fun g hg => ⟨rfl, HAP.out g hg⟩, HB1.out⟩
        case round =>
          obtain ⟨q, u, hq, rfl, rfl, hO, hz, hG, hb⟩ := hrel
          have HOu := Lib.hid hO
          have HGu := Lib.hid hG
          have HBu := Lib.hid hb
          obtain ⟨wq, rfl⟩ : ∃ wq : World, wq = wr := ⟨_, rfl⟩
          have hzq : wB.heap.size ≤ wq.heap.size := hb.size
          have hll : (lgL s c k ++ lgP s c R q).length ≤ 800000 := by
            rw [List.length_append] at hLL ⊢
            rw [lgP_end] at hLL
            have : (lgP s c R q).length ≤ (R.filter (cvr s c)).length := List.Sublist.length_le ((List.take_sublist q R).filter _)
            omega
          by_cases hql : q < N
          · obtain ⟨r, hr⟩ : ∃ r, R[q]? = some r := ⟨_, List.getElem?_eq_getElem (by rw [HNN.out]; exact hql)⟩
            obtain ⟨⟨t1, t2, t3, t4⟩, hfit⟩ := HOK.out r (List.mem_of_getElem? hr)
            obtain ⟨g, rfl⟩ : ∃ g, av = some ⟨g, 0, none⟩ := by
              rcases HOR.out.2 with ⟨h, h0⟩ | ⟨g, cap, _, h, _⟩
              · omega
              · injection h with h; exact ⟨g, h⟩
            have hgl := (HOR.out.lt g rfl).2
            obtain ⟨hgb, hgu⟩ := hG g rfl
            have cr : wq.cell? ⟨g, q, none⟩ = some (.string (ofL r)) := by
              rw [World.cell?_of_block (w := w1) (a := ⟨g, q, none⟩) hgb]
              exact str_of HOR.out HNN.out q r hr
            have b0 : wq.cell? ⟨w.heap.size, 0, none⟩ = some (.int .i64 (s : Int)) := by rw [hb.cell (p := ⟨w.heap.size, 0, none⟩) hwB]; exact HC.out.1
            have b1 : wq.cell? ⟨w.heap.size, 1, none⟩ = some (.int .i64 (c : Int)) := by rw [hb.cell (p := ⟨w.heap.size, 1, none⟩) hwB]; exact HC.out.2
            have NO := needsOf_any (ofL r) t1
            rw [t2, t3] at NO
            have NOH := Lib.hid NO
            have CV := covers_any ⟨(s : Int), (c : Int)⟩ ⟨(cnt 83 r : Int), ((k + 1 - cnt 83 r : Nat) : Int)⟩
            simp only at CV
            rw [hfit] at CV
            have CVH := Lib.hid CV
            have HNX := Lib.hid (lgP_next (s := s) (c := c) hr)
            have HGB := Lib.hid (And.intro hgb hgu)
            have hBw : Below w.heap.size w wq := HBB.out.trans (hb.mono HBB.out.size)
            have hw0 : w.heap.size < wq.heap.size := by omega
            generalize (⟨(cnt 83 r : Int), ((k + 1 - cnt 83 r : Nat) : Int)⟩ : Bq) = d at *
            obtain ⟨dx, dr⟩ := d
            clear hO hG hb hr NO CV t1 t2 t3 t4 hfit hgb hgu
            cases hcv : cvr s c r
            · rw [hcv] at CVH HNX
              have HN2 := Lib.hid (show lgP s c R (q + 1) = lgP s c R q from HNX.out)
              clear hcv
              go_wp2_with fail
              (go_at_call 68; (with_reducible refine (SB.out _).mono ?_); rintro e wC ⟨rfl, h1⟩; (try with_reducible replace h1 := undrew h1); have hB : Below w.heap.size w wC := ba (by go_grown) h1; obtain ⟨hcwC, hfwC⟩ := bcell h1; have hqwC := h1.size; (try simp at hqwC); (try have hz0wC : w.heap.size < wC.heap.size := (by omega)); (try have he0wC : w.heap.size ≤ wC.heap.size := (by omega)))
              have hq1 := Lib.hid h1
              clear h1
              go_wp2_with fail
              (go_at_call 70; (with_reducible refine (NOH.out _).mono ?_); rintro e wD ⟨rfl, h1⟩; (try with_reducible replace h1 := undrew h1); have hB : Below w.heap.size w wD := ba (by go_grown) h1; obtain ⟨hcwD, hfwD⟩ := bcell h1; have hqwD := h1.size; (try simp at hqwD); (try have hz0wD : w.heap.size < wD.heap.size := (by omega)); (try have he0wD : w.heap.size ≤ wD.heap.size := (by omega)))
              have hq2 := Lib.hid h1
              clear h1
              go_wp2_with fail
              (go_at_call 69; (with_reducible refine (CVH.out _).mono ?_); rintro e wE ⟨rfl, h1⟩; (try with_reducible replace h1 := undrew h1); have hB : Below w.heap.size w wE := ba (by go_grown) h1; obtain ⟨hcwE, hfwE⟩ := bcell h1; have hqwE := h1.size; (try simp at hqwE); (try have hz0wE : w.heap.size < wE.heap.size := (by omega)); (try have he0wE : w.heap.size ≤ wE.heap.size := (by omega)))
              have hqE : Below wq.heap.size wq wE := (hq1.out.trans (hq2.out.mono hq1.out.size)).trans (h1.mono (Nat.le_trans hq1.out.size hq2.out.size))
              have HOE := Lib.hid (HOu.out.kept (below_grown hqE) (by cases u.ownBlock <;> simp))
              have HGE := Lib.hid (show ∀ g', (some ⟨g, 0, none⟩ : Option Addr) = some ⟨g', 0, none⟩ → wE.heap[g']? = w1.heap[g']? ∧ u.ownBlock ≠ some g' from fun g' hg' => by
                injection hg' with hg'; injection hg' with hg'
                subst hg'
                exact ⟨(hqE.block g (by omega)).trans HGB.out.1, HGB.out.2⟩)
              have HBE := Lib.hid (HBu.out.trans (hqE.mono hzq))
              have hzE := hqE.size
              clear h1 hqE hcwC hfwC hcwD hfwD hcwE hfwE hBw hB b0 b1 cr
              go_wp2_with fail
              go_roundw
              case rel => exact ⟨q + 1, u, by omega, by go_num, rfl, by rw [HN2.out]; exact HOE.out, by omega, HGE.out, HBE.out⟩
              case measure => simp [intOf]; omega
            · rw [hcv] at CVH HNX
              have HN2 := Lib.hid (show lgP s c R (q + 1) = lgP s c R q ++ [r] from HNX.out)
              clear hcv
              go_wp2_with fail
              (go_at_call 68; (with_reducible refine (SB.out _).mono ?_); rintro e wC ⟨rfl, h1⟩; (try with_reducible replace h1 := undrew h1); have hB : Below w.heap.size w wC := ba (by go_grown) h1; obtain ⟨hcwC, hfwC⟩ := bcell h1; have hqwC := h1.size; (try simp at hqwC); (try have hz0wC : w.heap.size < wC.heap.size := (by omega)); (try have he0wC : w.heap.size ≤ wC.heap.size := (by omega)))
              have hq1 := Lib.hid h1
              clear h1
              go_wp2_with fail
              (go_at_call 70; (with_reducible refine (NOH.out _).mono ?_); rintro e wD ⟨rfl, h1⟩; (try with_reducible replace h1 := undrew h1); have hB : Below w.heap.size w wD := ba (by go_grown) h1; obtain ⟨hcwD, hfwD⟩ := bcell h1; have hqwD := h1.size; (try simp at hqwD); (try have hz0wD : w.heap.size < wD.heap.size := (by omega)); (try have he0wD : w.heap.size ≤ wD.heap.size := (by omega)))
              have hq2 := Lib.hid h1
              clear h1
              go_wp2_with fail
              (go_at_call 69; (with_reducible refine (CVH.out _).mono ?_); rintro e wE ⟨rfl, h1⟩; (try with_reducible replace h1 := undrew h1); have hB : Below w.heap.size w wE := ba (by go_grown) h1; obtain ⟨hcwE, hfwE⟩ := bcell h1; have hqwE := h1.size; (try simp at hqwE); (try have hz0wE : w.heap.size < wE.heap.size := (by omega)); (try have he0wE : w.heap.size ≤ wE.heap.size := (by omega)))
              have hqE : Below wq.heap.size wq wE := (hq1.out.trans (hq2.out.mono hq1.out.size)).trans (h1.mono (Nat.le_trans hq1.out.size hq2.out.size))
              have HGE := Lib.hid ((hqE.block g (by omega)).trans HGB.out.1)
              have hzE := hqE.size
              have hgE : g < wE.heap.size := by omega
              obtain ⟨T, hT⟩ : ∃ T, ofL r = T := ⟨_, rfl⟩
              have HT := Lib.hid hT
              have HOA := Lib.hid ((HOu.out.kept (below_grown hqE) (by cases u.ownBlock <;> simp)).alloc (.cells #[.string T] 9))
              have HBA := Lib.hid ((HBu.out.trans (hqE.mono hzq)).alloc (by omega) (.cells #[.string T] 9))
              have hnews := cell_one_new wE (.string T) 9
              rw [hT]
              clear h1 hqE hcwC hfwC hcwD hfwD hcwE hfwE hBw hB b0 b1 cr hT
              go_wp2_with (at_builtin; refine wpList_append_own_at _ rfl _ _ 25 rfl wB.heap.size 9 i0 (.string ByteArray.empty) 1 16 Try.underlying25 hi iz0 iz1 iz2 rfl (by decide) u _ _ rfl HOA.out ⟨wE.heap.size, 0, none⟩ 1 1 [.string T] rfl rfl hnews (by intro x hx; simp at hx; subst hx; rfl) (by unfold maxLen; omega) (by omega) (by simp; omega) ?_; intro v' w4 hown' hgrow hnil hloc)
              have hlt' := HOA.out.lt
              have HB8 := Lib.hid (HBA.out.grown hgrow (by simp; omega) (fun k hk => (hlt' k hk).1))
              have HO8 := Lib.hid hown'
              have hz4 := hgrow.size
              simp only [World.size_alloc] at hz4
              have HG8 := Lib.hid (show ∀ g', (some ⟨g, 0, none⟩ : Option Addr) = some ⟨g', 0, none⟩ → w4.heap[g']? = w1.heap[g']? ∧ v'.ownBlock ≠ some g' from fun g' hg' => by
                injection hg' with hg'; injection hg' with hg'
                subst hg'
                refine ⟨((hgrow.block g (by simp; omega) (fun e => HGB.out.2 e.symm)).trans (Below.heap_alloc _ _ _ hgE)).trans HGE.out, fun e => ?_⟩
                rcases hloc with h | h
                · exact HGB.out.2 (h ▸ e)
                · rw [h] at e; injection e with e; simp at e; omega)
              clear hlt' hgrow hown' hnil hloc hnews
              go_roundw
              case rel => exact ⟨q + 1, v', by omega, by go_num, rfl, by rw [HN2.out, ← List.append_assoc, strV_append, List.length_append]; simp only [strV, List.map_cons, List.map_nil, HT.out]; exact HO8.out, by omega, HG8.out, HB8.out⟩
              case measure => simp [intOf]; omega
          · obtain rfl : q = N := by omega
            have HF := Lib.hid (show lgL s c k ++ lgP s c R q = lgL s c (k + 1) by rw [HSU.out, HLN.out, ← lgP_end, HNN.out])
            clear hO hG hb
            go_wp2_with fail
            go_roundw
            case rel => exact ⟨k + 1, u, by omega, by go_num, rfl, by rw [← HF.out]; exact HOu.out, HBu.out⟩
            case measure => simp [intOf]; omega
      · obtain rfl : k = n := by omega
        have FG := Lib.hid (fun W => fgText_any v (lgL s c k) (by have := lgL_bd (s := s) (c := c) hsc; omega) (fun r hr => by have := (lgL_iff.1 hr).2.1; omega) W)
        have hsv := strV_own hO
        have HSV := Lib.hid hsv
        clear hO hsv
        have hBw : Below w.heap.size w wi := HBB.out.trans (hb.mono HBB.out.size)
        clear hb
        go_wp2_with fail
        (with_reducible refine Calls.mono (FG.out _ HSV.out) ?_)
        rintro e w2 ⟨rfl, h2⟩
        have HBF := Lib.hid (ba hBw h2)
        clear h2 hBw
        go_wp2_with fail
        go_ret2
        exact ⟨rfl, HBF.out⟩

end Go.Proofs.Ythiimllafcfieaa

/- Contract: LongestRing, in the model. -/
namespace Go.Proofs.Ythiimllafcfieaa
open Go.ChangeShapes Go.WideShapes Go.ChangeAt Go.RowKit Go.Sort

set_option linter.unusedVariables false
set_option linter.unusedSimpArgs false

theorem less_runB (a b : List UInt8) : Op.bytesLess (ofL a).toList (ofL b).toList = decide (a < b) := by
  rw [bytesLess_eq, ByteArray.toList_eq, ByteArray.toList_eq]
  rfl

theorem eq_nilB (a : List UInt8) : ((ofL a).toList == []) = decide (a = []) := by
  rw [ByteArray.toList_eq]
  exact (show (a == []) = decide (a = []) by by_cases h : a = [] <;> simp [h])

theorem isLs_nil {X : List UInt8 → Prop} (h : IsLs X []) : ∀ w, ¬ X w := by
  rcases h with ⟨_, h⟩ | ⟨_, h, _⟩
  · exact h
  · exact absurd h (by simp)

theorem bxW_le12 {s c : Nat} (h : s + c ≤ 12) : (bxW s c).length ≤ 531441 := Nat.le_trans (bxW_le s c) (Nat.pow_le_pow_right (by decide) h)

theorem kd_le {k m d n : Nat} (hd : m - k = d) (h : k ≤ m) (h2 : m ≤ n) (h3 : n ≤ 12) : k + d ≤ 12 := by omega

theorem kd_pos {k m d : Nat} (hd : m - k = d) (h : k ≤ m) (h0 : 0 < m) : 0 < k + d := by omega

theorem w64K {k : Nat} (h : k ≤ 12) : wrap64 ((k : Int) + 1) = (k : Int) + 1 := IntWalk.wrap64_in _ ⟨by omega, by omega⟩

theorem msK {m k : Nat} (h : k ≤ m) : m + 2 - (intOf (.int .i64 ((k : Int) + 1))).toNat < m + 2 - (intOf (.int .i64 (k : Int))).toNat := by simp [intOf]; omega

theorem ms1 {m : Nat} (h : 0 < m) (h2 : m ≤ 12) : (intOf (.int .i64 ((m : Int) - 1))).toNat < (intOf (.int .i64 (m : Int))).toNat := by simp [intOf]; omega

theorem w64M {m : Nat} (h : 0 < m) (h2 : m ≤ 12) : Value.int .i64 ((m : Int) - 1) = .int .i64 ((m - 1 : Nat) : Int) := by congr 1; omega

def boxesUp (s c m k : Nat) (w : List UInt8) : Prop := ∃ k', m - c ≤ k' ∧ k' < k ∧ k' ≤ s ∧ k' ≤ m ∧ w ∈ bxR k' (m - k')

def textsUp (R : List (List UInt8)) (q : Nat) (w : List UInt8) : Prop := ∃ t, t < q ∧ R[t]? = some w ∧ rgb w = true

set_option maxRecDepth 100000 in
set_option maxHeartbeats 3200000 in
theorem spLongestRing (b : Bq) (w : World) : Calls Try.prog 32 #[bv b] w fun e w' => e = .returned (.tuple #[.string (oT (lgG b)), .bool (lgG b).isSome]) ∧ Below w.heap.size w w' := by
  have PS := Lib.hid (spSmB_any b 12 (by decide))
  unfold lgG
  cases hb : bxB 12 b
  · rw [hb] at PS
    clear hb
    go_enter Try.func32, Try.ntmps32
    go_wp2_with (go_at_call 62; refine (PS.out _).mono ?_; rintro e w1 ⟨rfl, h1⟩; have hB : Below w.heap.size w w1 := ba (by go_grown) h1; obtain ⟨hc1, hf1⟩ := bcell h1; have hq := h1.size; (try simp at hq); have hz0 : w.heap.size < w1.heap.size := (by omega); have HK1 := Lib.hid h1; clear h1 hq)
    go_returns
    exact ⟨rfl, by go_grown⟩
  · rw [hb] at PS
    obtain ⟨s, c, rfl, hsc⟩ := bxB_nat (m := 12) hb
    simp only [Int.toNat_natCast, cond_true]
    obtain ⟨n, hn⟩ : ∃ n, s + c = n := ⟨_, rfl⟩
    have hni : (s : Int) + (c : Int) = (n : Int) := by omega
    have hnw := w64N n (by omega)
    have HNO := Lib.hid (fun (h : ∀ m, 0 < m → m ≤ n → lgN s c m = []) => (isLs_none (s := s) (c := c) (by rw [hn]; exact h)))
    have HYE := Lib.hid (fun (m : Nat) (x : List UInt8) (h : IsLs (fun w => w ∈ lgN s c m) x) (hm : 0 < m) (hmn : m ≤ n) (hno : ∀ m', m < m' → m' ≤ n → lgN s c m' = []) (hx : x ≠ []) => isLs_long h hm (by rw [hn]; exact hmn) (by rw [hn]; exact hno) hx)
    generalize lgO s c = O at *
    clear hb
    go_enter Try.func32, Try.ntmps32
    go_wp2_with fail
    (go_at_call 62; (with_reducible refine (PS.out _).mono ?_); rintro e wA ⟨rfl, h1⟩; (try with_reducible replace h1 := undrew h1); have hB : Below w.heap.size w wA := ba (by go_grown) h1; obtain ⟨hcwA, hfwA⟩ := bcell h1; have hqwA := h1.size; (try simp at hqwA); (try have hz0wA : w.heap.size < wA.heap.size := (by omega)); (try have he0wA : w.heap.size ≤ wA.heap.size := (by omega)))
    go_wp2_with fail
    have c0 : wA.cell? ⟨w.heap.size, 0, none⟩ = some (.int .i64 (s : Int)) := by go_simp
    have c1 : wA.cell? ⟨w.heap.size, 1, none⟩ = some (.int .i64 (c : Int)) := by go_simp
    have HBB := Lib.hid hB
    have HC := Lib.hid (And.intro c0 c1)
    have hwA : w.heap.size < wA.heap.size := by omega
    clear hcwA hfwA hB c0 c1 h1
    go_loopw [4] (fun i wr => ∃ m : Nat, m ≤ n ∧ i = .int .i64 m ∧ (∀ m', m < m' → m' ≤ n → lgN s c m' = []) ∧ Below wA.heap.size wA wr) (fun i _ => (intOf i).toNat)
    case atStart => exact ⟨n, Nat.le_refl _, rfl, fun m' h1 h2 => by omega, Below.refl _ _⟩
    case round =>
      obtain ⟨m, hm, rfl, hno, hb⟩ := hrel
      have HNM := Lib.hid hno
      have HB := Lib.hid hb
      have hzm : wA.heap.size ≤ wr.heap.size := hb.size
      have b0 : wr.cell? ⟨w.heap.size, 0, none⟩ = some (.int .i64 (s : Int)) := by rw [hb.cell (p := ⟨w.heap.size, 0, none⟩) hwA]; exact HC.out.1
      have b1 : wr.cell? ⟨w.heap.size, 1, none⟩ = some (.int .i64 (c : Int)) := by rw [hb.cell (p := ⟨w.heap.size, 1, none⟩) hwA]; exact HC.out.2
      obtain ⟨wi, rfl⟩ : ∃ wi : World, wi = wr := ⟨_, rfl⟩
      by_cases hm0 : m = 0
      · subst hm0
        have HO := Lib.hid (HNO.out (fun m h0 h1 => HNM.out m h0 h1))
        have HBF := Lib.hid (HBB.out.trans (hb.mono HBB.out.size))
        clear hno hb
        go_wp2_with fail
        go_ret2
        exact ⟨by rw [HO.out]; rfl, HBF.out⟩
      · have hmp : (0 : Int) < (m : Int) := by omega
        have hmpN : 0 < m := by omega
        have hdm : decide ((0 : Int) < (m : Int)) = true := by simp; omega
        obtain ⟨k0, hk0⟩ : ∃ k0, m - c = k0 := ⟨_, rfl⟩
        have hmc : wrap64 ((m : Int) - (c : Int)) = (m : Int) - (c : Int) := IntWalk.wrap64_in _ ⟨by omega, by omega⟩
        have LM0 : ∀ w, Calls Try.prog 63 #[.int .i64 0, .int .i64 ((m : Int) - (c : Int))] w fun e w' => e = .returned (.int .i64 (k0 : Int)) ∧ w = w' := fun w => by
          have := l1Most_any 0 ((m : Int) - (c : Int)) w
          rw [show max 0 ((m : Int) - (c : Int)) = (k0 : Int) by omega] at this
          exact this
        have LM := Lib.hid LM0
        clear hno hb LM0
        go_wp2_with (go_at_call 63; refine (LM.out _).mono ?_; rintro e w' ⟨rfl, rfl⟩)
        go_loopw [5, 6] (fun u i wr => ∃ (k : Nat) (x : List UInt8), k0 ≤ k ∧ k ≤ m + 1 ∧ i = .int .i64 k ∧ u = .string (ofL x) ∧ IsLs (boxesUp s c m k) x ∧ Below wA.heap.size wA wr) (fun _ i _ => m + 2 - (intOf i).toNat)
        case atStart => exact ⟨k0, [], Nat.le_refl _, by omega, rfl, rfl, .inl ⟨rfl, fun w ⟨k', h1, h2, _⟩ => by omega⟩, HB.out⟩
        case round =>
          obtain ⟨k, x, hk0k, hkm, rfl, rfl, hx, hb⟩ := hrel
          have HX := Lib.hid hx
          have HBk := Lib.hid hb
          have hzk : wA.heap.size ≤ wr.heap.size := hb.size
          have d0 : wr.cell? ⟨w.heap.size, 0, none⟩ = some (.int .i64 (s : Int)) := by rw [hb.cell (p := ⟨w.heap.size, 0, none⟩) hwA]; exact HC.out.1
          have d1 : wr.cell? ⟨w.heap.size, 1, none⟩ = some (.int .i64 (c : Int)) := by rw [hb.cell (p := ⟨w.heap.size, 1, none⟩) hwA]; exact HC.out.2
          obtain ⟨wk, rfl⟩ : ∃ wk : World, wk = wr := ⟨_, rfl⟩
          clear b0 b1
          have hend : ¬ (k ≤ s ∧ k ≤ m) → ∀ w, boxesUp s c m k w ↔ w ∈ lgN s c m := fun hn w => by
            rw [lgN_box hmpN]
            constructor
            · rintro ⟨k', h1, h2, h3, h4, h5⟩; exact ⟨k', h1, h3, h4, h5⟩
            · rintro ⟨k', h1, h3, h4, h5⟩; exact ⟨k', h1, by omega, h3, h4, h5⟩
          by_cases hksm : k ≤ s ∧ k ≤ m
          · obtain ⟨hks, hkm2⟩ := hksm
            have e1 : (k : Int) ≤ (s : Int) := by omega
            have e2 : (k : Int) ≤ (m : Int) := by omega
            have dk1 : decide ((k : Int) ≤ (s : Int)) = true := by simp; omega
            have dk2 : decide ((k : Int) ≤ (m : Int)) = true := by simp; omega
            obtain ⟨d, hd⟩ : ∃ d, m - k = d := ⟨_, rfl⟩
            have hmd : (m : Int) - (k : Int) = (d : Int) := by omega
            have hdw := w64N d (by omega)
            have hkd := kd_le hd hkm2 hm (by rw [← hn]; exact hsc)
            have PA := Lib.hid (spAll_any k d hkd)
            unfold AllPost at PA
            have hlen := bxW_le12 hkd
            have HTK := Lib.hid (fun r (hr : r ∈ bxW k d) => bxW_tk (s := k) (c := d) (Nat.le_trans hkd (by decide)) hr)
            have HRR := Lib.hid (show ∀ w, w ∈ bxR k d ↔ ∃ t, (bxW k d)[t]? = some w ∧ rgb w = true from fun w => by
              rw [bxR, List.mem_filter, List.mem_iff_getElem?]
              exact ⟨fun ⟨⟨t, ht⟩, h⟩ => ⟨t, ht, h⟩, fun ⟨t, ht, h⟩ => ⟨⟨t, ht⟩, h⟩⟩)
            have HD := Lib.hid hd
            generalize bxW k d = R at *
            obtain ⟨N, hN⟩ : ∃ N, R.length = N := ⟨_, rfl⟩
            have HN := Lib.hid hN
            rw [hN] at hlen
            have hBw : Below w.heap.size w wk := HBB.out.trans (hb.mono HBB.out.size)
            have HBND := Lib.hid (show m - c ≤ k from by rw [hk0]; exact hk0k)
            have HAR := Lib.hid (show k0 ≤ k + 1 ∧ k + 1 ≤ m + 1 ∧ 0 < k + d ∧ k + d ≤ 12 ∧ k ≤ s ∧ k ≤ m from ⟨Nat.le_succ_of_le hk0k, Nat.succ_le_succ hkm2, kd_pos hd hkm2 hmpN, hkd, hks, hkm2⟩)
            clear hx hb hN hd hend hnw hni hmc hk0 hk0k hkm hkd hkm2 hks hm0 hmp hmpN hdm hm hsc
            go_wp2_with fail
            (with_reducible refine Calls.mono (PA.out _) ?_)
            rintro e w1 ⟨v, rfl, hO, hb1⟩
            rw [HN.out] at hO
            have HB1 := Lib.hid (HBk.out.trans (hb1.mono hzk))
            obtain ⟨av, cv, rfl⟩ := own_formC hO
            have HO := Lib.hid hO
            clear hb1 hO
            go_wp2_with fail
            go_loopw [5, 44] (fun u i wr => ∃ (q : Nat) (y : List UInt8), q ≤ N ∧ i = .int .i64 q ∧ u = .string (ofL y) ∧ IsLs (fun w => boxesUp s c m k w ∨ textsUp R q w) y ∧ Below w1.heap.size w1 wr) (fun _ i _ => N - (intOf i).toNat)
            case atStart => exact ⟨0, x, Nat.zero_le _, rfl, rfl, isLs_ext HX.out fun w => ⟨.inl, fun h => h.elim id fun ⟨t, ht, _⟩ => by omega⟩, Below.refl _ _⟩
            case round =>
              obtain ⟨q, y, hq, rfl, rfl, hy, hb⟩ := hrel
              have HY := Lib.hid hy
              have HBq := Lib.hid hb
              by_cases hql : q < N
              · obtain ⟨r, hr⟩ : ∃ r, R[q]? = some r := ⟨_, List.getElem?_eq_getElem (by rw [HN.out]; exact hql)⟩
                obtain ⟨t1, t2, t3⟩ := HTK.out r (List.mem_of_getElem? hr)
                obtain ⟨g, rfl⟩ : ∃ g, av = some ⟨g, 0, none⟩ := by
                  rcases HO.out.2 with ⟨h, h0⟩ | ⟨g, cap, _, h, _⟩
                  · omega
                  · injection h with h; exact ⟨g, h⟩
                have cr := (str_of HO.out HN.out).below (HO.out.lt g rfl).2 hb q r hr
                have h12 := HAR.out.2.2.2.1
                have hpos := HAR.out.2.2.1
                have CR := Lib.hid (csRing_any (ofL r) (by rw [ofL_size]; omega))
                rw [t2] at CR
                have hBq : Below w.heap.size w wr := HBB.out.trans ((HB1.out.trans (hb.mono HB1.out.size)).mono HBB.out.size)
                have hrl : 0 < r.length := by omega
                clear h12 hpos
                have HRQ := Lib.hid hr
                have htx : ∀ w, textsUp R (q + 1) w ↔ textsUp R q w ∨ (w = r ∧ rgb r = true) := fun w => by
                  constructor
                  · rintro ⟨t, ht, h1, h2⟩
                    by_cases htq : t = q
                    · subst htq
                      rw [HRQ.out] at h1
                      injection h1 with h1
                      subst h1
                      exact .inr ⟨rfl, h2⟩
                    · exact .inl ⟨t, by omega, h1, h2⟩
                  · rintro (⟨t, ht, h1, h2⟩ | ⟨rfl, h2⟩)
                    · exact ⟨t, by omega, h1, h2⟩
                    · exact ⟨q, by omega, HRQ.out, h2⟩
                have HTX := Lib.hid htx
                cases hrg : rgb r
                · rw [hrg] at CR
                  have HY2 := Lib.hid (show IsLs (fun w => boxesUp s c m k w ∨ textsUp R (q + 1) w) y from isLs_ext hy fun w => by rw [HTX.out w, hrg]; simp)
                  clear hy hb hr t1 t2 t3 hrg htx
                  go_wp2_with fail
                  (go_at_call 65; (with_reducible refine (CR.out _).mono ?_); rintro e wC ⟨rfl, h1⟩; (try with_reducible replace h1 := undrew h1); have hB : Below w.heap.size w wC := ba (by go_grown) h1; obtain ⟨hcwC, hfwC⟩ := bcell h1; have hqwC := h1.size; (try simp at hqwC); )
                  have HB2 := Lib.hid (HBq.out.trans (h1.mono HBq.out.size))
                  clear h1 hcwC hfwC cr hBq hB
                  go_wp2_with fail
                  go_roundw
                  case rel => exact ⟨q + 1, y, by omega, by go_num, rfl, HY2.out, HB2.out⟩
                  case measure => simp [intOf]; omega
                · rw [hrg] at CR
                  have HY2 := Lib.hid (show IsLs (fun w => boxesUp s c m k w ∨ textsUp R (q + 1) w) (lsN y r) from isLs_ext (isLs_next hy hrl) fun w => by rw [HTX.out w, hrg]; simp [or_assoc])
                  have hE := eq_nilB y
                  have hL := less_runB r y
                  have hLS : lsN y r = if y = [] ∨ r < y then r else y := rfl
                  by_cases hy0 : y = []
                  · rw [decide_eq_true hy0] at hE
                    rw [if_pos (.inl hy0)] at hLS
                    rw [hLS] at HY2
                    clear hy hb hr t1 t2 t3 hrg htx hL hLS hy0
                    generalize ofL y = Y at *
                    go_wp2_with fail
                    (go_at_call 65; (with_reducible refine (CR.out _).mono ?_); rintro e wC ⟨rfl, h1⟩; (try with_reducible replace h1 := undrew h1); have hB : Below w.heap.size w wC := ba (by go_grown) h1; obtain ⟨hcwC, hfwC⟩ := bcell h1; have hqwC := h1.size; (try simp at hqwC); )
                    have HB2 := Lib.hid (HBq.out.trans (h1.mono HBq.out.size))
                    clear h1 hcwC hfwC cr hBq hB
                    go_wp2_with fail
                    go_roundw
                    case rel => exact ⟨q + 1, r, by omega, by go_num, rfl, HY2.out, HB2.out⟩
                    case measure => simp [intOf]; omega
                  · rw [decide_eq_false hy0] at hE
                    by_cases hlt : r < y
                    · rw [decide_eq_true hlt] at hL
                      rw [if_pos (.inr hlt)] at hLS
                      rw [hLS] at HY2
                      clear hy hb hr t1 t2 t3 hrg htx hLS hy0 hlt
                      generalize ofL y = Y at *
                      go_wp2_with fail
                      (go_at_call 65; (with_reducible refine (CR.out _).mono ?_); rintro e wC ⟨rfl, h1⟩; (try with_reducible replace h1 := undrew h1); have hB : Below w.heap.size w wC := ba (by go_grown) h1; obtain ⟨hcwC, hfwC⟩ := bcell h1; have hqwC := h1.size; (try simp at hqwC); )
                      have HB2 := Lib.hid (HBq.out.trans (h1.mono HBq.out.size))
                      clear h1 hcwC hfwC cr hBq hB
                      go_wp2_with fail
                      go_roundw
                      case rel => exact ⟨q + 1, r, by omega, by go_num, rfl, HY2.out, HB2.out⟩
                      case measure => simp [intOf]; omega
                    · rw [decide_eq_false hlt] at hL
                      rw [if_neg (fun h => h.elim hy0 hlt)] at hLS
                      rw [hLS] at HY2
                      clear hy hb hr t1 t2 t3 hrg htx hLS hy0 hlt
                      generalize hYY : ofL y = Y at *
                      have HYY := Lib.hid hYY
                      clear hYY
                      go_wp2_with fail
                      (go_at_call 65; (with_reducible refine (CR.out _).mono ?_); rintro e wC ⟨rfl, h1⟩; (try with_reducible replace h1 := undrew h1); have hB : Below w.heap.size w wC := ba (by go_grown) h1; obtain ⟨hcwC, hfwC⟩ := bcell h1; have hqwC := h1.size; (try simp at hqwC); )
                      have HB2 := Lib.hid (HBq.out.trans (h1.mono HBq.out.size))
                      clear h1 hcwC hfwC cr hBq hB
                      go_wp2_with fail
                      go_roundw
                      case rel => exact ⟨q + 1, y, by omega, by go_num, by rw [HYY.out], HY2.out, HB2.out⟩
                      case measure => simp [intOf]; omega
              · obtain rfl : q = N := by omega
                have HX2 := Lib.hid (show IsLs (boxesUp s c m (k + 1)) y from isLs_ext hy fun w => by
                  constructor
                  · rintro (⟨k', h1, h2, h3, h4, h5⟩ | ⟨t, ht, h1, h2⟩)
                    · exact ⟨k', h1, Nat.lt_succ_of_lt h2, h3, h4, h5⟩
                    · exact ⟨k, HBND.out, Nat.lt_succ_self k, HAR.out.2.2.2.2.1, HAR.out.2.2.2.2.2, by rw [HD.out]; exact (HRR.out w).2 ⟨t, h1, h2⟩⟩
                  · rintro ⟨k', h1, h2, h3, h4, h5⟩
                    by_cases hkk : k' = k
                    · subst hkk
                      rw [HD.out] at h5
                      obtain ⟨t, ht, h6⟩ := (HRR.out w).1 h5
                      exact .inr ⟨t, by have := (List.getElem?_eq_some_iff.1 ht).1; rw [HN.out] at this; exact this, ht, h6⟩
                    · exact .inl ⟨k', h1, Nat.lt_of_le_of_ne (Nat.le_of_lt_succ h2) hkk, h3, h4, h5⟩)
                have HB2 := Lib.hid (HB1.out.trans (hb.mono HB1.out.size))
                have hk12 : k ≤ 12 := Nat.le_trans (Nat.le_add_right k d) HAR.out.2.2.2.1
                clear hy hb hlen hq hql
                have hkw := w64K hk12
                go_wp2_with fail
                go_roundw
                case rel => exact ⟨k + 1, y, HAR.out.1, HAR.out.2.1, by rw [hkw]; rfl, rfl, HX2.out, HB2.out⟩
                case measure => rw [hkw]; exact msK HAR.out.2.2.2.2.2
          · have HL := Lib.hid (isLs_ext hx (hend hksm))
            have hE := eq_nilB x
            have HBw := Lib.hid (HBB.out.trans (hb.mono HBB.out.size))
            have hcond : ¬ (k : Int) ≤ (s : Int) ∨ (k : Int) ≤ (s : Int) ∧ ¬ (k : Int) ≤ (m : Int) := by omega
            have hm12 : m ≤ 12 := by omega
            by_cases hx0 : x = []
            · rw [decide_eq_true hx0] at hE
              have HNM2 := Lib.hid (show ∀ m', m - 1 < m' → m' ≤ n → lgN s c m' = [] from fun m' h1 h2 => by
                by_cases h3 : m' = m
                · subst h3
                  have h4 := HL.out
                  rw [hx0] at h4
                  exact List.eq_nil_iff_forall_not_mem.2 (isLs_nil h4)
                · exact HNM.out m' (by omega) h2)
              have hm1 : m - 1 ≤ n := by omega
              clear hx hb hend hnw hni hmc hk0 hk0k hkm hksm hx0 hsc hm
              rcases hcond with hks | ⟨hks, hkm⟩
              · go_wp2_with fail
                go_roundw
                case rel => exact ⟨m - 1, hm1, w64M hmpN hm12, HNM2.out, HBk.out⟩
                case measure => exact ms1 hmpN hm12
              · go_wp2_with fail
                go_roundw
                case rel => exact ⟨m - 1, hm1, w64M hmpN hm12, HNM2.out, HBk.out⟩
                case measure => exact ms1 hmpN hm12
            · rw [decide_eq_false hx0] at hE
              have HYO := Lib.hid (HYE.out m x HL.out hmpN hm HNM.out hx0)
              clear hx hb hend hnw hni hmc hk0 hk0k hkm hksm hx0 hsc hm
              rcases hcond with hks | ⟨hks, hkm⟩
              · go_wp2_with fail
                go_ret2
                exact ⟨by rw [HYO.out]; rfl, HBw.out⟩
              · go_wp2_with fail
                go_ret2
                exact ⟨by rw [HYO.out]; rfl, HBw.out⟩

end Go.Proofs.Ythiimllafcfieaa
