/- Contracts and facts, put together (part 5). Conditions: each says its own. -/
import Derived.Test.YtkmgcmgnaeamaaaQ4
import Derived.Maps.Views
import Derived.WalkKit
import Derived.LoopTactic
import Derived.Lib.Hide
import Derived.Shelf.Bits.Mul64

/- Contracts: LongestRing, in the program. -/
namespace Go.Proofs.Ytkmgcmgnaeamaaa
open Go.ChangeShapes Go.WideShapes Go.ChangeAt Go.RowKit Go.Sort

set_option linter.unusedVariables false
set_option linter.unusedSimpArgs false

theorem cmp_lgt (x g : List UInt8) : decide (0 < cmpI (x.length : Int) (g.length : Int)) = lgt x g := by
  unfold cmpI lgt
  by_cases h1 : (x.length : Int) < (g.length : Int)
  · rw [if_pos h1]; simp; omega
  · rw [if_neg h1]
    by_cases h2 : (g.length : Int) < (x.length : Int)
    · rw [if_pos h2]; simp; omega
    · rw [if_neg h2]; simp; omega

set_option maxRecDepth 100000 in
theorem lenCmp_any (x g : List UInt8) (hx : x.length ≤ 1000) (hg : g.length ≤ 1000) (w : World) :
    Calls Try.prog 70 #[.string (ofL x), .string (ofL g)] w fun e w' => e = .returned (.int .i64 (cmpI (x.length : Int) (g.length : Int))) ∧ w = w' := by
  have PC := Lib.hid (cmpInt_any (x.length : Int) (g.length : Int))
  have h1 := ofL_size x
  have h2 := ofL_size g
  generalize ofL x = X at *
  generalize ofL g = G at *
  generalize cmpI (x.length : Int) (g.length : Int) = z at *
  have e1 : (X.size : Int) = (x.length : Int) := by omega
  have e2 : (G.size : Int) = (g.length : Int) := by omega
  have HE := Lib.hid (And.intro h1 h2)
  clear h1 h2
  go_enter Try.func70, Try.ntmps70
  go_wp2_with (go_at_call 71; refine (PC.out _).mono ?_; rintro e w' ⟨rfl, rfl⟩)
  go_ret
  exact ⟨rfl, rfl⟩

/-- The first j texts: the first longest one of them. -/
def lnO (l : List (List UInt8)) (j : Nat) : Option (List UInt8) := fgO lgt (l.take j)

theorem lnO_next {l : List (List UInt8)} {j : Nat} {b : List UInt8} (h : l[j]? = some b) : lnO l (j + 1) = fgS lgt (lnO l j) b := by
  rw [lnO, List.take_add_one, h]
  exact fgO_snoc _ _ _

theorem lnO_some {l : List (List UInt8)} {j : Nat} (h0 : 0 < j) (h : j ≤ l.length) : ∃ g, lnO l j = some g ∧ g ∈ l := by
  obtain ⟨g, hg⟩ := fgO_some lgt (l.take j) (fun e => by
    have h1 := congrArg List.length e
    rw [List.length_take] at h1
    have h2 : min j l.length = 0 := h1
    omega)
  exact ⟨g, hg, List.mem_of_mem_take (fgO_mem _ _ _ hg)⟩

def oT (o : Option (List UInt8)) : ByteArray := ofL (o.getD [])

set_option maxRecDepth 100000 in
set_option maxHeartbeats 1600000 in
theorem fgText_any (v : Value) (l : List (List UInt8)) (hl : l.length ≤ 900000) (hok : ∀ b ∈ l, b.length ≤ 1000) (w : World) (hv : StrV w v l) :
    Calls Try.prog 69 #[v, .func (.func 70) #[] #[]] w fun e w' => e = .returned (.tuple #[.string (oT (lnO l l.length)), .bool (decide (0 < l.length))]) ∧ Below w.heap.size w w' := by
  obtain ⟨av, cap, rfl, hv⟩ := hv
  obtain ⟨N, hN⟩ : ∃ N, l.length = N := ⟨_, rfl⟩
  have HN := Lib.hid hN
  have HV := Lib.hid hv
  have HOK := Lib.hid hok
  rw [hN] at hl ⊢
  clear hN hv hok
  go_enter Try.func69, Try.ntmps69
  go_wp2_with fail
  go_loopw [6, 11] (fun t i wr => ∃ j : Nat, j ≤ N ∧ i = .int .i64 j ∧ t = .string (oT (lnO l j)) ∧ Below w.heap.size w wr) (fun _ i _ => N - (intOf i).toNat)
  case atStart => exact ⟨0, Nat.zero_le _, rfl, rfl, Below.refl _ _⟩
  case round =>
    obtain ⟨j, hj, rfl, rfl, hb⟩ := hrel
    by_cases hlt : j < N
    · obtain ⟨b, hb1⟩ : ∃ b, l[j]? = some b := ⟨_, List.getElem?_eq_getElem (by rw [HN.out]; exact hlt)⟩
      have hbok := HOK.out b (List.mem_of_getElem? hb1)
      have HNX := Lib.hid (lnO_next hb1)
      obtain ⟨g, rfl, hg, hBA⟩ := HV.out.resolve_left (fun e => by have := HN.out; rw [e] at this; simp at this; omega)
      have d0 := (hBA.below hg hb) j b hb1
      by_cases hj0 : j = 0
      · subst hj0
        have HN2 := Lib.hid (show oT (lnO l (0 + 1)) = ofL b by rw [HNX.out]; rfl)
        clear hb1 hBA
        go_wp2_with fail
        go_roundw
        case rel => exact ⟨1, by omega, by go_num, by rw [HN2.out], hb⟩
        case measure => simp [intOf]; omega
      · obtain ⟨r, hr, hrm⟩ := lnO_some (Nat.pos_of_ne_zero hj0) (show j ≤ l.length by rw [HN.out]; exact hj)
        have hrok := HOK.out r hrm
        have CP := Lib.hid (lenCmp_any b r hbok hrok)
        have hcg := cmp_lgt b r
        have hnx : lnO l (j + 1) = some (if lgt b r then b else r) := by have := HNX.out; rw [hr] at this; exact this
        have hor : oT (lnO l j) = ofL r := by rw [hr]; rfl
        have HOR := Lib.hid hor
        have hjn : ¬ (j : Int) = 0 := by omega
        have hji : ((j : Int) == 0) = false := by simp; omega
        rw [hor]
        generalize cmpI (b.length : Int) (r.length : Int) = z at *
        clear hb1 hBA hr hrm hbok hrok hor
        cases hqc : lgt b r
        · rw [hqc] at hcg hnx
          have hz0 : ¬ 0 < z := by simpa using hcg
          have HN2 := Lib.hid (show oT (lnO l (j + 1)) = ofL r by rw [hnx]; rfl)
          clear hcg hqc hnx
          go_wp2_with fail
          (with_reducible refine Calls.mono (CP.out _) ?_)
          rintro e w' ⟨rfl, rfl⟩
          go_wp2_with fail
          go_roundw
          case rel => exact ⟨j + 1, by omega, by go_num, by rw [HN2.out], hb⟩
          case measure => simp [intOf]; omega
        · rw [hqc] at hcg hnx
          have hz0 : 0 < z := by simpa using hcg
          have HN2 := Lib.hid (show oT (lnO l (j + 1)) = ofL b by rw [hnx]; rfl)
          clear hcg hqc hnx
          go_wp2_with fail
          (with_reducible refine Calls.mono (CP.out _) ?_)
          rintro e w' ⟨rfl, rfl⟩
          go_wp2_with fail
          go_roundw
          case rel => exact ⟨j + 1, by omega, by go_num, by rw [HN2.out], hb⟩
          case measure => simp [intOf]; omega
    · obtain rfl : j = N := by omega
      go_wp2_with fail
      go_ret2
      exact ⟨by first | rfl | (congr 3; simp), hb⟩

end Go.Proofs.Ytkmgcmgnaeamaaa

/- Contracts: LongestRing, in the program and in the model. -/
namespace Go.Proofs.Ytkmgcmgnaeamaaa
open Go.ChangeShapes Go.WideShapes Go.ChangeAt Go.RowKit Go.Sort

set_option linter.unusedVariables false
set_option linter.unusedSimpArgs false

def lgG (b : Bq) : Option (List UInt8) := cond (bxB 12 b) (lgO b.x.toNat b.r.toNat) none

theorem lgL_le (s c : Nat) : ∀ k, (lgL s c k).length * 2 + 3 ≤ 3 ^ (k + 1)
  | 0 => by simp [lgL]
  | k + 1 => by
    have ih := lgL_le s c k
    have h1 : (lgN s c (k + 1)).length ≤ 3 ^ (k + 1) := Nat.le_trans (List.length_filter_le _ _) (Nat.le_trans (List.length_filter_le _ _) (by rw [words_count]; exact Nat.le_refl _))
    rw [lgL_succ, List.length_append, Nat.pow_succ]
    omega

theorem lgL_bd {s c k : Nat} (hk : k ≤ 12) : (lgL s c k).length ≤ 800000 := by
  have h1 := lgL_le s c k
  have h2 : 3 ^ (k + 1) ≤ 3 ^ 13 := Nat.pow_le_pow_right (by decide) (by omega)
  have h3 : (3 : Nat) ^ 13 = 1594323 := by decide
  omega

/-- The rings laid from s straights and c curves, of the first q. -/
def lgP (s c : Nat) (R : List (List UInt8)) (q : Nat) : List (List UInt8) := (R.take q).filter (cvr s c)

theorem lgP_next {s c : Nat} {R : List (List UInt8)} {q : Nat} {r : List UInt8} (h : R[q]? = some r) : lgP s c R (q + 1) = if cvr s c r then lgP s c R q ++ [r] else lgP s c R q := by
  simp only [lgP, List.take_add_one, h, Option.toList_some, List.filter_append, List.filter_cons, List.filter_nil]
  split <;> simp

theorem lgP_end (s c : Nat) (R : List (List UInt8)) : lgP s c R R.length = R.filter (cvr s c) := by rw [lgP, List.take_length]

theorem lgP_le (s c : Nat) (R : List (List UInt8)) (q : Nat) : (lgP s c R q).length ≤ R.length := Nat.le_trans (List.length_filter_le _ _) (List.length_take_le' _ _)

theorem cvr_fit {n s c : Nat} {r : List UInt8} (h : r ∈ clsL sp0 n) : (decide ((cnt 83 r : Int) ≤ (s : Int)) && decide (((n - cnt 83 r : Nat) : Int) ≤ (c : Int))) = cvr s c r := by
  have h1 := (cls_iffB.1 h).1.1
  have h2 := cnt_le 83 r
  rw [cvr, Bool.eq_iff_iff]
  simp
  omega

set_option maxRecDepth 100000 in
theorem pieces_any (s c n : Nat) (hn : s + c = n) (h : n ≤ 40) (w : World) : Calls Try.prog 67 #[bv ⟨(s : Int), (c : Int)⟩] w fun e w' => e = .returned (.int .i64 (n : Int)) ∧ Below w.heap.size w w' := by
  have e : (s : Int) + (c : Int) = (n : Int) := by omega
  have e2 := w64N n (by omega)
  clear hn
  go_enter Try.func67, Try.ntmps67
  go_wp2_with fail
  go_returns
  exact ⟨rfl, by go_grown⟩

set_option maxRecDepth 100000 in
set_option maxHeartbeats 3200000 in
theorem imLongestRing (b : Bq) (w : World) : Calls Try.prog 34 #[bv b] w fun e w' => e = .returned (.tuple #[.string (oT (lgG b)), .bool (lgG b).isSome]) ∧ Below w.heap.size w w' := by
  have PS := Lib.hid (isWithinB_any b 12 (by decide) (by decide))
  unfold lgG
  cases hb : bxB 12 b
  · rw [hb] at PS
    clear hb
    go_enter Try.func34, Try.ntmps34
    go_wp2_with (go_at_call 52; refine (PS.out _).mono ?_; rintro e w1 ⟨rfl, h1⟩; have hB : Below w.heap.size w w1 := ba (by go_grown) h1; obtain ⟨hc1, hf1⟩ := bcell h1; have hq := h1.size; (try simp at hq); have hz0 : w.heap.size < w1.heap.size := (by omega); have HK1 := Lib.hid h1; clear h1 hq)
    go_returns
    exact ⟨rfl, by go_grown⟩
  · rw [hb] at PS
    obtain ⟨s, c, rfl, hsc⟩ := bxB_nat (m := 12) hb
    simp only [Int.toNat_natCast, cond_true]
    obtain ⟨i0, hi, iz0, iz1, iz2⟩ := info_parts srInfo
    have hres : lgO s c = fgO lgt (lgL s c (s + c)) := rfl
    rw [hres, fgO_isSome, show fgO lgt (lgL s c (s + c)) = lnO (lgL s c (s + c)) (lgL s c (s + c)).length by rw [lnO, List.take_length]]
    obtain ⟨n, hn⟩ : ∃ n, s + c = n := ⟨_, rfl⟩
    have PP := Lib.hid (pieces_any s c n hn (by omega))
    rw [hn] at hsc ⊢
    have SB := Lib.hid (boxSupply_any ⟨(s : Int), (c : Int)⟩)
    have CL := Lib.hid (fun (k : Nat) (hk : k ≤ 12) w => (closings_any sp0 (sp0_ok.mono (by omega)) k (by omega) w : Calls Try.prog 68 #[.agg #[.int .i64 0, .int .i64 0, .int .i64 0, .int .i64 0, .int .i64 0], .int .i64 (k : Nat)] w (StrPost (clsL sp0 k) w)))
    have HN := Lib.hid hn
    clear hb hres hn
    go_enter Try.func34, Try.ntmps34
    go_wp2_with fail
    (go_at_call 52; (with_reducible refine (PS.out _).mono ?_); rintro e wA ⟨rfl, h1⟩; (try with_reducible replace h1 := undrew h1); have hB : Below w.heap.size w wA := ba (by go_grown) h1; obtain ⟨hcwA, hfwA⟩ := bcell h1; have hqwA := h1.size; (try simp at hqwA); (try have hz0wA : w.heap.size < wA.heap.size := (by omega)); (try have he0wA : w.heap.size ≤ wA.heap.size := (by omega)))
    go_wp2_with fail
    (go_at_call 67; (with_reducible refine (PP.out _).mono ?_); rintro e wB ⟨rfl, h1⟩; (try with_reducible replace h1 := undrew h1); have hB : Below w.heap.size w wB := ba (by go_grown) h1; obtain ⟨hcwB, hfwB⟩ := bcell h1; have hqwB := h1.size; (try simp at hqwB); (try have hz0wB : w.heap.size < wB.heap.size := (by omega)); (try have he0wB : w.heap.size ≤ wB.heap.size := (by omega)); (try have hz1wB : wA.heap.size < wB.heap.size := (by omega)); (try have he1wB : wA.heap.size ≤ wB.heap.size := (by omega)))
    go_wp2_with fail
    have c0 : wB.cell? ⟨w.heap.size, 0, none⟩ = some (.int .i64 (s : Int)) := by go_simp
    have c1 : wB.cell? ⟨w.heap.size, 1, none⟩ = some (.int .i64 (c : Int)) := by go_simp
    have HBB := Lib.hid hB
    have HC := Lib.hid (And.intro c0 c1)
    have hwB : w.heap.size < wB.heap.size := by omega
    clear hcwA hfwA hcwB hfwB hB c0 c1 h1
    go_loopw [4, 13] (fun t i wr => ∃ (k : Nat) (v : Value), k ≤ n ∧ i = .int .i64 k ∧ v = t ∧ wr.ownsRow wB.heap.size 9 1 v (lgL s c k).length (strV (lgL s c k)) ∧ Below wB.heap.size wB wr) (fun _ i _ => n - (intOf i).toNat)
    case atStart => exact ⟨0, _, Nat.zero_le _, rfl, rfl, World.ownsRow_nil _ _ _ _, Below.refl _ _⟩
    case round =>
      obtain ⟨k, v, hk, rfl, rfl, hO, hb⟩ := hrel
      have hzk : wB.heap.size ≤ wr.heap.size := hb.size
      have HO := Lib.hid hO
      have HB := Lib.hid hb
      obtain ⟨wi, rfl⟩ : ∃ wi : World, wi = wr := ⟨_, rfl⟩
      by_cases hlt : k < n
      · have hdk : decide ((k : Int) < (n : Int)) = true := by simp; omega
        have hk1 : (k : Int) + 1 = ((k + 1 : Nat) : Int) := by omega
        have CLK := Lib.hid (CL.out (k + 1) (by omega))
        have HSU := Lib.hid (lgL_succ s c k)
        have HLN := Lib.hid (show lgN s c (k + 1) = (clsL sp0 (k + 1)).filter (cvr s c) from rfl)
        have HOK := Lib.hid (fun r (hr : r ∈ clsL sp0 (k + 1)) => And.intro (cls_ok (n := k + 1) (by omega) hr) (cvr_fit (s := s) (c := c) hr))
        have hbd := lgL_bd (s := s) (c := c) (show k + 1 ≤ 12 by omega)
        have hlen := clsB_le (n := k + 1) (by omega)
        generalize clsL sp0 (k + 1) = R at *
        obtain ⟨K, hK⟩ : ∃ K : Nat, k + 1 = K := ⟨_, rfl⟩
        rw [hK] at CLK hk1
        have hKw := w64N K (by omega)
        obtain ⟨N, hN⟩ : ∃ N, R.length = N := ⟨_, rfl⟩
        have HNN := Lib.hid hN
        have HKK := Lib.hid hK
        have hLL : (lgL s c k ++ lgP s c R R.length).length ≤ 800000 := by rw [lgP_end, ← HLN.out, ← HSU.out]; exact hbd
        rw [hN] at hlen
        clear hO hb hN hK hbd
        go_wp2_with fail
        refine (CLK.out _).mono ?_
        rintro e w1 ⟨vR, rfl, oR, hb1⟩
        rw [HNN.out] at oR
        obtain ⟨av, cv, rfl⟩ := own_formC oR
        have HOR := Lib.hid oR
        have HO1 := Lib.hid (HO.out.kept (below_grown hb1) (by cases v.ownBlock <;> simp))
        have HB1 := Lib.hid (HB.out.trans (hb1.mono hzk))
        have hz1 := HB1.out.size
        have hap : ∀ g, av = some ⟨g, 0, none⟩ → v.ownBlock ≠ some g := fun g hg e => by
          have h1 := (HOR.out.lt g (by rw [hg]; rfl)).1
          have h2 := (HO.out.lt g e).2
          omega
        have HAP := Lib.hid hap
        clear oR hb1 hap
        go_wp2_with fail
        go_loopw [4, 21] (fun t i wr => ∃ (q : Nat) (u : Value), q ≤ N ∧ i = .int .i64 q ∧ u = t ∧ wr.ownsRow wB.heap.size 9 1 u (lgL s c k ++ lgP s c R q).length (strV (lgL s c k ++ lgP s c R q)) ∧ w1.heap.size ≤ wr.heap.size ∧ (∀ g, av = some ⟨g, 0, none⟩ → wr.heap[g]? = w1.heap[g]? ∧ u.ownBlock ≠ some g) ∧ Below wB.heap.size wB wr) (fun _ i _ => N - (intOf i).toNat)
        case atStart => exact ⟨0, v, Nat.zero_le _, rfl, rfl, by simpa [lgP] using HO1.out, Nat.le_refl _, fun g hg => ⟨rfl, HAP.out g hg⟩, HB1.out⟩
        case round =>
          obtain ⟨q, u, hq, rfl, rfl, hO, hz, hG, hb⟩ := hrel
          have HOu := Lib.hid hO
          have HGu := Lib.hid hG
          have HBu := Lib.hid hb
          obtain ⟨wq, rfl⟩ : ∃ wq : World, wq = wr := ⟨_, rfl⟩
          have hzq : wB.heap.size ≤ wq.heap.size := hb.size
          have hll : (lgL s c k ++ lgP s c R q).length ≤ 800000 := by
            rw [List.length_append] at hLL ⊢
            rw [lgP_end] at hLL
            have : (lgP s c R q).length ≤ (R.filter (cvr s c)).length := List.Sublist.length_le ((List.take_sublist q R).filter _)
            omega
          by_cases hql : q < N
          · obtain ⟨r, hr⟩ : ∃ r, R[q]? = some r := ⟨_, List.getElem?_eq_getElem (by rw [HNN.out]; exact hql)⟩
            obtain ⟨⟨t1, t2, t3, t4⟩, hfit⟩ := HOK.out r (List.mem_of_getElem? hr)
            obtain ⟨g, rfl⟩ : ∃ g, av = some ⟨g, 0, none⟩ := by
              rcases HOR.out.2 with ⟨h, h0⟩ | ⟨g, cap, _, h, _⟩
              · omega
              · injection h with h; exact ⟨g, h⟩
            have hgl := (HOR.out.lt g rfl).2
            obtain ⟨hgb, hgu⟩ := hG g rfl
            have cr : wq.cell? ⟨g, q, none⟩ = some (.string (ofL r)) := by
              rw [World.cell?_of_block (w := w1) (a := ⟨g, q, none⟩) hgb]
              exact str_of HOR.out HNN.out q r hr
            have b0 : wq.cell? ⟨w.heap.size, 0, none⟩ = some (.int .i64 (s : Int)) := by rw [hb.cell (p := ⟨w.heap.size, 0, none⟩) hwB]; exact HC.out.1
            have b1 : wq.cell? ⟨w.heap.size, 1, none⟩ = some (.int .i64 (c : Int)) := by rw [hb.cell (p := ⟨w.heap.size, 1, none⟩) hwB]; exact HC.out.2
            have NO := needsOf_any (ofL r) t1
            rw [t2, t3] at NO
            have NOH := Lib.hid NO
            have CV := covers_any ⟨(s : Int), (c : Int)⟩ ⟨(cnt 83 r : Int), ((k + 1 - cnt 83 r : Nat) : Int)⟩
            simp only at CV
            rw [hfit] at CV
            have CVH := Lib.hid CV
            have HNX := Lib.hid (lgP_next (s := s) (c := c) hr)
            have HGB := Lib.hid (And.intro hgb hgu)
            have hBw : Below w.heap.size w wq := HBB.out.trans (hb.mono HBB.out.size)
            have hw0 : w.heap.size < wq.heap.size := by omega
            generalize (⟨(cnt 83 r : Int), ((k + 1 - cnt 83 r : Nat) : Int)⟩ : Bq) = d at *
            obtain ⟨dx, dr⟩ := d
            clear hO hG hb hr NO CV t1 t2 t3 t4 hfit hgb hgu
            cases hcv : cvr s c r
            · rw [hcv] at CVH HNX
              have HN2 := Lib.hid (show lgP s c R (q + 1) = lgP s c R q from HNX.out)
              clear hcv
              go_wp2_with fail
              (go_at_call 58; (with_reducible refine (SB.out _).mono ?_); rintro e wC ⟨rfl, h1⟩; (try with_reducible replace h1 := undrew h1); have hB : Below w.heap.size w wC := ba (by go_grown) h1; obtain ⟨hcwC, hfwC⟩ := bcell h1; have hqwC := h1.size; (try simp at hqwC); (try have hz0wC : w.heap.size < wC.heap.size := (by omega)); (try have he0wC : w.heap.size ≤ wC.heap.size := (by omega)))
              have hq1 := Lib.hid h1
              clear h1
              go_wp2_with fail
              (go_at_call 56; (with_reducible refine (NOH.out _).mono ?_); rintro e wD ⟨rfl, h1⟩; (try with_reducible replace h1 := undrew h1); have hB : Below w.heap.size w wD := ba (by go_grown) h1; obtain ⟨hcwD, hfwD⟩ := bcell h1; have hqwD := h1.size; (try simp at hqwD); (try have hz0wD : w.heap.size < wD.heap.size := (by omega)); (try have he0wD : w.heap.size ≤ wD.heap.size := (by omega)))
              have hq2 := Lib.hid h1
              clear h1
              go_wp2_with fail
              (go_at_call 59; (with_reducible refine (CVH.out _).mono ?_); rintro e wE ⟨rfl, h1⟩; (try with_reducible replace h1 := undrew h1); have hB : Below w.heap.size w wE := ba (by go_grown) h1; obtain ⟨hcwE, hfwE⟩ := bcell h1; have hqwE := h1.size; (try simp at hqwE); (try have hz0wE : w.heap.size < wE.heap.size := (by omega)); (try have he0wE : w.heap.size ≤ wE.heap.size := (by omega)))
              have hqE : Below wq.heap.size wq wE := (hq1.out.trans (hq2.out.mono hq1.out.size)).trans (h1.mono (Nat.le_trans hq1.out.size hq2.out.size))
              have HOE := Lib.hid (HOu.out.kept (below_grown hqE) (by cases u.ownBlock <;> simp))
              have HGE := Lib.hid (show ∀ g', (some ⟨g, 0, none⟩ : Option Addr) = some ⟨g', 0, none⟩ → wE.heap[g']? = w1.heap[g']? ∧ u.ownBlock ≠ some g' from fun g' hg' => by
                injection hg' with hg'; injection hg' with hg'
                subst hg'
                exact ⟨(hqE.block g (by omega)).trans HGB.out.1, HGB.out.2⟩)
              have HBE := Lib.hid (HBu.out.trans (hqE.mono hzq))
              have hzE := hqE.size
              clear h1 hqE hcwC hfwC hcwD hfwD hcwE hfwE hBw hB b0 b1 cr
              go_wp2_with fail
              go_roundw
              case rel => exact ⟨q + 1, u, by omega, by go_num, rfl, by rw [HN2.out]; exact HOE.out, by omega, HGE.out, HBE.out⟩
              case measure => simp [intOf]; omega
            · rw [hcv] at CVH HNX
              have HN2 := Lib.hid (show lgP s c R (q + 1) = lgP s c R q ++ [r] from HNX.out)
              clear hcv
              go_wp2_with fail
              (go_at_call 58; (with_reducible refine (SB.out _).mono ?_); rintro e wC ⟨rfl, h1⟩; (try with_reducible replace h1 := undrew h1); have hB : Below w.heap.size w wC := ba (by go_grown) h1; obtain ⟨hcwC, hfwC⟩ := bcell h1; have hqwC := h1.size; (try simp at hqwC); (try have hz0wC : w.heap.size < wC.heap.size := (by omega)); (try have he0wC : w.heap.size ≤ wC.heap.size := (by omega)))
              have hq1 := Lib.hid h1
              clear h1
              go_wp2_with fail
              (go_at_call 56; (with_reducible refine (NOH.out _).mono ?_); rintro e wD ⟨rfl, h1⟩; (try with_reducible replace h1 := undrew h1); have hB : Below w.heap.size w wD := ba (by go_grown) h1; obtain ⟨hcwD, hfwD⟩ := bcell h1; have hqwD := h1.size; (try simp at hqwD); (try have hz0wD : w.heap.size < wD.heap.size := (by omega)); (try have he0wD : w.heap.size ≤ wD.heap.size := (by omega)))
              have hq2 := Lib.hid h1
              clear h1
              go_wp2_with fail
              (go_at_call 59; (with_reducible refine (CVH.out _).mono ?_); rintro e wE ⟨rfl, h1⟩; (try with_reducible replace h1 := undrew h1); have hB : Below w.heap.size w wE := ba (by go_grown) h1; obtain ⟨hcwE, hfwE⟩ := bcell h1; have hqwE := h1.size; (try simp at hqwE); (try have hz0wE : w.heap.size < wE.heap.size := (by omega)); (try have he0wE : w.heap.size ≤ wE.heap.size := (by omega)))
              have hqE : Below wq.heap.size wq wE := (hq1.out.trans (hq2.out.mono hq1.out.size)).trans (h1.mono (Nat.le_trans hq1.out.size hq2.out.size))
              have HGE := Lib.hid ((hqE.block g (by omega)).trans HGB.out.1)
              have hzE := hqE.size
              have hgE : g < wE.heap.size := by omega
              obtain ⟨T, hT⟩ : ∃ T, ofL r = T := ⟨_, rfl⟩
              have HT := Lib.hid hT
              have HOA := Lib.hid ((HOu.out.kept (below_grown hqE) (by cases u.ownBlock <;> simp)).alloc (.cells #[.string T] 9))
              have HBA := Lib.hid ((HBu.out.trans (hqE.mono hzq)).alloc (by omega) (.cells #[.string T] 9))
              have hnews := cell_one_new wE (.string T) 9
              rw [hT]
              clear h1 hqE hcwC hfwC hcwD hfwD hcwE hfwE hBw hB b0 b1 cr hT
              go_wp2_with (at_builtin; refine wpList_append_own_at _ rfl _ _ 36 rfl wB.heap.size 9 i0 (.string ByteArray.empty) 1 16 Try.underlying36 hi iz0 iz1 iz2 rfl (by decide) u _ _ rfl HOA.out ⟨wE.heap.size, 0, none⟩ 1 1 [.string T] rfl rfl hnews (by intro x hx; simp at hx; subst hx; rfl) (by unfold maxLen; omega) (by omega) (by simp; omega) ?_; intro v' w4 hown' hgrow hnil hloc)
              have hlt' := HOA.out.lt
              have HB8 := Lib.hid (HBA.out.grown hgrow (by simp; omega) (fun k hk => (hlt' k hk).1))
              have HO8 := Lib.hid hown'
              have hz4 := hgrow.size
              simp only [World.size_alloc] at hz4
              have HG8 := Lib.hid (show ∀ g', (some ⟨g, 0, none⟩ : Option Addr) = some ⟨g', 0, none⟩ → w4.heap[g']? = w1.heap[g']? ∧ v'.ownBlock ≠ some g' from fun g' hg' => by
                injection hg' with hg'; injection hg' with hg'
                subst hg'
                refine ⟨((hgrow.block g (by simp; omega) (fun e => HGB.out.2 e.symm)).trans (Below.heap_alloc _ _ _ hgE)).trans HGE.out, fun e => ?_⟩
                rcases hloc with h | h
                · exact HGB.out.2 (h ▸ e)
                · rw [h] at e; injection e with e; simp at e; omega)
              clear hlt' hgrow hown' hnil hloc hnews
              go_roundw
              case rel => exact ⟨q + 1, v', by omega, by go_num, rfl, by rw [HN2.out, ← List.append_assoc, strV_append, List.length_append]; simp only [strV, List.map_cons, List.map_nil, HT.out]; exact HO8.out, by omega, HG8.out, HB8.out⟩
              case measure => simp [intOf]; omega
          · obtain rfl : q = N := by omega
            have HF := Lib.hid (show lgL s c k ++ lgP s c R q = lgL s c (k + 1) by rw [HSU.out, HLN.out, ← lgP_end, HNN.out])
            clear hO hG hb
            go_wp2_with fail
            go_roundw
            case rel => exact ⟨k + 1, u, by omega, by go_num, rfl, by rw [← HF.out]; exact HOu.out, HBu.out⟩
            case measure => simp [intOf]; omega
      · obtain rfl : k = n := by omega
        have FG := Lib.hid (fun W => fgText_any v (lgL s c k) (by have := lgL_bd (s := s) (c := c) hsc; omega) (fun r hr => by have := (lgL_iff.1 hr).2.1; omega) W)
        have hsv := strV_own hO
        have HSV := Lib.hid hsv
        clear hO hsv
        have hBw : Below w.heap.size w wi := HBB.out.trans (hb.mono HBB.out.size)
        clear hb
        go_wp2_with fail
        (with_reducible refine Calls.mono (FG.out _ HSV.out) ?_)
        rintro e w2 ⟨rfl, h2⟩
        have HBF := Lib.hid (ba hBw h2)
        clear h2 hBw
        go_wp2_with fail
        go_ret2
        exact ⟨rfl, HBF.out⟩

end Go.Proofs.Ytkmgcmgnaeamaaa

/- A map of ends that have been met: how many different ones it holds. -/
namespace Go.Proofs.Ytkmgcmgnaeamaaa
open Go Go.ChangeMaps Go.MapKept Go.ChangeShapes Go.WideShapes Go.RowKit
open Go.WideMaps (KeyLaw)
open Go.Maps (Keyed)

/-- Block b is a map that holds true at the ends T, all of them different. -/
def EdAt (w : World) (b m : Nat) (T : List Sp) : Prop :=
  ∃ D : DataW Unit, w.ownsMap Try.prog 81 (plainElem Try.prog 4) b m D ∧ Maps.size D = T.length ∧ ∀ s, wfS s → Maps.has D (klS s) = T.any fun y => spE y s

theorem EdAt_start (w : World) : EdAt (w.alloc (.map #[] 0)) w.heap.size 0 [] :=
  ⟨.map [], World.ownsMap_made _ _ _ _, rfl, fun s _ => by simp [Maps.has_eq]⟩

theorem EdAt.kept {w w' : World} {b m : Nat} {T : List Sp} {row : Option Nat} (h : EdAt w b m T) (hg : w.grownBy w' row) (hb : some b ≠ row) : EdAt w' b m T := by
  obtain ⟨D, hM, hD⟩ := h
  exact ⟨D, hM.kept hg hb, hD⟩

theorem EdAt.lt {w : World} {b m : Nat} {T : List Sp} (h : EdAt w b m T) : b < w.heap.size := by
  obtain ⟨D, hM, hD⟩ := h
  exact hM.lt

theorem EdAt.below {w w' : World} {b m : Nat} {T : List Sp} (h : EdAt w b m T) (hb : Below w.heap.size w w') : EdAt w' b m T := by
  obtain ⟨D, hM, hD⟩ := h
  exact ⟨D, hM.kept (row := none) ⟨hb.os, hb.tape, hb.output, hb.size, fun k hk _ => hb.block k hk⟩ (by simp), hD⟩

set_option maxRecDepth 100000 in
theorem EdAt.len {w : World} {b m : Nat} {T : List Sp} (h : EdAt w b m T) (ty : TypeId) : (Builtin.len_ #[89] ty #[.map (some b)]).run Try.prog w = .ok (.int .i64 (T.length : Nat)) w := by
  obtain ⟨D, hM, hs, hD⟩ := h
  have := hM.len Try.underlying89 ty
  rw [hs] at this
  exact this

set_option maxRecDepth 100000 in
theorem EdAt.put {w : World} {b m : Nat} {T : List Sp} (h : EdAt w b m T) (hm : m < maxLen) (s : Sp) (hs : wfS s) :
    ∃ w', (Instr.mapUpdate 89 (.map (some b)) (spV s) (.bool true)).run Try.prog w = .ok () w' ∧ EdAt w' b (m + 1) (ddS T s) ∧ w.grownBy w' (some b) := by
  obtain ⟨D, hM, hz, hD⟩ := h
  obtain ⟨w', hrun, h2, h3⟩ := hM.update (Keyed.of_law stLaw) Try.underlying89 hm (klS_key hs) (plainElem_bool Try.underlying4 true)
  refine ⟨w', hrun, ⟨D.put (klS s) (.lit (.bool true)), h2, ?_, fun y hy => ?_⟩, h3⟩
  · rw [Maps.size_put (hM.tidy (Keyed.of_law stLaw)), hD s hs, hz, ddS]
    cases T.any (fun y => spE y s) <;> simp
  · by_cases e : s = y
    · subst e
      rw [Maps.has_put_same hM.isMap (klS_lit hs), ddS]
      cases hc : T.any (fun y => spE y s)
      · simp [spE_self]
      · rw [if_pos rfl, hc]
    · rw [Maps.has_put_other (fun h => e (klS_inj hs hy h.symm)), hD y hy, ddS]
      split
      · rfl
      · simp [spE_ne e]

end Go.Proofs.Ytkmgcmgnaeamaaa

/- Contracts: norms, and twice the numbers to the east and to the north, in the model and in the program. -/
namespace Go.Proofs.Ytkmgcmgnaeamaaa
open Go.ChangeShapes Go.WideShapes Go.ChangeAt Go.RowKit

def nm0 (a0 a1 a2 a3 : Int) : Int := wrap64 (wrap64 (wrap64 (wrap64 (a0 * a0) + wrap64 (a1 * a1)) + wrap64 (a2 * a2)) + wrap64 (a3 * a3))

def nm1 (a0 a1 a2 a3 : Int) : Int := wrap64 (wrap64 (wrap64 (wrap64 (a0 * a1) + wrap64 (a1 * a2)) + wrap64 (a2 * a3)) - wrap64 (a0 * a3))

set_option maxRecDepth 100000 in
set_option maxHeartbeats 400000 in
theorem spNorm_any (a0 a1 a2 a3 : Int) (w : World) :
    Calls Try.prog 78 #[.agg #[.int .i64 a0, .int .i64 a1, .int .i64 a2, .int .i64 a3]] w fun e w' => e = .returned (.agg #[.int .i64 (nm0 a0 a1 a2 a3), .int .i64 (nm1 a0 a1 a2 a3)]) ∧ Below w.heap.size w w' := by
  go_enter Try.func78, Try.ntmps78
  go_wp2
  go_returns
  exact ⟨rfl, by go_grown⟩

set_option maxRecDepth 100000 in
set_option maxHeartbeats 400000 in
theorem imNorm_any (a0 a1 a2 a3 : Int) (w : World) :
    Calls Try.prog 81 #[.agg #[.int .i64 a0, .int .i64 a1, .int .i64 a2, .int .i64 a3]] w fun e w' => e = .returned (.agg #[.int .i64 (nm0 a0 a1 a2 a3), .int .i64 (nm1 a0 a1 a2 a3)]) ∧ Below w.heap.size w w' := by
  go_enter Try.func81, Try.ntmps81
  go_wp2
  go_returns
  exact ⟨by simp [nm0, nm1, Int.mul_comm a3 a0], by go_grown⟩

end Go.Proofs.Ytkmgcmgnaeamaaa

/- Plain numbers: no square is twice another one; parts of the continued fraction of the root of two. -/
namespace Go.Proofs.Ytkmgcmgnaeamaaa

theorem irr (n : Nat) : ∀ (y r : Int), r.toNat ≤ n → 0 < y → 0 < r → y * y ≠ 2 * (y * r) + r * r := by
  induction n with
  | zero => intro y r h _ h0; omega
  | succ n ih =>
    intro y r hr hy h0 he
    have h1 : 2 * r < y := by
      rcases Int.lt_or_le (2 * r) y with h | h
      · exact h
      · have := Int.mul_le_mul_of_nonneg_left h (Int.le_of_lt hy)
        have e : y * (2 * r) = 2 * (y * r) := by rw [Int.mul_left_comm]
        have p := Int.mul_pos h0 h0
        omega
    have h2 : y < 3 * r := by
      rcases Int.lt_or_le y (3 * r) with h | h
      · exact h
      · have k := Int.mul_le_mul_of_nonneg_left h (Int.le_of_lt hy)
        have e : y * (3 * r) = 3 * (y * r) := by rw [Int.mul_left_comm]
        have k2 := Int.mul_le_mul_of_nonneg_right h (Int.le_of_lt h0)
        have e2 : 3 * r * r = 3 * (r * r) := Int.mul_assoc _ _ _
        have p := Int.mul_pos h0 h0
        omega
    obtain ⟨t, ht⟩ : ∃ t, y = 2 * r + t := ⟨y - 2 * r, by omega⟩
    subst ht
    refine ih r t (by omega) h0 (by omega) ?_
    have e1 : (2 * r + t) * (2 * r + t) = 4 * (r * r) + 4 * (r * t) + t * t := by
      rw [Int.add_mul, Int.mul_add, Int.mul_add]
      have a1 : 2 * r * (2 * r) = 4 * (r * r) := by rw [Int.mul_assoc, Int.mul_left_comm r 2 r, ← Int.mul_assoc]; rfl
      have a2 : 2 * r * t = 2 * (r * t) := Int.mul_assoc _ _ _
      have a3 : t * (2 * r) = 2 * (r * t) := by rw [Int.mul_comm, Int.mul_assoc]
      omega
    have e2 : (2 * r + t) * r = 2 * (r * r) + r * t := by
      rw [Int.add_mul, Int.mul_assoc, Int.mul_comm t r]
    rw [e1, e2] at he
    omega

def G1 (x y : Int) : Bool := decide (2 * (y * y) < x * x)

def G2 (x y : Int) : Bool := decide (2 * (x * y) + y * y < x * x)

theorem sq_add (y r : Int) : (y + r) * (y + r) = y * y + 2 * (y * r) + r * r := by
  rw [Int.add_mul, Int.mul_add, Int.mul_add, Int.mul_comm r y]
  omega

theorem G1_step (y r : Int) (hy : 0 < y) (h0 : 0 < r) : G1 (y + r) y = !G2 y r := by
  have i := irr r.toNat y r (Nat.le_refl _) hy h0
  unfold G1 G2
  rw [sq_add]
  by_cases h : 2 * (y * r) + r * r < y * y
  · have : ¬ 2 * (y * y) < y * y + 2 * (y * r) + r * r := by omega
    simp [h, this]
  · have : 2 * (y * y) < y * y + 2 * (y * r) + r * r := by omega
    simp [h, this]

theorem G1_end (y : Int) (hy : 0 < y) : G1 y y = false := by
  have := Int.mul_pos hy hy
  unfold G1
  exact decide_eq_false (by omega)

theorem e2y (y r : Int) : (2 * y + r) * (2 * y + r) = 4 * (y * y) + 4 * (y * r) + r * r := by
  rw [Int.add_mul, Int.mul_add, Int.mul_add]
  have a1 : 2 * y * (2 * y) = 4 * (y * y) := by rw [Int.mul_assoc, Int.mul_left_comm y 2 y, ← Int.mul_assoc]; rfl
  have a2 : 2 * y * r = 2 * (y * r) := Int.mul_assoc _ _ _
  have a3 : r * (2 * y) = 2 * (y * r) := by rw [Int.mul_comm, Int.mul_assoc]
  omega

theorem e2x (y r : Int) : (2 * y + r) * y = 2 * (y * y) + y * r := by
  rw [Int.add_mul, Int.mul_assoc, Int.mul_comm r y]

theorem G2_step (y r : Int) (hy : 0 < y) (h0 : 0 < r) : G2 (2 * y + r) y = !G2 y r := by
  have i := irr r.toNat y r (Nat.le_refl _) hy h0
  unfold G2
  rw [e2y, e2x]
  by_cases h : 2 * (y * r) + r * r < y * y
  · have : ¬ 2 * (2 * (y * y) + y * r) + y * y < 4 * (y * y) + 4 * (y * r) + r * r := by omega
    simp [h, this]
  · have : 2 * (2 * (y * y) + y * r) + y * y < 4 * (y * y) + 4 * (y * r) + r * r := by omega
    simp [h, this]

theorem G2_end (y : Int) (hy : 0 < y) : G2 (2 * y) y = false := by
  have := Int.mul_pos hy hy
  have e := e2y y 0
  have f := e2x y 0
  simp at e f
  unfold G2
  rw [e, f]
  exact decide_eq_false (by omega)

theorem G1_more (x y : Int) (hy : 0 < y) (h : 2 * y ≤ x) : G1 x y = true := by
  have a := Int.mul_le_mul_of_nonneg_left h (by omega : 0 ≤ x)
  have b := Int.mul_le_mul_of_nonneg_right h (by omega : 0 ≤ y)
  have e : x * (2 * y) = 2 * (x * y) := by rw [Int.mul_left_comm]
  have f : 2 * y * y = 2 * (y * y) := Int.mul_assoc _ _ _
  have p := Int.mul_pos hy hy
  unfold G1
  exact decide_eq_true (by omega)

theorem G1_less (x y : Int) (hx : 0 < x) (h : x < y) : G1 x y = false := by
  have a := Int.mul_le_mul_of_nonneg_left (Int.le_of_lt h) (Int.le_of_lt hx)
  have b := Int.mul_le_mul_of_nonneg_right (Int.le_of_lt h) (by omega : 0 ≤ y)
  have p := Int.mul_pos (by omega : 0 < y) (by omega : 0 < y)
  unfold G1
  exact decide_eq_false (by omega)

theorem G2_more (x y : Int) (hy : 0 < y) (h : 3 * y ≤ x) : G2 x y = true := by
  have a := Int.mul_le_mul_of_nonneg_left h (by omega : 0 ≤ x)
  have b := Int.mul_le_mul_of_nonneg_right h (by omega : 0 ≤ y)
  have e : x * (3 * y) = 3 * (x * y) := by rw [Int.mul_left_comm]
  have f : 3 * y * y = 3 * (y * y) := Int.mul_assoc _ _ _
  have p := Int.mul_pos hy hy
  unfold G2
  exact decide_eq_true (by omega)

theorem G2_less (x y : Int) (hx : 0 < x) (hy : 0 < y) (h : x < 2 * y) : G2 x y = false := by
  have a := Int.mul_le_mul_of_nonneg_left (Int.le_of_lt h) (Int.le_of_lt hx)
  have e : x * (2 * y) = 2 * (x * y) := by rw [Int.mul_left_comm]
  have p := Int.mul_pos hy hy
  unfold G2
  exact decide_eq_false (by omega)

end Go.Proofs.Ytkmgcmgnaeamaaa

/- Contract: which of both is greater, by the continued fraction, in the model. -/
namespace Go.Proofs.Ytkmgcmgnaeamaaa
open Go.ChangeShapes Go.WideShapes Go.ChangeAt Go.RowKit

def GRel (T : Bool) (wh x y : Int) (g : Bool) : Prop := (wh = 1 ∧ T = (G1 x y == g)) ∨ (wh = 2 ∧ T = (G2 x y == g))

theorem q_one {x y : Int} (hy : 0 < y) (h1 : y ≤ x) (h2 : x < 2 * y) : x / y = 1 := by
  have a : 1 ≤ x / y := (Int.le_ediv_iff_mul_le hy).2 (by omega)
  have b : x / y < 2 := (Int.ediv_lt_iff_lt_mul hy).2 (by omega)
  omega

theorem q_two {x y : Int} (hy : 0 < y) (h1 : 2 * y ≤ x) (h2 : x < 3 * y) : x / y = 2 := by
  have a : 2 ≤ x / y := (Int.le_ediv_iff_mul_le hy).2 (by omega)
  have b : x / y < 3 := (Int.ediv_lt_iff_lt_mul hy).2 (by omega)
  omega

theorem q_zero {x y : Int} (hx : 0 < x) (h1 : x < y) : x / y = 0 := Int.ediv_eq_zero_of_lt (by omega) h1

theorem q_ge2 {x y : Int} (hy : 0 < y) (h1 : 2 * y ≤ x) : 2 ≤ x / y := (Int.le_ediv_iff_mul_le hy).2 (by omega)

theorem q_ge3 {x y : Int} (hy : 0 < y) (h1 : 3 * y ≤ x) : 3 ≤ x / y := (Int.le_ediv_iff_mul_le hy).2 (by omega)

theorem q_le1 {x y : Int} (hx : 0 < x) (hy : 0 < y) (h1 : x < 2 * y) : 0 ≤ x / y ∧ x / y ≤ 1 := by
  have b : x / y < 2 := (Int.ediv_lt_iff_lt_mul hy).2 (by omega)
  have a : 0 ≤ x / y := Int.ediv_nonneg (by omega) (by omega)
  omega

theorem q_lex {x y : Int} (hx : 0 < x) : x / y ≤ x := Int.ediv_le_self _ (by omega)

set_option maxRecDepth 100000 in
set_option maxHeartbeats 3200000 in
theorem greater_any (X Y : Int) (hX : 0 < X) (hY : 0 < Y) (bX : X ≤ 9000000000000000) (bY : Y ≤ 9000000000000000) (w : World) :
    Calls Try.prog 113 #[.int .i64 X, .int .i64 Y] w fun e w' => e = .returned (.bool (G1 X Y)) ∧ w = w' := by
  go_enter Try.func113, Try.ntmps113
  go_wp2
  go_loop [0, 1, 5, 6] (fun v0 v1 v5 v6 => ∃ (x y wh : Int) (g : Bool), v0 = .int .i64 x ∧ v1 = .int .i64 y ∧ v5 = .bool g ∧ v6 = .int .i64 wh ∧ 0 < x ∧ 0 < y ∧ x ≤ 9000000000000000 ∧ y ≤ 9000000000000000 ∧ GRel (G1 X Y) wh x y g) (fun _ v1 _ _ => (intOf v1).toNat)
  case atStart => exact ⟨X, Y, 1, true, rfl, rfl, rfl, rfl, hX, hY, bX, bY, .inl ⟨rfl, by simp⟩⟩
  case round =>
    obtain ⟨x, y, wh, g, rfl, rfl, rfl, rfl, hx, hy, bx, bby, hrel⟩ := hrel
    rcases hrel with ⟨rfl, hT⟩ | ⟨rfl, hT⟩
    · by_cases c1 : x < y
      · have hq := q_zero hx c1
        rw [G1_less x y hx c1] at hT
        have HT := Lib.hid hT
        clear hT
        go_wp2
        go_ret
        exact ⟨by rw [HT.out]; first | (cases g <;> rfl) | (cases g <;> simp <;> omega), rfl⟩
      by_cases c2 : 2 * y ≤ x
      · have hq := q_ge2 hy c2
        have hq2 := q_lex (y := y) hx
        rw [G1_more x y hy c2] at hT
        have HT := Lib.hid hT
        clear hT
        obtain ⟨k, hk⟩ : ∃ k, x / y = k := ⟨_, rfl⟩
        rw [hk] at hq hq2
        go_wp2
        go_ret
        exact ⟨by rw [HT.out]; first | (cases g <;> rfl) | (cases g <;> simp <;> omega), rfl⟩
      · have hq := q_one (x := x) hy (by omega) (by omega)
        have HT := Lib.hid hT
        clear hT
        by_cases c3 : x = y
        · subst c3
          go_wp2
          go_ret
          exact ⟨by rw [HT.out, G1_end _ hy]; cases g <;> rfl, rfl⟩
        · obtain ⟨r, hr⟩ : ∃ r, x = y + r := ⟨x - y, by omega⟩
          subst hr
          have hr0 : 0 < r := by omega
          go_wp2
          go_round
          case rel => exact ⟨y, r, 2, !g, rfl, by go_num, rfl, rfl, hy, hr0, by omega, by omega, .inr ⟨rfl, by rw [HT.out, G1_step y r hy hr0]; cases G2 y r <;> cases g <;> rfl⟩⟩
          case measure => simp [intOf]; omega
    · by_cases c1 : x < 2 * y
      · have hq := q_le1 hx hy c1
        rw [G2_less x y hx hy c1] at hT
        have HT := Lib.hid hT
        clear hT
        obtain ⟨k, hk⟩ : ∃ k, x / y = k := ⟨_, rfl⟩
        rw [hk] at hq
        obtain ⟨hq0, hq1⟩ := hq
        go_wp2
        go_ret
        exact ⟨by rw [HT.out]; first | (cases g <;> rfl) | (cases g <;> simp <;> omega), rfl⟩
      by_cases c2 : 3 * y ≤ x
      · have hq := q_ge3 hy c2
        have hq2 := q_lex (y := y) hx
        rw [G2_more x y hy c2] at hT
        have HT := Lib.hid hT
        clear hT
        obtain ⟨k, hk⟩ : ∃ k, x / y = k := ⟨_, rfl⟩
        rw [hk] at hq hq2
        go_wp2
        go_ret
        exact ⟨by rw [HT.out]; first | (cases g <;> rfl) | (cases g <;> simp <;> omega), rfl⟩
      · have hq := q_two (x := x) hy (by omega) (by omega)
        have HT := Lib.hid hT
        clear hT
        by_cases c3 : x = 2 * y
        · subst c3
          go_wp2
          go_ret
          exact ⟨by rw [HT.out, G2_end _ hy]; cases g <;> rfl, rfl⟩
        · obtain ⟨r, hr⟩ : ∃ r, x = 2 * y + r := ⟨x - 2 * y, by omega⟩
          subst hr
          have hr0 : 0 < r := by omega
          go_wp2
          go_round
          case rel => exact ⟨y, r, 2, !g, rfl, by go_num, rfl, rfl, hy, hr0, by omega, by omega, .inr ⟨rfl, by rw [HT.out, G2_step y r hy hr0]; cases G2 y r <;> cases g <;> rfl⟩⟩
          case measure => simp [intOf]; omega

end Go.Proofs.Ytkmgcmgnaeamaaa

/- Contracts: which surds there are, sums and products of surds, in the model and in the program. -/
namespace Go.Proofs.Ytkmgcmgnaeamaaa
open Go.ChangeShapes Go.WideShapes Go.ChangeAt Go.RowKit

def surdB (n s0 s1 : Int) : Bool := inB s0 (-n) n && inB s1 (-n) n

end Go.Proofs.Ytkmgcmgnaeamaaa

/- Contracts: the sign of a surd, in the model. -/
namespace Go.Proofs.Ytkmgcmgnaeamaaa
open Go.ChangeShapes Go.WideShapes Go.ChangeAt Go.RowKit

def sg (n : Int) : Int := if 0 < n then 1 else if n < 0 then -1 else 0

def ab (n : Int) : Int := if n < 0 then -n else n

def sgn2 (s0 s1 : Int) : Int := cond (G1 s0 s1) (sg s0) (sg s1)

theorem sg_pos {n : Int} (h : 0 < n) : sg n = 1 := by simp [sg, h]

theorem sg_neg {n : Int} (h : n < 0) : sg n = -1 := by
  have h' : ¬ 0 < n := by omega
  simp [sg, h, h']

theorem sg_zero : sg 0 = 0 := rfl

theorem ab_pos {n : Int} (h : 0 < n) : ab n = n := by
  have h' : ¬ n < 0 := by omega
  simp [ab, h']

theorem ab_neg {n : Int} (h : n < 0) : ab n = -n := by simp [ab, h]

theorem G1_neg0 (x y : Int) : G1 (-x) y = G1 x y := by simp [G1, Int.neg_mul_neg]

theorem G1_neg1 (x y : Int) : G1 x (-y) = G1 x y := by simp [G1, Int.neg_mul_neg]

theorem G1_z0 (y : Int) : G1 0 y = false := by
  unfold G1
  have : 0 ≤ y * y := by
    rcases Int.le_total 0 y with h | h
    · exact Int.mul_nonneg h h
    · exact Int.mul_nonneg_of_nonpos_of_nonpos h h
  exact decide_eq_false (by omega)

theorem G1_z1 (x : Int) (h : x ≠ 0) : G1 x 0 = true := by
  unfold G1
  have : 0 < x * x := by
    rcases Int.lt_or_gt_of_ne h with h | h
    · exact Int.mul_pos_of_neg_of_neg h h
    · exact Int.mul_pos h h
  exact decide_eq_true (by omega)

set_option maxRecDepth 100000 in
theorem l1Sign_any (n : Int) (w : World) :
    Calls Try.prog 112 #[.int .i64 n] w fun e w' => e = .returned (.int .i64 (sg n)) ∧ w = w' := by
  rcases Int.lt_trichotomy n 0 with h | rfl | h
  · rw [sg_neg h]
    go_enter Try.func112, Try.ntmps112
    go_wp2
    go_ret
    exact ⟨rfl, rfl⟩
  · go_enter Try.func112, Try.ntmps112
    go_wp2
    go_ret
    exact ⟨rfl, rfl⟩
  · rw [sg_pos h]
    go_enter Try.func112, Try.ntmps112
    go_wp2
    go_ret
    exact ⟨rfl, rfl⟩

set_option maxRecDepth 100000 in
theorem l1Abs_any (n : Int) (h0 : n ≠ 0) (b0 : -9000000000000000 ≤ n) (b1 : n ≤ 9000000000000000) (w : World) :
    Calls Try.prog 114 #[.int .i64 n] w fun e w' => e = .returned (.int .i64 (ab n)) ∧ w = w' := by
  rcases Int.lt_or_gt_of_ne h0 with h | h
  · rw [ab_neg h]
    go_enter Try.func114, Try.ntmps114
    go_wp2
    all_goals go_ret
    all_goals exact ⟨rfl, rfl⟩
  · rw [ab_pos h]
    go_enter Try.func114, Try.ntmps114
    go_wp2
    all_goals go_ret
    all_goals exact ⟨rfl, rfl⟩

end Go.Proofs.Ytkmgcmgnaeamaaa

/- Contracts: SignOfSurd and its like, in the model. -/
namespace Go.Proofs.Ytkmgcmgnaeamaaa
open Go.ChangeShapes Go.WideShapes Go.ChangeAt Go.RowKit

/-- A call that leaves the world alone, in a region that draws behind another one. -/
theorem two_quiet {P : Program} {f : FuncId} {args : Array Value} {w : World} {a n : Nat} {v : Value} (h : Calls P f args (w.drewN (a + n)) fun e w' => e = .returned v ∧ w' = w.drewN (a + n)) :
    Calls P f args (w.drewN (a + n)) fun e w' => e = .returned v ∧ ∃ m, w' = w.drewN (a + m) := h.mono fun _ _ k => ⟨k.1, n, k.2⟩

theorem below_drewN {B : Nat} {a w : World} (h : Below B a w) (n : Nat) : Below B a (w.drewN n) := ⟨h.os, h.tape, h.output, h.size, h.block⟩

set_option maxRecDepth 100000 in
set_option maxHeartbeats 3200000 in
theorem ptSign_any (s0 s1 : Int) (b0 : -4000000000000000 ≤ s0) (c0 : s0 ≤ 4000000000000000) (b1 : -4000000000000000 ≤ s1) (c1 : s1 ≤ 4000000000000000) (w : World) :
    Calls Try.prog 99 #[.agg #[.int .i64 s0, .int .i64 s1]] w fun e w' => e = .returned (.int .i64 (sgn2 s0 s1)) ∧ Below w.heap.size w w' := by
  rcases Int.lt_trichotomy s0 0 with h0 | rfl | h0 <;> rcases Int.lt_trichotomy s1 0 with h1 | rfl | h1
  · have e0 := sg_neg h0
    have e1 := sg_neg h1
    have hs : sgn2 s0 s1 = -1 := by rw [sgn2]; cases G1 s0 s1 <;> simp [e0, e1]
    rw [hs]
    clear hs
    go_enter Try.func99, Try.ntmps99
    go_wp2_with fail
    go_quiet ((go_at_call 112; exact Calls.quiet_of_same (turned (l1Sign_any _ _))))
    go_wp2
    go_returns
    exact ⟨by first | rfl | (simp [*]; done), by first | (refine below_drewN ?_ _; go_grown; done) | (go_grown; done)⟩
  · have e0 := sg_neg h0
    have e1 := sg_zero
    have hs : sgn2 s0 0 = -1 := by rw [sgn2, G1_z1 _ (by omega)]; simp [e0]
    rw [hs]
    clear hs
    go_enter Try.func99, Try.ntmps99
    go_wp2_with fail
    go_quiet ((go_at_call 112; exact Calls.quiet_of_same (turned (l1Sign_any _ _))))
    go_wp2
    go_returns
    exact ⟨by first | rfl | (simp [*]; done), by first | (refine below_drewN ?_ _; go_grown; done) | (go_grown; done)⟩
  · have e0 := sg_neg h0
    have e1 := sg_pos h1
    have hG : G1 (ab s0) (ab s1) = G1 s0 s1 := by rw [ab_neg h0, ab_pos h1, G1_neg0]
    have pa : 0 < ab s0 := by rw [ab_neg h0]; omega
    have pb : 0 < ab s1 := by rw [ab_pos h1]; omega
    have qa : ab s0 ≤ 9000000000000000 := by rw [ab_neg h0]; omega
    have qb : ab s1 ≤ 9000000000000000 := by rw [ab_pos h1]; omega
    have hs : sgn2 s0 s1 = cond (G1 s0 s1) (-1) 1 := by simp [sgn2, e0, e1]
    rw [hs]
    have HG := Lib.hid hG
    clear hG hs
    cases hg : G1 s0 s1
    · have hg2 : G1 (ab s0) (ab s1) = false := by rw [HG.out, hg]
      go_enter Try.func99, Try.ntmps99
      go_wp2_with fail
      go_quiet ((go_at_call 112; exact Calls.quiet_of_same (turned (l1Sign_any _ _))))
      go_wp2
      go_quiet ((first | (go_at_call 114; exact two_quiet (turned (l1Abs_any _ (by omega) (by omega) (by omega) _))) | (go_at_call 113; exact two_quiet (turned (greater_any _ _ pa pb qa qb _)))))
      go_wp2
      all_goals go_returns
      all_goals first | (exfalso; simp_all; done) | exact ⟨by first | rfl | (simp [*]; done), by ((repeat refine below_drewN ?_ _); go_grown; done)⟩
    · have hg2 : G1 (ab s0) (ab s1) = true := by rw [HG.out, hg]
      go_enter Try.func99, Try.ntmps99
      go_wp2_with fail
      go_quiet ((go_at_call 112; exact Calls.quiet_of_same (turned (l1Sign_any _ _))))
      go_wp2
      go_quiet ((first | (go_at_call 114; exact two_quiet (turned (l1Abs_any _ (by omega) (by omega) (by omega) _))) | (go_at_call 113; exact two_quiet (turned (greater_any _ _ pa pb qa qb _)))))
      go_wp2
      all_goals go_returns
      all_goals first | (exfalso; simp_all; done) | exact ⟨by first | rfl | (simp [*]; done), by ((repeat refine below_drewN ?_ _); go_grown; done)⟩
  · have e0 := sg_zero
    have e1 := sg_neg h1
    have hs : sgn2 0 s1 = -1 := by rw [sgn2, G1_z0]; simp [e1]
    rw [hs]
    clear hs
    go_enter Try.func99, Try.ntmps99
    go_wp2_with fail
    go_quiet ((go_at_call 112; exact Calls.quiet_of_same (turned (l1Sign_any _ _))))
    go_wp2
    go_returns
    exact ⟨by first | rfl | (simp [*]; done), by first | (refine below_drewN ?_ _; go_grown; done) | (go_grown; done)⟩
  · have e0 := sg_zero
    have hs : sgn2 0 0 = 0 := by rw [sgn2, G1_z0]; simp [sg_zero]
    rw [hs]
    clear hs
    go_enter Try.func99, Try.ntmps99
    go_wp2_with fail
    go_quiet ((go_at_call 112; exact Calls.quiet_of_same (turned (l1Sign_any _ _))))
    go_wp2
    go_returns
    exact ⟨by first | rfl | (simp [*]; done), by first | (refine below_drewN ?_ _; go_grown; done) | (go_grown; done)⟩
  · have e0 := sg_zero
    have e1 := sg_pos h1
    have hs : sgn2 0 s1 = 1 := by rw [sgn2, G1_z0]; simp [e1]
    rw [hs]
    clear hs
    go_enter Try.func99, Try.ntmps99
    go_wp2_with fail
    go_quiet ((go_at_call 112; exact Calls.quiet_of_same (turned (l1Sign_any _ _))))
    go_wp2
    go_returns
    exact ⟨by first | rfl | (simp [*]; done), by first | (refine below_drewN ?_ _; go_grown; done) | (go_grown; done)⟩
  · have e0 := sg_pos h0
    have e1 := sg_neg h1
    have hG : G1 (ab s0) (ab s1) = G1 s0 s1 := by rw [ab_pos h0, ab_neg h1, G1_neg1]
    have pa : 0 < ab s0 := by rw [ab_pos h0]; omega
    have pb : 0 < ab s1 := by rw [ab_neg h1]; omega
    have qa : ab s0 ≤ 9000000000000000 := by rw [ab_pos h0]; omega
    have qb : ab s1 ≤ 9000000000000000 := by rw [ab_neg h1]; omega
    have hs : sgn2 s0 s1 = cond (G1 s0 s1) 1 (-1) := by simp [sgn2, e0, e1]
    rw [hs]
    have HG := Lib.hid hG
    clear hG hs
    cases hg : G1 s0 s1
    · have hg2 : G1 (ab s0) (ab s1) = false := by rw [HG.out, hg]
      go_enter Try.func99, Try.ntmps99
      go_wp2_with fail
      go_quiet ((go_at_call 112; exact Calls.quiet_of_same (turned (l1Sign_any _ _))))
      go_wp2
      go_quiet ((first | (go_at_call 114; exact two_quiet (turned (l1Abs_any _ (by omega) (by omega) (by omega) _))) | (go_at_call 113; exact two_quiet (turned (greater_any _ _ pa pb qa qb _)))))
      go_wp2
      all_goals go_returns
      all_goals first | (exfalso; simp_all; done) | exact ⟨by first | rfl | (simp [*]; done), by ((repeat refine below_drewN ?_ _); go_grown; done)⟩
    · have hg2 : G1 (ab s0) (ab s1) = true := by rw [HG.out, hg]
      go_enter Try.func99, Try.ntmps99
      go_wp2_with fail
      go_quiet ((go_at_call 112; exact Calls.quiet_of_same (turned (l1Sign_any _ _))))
      go_wp2
      go_quiet ((first | (go_at_call 114; exact two_quiet (turned (l1Abs_any _ (by omega) (by omega) (by omega) _))) | (go_at_call 113; exact two_quiet (turned (greater_any _ _ pa pb qa qb _)))))
      go_wp2
      all_goals go_returns
      all_goals first | (exfalso; simp_all; done) | exact ⟨by first | rfl | (simp [*]; done), by ((repeat refine below_drewN ?_ _); go_grown; done)⟩
  · have e0 := sg_pos h0
    have e1 := sg_zero
    have hs : sgn2 s0 0 = 1 := by rw [sgn2, G1_z1 _ (by omega)]; simp [e0]
    rw [hs]
    clear hs
    go_enter Try.func99, Try.ntmps99
    go_wp2_with fail
    go_quiet ((go_at_call 112; exact Calls.quiet_of_same (turned (l1Sign_any _ _))))
    go_wp2
    go_returns
    exact ⟨by first | rfl | (simp [*]; done), by first | (refine below_drewN ?_ _; go_grown; done) | (go_grown; done)⟩
  · have e0 := sg_pos h0
    have e1 := sg_pos h1
    have hs : sgn2 s0 s1 = 1 := by rw [sgn2]; cases G1 s0 s1 <;> simp [e0, e1]
    rw [hs]
    clear hs
    go_enter Try.func99, Try.ntmps99
    go_wp2_with fail
    go_quiet ((go_at_call 112; exact Calls.quiet_of_same (turned (l1Sign_any _ _))))
    go_wp2
    go_returns
    exact ⟨by first | rfl | (simp [*]; done), by first | (refine below_drewN ?_ _; go_grown; done) | (go_grown; done)⟩

end Go.Proofs.Ytkmgcmgnaeamaaa

/- Contracts: the sign of a surd, in the program. -/
namespace Go.Proofs.Ytkmgcmgnaeamaaa
open Go.ChangeShapes Go.WideShapes Go.ChangeAt Go.RowKit

def mh (x y : Nat) : Nat := x * y / 18446744073709551616

def ml (x y : Nat) : Nat := x * y % 18446744073709551616

theorem lex (a b : Nat) : (b / 18446744073709551616 < a / 18446744073709551616 ∨ a / 18446744073709551616 = b / 18446744073709551616 ∧ b % 18446744073709551616 < a % 18446744073709551616) ↔ b < a := by omega

set_option maxHeartbeats 1000000 in
theorem mul64_any (x y : Nat) (hx : x < 18446744073709551616) (hy : y < 18446744073709551616) (w : World) :
    Calls Try.prog 116 #[.int .u64 x, .int .u64 y] w fun e w' => e = .returned (.tuple #[.int .u64 (mh x y : Nat), .int .u64 (ml x y : Nat)]) ∧ w = w' := by
  unfold mh ml
  obtain ⟨bd, bt, bw, hhi⟩ := Lib.mul64_hi x y hx hy
  have ba := Lib.half_mul_le (a := x / 4294967296) (b := y / 4294967296) (by omega) (by omega)
  have bb := Lib.half_mul_le (a := x / 4294967296) (b := y % 4294967296) (by omega) (by omega)
  have bc := Lib.half_mul_le (a := x % 4294967296) (b := y / 4294967296) (by omega) (by omega)
  have ba' : x / 4294967296 * (y / 4294967296) < 18446744073709551616 := by omega
  have bb' : x / 4294967296 * (y % 4294967296) < 18446744073709551616 := by omega
  have bc' : x % 4294967296 * (y / 4294967296) < 18446744073709551616 := by omega
  have bh1 : x / 4294967296 * (y / 4294967296) + (x / 4294967296 * (y % 4294967296) + x % 4294967296 * (y % 4294967296) / 4294967296) / 4294967296 < 18446744073709551616 := by omega
  have bh : x / 4294967296 * (y / 4294967296) + (x / 4294967296 * (y % 4294967296) + x % 4294967296 * (y % 4294967296) / 4294967296) / 4294967296 + ((x / 4294967296 * (y % 4294967296) + x % 4294967296 * (y % 4294967296) / 4294967296) % 4294967296 + x % 4294967296 * (y / 4294967296)) / 4294967296 < 18446744073709551616 := by
    rw [hhi]
    have := Nat.mul_lt_mul'' hx hy
    omega
  go_enter Try.func116, Try.ntmps116
  go_wp2
  simp only [Mul64.maskN x hx, Mul64.maskN y hy, Mul64.divN, Mul64.mulN, Mul64.addN, Mul64.wrapN _ bd, Mul64.wrapN _ bb', Mul64.wrapN _ bt, Mul64.maskN _ bt, Mul64.wrapN _ bc', Mul64.wrapN _ bw, Mul64.wrapN _ ba', Mul64.wrapN _ bh1, Mul64.wrapN _ bh, Mul64.wrapM (x * y)]
  rw [hhi]
  go_ret2
  exact ⟨rfl, rfl⟩

theorem mul64_two (q : Nat) (h : q ≤ 9000000000000000) (w : World) :
    Calls Try.prog 116 #[.int .u64 (2 * (q : Int)), .int .u64 q] w fun e w' => e = .returned (.tuple #[.int .u64 (mh (2 * q) q : Nat), .int .u64 (ml (2 * q) q : Nat)]) ∧ w = w' := by
  have e : ((2 * q : Nat) : Int) = 2 * (q : Int) := by omega
  rw [← e]
  exact mul64_any (2 * q) q (by omega) (by omega) w

theorem sizeOf_any (n : Int) (b0 : -9000000000000000 ≤ n) (b1 : n ≤ 9000000000000000) (w : World) :
    Calls Try.prog 115 #[.int .i64 n] w fun e w' => e = .returned (.int .u64 (n.natAbs : Nat)) ∧ w = w' := by
  have hm : max n (-n) = (n.natAbs : Int) := by omega
  have hb : n.natAbs ≤ 9000000000000000 := by omega
  go_enter Try.func115, Try.ntmps115
  go_wp2
  go_ret
  exact ⟨by first | rfl | (simp [hm]; done) | (rw [IntKind.wrap_u64]; simp; omega) | (simp [IntKind.wrap_u64]; omega), rfl⟩

set_option maxRecDepth 100000 in
theorem compare_any (n : Int) (w : World) :
    Calls Try.prog 71 #[.int .i64 n, .int .i64 0] w fun e w' => e = .returned (.int .i64 (sg n)) ∧ w = w' := by
  rcases Int.lt_trichotomy n 0 with h | rfl | h
  · rw [sg_neg h]
    go_enter Try.func71, Try.ntmps71
    go_wp2
    all_goals go_ret
    all_goals exact ⟨rfl, rfl⟩
  · go_enter Try.func71, Try.ntmps71
    go_wp2
    all_goals go_ret
    all_goals exact ⟨rfl, rfl⟩
  · rw [sg_pos h]
    go_enter Try.func71, Try.ntmps71
    go_wp2
    all_goals go_ret
    all_goals exact ⟨rfl, rfl⟩

end Go.Proofs.Ytkmgcmgnaeamaaa

/- Contracts: SignOfSurd and CompareSurds, in the model and in the program. -/
namespace Go.Proofs.Ytkmgcmgnaeamaaa
open Go.ChangeShapes Go.WideShapes Go.ChangeAt Go.RowKit

theorem G1_abs (s0 s1 : Int) : G1 s0 s1 = decide (2 * s1.natAbs * s1.natAbs < s0.natAbs * s0.natAbs) := by
  have e0 : ((s0.natAbs * s0.natAbs : Nat) : Int) = s0 * s0 := Int.natAbs_mul_self
  have e1 : ((s1.natAbs * s1.natAbs : Nat) : Int) = s1 * s1 := Int.natAbs_mul_self
  have e2 : 2 * s1.natAbs * s1.natAbs = 2 * (s1.natAbs * s1.natAbs) := Nat.mul_assoc _ _ _
  unfold G1
  rw [decide_eq_decide]
  rw [e2]
  omega

set_option maxRecDepth 100000 in
set_option maxHeartbeats 3200000 in
theorem imSign_any (s0 s1 : Int) (b0 : -4000000000000000 ≤ s0) (c0 : s0 ≤ 4000000000000000) (b1 : -4000000000000000 ≤ s1) (c1 : s1 ≤ 4000000000000000) (w : World) :
    Calls Try.prog 101 #[.agg #[.int .i64 s0, .int .i64 s1]] w fun e w' => e = .returned (.int .i64 (sgn2 s0 s1)) ∧ Below w.heap.size w w' := by
  have L := lex (s0.natAbs * s0.natAbs) (2 * s1.natAbs * s1.natAbs)
  have hG := G1_abs s0 s1
  by_cases k1 : mh (2 * s1.natAbs) s1.natAbs < mh s0.natAbs s0.natAbs
  · have hg : G1 s0 s1 = true := by rw [hG]; exact decide_eq_true (L.1 (.inl k1))
    clear L hG
    go_enter Try.func101, Try.ntmps101
    go_wp2_with fail
    go_quiet ((go_at_call 115; exact Calls.quiet_of_same (turned (sizeOf_any _ (by omega) (by omega) _))))
    go_wp2_with (first | (go_at_call 116; (with_reducible refine (mul64_any s0.natAbs s0.natAbs (by omega) (by omega) _).mono ?_); rintro e w' ⟨rfl, rfl⟩) | (go_at_call 116; (with_reducible refine (mul64_two s1.natAbs (by omega) _).mono ?_); rintro e w' ⟨rfl, rfl⟩) | (go_at_call 71; (refine (compare_any _ _).mono ?_); rintro e w' ⟨rfl, rfl⟩))
    all_goals go_returns
    all_goals first | (exfalso; simp_all; done) | exact ⟨by simp [sgn2, hg], by ((repeat refine below_drewN ?_ _); go_grown; done)⟩
  by_cases k2 : mh s0.natAbs s0.natAbs = mh (2 * s1.natAbs) s1.natAbs
  · by_cases k3 : ml (2 * s1.natAbs) s1.natAbs < ml s0.natAbs s0.natAbs
    · have hg : G1 s0 s1 = true := by rw [hG]; exact decide_eq_true (L.1 (.inr ⟨k2, k3⟩))
      clear L hG
      go_enter Try.func101, Try.ntmps101
      go_wp2_with fail
      go_quiet ((go_at_call 115; exact Calls.quiet_of_same (turned (sizeOf_any _ (by omega) (by omega) _))))
      go_wp2_with (first | (go_at_call 116; (with_reducible refine (mul64_any s0.natAbs s0.natAbs (by omega) (by omega) _).mono ?_); rintro e w' ⟨rfl, rfl⟩) | (go_at_call 116; (with_reducible refine (mul64_two s1.natAbs (by omega) _).mono ?_); rintro e w' ⟨rfl, rfl⟩) | (go_at_call 71; (refine (compare_any _ _).mono ?_); rintro e w' ⟨rfl, rfl⟩))
      all_goals go_returns
      all_goals first | (exfalso; simp_all; done) | exact ⟨by simp [sgn2, hg], by ((repeat refine below_drewN ?_ _); go_grown; done)⟩
    · have hg : G1 s0 s1 = false := by rw [hG]; exact decide_eq_false (fun h => (L.2 h).elim k1 (fun h => k3 h.2))
      clear L hG
      go_enter Try.func101, Try.ntmps101
      go_wp2_with fail
      go_quiet ((go_at_call 115; exact Calls.quiet_of_same (turned (sizeOf_any _ (by omega) (by omega) _))))
      go_wp2_with (first | (go_at_call 116; (with_reducible refine (mul64_any s0.natAbs s0.natAbs (by omega) (by omega) _).mono ?_); rintro e w' ⟨rfl, rfl⟩) | (go_at_call 116; (with_reducible refine (mul64_two s1.natAbs (by omega) _).mono ?_); rintro e w' ⟨rfl, rfl⟩) | (go_at_call 71; (refine (compare_any _ _).mono ?_); rintro e w' ⟨rfl, rfl⟩))
      all_goals go_returns
      all_goals first | (exfalso; simp_all; done) | exact ⟨by simp [sgn2, hg], by ((repeat refine below_drewN ?_ _); go_grown; done)⟩
  · have hg : G1 s0 s1 = false := by rw [hG]; exact decide_eq_false (fun h => (L.2 h).elim k1 (fun h => k2 h.1))
    clear L hG
    go_enter Try.func101, Try.ntmps101
    go_wp2_with fail
    go_quiet ((go_at_call 115; exact Calls.quiet_of_same (turned (sizeOf_any _ (by omega) (by omega) _))))
    go_wp2_with (first | (go_at_call 116; (with_reducible refine (mul64_any s0.natAbs s0.natAbs (by omega) (by omega) _).mono ?_); rintro e w' ⟨rfl, rfl⟩) | (go_at_call 116; (with_reducible refine (mul64_two s1.natAbs (by omega) _).mono ?_); rintro e w' ⟨rfl, rfl⟩) | (go_at_call 71; (refine (compare_any _ _).mono ?_); rintro e w' ⟨rfl, rfl⟩))
    all_goals go_returns
    all_goals first | (exfalso; simp_all; done) | exact ⟨by simp [sgn2, hg], by ((repeat refine below_drewN ?_ _); go_grown; done)⟩

end Go.Proofs.Ytkmgcmgnaeamaaa

/- Contracts: SignOfSurd and CompareSurds, in the model and in the program. -/
namespace Go.Proofs.Ytkmgcmgnaeamaaa
open Go.ChangeShapes Go.WideShapes Go.ChangeAt Go.RowKit

theorem sd_bd {n s0 s1 : Int} (h : surdB n s0 s1 = true) : -n ≤ s0 ∧ s0 ≤ n ∧ -n ≤ s1 ∧ s1 ≤ n := by
  simp [surdB, inB] at h
  omega

set_option maxRecDepth 100000 in
theorem ptCompare_any (s0 s1 : Int) (t0 t1 : Int) (ps0 : -1900000000000000 ≤ s0) (qs0 : s0 ≤ 1900000000000000) (ps1 : -1900000000000000 ≤ s1) (qs1 : s1 ≤ 1900000000000000) (pt0 : -1900000000000000 ≤ t0) (qt0 : t0 ≤ 1900000000000000) (pt1 : -1900000000000000 ≤ t1) (qt1 : t1 ≤ 1900000000000000) (w : World) :
    Calls Try.prog 77 #[.agg #[.int .i64 s0, .int .i64 s1], .agg #[.int .i64 t0, .int .i64 t1]] w fun e w' => e = .returned (.int .i64 (sgn2 (s0 - t0) (s1 - t1))) ∧ Below w.heap.size w w' := by
  go_enter Try.func77, Try.ntmps77
  go_wp2_with (go_at_call 99; refine (ptSign_any _ _ (by omega) (by omega) (by omega) (by omega) _).mono ?_; rintro e w1 ⟨rfl, h1⟩; have hB : Below w.heap.size w w1 := ba (by go_grown) h1; obtain ⟨hc1, hf1⟩ := bcell h1; have hq := h1.size; (try simp at hq); have hz0 : w.heap.size < w1.heap.size := (by omega); have hz1 : w.heap.size + 1 < w1.heap.size := (by omega); have HK1 := Lib.hid h1; clear h1 hq)
  go_returns
  exact ⟨rfl, by go_grown⟩

set_option maxRecDepth 100000 in
theorem imSLess_any (s0 s1 : Int) (t0 t1 : Int) (ps0 : -1900000000000000 ≤ s0) (qs0 : s0 ≤ 1900000000000000) (ps1 : -1900000000000000 ≤ s1) (qs1 : s1 ≤ 1900000000000000) (pt0 : -1900000000000000 ≤ t0) (qt0 : t0 ≤ 1900000000000000) (pt1 : -1900000000000000 ≤ t1) (qt1 : t1 ≤ 1900000000000000) (w : World) :
    Calls Try.prog 100 #[.agg #[.int .i64 s0, .int .i64 s1], .agg #[.int .i64 t0, .int .i64 t1]] w fun e w' => e = .returned (.agg #[.int .i64 (s0 - t0), .int .i64 (s1 - t1)]) ∧ Below w.heap.size w w' := by
  go_enter Try.func100, Try.ntmps100
  go_wp2
  go_returns
  exact ⟨rfl, by go_grown⟩

set_option maxRecDepth 100000 in
theorem imCompare_any (s0 s1 : Int) (t0 t1 : Int) (ps0 : -1900000000000000 ≤ s0) (qs0 : s0 ≤ 1900000000000000) (ps1 : -1900000000000000 ≤ s1) (qs1 : s1 ≤ 1900000000000000) (pt0 : -1900000000000000 ≤ t0) (qt0 : t0 ≤ 1900000000000000) (pt1 : -1900000000000000 ≤ t1) (qt1 : t1 ≤ 1900000000000000) (w : World) :
    Calls Try.prog 82 #[.agg #[.int .i64 s0, .int .i64 s1], .agg #[.int .i64 t0, .int .i64 t1]] w fun e w' => e = .returned (.int .i64 (sgn2 (s0 - t0) (s1 - t1))) ∧ Below w.heap.size w w' := by
  go_enter Try.func82, Try.ntmps82
  go_wp2_with (first | (go_at_call 100; (with_reducible refine (imSLess_any s0 s1 t0 t1 ps0 qs0 ps1 qs1 pt0 qt0 pt1 qt1 _).mono ?_); rintro e wA ⟨rfl, h1⟩; (try with_reducible replace h1 := undrew h1); have hB : Below w.heap.size w wA := ba (by go_grown) h1; obtain ⟨hcwA, hfwA⟩ := bcell h1; have hqwA := h1.size; (try simp at hqwA); (try have hz0wA : w.heap.size < wA.heap.size := (by omega)); (try have he0wA : w.heap.size ≤ wA.heap.size := (by omega)); (try have hz1wA : w.heap.size + 1 < wA.heap.size := (by omega)); (try have he1wA : w.heap.size + 1 ≤ wA.heap.size := (by omega))) | (go_at_call 101; (with_reducible refine (imSign_any (s0 - t0) (s1 - t1) (by omega) (by omega) (by omega) (by omega) _).mono ?_); rintro e wB ⟨rfl, h1⟩; (try with_reducible replace h1 := undrew h1); have hB : Below w.heap.size w wB := ba (by go_grown) h1; obtain ⟨hcwB, hfwB⟩ := bcell h1; have hqwB := h1.size; (try simp at hqwB); (try have hz0wB : w.heap.size < wB.heap.size := (by omega)); (try have he0wB : w.heap.size ≤ wB.heap.size := (by omega)); (try have hz1wB : w.heap.size + 1 < wB.heap.size := (by omega)); (try have he1wB : w.heap.size + 1 ≤ wB.heap.size := (by omega))))
  go_returns
  exact ⟨rfl, by go_grown⟩

def csG (s0 s1 t0 t1 : Int) : Bool := surdB 1000000000000000 s0 s1 && surdB 1000000000000000 t0 t1

end Go.Proofs.Ytkmgcmgnaeamaaa

/- Norms of joints are small; the farthest joint. -/
namespace Go.Proofs.Ytkmgcmgnaeamaaa
open Go.ChangeShapes Go.WideShapes Go.ChangeAt Go.RowKit

theorem w64n (n : Int) (h0 : -9000000000000000000 ≤ n) (h1 : n ≤ 9000000000000000000) : wrap64 n = n := IntWalk.wrap64_in n ⟨by omega, by omega⟩

theorem nm_bd (a0 a1 a2 a3 : Int) (p0 : -999999 ≤ a0) (q0 : a0 ≤ 999999) (p1 : -999999 ≤ a1) (q1 : a1 ≤ 999999) (p2 : -999999 ≤ a2) (q2 : a2 ≤ 999999) (p3 : -999999 ≤ a3) (q3 : a3 ≤ 999999) : -4000000000000 ≤ nm0 a0 a1 a2 a3 ∧ nm0 a0 a1 a2 a3 ≤ 4000000000000 ∧ -4000000000000 ≤ nm1 a0 a1 a2 a3 ∧ nm1 a0 a1 a2 a3 ≤ 4000000000000 := by
  obtain ⟨l00, u00⟩ := mul_bd a0 a0 p0 q0 p0 q0
  obtain ⟨l11, u11⟩ := mul_bd a1 a1 p1 q1 p1 q1
  obtain ⟨l22, u22⟩ := mul_bd a2 a2 p2 q2 p2 q2
  obtain ⟨l33, u33⟩ := mul_bd a3 a3 p3 q3 p3 q3
  obtain ⟨l01, u01⟩ := mul_bd a0 a1 p0 q0 p1 q1
  obtain ⟨l12, u12⟩ := mul_bd a1 a2 p1 q1 p2 q2
  obtain ⟨l23, u23⟩ := mul_bd a2 a3 p2 q2 p3 q3
  obtain ⟨l03, u03⟩ := mul_bd a0 a3 p0 q0 p3 q3
  unfold nm0 nm1
  rw [w64n (a0 * a0) (by omega) (by omega), w64n (a1 * a1) (by omega) (by omega), w64n (a2 * a2) (by omega) (by omega), w64n (a3 * a3) (by omega) (by omega), w64n (a0 * a1) (by omega) (by omega), w64n (a1 * a2) (by omega) (by omega), w64n (a2 * a3) (by omega) (by omega), w64n (a0 * a3) (by omega) (by omega)]
  rw [w64n (a0 * a0 + a1 * a1) (by omega) (by omega), w64n (a0 * a1 + a1 * a2) (by omega) (by omega)]
  rw [w64n (a0 * a0 + a1 * a1 + a2 * a2) (by omega) (by omega), w64n (a0 * a1 + a1 * a2 + a2 * a3) (by omega) (by omega)]
  rw [w64n (a0 * a0 + a1 * a1 + a2 * a2 + a3 * a3) (by omega) (by omega), w64n (a0 * a1 + a1 * a2 + a2 * a3 - a0 * a3) (by omega) (by omega)]
  omega

def Sp.n0 (s : Sp) : Int := nm0 s.x0 s.x1 s.x2 s.x3

def Sp.n1 (s : Sp) : Int := nm1 s.x0 s.x1 s.x2 s.x3

/-- p lies farther than q. -/
def farB (p q : Sp) : Bool := decide (0 < sgn2 (p.n0 - q.n0) (p.n1 - q.n1))

/-- The farthest of the first k joints: the first one of them. -/
def farI (l : List Sp) : Nat → Nat
  | 0 => 0
  | k + 1 => match l[k]?, l[farI l k]? with
    | some p, some q => cond (farB p q) k (farI l k)
    | _, _ => farI l k

theorem farI_lt (l : List Sp) (hl : 0 < l.length) : ∀ k, k ≤ l.length → farI l k < l.length
  | 0, _ => hl
  | k + 1, hk => by
    have ih := farI_lt l hl k (by omega)
    simp only [farI]
    split
    · rename_i p q h1 h2
      cases farB p q
      · exact ih
      · simp; omega
    · exact ih

theorem farI_yes {l : List Sp} {k : Nat} {p q : Sp} (h1 : l[k]? = some p) (h2 : l[farI l k]? = some q) (h : farB p q = true) : farI l (k + 1) = k := by simp [farI, h1, h2, h]

theorem farI_no {l : List Sp} {k : Nat} {p q : Sp} (h1 : l[k]? = some p) (h2 : l[farI l k]? = some q) (h : farB p q = false) : farI l (k + 1) = farI l k := by simp [farI, h1, h2, h]

theorem lays_ok {a : Sp} {n : Int} (h : a.okB n) (l : List UInt8) : ∀ p ∈ lays a l, p.okB (n + 2 * l.length) := by
  induction l generalizing a n with
  | nil => intro p hp; simp [lays] at hp; subst hp; simpa using h
  | cons c l ih =>
    intro p hp
    simp only [lays, List.mem_cons] at hp
    rcases hp with rfl | hp
    · exact h.mono (by omega)
    · exact (ih (h.next c) p hp).mono (by simp only [List.length_cons]; omega)

end Go.Proofs.Ytkmgcmgnaeamaaa

/- Two equal surds are told as equal. -/
namespace Go.Proofs.Ytkmgcmgnaeamaaa
open Go.ChangeShapes Go.WideShapes Go.ChangeAt Go.RowKit

set_option maxRecDepth 100000 in
set_option maxHeartbeats 400000 in
theorem eqSurd_same (s0 s1 : Int) (w : World) :
    Calls Try.prog 44 #[.agg #[.int .i64 s0, .int .i64 s1], .agg #[.int .i64 s0, .int .i64 s1]] w fun e w' => e = .returned (.bool true) ∧ Below w.heap.size w w' := by
  go_enter Try.func44, Try.ntmps44
  go_wp2
  go_returns
  exact ⟨rfl, by go_grown⟩

end Go.Proofs.Ytkmgcmgnaeamaaa
