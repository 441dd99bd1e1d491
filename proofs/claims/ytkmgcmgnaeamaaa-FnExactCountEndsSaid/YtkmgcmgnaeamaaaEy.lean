/- Contracts: CountEnds, in the program and in the model. -/
import Derived.Test.YtkmgcmgnaeamaaaQ5
import Derived.Test.YtkmgcmgnaeamaaaEw
namespace Go.Proofs.Ytkmgcmgnaeamaaa
open Go.ChangeShapes Go.WideShapes Go.ChangeAt Go.RowKit Go.Joins Go.Sort

set_option linter.unusedVariables false
set_option linter.unusedSimpArgs false

/-- The different ends of the first j texts, in the order in which they come. -/
def edT (R : List (List UInt8)) (j : Nat) : List Sp := ddL ((R.take j).map (fin sp0))

theorem edT_next {R : List (List UInt8)} {j : Nat} {r : List UInt8} (h : R[j]? = some r) : edT R (j + 1) = ddS (edT R j) (fin sp0 r) := by
  rw [edT, List.take_add_one, h, Option.toList_some, List.map_append, List.map_cons, List.map_nil, ddL_snoc]
  rfl

theorem edT_le (R : List (List UInt8)) (j : Nat) : (edT R j).length ≤ j := by
  refine Nat.le_trans (ddL_le _) ?_
  rw [List.length_map]
  exact List.length_take_le _ _

def ceN (b : Bq) : Nat := cond (bxB 8 b) (edT (bxW b.x.toNat b.r.toNat) (bxW b.x.toNat b.r.toNat).length).length 0

theorem bxW8 {s c : Nat} (h : s + c ≤ 8) : (bxW s c).length ≤ 6561 := Nat.le_trans (bxW_le s c) (parts8 h)

theorem wtP_len (s c : Nat) : (wtP s c).length = (bxW s c).length := by rw [wtP, List.length_map]

theorem wtP_at {s c j : Nat} {r : List UInt8} (h : (bxW s c)[j]? = some r) : (wtP s c)[j]? = some (fin sp0 r, r) := by rw [wtP, List.getElem?_map, h]; rfl

theorem fin_okE {s c : Nat} (h : s + c ≤ 8) {r : List UInt8} (hr : r ∈ bxW s c) : (fin sp0 r).okB 1000 := by
  have h1 : (fin sp0 r, r) ∈ parts sp0 (s + c) := List.mem_map.2 ⟨r, (words_iffB _ _).2 (bxW_iff.1 hr).1, rfl⟩
  exact (parts_ok sp0_ok h1).1.mono (by omega)

set_option maxRecDepth 100000 in
set_option maxHeartbeats 1600000 in
theorem imCountEnds (b : Bq) (w : World) : Calls Try.prog 41 #[bv b] w fun e w' => e = .returned (.tuple #[.int .i64 (ceN b : Nat), .bool (bxB 8 b)]) ∧ Below w.heap.size w w' := by
  have PS := Lib.hid (isWithinB_any b 8 (by decide) (by decide))
  unfold ceN
  cases hb : bxB 8 b
  · rw [hb] at PS
    clear hb
    go_enter Try.func41, Try.ntmps41
    go_wp2_with (go_at_call 52; refine (PS.out _).mono ?_; rintro e w1 ⟨rfl, h1⟩; have hB : Below w.heap.size w w1 := ba (by go_grown) h1; obtain ⟨hc1, hf1⟩ := bcell h1; have hq := h1.size; (try simp at hq); have hz0 : w.heap.size < w1.heap.size := (by omega); have HK1 := Lib.hid h1; clear h1 hq)
    go_returns
    exact ⟨rfl, by go_grown⟩
  · rw [hb] at PS
    obtain ⟨s, c, rfl, hsc⟩ := bxB_nat (m := 8) hb
    simp only [Int.toNat_natCast, cond_true]
    have WT := Lib.hid (wholeTracks_any s c hsc)
    unfold WtPost at WT
    rw [wtP_len] at WT
    have hlen := bxW8 hsc
    have HAT := Lib.hid (fun (j : Nat) (r : List UInt8) (h : (bxW s c)[j]? = some r) => wtP_at h)
    have HOK := Lib.hid (fun (r : List UInt8) (h : r ∈ bxW s c) => fin_okE hsc h)
    have hwl := wtP_len s c
    have hmm := @run_makeMap Try.prog
    generalize wtP s c = P at *
    generalize bxW s c = R at *
    obtain ⟨N, hN⟩ : ∃ N, R.length = N := ⟨_, rfl⟩
    rw [hN] at WT hlen hwl
    have HN := Lib.hid hN
    have HWL := Lib.hid hwl
    rw [hN]
    clear hN hb hwl hsc
    go_enter Try.func41, Try.ntmps41
    go_wp2_with fail
    (go_at_call 52; (with_reducible refine (PS.out _).mono ?_); rintro e wA ⟨rfl, h1⟩; (try with_reducible replace h1 := undrew h1); have hB : Below w.heap.size w wA := ba (by go_grown) h1; obtain ⟨hcwA, hfwA⟩ := bcell h1; have hqwA := h1.size; (try simp at hqwA); (try have hz0wA : w.heap.size < wA.heap.size := (by omega)); (try have he0wA : w.heap.size ≤ wA.heap.size := (by omega)))
    go_wp2_with fail
    (with_reducible refine Calls.mono (WT.out _) ?_)
    rintro e w1 ⟨v, rfl, hO, hb1⟩
    obtain ⟨av, cv, rfl⟩ := own_formC hO
    have HE0 := Lib.hid ((EdAt_start wA).below hb1)
    have hzA : w.heap.size < wA.heap.size := by omega
    have HB1 := Lib.hid ((hB.alloc hB.size (.map #[] 0)).trans (hb1.mono (by simp; omega)))
    have HO := Lib.hid hO
    have hz1 := hb1.size
    simp only [World.size_alloc] at hz1
    clear hO hb1 hB h1 hcwA hfwA
    go_wp2_with fail
    go_loopw [14] (fun i wr => ∃ j : Nat, j ≤ N ∧ i = .int .i64 j ∧ EdAt wr wA.heap.size j (edT R j) ∧ w1.grownBy wr (some wA.heap.size)) (fun i _ => N - (intOf i).toNat)
    case atStart => exact ⟨0, Nat.zero_le _, rfl, HE0.out, World.grownBy.refl _ _⟩
    case round =>
      obtain ⟨j, hj, rfl, hE, hgr⟩ := hrel
      by_cases hlt : j < N
      · obtain ⟨r, hr⟩ : ∃ r, R[j]? = some r := ⟨_, List.getElem?_eq_getElem (by rw [HN.out]; exact hlt)⟩
        obtain ⟨g, rfl⟩ : ∃ g, av = some ⟨g, 0, none⟩ := by
          rcases HO.out.2 with ⟨h, h0⟩ | ⟨g, cap, _, h, _⟩
          · omega
          · injection h with h; exact ⟨g, h⟩
        have hgl := (HO.out.lt g rfl).1
        simp only [World.size_alloc] at hgl
        have hne : some g ≠ some wA.heap.size := fun e => by injection e with e; omega
        obtain ⟨c0, c1, c2, c3, c4, c5⟩ := ((prt_of HO.out HWL.out).grown hgr hne) j _ (HAT.out j r hr)
        have hpo := HOK.out r (List.mem_of_getElem? hr)
        have hwf := wf_of hpo (by decide)
        have HNX := Lib.hid (edT_next hr)
        have hml : j < maxLen := by unfold maxLen; omega
        simp only at c0 c1 c2 c3 c4 c5
        generalize fin sp0 r = q at *
        generalize ofL r = T at *
        have hEA := hE.kept (World.grownBy_alloc wr (.cells #[.int .i64 q.x0, .int .i64 q.x1, .int .i64 q.x2, .int .i64 q.x3, .int .i64 q.h, .string T] 93) none) (by simp)
        obtain ⟨W1, rE, hE1, gE⟩ := hEA.put hml q hwf
        simp only [spV] at rE
        have h2 := grown_row hgr (World.grownBy_alloc wr (.cells #[.int .i64 q.x0, .int .i64 q.x1, .int .i64 q.x2, .int .i64 q.x3, .int .i64 q.h, .string T] 93) none) (by simp)
        have H3 := Lib.hid (grown_row h2 gE (fun k hk => .inr hk))
        have HE1 := Lib.hid (show EdAt W1 wA.heap.size (j + 1) (edT R (j + 1)) by rw [HNX.out]; exact hE1)
        clear hr hpo hwf hE hgr hEA hE1 gE h2 hml hgl hne
        go_wp2_with fail
        go_roundw
        case rel => exact ⟨j + 1, by omega, by go_num, HE1.out, H3.out⟩
        case measure => simp [intOf]; omega
      · obtain rfl : j = N := by omega
        have LN := fun ty => hE.len ty
        have HB2 := Lib.hid (show Below w.heap.size w wr from HB1.out.grown hgr (by omega) (fun k hk => by injection hk with hk; omega))
        clear hE hgr
        go_wp2_with fail
        go_ret2
        exact ⟨rfl, HB2.out⟩

end Go.Proofs.Ytkmgcmgnaeamaaa
