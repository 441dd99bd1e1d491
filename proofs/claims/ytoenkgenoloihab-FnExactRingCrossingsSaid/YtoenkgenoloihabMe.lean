/- Contract: the program's 'meetings'. -/
import Derived.Test.YtoenkgenoloihabSm
namespace Go.Proofs.Ytoenkgenoloihab
open Go.ChangeShapes Go.WideShapes Go.ChangeAt Go.RowKit

set_option linter.unusedVariables false

theorem prInfo : (Try.prog.info? 88).map (fun i => (i.zero, i.size, i.bytes)) = some (some (.agg #[.int .i64 0, .int .i64 0]), 2, 16) := by kernel_rfl

theorem own_blk {W : World} {B : Nat} {e t : TypeId} {size n : Nat} {v : Value} {xs : List Value} {g : Nat} {cs : Array Value} {fz : Nat × Nat} (h : W.ownsRow B e size v n xs) (hg : W.heap[g]? = some (.cells cs t fz)) (hne : e ≠ t) : some g ≠ v.ownBlock := by
  rcases h.2 with ⟨rfl, _⟩ | ⟨g', cap, cur, rfl, _, hg', _⟩
  · simp [Value.ownBlock]
  · intro he
    simp only [Value.ownBlock, Option.some.injEq] at he
    subst he
    rw [hg] at hg'
    simp only [Option.some.injEq, Obj.cells.injEq] at hg'
    exact hne hg'.2.1.symm

/-- Joints at their place, in a block that was there. -/
def JtAt (w : World) (g : Nat) (l : List Sp) : Prop :=
  ∀ i p, l[i]? = some p → w.cell? ⟨g, i * 4, none⟩ = some (.int .i64 p.x0) ∧ w.cell? ⟨g, i * 4 + 1, none⟩ = some (.int .i64 p.x1) ∧ w.cell? ⟨g, i * 4 + 2, none⟩ = some (.int .i64 p.x2) ∧ w.cell? ⟨g, i * 4 + 3, none⟩ = some (.int .i64 p.x3)

theorem JtAt.below {w w' : World} {g n : Nat} {l : List Sp} (h : JtAt w g l) (hg : g < n) (hb : Below n w w') : JtAt w' g l := by
  intro i p hp
  obtain ⟨a, b, c, d⟩ := h i p hp
  refine ⟨?_, ?_, ?_, ?_⟩
  · rw [hb.cell (p := ⟨g, i * 4, none⟩) hg]; exact a
  · rw [hb.cell (p := ⟨g, i * 4 + 1, none⟩) hg]; exact b
  · rw [hb.cell (p := ⟨g, i * 4 + 2, none⟩) hg]; exact c
  · rw [hb.cell (p := ⟨g, i * 4 + 3, none⟩) hg]; exact d

def MePost (l : List Sp) (m : Nat) (w : World) (e : Ending) (w' : World) : Prop :=
  ∃ v, e = .returned v ∧ w'.ownsRow w.heap.size 88 2 v ((prs l).take m).length (prCells ((prs l).take m)) ∧ Below w.heap.size w w'

set_option maxRecDepth 100000 in
set_option maxHeartbeats 3200000 in
theorem meetings_any (g N cap m : Nat) (l : List Sp) (hN : l.length = N) (hN1 : N ≤ 41) (hm : m ≤ 2000) (w : World) (hg : g < w.heap.size) (hc : JtAt w g l) (hcap : N ≤ cap) (hcap2 : cap ≤ maxLen) :
    Calls Try.prog 35 #[.slice (some ⟨g, 0, none⟩) N cap, .int .i64 (m : Nat)] w (MePost l m w) := by
  have HN := Lib.hid hN
  have HC := Lib.hid hc
  obtain ⟨i0, hi, iz0, iz1, iz2⟩ := info_parts prInfo
  unfold maxLen at hcap2
  clear hN hc
  go_enter Try.func35, Try.ntmps35
  go_wp2_with fail
  go_step3
  go_wp2_with fail
  go_step3
  go_wp2_with fail
  go_loopw [5, 12] (fun t i wr => ∃ (j : Nat) (v : Value), j ≤ N ∧ i = .int .i64 j ∧ v = t ∧ (accM l j 0).length ≤ m ∧ wr.ownsRow w.heap.size 88 2 v (accM l j 0).length (prCells (accM l j 0)) ∧ Below w.heap.size w wr) (fun _ i _ => N - (intOf i).toNat)
  case atStart => exact ⟨0, _, Nat.zero_le _, rfl, rfl, Nat.zero_le _, World.ownsRow_nil _ _ _ _, Below.refl _ _⟩
  case round =>
    obtain ⟨j, v, hj, rfl, rfl, hlen, hO, hb⟩ := hrel
    obtain ⟨wo, rfl⟩ : ∃ wo : World, wo = wr := ⟨_, rfl⟩
    have hz : w.heap.size ≤ wo.heap.size := hb.size
    by_cases hlt : j < N
    · obtain ⟨q, hq⟩ : ∃ q, l[j]? = some q := ⟨_, List.getElem?_eq_getElem (by rw [HN.out]; exact hlt)⟩
      obtain ⟨d0, d1, d2, d3⟩ := (HC.out.below hg hb) j q hq
      have HQ := Lib.hid hq
      have HO := Lib.hid hO
      have HB := Lib.hid hb
      obtain ⟨y0, y1, y2, y3, y4⟩ := q
      clear hq hO hb
      go_wp2_with fail
      go_loopw [5, 21] (fun t i wr => ∃ (a : Nat) (v : Value), a ≤ j ∧ i = .int .i64 a ∧ v = t ∧ (accM l j a).length ≤ m ∧ wr.ownsRow w.heap.size 88 2 v (accM l j a).length (prCells (accM l j a)) ∧ wr.heap[wo.heap.size]? = some (.cells #[.int .i64 y0, .int .i64 y1, .int .i64 y2, .int .i64 y3] 44 (0, 0)) ∧ Below w.heap.size w wr) (fun _ i _ => j - (intOf i).toNat)
      case atStart => exact ⟨0, _, Nat.zero_le _, rfl, rfl, hlen, HO.out.alloc _, heap_alloc_new _ _, HB.out.alloc hz _⟩
      case round =>
        obtain ⟨a, v, haj, rfl, rfl, hlen, hO, hblk, hb⟩ := hrel
        have hz2 : w.heap.size ≤ wr.heap.size := hb.size
        have hzl := blk_lt hblk
        by_cases hla : a < j
        · obtain ⟨p, hp⟩ : ∃ p, l[a]? = some p := ⟨_, List.getElem?_eq_getElem (by rw [HN.out]; omega)⟩
          obtain ⟨c0, c1, c2, c3⟩ := (HC.out.below hg hb) a p hp
          obtain ⟨e0, e1, e2, e3⟩ := blk_cells hblk
          have hmt := mtA_at hp HQ.out
          obtain ⟨x0, x1, x2, x3, x4⟩ := p
          simp only [ptE] at hmt c0 c1 c2 c3
          obtain ⟨av, cv, rfl⟩ : ∃ av cv, v = .slice av (accM l j a).length cv := by
            rcases hO.2 with ⟨h, h0⟩ | ⟨gv, cv, _, h, _⟩
            · exact ⟨none, 0, by rw [h, h0]⟩
            · exact ⟨_, _, h⟩
          have HO2 := Lib.hid hO
          have HB2 := Lib.hid hb
          have HK2 := Lib.hid hblk
          clear hp hO hb hblk
          by_cases hfull : (accM l j a).length = m
          · obtain ⟨r, hr⟩ := accM_pre (l := l) (j := j) (i := a) (by rw [HN.out]; exact hlt) haj
            have HT := Lib.hid (take_pre hr m hfull)
            clear hr
            have b1 : (((accM l j a).length : Nat) : Int) = ((m : Nat) : Int) := by omega
            go_wp2_with fail
            rw [Exit.noGoto_ret]
            go_ret
            exact ⟨_, rfl, by rw [HT.out]; exact HO2.out.alloc _, HB2.out.alloc hz2 _⟩
          · have HF := Lib.hid hfull
            have b1 : ((((accM l j a).length : Nat) : Int) == ((m : Nat) : Int)) = false := by simp; omega
            have b2 : ((accM l j a).length == m) = false := by simp; omega
            have hcm : (x0 == y0 && (x1 == y1 && (x2 == y2 && x3 == y3))) = (y0 == x0 && (y1 == x1 && (y2 == x2 && y3 == x3))) := ptE_comm ⟨x0, x1, x2, x3, x4⟩ ⟨y0, y1, y2, y3, y4⟩
            rw [hcm] at hmt
            clear hcm
            cases hv : (y0 == x0 && (y1 == x1 && (y2 == x2 && y3 == x3)))
            · rw [hv] at hmt
              have HM := Lib.hid hmt
              clear hfull hmt
              go_wp2_with fail
              go_roundw
              case rel => exact ⟨a + 1, _, by omega, by go_num, rfl, by rw [accM_no HM.out]; exact hlen, by rw [accM_no HM.out]; exact HO2.out.alloc _, (Below.heap_alloc _ _ _ hzl).trans HK2.out, HB2.out.alloc hz2 _⟩
              case measure => simp [intOf]; omega
            · rw [hv] at hmt
              have HM := Lib.hid hmt
              clear hfull hmt
              go_wp2_with (at_builtin; refine wpList_append_own _ rfl _ _ 47 rfl w.heap.size 88 i0 (.agg #[.int .i64 0, .int .i64 0]) 2 16 Try.underlying47 hi iz0 iz1 iz2 rfl (by decide) _ _ _ rfl ((HO2.out.alloc _).alloc _) ⟨wr.heap.size + 1, 0, none⟩ 1 1 [.int .i64 ((a : Nat) : Int), .int .i64 ((j : Nat) : Int)] rfl rfl (newc (by simp)) (by intro u hu; simp at hu; rcases hu with rfl | rfl <;> rfl) (by unfold maxLen; omega) (by omega) (by simp; omega) ?_)
              intro v' w3 hJ3 hg3 _
              have HOA := Lib.hid ((HO2.out.alloc (.cells #[.int .i64 x0, .int .i64 x1, .int .i64 x2, .int .i64 x3] 44)).alloc (.cells #[.int .i64 ((a : Nat) : Int), .int .i64 ((j : Nat) : Int)] 88))
              have hbA := (Below.heap_alloc (wr.alloc (.cells #[.int .i64 x0, .int .i64 x1, .int .i64 x2, .int .i64 x3] 44)) (.cells #[.int .i64 ((a : Nat) : Int), .int .i64 ((j : Nat) : Int)] 88) wo.heap.size (by simp; omega)).trans ((Below.heap_alloc wr (.cells #[.int .i64 x0, .int .i64 x1, .int .i64 x2, .int .i64 x3] 44) _ hzl).trans HK2.out)
              have HK3 := Lib.hid ((hg3.block wo.heap.size (by simp; omega) (own_blk HOA.out hbA (by decide))).trans hbA)
              have HB3 := Lib.hid ((((HB2.out.alloc hz2 (.cells #[.int .i64 x0, .int .i64 x1, .int .i64 x2, .int .i64 x3] 44)).alloc (by simp; omega) (.cells #[.int .i64 ((a : Nat) : Int), .int .i64 ((j : Nat) : Int)] 88)).grown hg3 (by simp; omega) (fun k hk => (HOA.out.lt k hk).1)))
              have HJ3 := Lib.hid hJ3
              clear hJ3 hg3 hbA c0 c1 c2 c3 e0 e1 e2 e3
              go_wp2_with fail
              go_roundw
              case rel => exact ⟨a + 1, v', by omega, by go_num, rfl, by have := HF.out; rw [accM_yes HM.out, List.length_append]; simp only [List.length_cons, List.length_nil]; omega, by rw [accM_yes HM.out, prCells_append, List.length_append]; exact HJ3.out, HK3.out, HB3.out⟩
              case measure => simp [intOf]; omega
        · obtain rfl : a = j := by omega
          have HO2 := Lib.hid hO
          have HB2 := Lib.hid hb
          clear hO hb hblk
          go_wp2_with fail
          go_roundw
          case rel => exact ⟨a + 1, _, by omega, by go_num, rfl, by rw [← accM_next]; exact hlen, by rw [← accM_next]; exact HO2.out, HB2.out⟩
          case measure => simp [intOf]; omega
    · obtain rfl : j = N := by omega
      have hE : accM l j 0 = prs l := by have := accM_end l; rw [HN.out] at this; exact this
      rw [hE] at hlen hO
      have HT := Lib.hid (take_allM hlen)
      have HO2 := Lib.hid hO
      have HB2 := Lib.hid hb
      clear hE hO hb
      go_wp2_with fail
      rw [Exit.noGoto_ret]
      go_ret
      exact ⟨_, rfl, by rw [HT.out]; exact HO2.out, HB2.out⟩

end Go.Proofs.Ytoenkgenoloihab
