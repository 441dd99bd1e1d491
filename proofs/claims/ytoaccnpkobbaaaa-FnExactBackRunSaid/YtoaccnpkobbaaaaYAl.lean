/- Contract: all runs on a yard, in the model. -/
import Derived.Test.YtoaccnpkobbaaaaYAm
import Derived.Deep.AppendLies
import Derived.Deep.RegionLaw
namespace Go.Proofs.Ytoaccnpkobbaaaa
open Go.ChangeShapes Go.WideShapes Go.ChangeAt Go.RowKit
open Yd

set_option linter.unusedVariables false

/-- The row of the first k runs at v; all that was in W0 is as it was. -/
structure AlAt (W0 wr : World) (n k : Nat) (v : Value) : Prop where
  own : ∃ xs, wr.ownsRow W0.heap.size 36 2 v k xs ∧ RunsC wr W0.heap.size v.ownBlock (alN n k) xs
  below : Below W0.heap.size W0 wr

theorem AlAt.start (W0 : World) (n : Nat) : AlAt W0 W0 n 0 (.slice none 0 0) :=
  ⟨⟨[], World.ownsRow_nil _ _ _ _, RunsC.nil _ _ _⟩, Below.refl _ _⟩

theorem AlAt.keep {W0 wr w' : World} {n k : Nat} {v : Value} (h : AlAt W0 wr n k v) (hb : Below wr.heap.size wr w') : AlAt W0 w' n k v :=
  let ⟨xs, h1, h2⟩ := h.own
  ⟨⟨xs, own_belowS h1 hb, h2.keep hb⟩, h.below.trans (hb.mono h.below.size)⟩

/-- A run that is being built in block wr.heap.size: a its end, v its first k states. -/
structure RuAt (wr wx : World) (a s n k : Nat) (v : Value) : Prop where
  q0 : wx.cell? ⟨wr.heap.size, 0, none⟩ = some (.int .i64 (a : Nat))
  q1 : wx.cell? ⟨wr.heap.size, 1, none⟩ = some v
  f1 : wx.frozen? ⟨wr.heap.size, 1, none⟩ = false
  own : wx.ownsRow (wr.heap.size + 1) 3 1 v k (((bo n s).take k).map (Value.int .i64))
  below : Below wr.heap.size wr wx
  lt : wr.heap.size < wx.heap.size

set_option maxRecDepth 100000 in
set_option maxHeartbeats 3200000 in
theorem ydAll_any (g c h d n m : Nat) (n1 : 1 ≤ n) (n6 : n ≤ 6) (hm : m = 3 * n) (w : World) :
    Calls Try.prog 73 #[.agg #[.slice (some ⟨g, 0, none⟩) n c, .slice (some ⟨h, 0, none⟩) m d]] w (AlPost n w) := by
  obtain ⟨i0, hi, iz0, iz1, iz2⟩ := info_of numInfo
  obtain ⟨j0, ji, jz0, jz1, jz2⟩ := info_of runInfo
  obtain ⟨T, hT⟩ : ∃ T, T = 2 ^ n := ⟨_, rfl⟩
  have hT64 : T ≤ 64 := by rw [hT]; exact Nat.pow_le_pow_right (n := 2) (by decide) n6
  have hT1 : 1 ≤ T := by rw [hT]; exact Nat.one_le_two_pow
  have hm18 : m ≤ 18 := by omega
  have hm1 : 1 ≤ m := by omega
  have HT := Lib.hid hT
  have HM := Lib.hid hm
  clear hT hm
  go_enter Try.func73, Try.ntmps73
  go_wp2_with fail
  have hB0 := Lib.hid (by go_grown : Below w.heap.size w (w.alloc (.cells #[.slice (some ⟨g, 0, none⟩) n c, .slice (some ⟨h, 0, none⟩) m d] 27)))
  generalize hW : w.alloc (.cells #[.slice (some ⟨g, 0, none⟩) n c, .slice (some ⟨h, 0, none⟩) m d] 27) = W0 at *
  have hz0 : W0.heap.size = w.heap.size + 1 := by rw [← hW]; simp
  have HZ := Lib.hid hz0
  have hz1 : w.heap.size < W0.heap.size := by omega
  clear hW hz0
  go_loopw [3, 15] (fun v i wr => ∃ a : Nat, a ≤ m ∧ i = .int .i64 a ∧ AlAt W0 wr n (a * T) v) (fun _ i _ => m - (intOf i).toNat)
  case atStart => exact ⟨0, Nat.zero_le _, rfl, by rw [Nat.zero_mul]; exact AlAt.start _ _⟩
  case round =>
    obtain ⟨a, ha, rfl, hA⟩ := hrel
    by_cases hlt : a < m
    · have i1 : (0 : Int) ≤ (a : Int) := by omega
      have i2 : (a : Int) < (m : Int) := by omega
      have HA := Lib.hid hA
      clear hA
      go_wp2_with fail
      go_loopw [3, 6] (fun v i wr => ∃ s : Nat, s ≤ T ∧ i = .int .i64 s ∧ AlAt W0 wr n (a * T + s) v) (fun _ i _ => T - (intOf i).toNat)
      case atStart => exact ⟨0, Nat.zero_le _, rfl, HA.out⟩
      case round =>
        obtain ⟨s, hs, rfl, hA2⟩ := hrel
        rename World => wo
        have hwT : IntKind.i64.wrap (2 ^ n) = (T : Int) := by rw [HT.out, IntKind.wrap_i64, show ((2:Int) ^ n) = ((2 ^ n : Nat) : Int) by simp]; have := HT.out; omega
        by_cases hlt2 : s < T
        · have j1 : (0 : Int) ≤ (s : Int) := by omega
          have j2 : (s : Int) < (T : Int) := by omega
          have HA2 := Lib.hid hA2
          clear hA2
          go_wp2_with fail
          have hB1 := Lib.hid (by go_grown : Below wo.heap.size wo (wo.alloc (.cells #[.int .i64 (a : Nat), .slice none 0 0] 36)))
          have q0 : (wo.alloc (.cells #[.int .i64 (a : Nat), .slice none 0 0] 36)).cell? ⟨wo.heap.size, 0, none⟩ = some (.int .i64 (a : Nat)) := by simp [go_sem]
          have q1 : (wo.alloc (.cells #[.int .i64 (a : Nat), .slice none 0 0] 36)).cell? ⟨wo.heap.size, 1, none⟩ = some (.slice none 0 0) := by simp [go_sem]
          have f1 : (wo.alloc (.cells #[.int .i64 (a : Nat), .slice none 0 0] 36)).frozen? ⟨wo.heap.size, 1, none⟩ = false := by simp [go_sem]
          have z1 : wo.heap.size < (wo.alloc (.cells #[.int .i64 (a : Nat), .slice none 0 0] 36)).heap.size := by simp
          generalize hW : wo.alloc (.cells #[.int .i64 (a : Nat), .slice none 0 0] 36) = W1 at *
          clear hW hwT
          have R0 := Lib.hid (RuAt.mk (a := a) (s := s) (n := n) q0 q1 f1 (World.ownsRow_nil _ _ _ _) hB1.out z1)
          clear q0 q1 f1 z1 hB1
          go_loopw [8] (fun i wx => ∃ (k : Nat) (v : Value), k ≤ n ∧ i = .int .i64 ((n : Int) - 1 - (k : Int)) ∧ RuAt wo wx a s n k v) (fun i _ => (intOf i + 1).toNat)
          case atStart => exact ⟨0, _, Nat.zero_le _, by simp, R0.out⟩
          case round =>
            obtain ⟨k, v, hk, rfl, hR⟩ := hrel
            by_cases hlt3 : k < n
            · obtain ⟨j, hj⟩ : ∃ j : Nat, (n : Int) - 1 - (k : Int) = (j : Int) := ⟨n - 1 - k, by omega⟩
              have hjn : n - 1 - k = j := by omega
              obtain ⟨b, hb⟩ : ∃ b : Nat, s / 2 ^ j = b := ⟨_, rfl⟩
              have HTK := Lib.hid (show (bo n s).take (k + 1) = (bo n s).take k ++ [((b % 2 : Nat) : Int)] by rw [bo_take_succ hlt3, hjn, hb])
              have hbi : (s : Int) / 2 ^ j = (b : Int) := by rw [← hb]; simp
              have l1 : (0 : Int) ≤ (j : Int) := by omega
              have l2 : (j : Int) ≤ 5 := by omega
              have l3 : (0 : Int) ≤ (b : Int) := by omega
              have hbl : b ≤ s := by rw [← hb]; exact Nat.div_le_self _ _
              have l4 : (b : Int) ≤ 64 := by omega
              obtain ⟨q0, q1, f1, ho, hB, hz⟩ := hR
              have hvn : some wo.heap.size ≠ v.ownBlock := fun e => by have := (ho.lt _ e.symm).1; omega
              have HVN := Lib.hid hvn
              have HO := Lib.hid ho
              have HVL := Lib.hid (fun b e => (ho.lt b e).1)
              clear hvn
              have HB := Lib.hid hB
              have HJ := Lib.hid hj
              rw [hj]
              clear hj hjn hb ho hB hbl R0
              go_wp2_with fail
              go_region_law (((refine step_append_lies _ (by rfl) _ _ _ (by rfl) (wo.heap.size + 1) 3 i0 _ 1 8 Try.underlying22 hi iz0 iz1 iz2 (by rfl) (by decide) v k (((bo n s).take k).map (Value.int .i64)) ?hs ?hown ⟨wr.heap.size, 0, none⟩ 1 1 [.int .i64 ((b % 2 : Nat) : Int)] ?hx (by rfl) ?hnews (by intro u hu; simp at hu; subst hu; rfl) (by decide) (by unfold maxLen; omega) (by omega) ?hbase (wr.heap.size + 1) ?hH ?_); (case hs => first | rfl | simp [Act.eval]); (case hx => first | rfl | simp [Act.eval]); (case hown => exact HO.out.alloc _); (case hnews => exact cell_one_new _ _ _); (case hbase => (simp; omega)); (case hH => simp); intro g2 cap2 w3 hown3 hgrow hat hlt9; have s0 := hgrow.cell (cl_alloc q0 _) HVN.out; have s1 := hgrow.cell (cl_alloc q1 _) HVN.out; have sf := (hgrow.frozen_far ⟨wo.heap.size, 1, none⟩ (by simp; omega) HVN.out).trans ((World.frozen?_alloc_old _ _ ⟨wo.heap.size, 1, none⟩ (by show wo.heap.size ≠ wr.heap.size; omega)).trans f1)))
              all_goals
                have QA := Lib.hid (show RuAt wo (w3.setCell ⟨wo.heap.size, 1, none⟩ (.slice (some ⟨g2, 0, none⟩) (k + 1) cap2)) a s n (k + 1) (.slice (some ⟨g2, 0, none⟩) (k + 1 : Nat) cap2) from
                  ⟨by rw [World.cell?_setCell_other (h := by simp)]; exact s0, World.cell?_setCell_same (h := s1) .., by rw [World.frozen?_setCell]; exact sf,
                    own_other (by rw [HTK.out, List.map_append]; exact hown3) _ _ (by simp),
                    (Below.grown (HB.out.trans (Below.mono (by go_grown : Below wr.heap.size wr _) HB.out.size)) hgrow (by have := HB.out.size; simp; omega) (fun b hb => by have := HVL.out b hb; omega)).setCell (by simp) _,
                    by have := HB.out.size; have := hgrow.size; simp at this ⊢; omega⟩)
                clear s0 s1 sf hown3 hgrow hat hlt9 q0 q1 f1
                go_wp2_with fail
                go_roundw
                case rel => exact ⟨k + 1, _, by omega, by rw [← HJ.out]; congr 1; simp; omega, QA.out⟩
                case measure => simp [intOf]
            · obtain rfl : k = n := by omega
              have hL : (bo k s).take k = bo k s := List.take_of_length_le (by rw [bo_len]; exact Nat.le_refl _)
              obtain ⟨q0, q1, f1, ho, hB, hz⟩ := hR
              rw [hL] at ho
              obtain ⟨g1, c1, rfl, hg1, hg2⟩ := ho.form (by omega)
              have hR1 := Lib.hid (RL.of_own ho (bo_len _ _))
              have hA3 := HA2.out.keep hB
              obtain ⟨xs, hx1, hx2⟩ := hA3.own
              have HX1 := Lib.hid hx1
              have HX2 := Lib.hid hx2
              have HBX := Lib.hid hA3.below
              have hlu := Lib.hid (fun b e => (((HA2.out.own.choose_spec).1).lt b e).2)
              have hsz := hA3.below.size
              have hso := HA2.out.below.size
              have hnx : a * T + s ≤ 2000 := by
                have h1 : a * T ≤ 17 * 64 := Nat.mul_le_mul (by have := HM.out; omega) hT64
                omega
              have hB' := Lib.hid hB
              clear hx1 hx2 hA3 ho hB hL R0 f1
              have l0 : ¬ (0 : Int) ≤ (k : Int) - 1 - (k : Int) := by omega
              go_wp2_with (at_builtin; refine wpList_append_lies _ rfl _ _ 56 rfl W0.heap.size 36 j0 (.agg #[.int .i64 0, .slice none 0 0]) 2 32 Try.underlying56 ji jz0 jz1 jz2 rfl (by decide) _ (a * T + s) xs rfl (HX1.out.alloc _) ⟨wr.heap.size, 0, none⟩ 1 1 [.int .i64 (a : Nat), .slice (some ⟨g1, 0, none⟩) k c1] rfl rfl ?c1 ?c2 (by decide) ?c3 ?c4 ?c5 (wr.heap.size + 1) ?c6 ?_; rotate_right 1; intro g2 cap2 w3 hown hgrow hat hlt9)
              case c2 => simp [Value.oneCell']
              case c3 => unfold maxLen; omega
              case c4 => omega
              case c5 => omega
              have hne1 : some g1 ≠ u3.ownBlock := fun e => by have := hlu.out g1 e.symm; omega
              have hne2 : g1 ≠ g2 := fun e => by
                rcases hat with hat | hat
                · have := hlu.out g2 hat; omega
                · omega
              have hd : dc k (a * T + s) = (a, bo k s) := by
                have := HT.out
                rw [this]
                exact dc_at (by omega)
              have hC := (HX2.out.keep (by go_grown : Below wr.heap.size wr (wr.alloc (.cells #[.int .i64 (a : Nat), .slice (some ⟨g1, 0, none⟩) k c1] 36)))).grown hgrow (g' := g2) (by
                rcases hat with hat | hat
                · exact Or.inl hat
                · right; simp; omega)
              have hC2 := hC.snoc (a, bo k s) g1 k c1 (bo_len _ _) (by intro e; injection e with e; exact hne2 e) (by omega) ((hR1.out.keep (by go_grown)).of_block hgrow.size (hgrow.block g1 (by simp; omega) hne1))
              refine ⟨⟨s + 1, by omega, by simp, ⟨⟨_, hown, ?_⟩, ?_⟩⟩, by simp [intOf]; omega⟩
              · show RunsC w3 W0.heap.size (some g2) (alN k (a * T + s + 1)) _
                rw [alN_succ, hd]; exact hC2
              · exact Below.grown (HBX.out.trans (Below.mono (by go_grown : Below wr.heap.size wr _) hsz)) hgrow (by simp; omega) (fun b hb => (HX1.out.lt b hb).1)
        · obtain rfl : s = T := by omega
          have HA2 := Lib.hid hA2
          clear hA2
          go_wp2_with fail
          go_roundw
          case rel => exact ⟨a + 1, by omega, by go_num, by rw [Nat.succ_mul]; exact HA2.out⟩
          case measure => simp [intOf]; omega
    · obtain rfl : a = m := by omega
      have hN : a * T = 3 * n * 2 ^ n := by rw [HM.out, HT.out]
      rw [hN] at hA
      obtain ⟨xs, hx1, hx2⟩ := hA.own
      have hB := hA.below
      obtain ⟨g1, c1, rfl, hg1, hg2⟩ := hx1.form (by rw [← hN]; exact Nat.mul_pos (by omega) (by omega))
      have H1 := Lib.hid hx1
      have H2 := Lib.hid hx2
      have H3 := Lib.hid hB
      clear hA hx1 hx2 hB hN
      go_wp2_with fail
      go_ret
      exact ⟨g1, c1, xs, rfl, H1.out.mono (by omega), ⟨H2.out.1, fun j x hx => let ⟨gg, cap, e1, e2, e3, e4, e5⟩ := H2.out.2 j x hx; ⟨gg, cap, e1, e2, e3, by omega, e5⟩⟩, hB0.out.trans (H3.out.mono (by omega))⟩

end Go.Proofs.Ytoaccnpkobbaaaa
