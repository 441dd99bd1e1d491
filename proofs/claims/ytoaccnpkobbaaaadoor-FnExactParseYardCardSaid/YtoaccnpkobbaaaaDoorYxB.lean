/- Contract: the text of a yard, in the program. -/
import Derived.Test.YtoaccnpkobbaaaaDoorYxA
import Derived.Test.YtoaccnpkobbaaaaDoorShelf
import Derived.Test.YtoaccnpkobbaaaaDoorYTop
import Derived.Test.YtoaccnpkobbaaaaDoorYOw
import Derived.Maps.AppendAt
import Derived.Laws.OwnMore
import Derived.Laws.AppendOwn
namespace Go.Proofs.YtoaccnpkobbaaaaDoor
open Go.ChangeShapes Go.WideShapes Go.ChangeAt Go.RowKit
open Yd

set_option linter.unusedVariables false

theorem txtInfo : (Tryd.prog.info? 9).map (fun i => (i.zero, i.size, i.bytes)) = some (some (.string ⟨#[]⟩), 1, 16) := by kernel_rfl

theorem ta00 (w : World) : (Instr.typeAssert (.iface 61 (.agg #[])) 42 61 true).run Tryd.prog w = .ok (.tuple #[.agg #[], .bool true]) w := by kernel_rfl

theorem ta01 (w : World) : (Instr.typeAssert (.iface 61 (.agg #[])) 42 62 true).run Tryd.prog w = .ok (.tuple #[.agg #[], .bool false]) w := by kernel_rfl

theorem ta02 (w : World) : (Instr.typeAssert (.iface 61 (.agg #[])) 42 63 true).run Tryd.prog w = .ok (.tuple #[.agg #[], .bool false]) w := by kernel_rfl

theorem ta10 (w : World) : (Instr.typeAssert (.iface 62 (.agg #[])) 42 61 true).run Tryd.prog w = .ok (.tuple #[.agg #[], .bool false]) w := by kernel_rfl

theorem ta11 (w : World) : (Instr.typeAssert (.iface 62 (.agg #[])) 42 62 true).run Tryd.prog w = .ok (.tuple #[.agg #[], .bool true]) w := by kernel_rfl

theorem ta12 (w : World) : (Instr.typeAssert (.iface 62 (.agg #[])) 42 63 true).run Tryd.prog w = .ok (.tuple #[.agg #[], .bool false]) w := by kernel_rfl

theorem ta20 (w : World) : (Instr.typeAssert (.iface 63 (.agg #[])) 42 61 true).run Tryd.prog w = .ok (.tuple #[.agg #[], .bool false]) w := by kernel_rfl

theorem ta21 (w : World) : (Instr.typeAssert (.iface 63 (.agg #[])) 42 62 true).run Tryd.prog w = .ok (.tuple #[.agg #[], .bool false]) w := by kernel_rfl

theorem ta22 (w : World) : (Instr.typeAssert (.iface 63 (.agg #[])) 42 63 true).run Tryd.prog w = .ok (.tuple #[.agg #[], .bool true]) w := by kernel_rfl

set_option maxRecDepth 100000 in
theorem letterOf_any (k : Int) (h0 : 0 ≤ k) (h1 : k ≤ 2) (w : World) : Calls Tryd.prog 19 #[swV k] w fun e w' => e = .returned (.string ⟨#[letB k]⟩) ∧ w = w' := by
  rcases lst_of h0 h1 with ⟨rfl, hl⟩ | ⟨rfl, hl⟩ | ⟨rfl, hl⟩
  · rw [hl, show swV 0 = .iface 61 (.agg #[]) from rfl]
    have t0 := ta00
    have t1 := ta01
    have t2 := ta02
    go_enter Tryd.func19, Tryd.ntmps19
    go_wp2_with fail
    all_goals go_ret
    all_goals exact ⟨rfl, rfl⟩
  · rw [hl, show swV 1 = .iface 62 (.agg #[]) from rfl]
    have t0 := ta10
    have t1 := ta11
    have t2 := ta12
    go_enter Tryd.func19, Tryd.ntmps19
    go_wp2_with fail
    all_goals go_ret
    all_goals exact ⟨rfl, rfl⟩
  · rw [hl, show swV 2 = .iface 63 (.agg #[]) from rfl]
    have t0 := ta20
    have t1 := ta21
    have t2 := ta22
    go_enter Tryd.func19, Tryd.ntmps19
    go_wp2_with fail
    all_goals go_ret
    all_goals exact ⟨rfl, rfl⟩

theorem one_txt (l : List ByteArray) : ∀ u ∈ l.map Value.string, u.oneCell' = true := by
  intro u hu
  obtain ⟨y, _, rfl⟩ := List.mem_map.1 hu
  rfl

theorem own_cap {w : World} {B n g cap : Nat} {e : TypeId} {size : Nat} {xs : List Value} (h : w.ownsRow B e size (.slice (some ⟨g, 0, none⟩) n cap) n xs) : n ≤ cap := by
  rcases h.2 with ⟨h', _⟩ | ⟨g', cap', cur, h', _, hg, h1, _⟩
  · simp at h'
  · simp only [Value.slice.injEq, Option.some.injEq, Addr.mk.injEq, and_true, true_and] at h'
    obtain ⟨_, rfl⟩ := h'
    exact h1

theorem nu_join (rs : List Int) : Lib.join ((rs.map nuT).map (·.data.toList)) [44] = nuL rs := by
  rw [nuL, List.map_map]
  rfl

set_option maxRecDepth 100000 in
set_option maxHeartbeats 3200000 in
theorem imYardText_yes (g c h d n m : Nat) (ks rs : List Int) (hn : ks.length = n) (hm : rs.length = m) (hg : YdOk ks rs) (w : World) (h1 : RL w g n ks) (h2 : RL w h m rs) :
    Calls Tryd.prog 8 #[.agg #[.slice (some ⟨g, 0, none⟩) n c, .slice (some ⟨h, 0, none⟩) m d]] w fun e w' => e = .returned (.tuple #[.string (ofL (yxL ks rs)), .bool true]) ∧ Below w.heap.size w w' := by
  obtain ⟨i0, hi, iz0, iz1, iz2⟩ := info_of txtInfo
  have n6 : n ≤ 6 := by rw [← hn]; exact hg.n6
  have hnr := hg.nr
  have n1 := hg.n1
  have m18 : m ≤ 18 := by omega
  have m1 : 0 < m := by omega
  have P := Lib.hid (fun w' (hw : Below w.heap.size w w') => imIsYard_any g n c h m d ks rs hn hm (by omega) (by omega) w' (h1.keep hw) (h2.keep hw))
  have HY := Lib.hid ((good_iff ks rs).2 hg)
  have KD := Lib.hid (fun (i : Nat) (k : Int) (hk : ks[i]? = some k) => hg.kd i k hk)
  have RD := Lib.hid (fun (i : Nat) (x : Int) (hx : rs[i]? = some x) => show 0 ≤ x ∧ x < 18 by have := hg.rl i x hx; omega)
  have NL := Lib.hid (show (nuL rs).length ≤ 60 from Nat.le_trans (nuL_len rs (fun x hx => by
    obtain ⟨j, hj⟩ := List.getElem?_of_mem hx
    have := hg.rl _ _ hj
    omega)) (by omega))
  have HN := Lib.hid hn
  have HM := Lib.hid hm
  have H1 := Lib.hid (fun w' (hw : Below w.heap.size w w') => h1.keep hw)
  have H2 := Lib.hid (fun w' (hw : Below w.heap.size w w') => h2.keep hw)
  clear hn hm hg h1 h2 hnr n1
  go_enter Tryd.func8, Tryd.ntmps8
  go_wp2_with fail
  refine (P.out _ (by go_grown)).mono ?_
  rintro e w1 ⟨rfl, k1⟩
  rw [HY.out]
  have hB : Below w.heap.size w w1 := ba (by go_grown) k1
  have hs := k1.size
  simp at hs
  have c0 := cl_below (b := w.heap.size) (o := 0) (v := .slice (some ⟨g, 0, none⟩) n c) (by simp [go_sem]) (by simp <;> omega) k1
  have c1 := cl_below (b := w.heap.size) (o := 1) (v := .slice (some ⟨h, 0, none⟩) m d) (by simp [go_sem]) (by simp <;> omega) k1
  have B1 := Lib.hid hB
  have R1 := Lib.hid (H1.out w1 hB)
  have R2 := Lib.hid (H2.out w1 hB)
  clear k1 hB
  go_wp2_with fail
  go_loop [4, 16] (fun t i => ∃ k : Nat, k ≤ n ∧ i = .int .i64 k ∧ t = .string (ofL (kL (ks.take k)))) (fun _ i => n - (intOf i).toNat)
  case atStart => exact ⟨0, Nat.zero_le _, rfl, rfl⟩
  case round =>
    obtain ⟨k, hk, rfl, rfl⟩ := hrel
    by_cases hlt : k < n
    · obtain ⟨x, hx⟩ : ∃ x, ks[k]? = some x := ⟨_, List.getElem?_eq_getElem (by rw [HN.out]; exact hlt)⟩
      have a0 := R1.out.get hlt hx
      have i1 : (0 : Int) ≤ (k : Int) := by omega
      have i2 : (k : Int) < (n : Int) := by omega
      have HK := Lib.hid (show ofL (kL (ks.take (k + 1))) = ofL (kL (ks.take k)) ++ ⟨#[letB x]⟩ by rw [kL_take hx, ofL_snoc])
      have hkl : (ofL (kL (ks.take k))).size ≤ 6 := by rw [ofL_size, kL_len, List.length_take]; omega
      obtain ⟨hx0, hx2⟩ := KD.out k x hx
      clear hx
      generalize hs : ofL (kL (ks.take k)) = s at *
      have hz : (⟨#[letB x]⟩ : ByteArray).size = 1 := rfl
      have LE := Lib.hid (fun w' => letterOf_any x hx0 hx2 w')
      have HSW := Lib.hid hs
      clear hs
      go_wp2_with (first | (go_at_call 20; refine (switchOf_any _ _).mono ?_; rintro e w' ⟨rfl, rfl⟩) | (go_at_call 19; refine (LE.out _).mono ?_; rintro e w' ⟨rfl, rfl⟩))
      refine ⟨⟨k + 1, by omega, by simp, ?_⟩, by simp [intOf]; omega⟩
      rw [HK.out]
    · obtain rfl : k = n := by omega
      have hk0 : kL (ks.take k) = kL ks := by rw [List.take_of_length_le (by rw [HN.out]; exact Nat.le_refl _)]
      rw [hk0]
      have hkz : (ofL (kL ks)).size ≤ 6 := by rw [ofL_size, kL_len, HN.out]; exact n6
      obtain ⟨t, ht⟩ : ∃ t, ofL (kL ks) = t := ⟨_, rfl⟩
      rw [ht] at hkz ⊢
      have HT := Lib.hid ht
      clear hk0 ht
      go_wp2_with fail
      go_loopw [7, 29] (fun v i wr => ∃ j : Nat, j ≤ m ∧ i = .int .i64 j ∧ wr.ownsRow w1.heap.size 9 1 v j (((rs.take j).map nuT).map Value.string) ∧ Below w1.heap.size w1 wr) (fun _ i _ => m - (intOf i).toNat)
      case atStart => exact ⟨0, Nat.zero_le _, rfl, World.ownsRow_nil _ _ _ _, Below.refl _ _⟩
      case round =>
        obtain ⟨j, hj, rfl, hown, hB⟩ := hrel
        have hbs := hB.size
        by_cases hlt2 : j < m
        · obtain ⟨x, hx⟩ : ∃ x, rs[j]? = some x := ⟨_, List.getElem?_eq_getElem (by rw [HM.out]; exact hlt2)⟩
          have a0 := (R2.out.keep hB).get hlt2 hx
          have i1 : (0 : Int) ≤ (j : Int) := by omega
          have i2 : (j : Int) < (m : Int) := by omega
          obtain ⟨hx0, hx2⟩ := RD.out j x hx
          obtain ⟨u, rfl⟩ : ∃ u : Nat, x = (u : Int) := ⟨x.toNat, by omega⟩
          have hnu : (⟨(Lib.decDigits u).toArray⟩ : ByteArray) = nuT (u : Int) := nu_pos.symm
          have HL := Lib.hid (show ((rs.take (j + 1)).map nuT).map Value.string = ((rs.take j).map nuT).map Value.string ++ [.string (nuT (u : Int))] by rw [List.take_add_one, hx]; simp)
          have IT := Lib.hid (fun w' => (Tryd.strconv_Itoa_small u (by omega) w'))
          rw [hnu] at IT
          have HO := Lib.hid hown
          have HB := Lib.hid hB
          generalize nuT (u : Int) = y at *
          clear hx hown hB hnu
          go_wp2_with (first | (go_at_call 21; refine (IT.out _).mono ?_; rintro e w' ⟨rfl, hw⟩; rw [hw]; clear hw w') | (at_builtin; refine wpList_append_own_at _ rfl _ _ 44 rfl w1.heap.size 9 i0 (.string ⟨#[]⟩) 1 16 Tryd.underlying44 hi iz0 iz1 iz2 rfl (by decide) _ _ _ rfl (HO.out.alloc _) ⟨wr.heap.size, 0, none⟩ 1 1 [.string y] rfl rfl (cell_one_new _ _ _) (by intro u hu; simp at hu; subst hu; rfl) (by unfold maxLen; omega) (by omega) (by simp; omega) ?_; intro v' w4 hown' hgrow hnil hloc))
          refine ⟨⟨j + 1, by omega, by simp, by rw [HL.out]; exact hown', ?_⟩, by simp [intOf]; omega⟩
          exact Below.grown (HB.out.trans (Below.mono (by go_grown : Below wr.heap.size wr _) hbs)) hgrow (by simp; omega) (fun b hb => (HO.out.lt b hb).1)
        · obtain rfl : j = m := by omega
          have hL : (rs.take j).map nuT = rs.map nuT := by rw [List.take_of_length_le (by rw [HM.out]; exact Nat.le_refl _)]
          rw [hL] at hown
          obtain ⟨g1, c1, rfl, hg1, hg2⟩ := hown.form m1
          have J := Tryd.strings_Join g1 0 c1 (rs.map nuT) ⟨#[44]⟩ wr (fun i x hx => by
            have hi : i < (rs.map nuT).length := (List.getElem?_eq_some_iff.1 hx).1
            rw [List.length_map, HM.out] at hi
            rw [Nat.zero_add, hown.cellAt i (by omega), List.getElem?_map, hx]
            rfl) hg2 (by rw [List.length_map, HM.out]; omega) (by rw [List.length_map, HM.out]; exact own_cap hown) (by
            show (Lib.join ((rs.map nuT).map (·.data.toList)) [44]).length ≤ _
            rw [nu_join]
            exact Nat.le_trans NL.out (by decide))
          rw [List.length_map, HM.out] at J
          have hj : (⟨(Lib.join ((rs.map nuT).map (·.data.toList)) (⟨#[44]⟩ : ByteArray).data.toList).toArray⟩ : ByteArray) = ofL (nuL rs) := congrArg ofL (nu_join rs)
          rw [hj] at J
          have hz : (ofL (nuL rs)).size ≤ 60 := by rw [ofL_size]; exact NL.out
          have HR := Lib.hid (show t ++ ⟨#[58]⟩ ++ ofL (nuL rs) = ofL (yxL ks rs) by
            rw [← HT.out, yxL, ← ofL_append, ← ofL_append]; rfl)
          generalize ofL (nuL rs) = y at *
          have JJ := Lib.hid J
          have HB := Lib.hid hB
          clear hown hL hj J hB
          have z58 : (⟨#[58]⟩ : ByteArray).size = 1 := rfl
          go_wp2_with fail
          refine JJ.out.mono ?_
          rintro e w2 ⟨rfl, k2⟩
          have HB2 := Lib.hid (B1.out.trans ((HB.out.trans (k2.mono hbs)).mono B1.out.size))
          clear k2
          go_wp2_with fail
          go_ret2
          exact ⟨by rw [← HR.out]; rfl, HB2.out⟩

set_option maxRecDepth 100000 in
set_option maxHeartbeats 1600000 in
theorem imYardText (g c h d n m : Nat) (ks rs : List Int) (hn : ks.length = n) (hm : rs.length = m) (hb : n ≤ 2000000) (hb' : m ≤ 2000000) (w : World) (h1 : RL w g n ks) (h2 : RL w h m rs) :
    Calls Tryd.prog 8 #[.agg #[.slice (some ⟨g, 0, none⟩) n c, .slice (some ⟨h, 0, none⟩) m d]] w fun e w' => e = .returned (.tuple #[.string (yxS ks rs), .bool (ydB ks rs)]) ∧ Below w.heap.size w w' := by
  have P := Lib.hid (fun w' (hw : Below w.heap.size w w') => imIsYard_any g n c h m d ks rs hn hm hb hb' w' (h1.keep hw) (h2.keep hw))
  cases hy : ydB ks rs
  · have HY := Lib.hid hy
    have HS := Lib.hid (show yxS ks rs = ⟨#[]⟩ by rw [yxS, hy]; rfl)
    clear hn hm h1 h2
    go_enter Tryd.func8, Tryd.ntmps8
    go_wp2_with fail
    refine (P.out _ (by go_grown)).mono ?_
    rintro e w1 ⟨rfl, k1⟩
    rw [HY.out]
    have hB : Below w.heap.size w w1 := ba (by go_grown) k1
    clear k1
    go_wp2_with fail
    go_ret2
    exact ⟨by rw [HS.out]; rfl, hB⟩
  · have HS := show yxS ks rs = ofL (yxL ks rs) by rw [yxS, hy]; rfl
    rw [HS]
    exact imYardText_yes g c h d n m ks rs hn hm ((good_iff ks rs).1 hy) w h1 h2

end Go.Proofs.YtoaccnpkobbaaaaDoor
