/- Contract: the text of a yard, in the model. -/
import Derived.Test.YtoaccnpkobbaaaaDoorYxM
import Derived.Test.YtoaccnpkobbaaaaDoorYGd
import Derived.Test.YtoaccnpkobbaaaaDoorNuA
namespace Go.Proofs.YtoaccnpkobbaaaaDoor
open Go.ChangeShapes Go.WideShapes Go.ChangeAt Go.RowKit
open Yd

set_option linter.unusedVariables false

theorem lst_of {k : Int} (h0 : 0 ≤ k) (h1 : k ≤ 2) : k = 0 ∧ letB k = 108 ∨ k = 1 ∧ letB k = 115 ∨ k = 2 ∧ letB k = 116 := by
  have : k = 0 ∨ k = 1 ∨ k = 2 := by omega
  rcases this with rfl | rfl | rfl <;> simp [letB]

set_option maxRecDepth 100000 in
set_option maxHeartbeats 3200000 in
theorem ydText_any (g c h d n m : Nat) (ks rs : List Int) (hn : ks.length = n) (hm : rs.length = m) (hg : YdOk ks rs) (w : World) (h1 : RL w g n ks) (h2 : RL w h m rs) :
    Calls Tryd.prog 16 #[.agg #[.slice (some ⟨g, 0, none⟩) n c, .slice (some ⟨h, 0, none⟩) m d]] w fun e w' => e = .returned (.string (ofL (yxL ks rs))) ∧ Below w.heap.size w w' := by
  have n6 : n ≤ 6 := by rw [← hn]; exact hg.n6
  have m18 : m ≤ 18 := by have := hg.nr; omega
  have PL := Lib.hid (yxP_len hg)
  have HA := Lib.hid (show yxP ks rs m = yxL ks rs from by rw [← hm]; exact yxP_all hg)
  have KD := Lib.hid (fun (i : Nat) (k : Int) (hk : ks[i]? = some k) => hg.kd i k hk)
  have RD := Lib.hid (fun (i : Nat) (x : Int) (hx : rs[i]? = some x) => show 0 ≤ x ∧ x < 18 by have := hg.rl i x hx; omega)
  have HN := Lib.hid hn
  have HM := Lib.hid hm
  have H1 := Lib.hid (h1.keep ((Below.refl w.heap.size w).alloc (Nat.le_refl _) (.cells #[.slice (some ⟨g, 0, none⟩) n c, .slice (some ⟨h, 0, none⟩) m d] 28)))
  have H2 := Lib.hid (h2.keep ((Below.refl w.heap.size w).alloc (Nat.le_refl _) (.cells #[.slice (some ⟨g, 0, none⟩) n c, .slice (some ⟨h, 0, none⟩) m d] 28)))
  clear hn hm hg h1 h2
  go_enter Tryd.func16, Tryd.ntmps16
  go_wp2_with fail
  generalize hW : w.alloc (.cells #[.slice (some ⟨g, 0, none⟩) n c, .slice (some ⟨h, 0, none⟩) m d] 28) = W0 at *
  have B0 := Lib.hid (show Below w.heap.size w W0 by rw [← hW]; go_grown)
  have q1 : W0.cell? ⟨w.heap.size, 1, none⟩ = some (.slice (some ⟨h, 0, none⟩) m d) := by rw [← hW]; simp [go_sem]
  clear hW
  go_loop [3, 11] (fun t i => ∃ k : Nat, k ≤ n ∧ i = .int .i64 k ∧ t = .string (ofL (kL (ks.take k)))) (fun _ i => n - (intOf i).toNat)
  case atStart => exact ⟨0, Nat.zero_le _, rfl, rfl⟩
  case round =>
    obtain ⟨k, hk, rfl, rfl⟩ := hrel
    by_cases hlt : k < n
    · obtain ⟨x, hx⟩ : ∃ x, ks[k]? = some x := ⟨_, List.getElem?_eq_getElem (by rw [HN.out]; exact hlt)⟩
      have c0 := H1.out.get hlt hx
      have i1 : (0 : Int) ≤ (k : Int) := by omega
      have i2 : (k : Int) < (n : Int) := by omega
      have HK := Lib.hid (show ofL (kL (ks.take (k + 1))) = ofL (kL (ks.take k)) ++ ⟨#[letB x]⟩ by rw [kL_take hx, ofL_snoc])
      have hkl : (ofL (kL (ks.take k))).size ≤ 6 := by rw [ofL_size, kL_len, List.length_take]; omega
      obtain ⟨hx0, hx2⟩ := KD.out k x hx
      clear hx
      rcases lst_of hx0 hx2 with ⟨rfl, hl⟩ | ⟨rfl, hl⟩ | ⟨rfl, hl⟩
      all_goals
        rw [hl] at HK
        clear hl
        generalize hs : ofL (kL (ks.take k)) = s at *
        go_wp2_with fail
        refine ⟨⟨k + 1, by omega, by simp, ?_⟩, by simp [intOf]; omega⟩
        rw [HK.out]
        exact congrArg (fun y => Value.string (s ++ y)) (by rfl)
    · obtain rfl : k = n := by omega
      have hk0 : kL (ks.take k) = yxP ks rs 0 := by rw [yxP, if_pos rfl, List.take_of_length_le (by rw [HN.out]; exact Nat.le_refl _)]
      rw [hk0]
      clear hk0
      go_wp2_with fail
      go_loopw [3, 25] (fun t i wr => ∃ j : Nat, j ≤ m ∧ i = .int .i64 j ∧ t = .string (ofL (yxP ks rs j)) ∧ Below W0.heap.size W0 wr) (fun _ i _ => m - (intOf i).toNat)
      case atStart => exact ⟨0, Nat.zero_le _, rfl, rfl, Below.refl _ _⟩
      case round =>
        obtain ⟨j, hj, rfl, rfl, hB⟩ := hrel
        by_cases hlt2 : j < m
        · obtain ⟨x, hx⟩ : ∃ x, rs[j]? = some x := ⟨_, List.getElem?_eq_getElem (by rw [HM.out]; exact hlt2)⟩
          have c0 := (H2.out.keep hB).get hlt2 hx
          have i1 : (0 : Int) ≤ (j : Int) := by omega
          have i2 : (j : Int) < (m : Int) := by omega
          obtain ⟨hx0, hx2⟩ := RD.out j x hx
          obtain ⟨u, rfl⟩ : ∃ u : Nat, x = (u : Int) := ⟨x.toNat, by omega⟩
          have hS : ofL (yxP ks rs (j + 1)) = ofL (yxP ks rs j) ++ ofL [if j = 0 then 58 else 44] ++ ofL (Lib.decDigits u) := by
            rw [yxP_succ hx, ofL_append, ofL_append, Lib.itoa_nonneg]
          have hsl : (ofL (yxP ks rs j)).size ≤ 100 := by rw [ofL_size]; exact PL.out j
          have hdl : (ofL (Lib.decDigits u)).size ≤ 2 := by rw [ofL_size]; exact dd_len (by omega)
          have NU := Lib.hid (num_all u (by omega))
          have HB := Lib.hid hB
          clear hx hB
          generalize ofL (yxP ks rs j) = s at *
          generalize ofL (Lib.decDigits u) = d at *
          by_cases h0 : j = 0
          · subst h0
            rw [if_pos rfl] at hS
            have HS := Lib.hid hS
            have z1 : (⟨#[58]⟩ : ByteArray).size = 1 := rfl
            clear hS
            go_wp2_with (go_at_call 35; refine (NU.out _).mono ?_; rintro e wA ⟨rfl, k1⟩; have HA2 := Lib.hid (HB.out.trans (k1.mono HB.out.size)); clear k1)
            refine ⟨⟨1, by omega, rfl, congrArg Value.string HS.out.symm, HA2.out⟩, by simp [intOf]; omega⟩
          · rw [if_neg h0] at hS
            have HS := Lib.hid hS
            have i3 : (0 : Int) < (j : Int) := by omega
            clear hS
            go_wp2_with (go_at_call 35; refine (NU.out _).mono ?_; rintro e wA ⟨rfl, k1⟩; have HA2 := Lib.hid (HB.out.trans (k1.mono HB.out.size)); clear k1)
            refine ⟨⟨j + 1, by omega, by simp, congrArg Value.string HS.out.symm, HA2.out⟩, by simp [intOf]; omega⟩
        · obtain rfl : j = m := by omega
          have HB := Lib.hid hB
          have HAA := HA.out
          rw [HAA]
          clear HAA hB
          go_wp2_with fail
          go_ret
          exact ⟨rfl, B0.out.trans (HB.out.mono B0.out.size)⟩

set_option maxRecDepth 100000 in
set_option maxHeartbeats 1600000 in
theorem spYardText (g c h d n m : Nat) (ks rs : List Int) (hn : ks.length = n) (hm : rs.length = m) (hb : n ≤ 2000000) (hb' : m ≤ 2000000) (w : World) (h1 : RL w g n ks) (h2 : RL w h m rs) :
    Calls Tryd.prog 6 #[.agg #[.slice (some ⟨g, 0, none⟩) n c, .slice (some ⟨h, 0, none⟩) m d]] w fun e w' => e = .returned (.tuple #[.string (yxS ks rs), .bool (ydB ks rs)]) ∧ Below w.heap.size w w' := by
  have P := Lib.hid (fun w' (hw : Below w.heap.size w w') => ydGood_any g n c h m d ks rs hn hm hb hb' w' (h1.keep hw) (h2.keep hw))
  cases hy : ydB ks rs
  · have HY := Lib.hid hy
    have HS := Lib.hid (show yxS ks rs = ⟨#[]⟩ by rw [yxS, hy]; rfl)
    clear hn hm h1 h2
    go_enter Tryd.func6, Tryd.ntmps6
    go_wp2_with fail
    refine (P.out _ (by go_grown)).mono ?_
    rintro e w1 ⟨rfl, k1⟩
    rw [HY.out]
    have hB : Below w.heap.size w w1 := ba (by go_grown) k1
    clear k1
    go_wp2_with fail
    go_ret2
    exact ⟨by rw [HS.out]; rfl, hB⟩
  · have hg := (good_iff ks rs).1 hy
    have HY := Lib.hid hy
    have HS := Lib.hid (show yxS ks rs = ofL (yxL ks rs) by rw [yxS, hy]; rfl)
    have T := Lib.hid (fun w' (hw : Below w.heap.size w w') => ydText_any g c h d n m ks rs hn hm hg w' (h1.keep hw) (h2.keep hw))
    clear hn hm h1 h2 hg
    go_enter Tryd.func6, Tryd.ntmps6
    go_wp2_with fail
    refine (P.out _ (by go_grown)).mono ?_
    rintro e w1 ⟨rfl, k1⟩
    rw [HY.out]
    have hB : Below w.heap.size w w1 := ba (by go_grown) k1
    have hs := k1.size
    simp at hs
    have c0 := cl_below (b := w.heap.size) (o := 0) (v := .slice (some ⟨g, 0, none⟩) n c) (by simp [go_sem]) (by simp <;> omega) k1
    have c1 := cl_below (b := w.heap.size) (o := 1) (v := .slice (some ⟨h, 0, none⟩) m d) (by simp [go_sem]) (by simp <;> omega) k1
    clear k1
    go_wp2_with fail
    refine (T.out _ hB).mono ?_
    rintro e w2 ⟨rfl, k2⟩
    have hB2 : Below w.heap.size w w2 := hB.trans (k2.mono hB.size)
    clear k2
    go_wp2_with fail
    go_ret2
    exact ⟨by rw [HS.out]; rfl, hB2⟩

end Go.Proofs.YtoaccnpkobbaaaaDoor
