/- Contract: the model's 'clWords'. -/
import Derived.Test.YtadlkmfgjmcgeabCg
namespace Go.Proofs.Ytadlkmfgjmcgeab
open Go.ChangeShapes Go.WideShapes Go.ChangeAt Go.RowKit

set_option linter.unusedVariables false

def nxW (l : List (List UInt8)) : List (List UInt8) := l.flatMap fun w => ltr.map fun c => w ++ [c]
theorem words_nx (n : Nat) : words (n + 1) = nxW (words n) := rfl
theorem nxW_take {l : List (List UInt8)} {j : Nat} {u : List UInt8} (h : l[j]? = some u) : nxW (l.take (j + 1)) = nxW (l.take j) ++ [u ++ [76], u ++ [82], u ++ [83]] := by
  rw [List.take_add_one, h]
  simp [nxW, ltr, List.flatMap_append]

theorem news_three {W : World} {n : Nat} (hn : W.heap.size = n) (x y z : Value) (t : TypeId) : ∀ j u, [x, y, z][j]? = some u → (W.alloc (.cells #[x, y, z] t)).cell? ((⟨n, 0, none⟩ : Addr).add j) = some u := by
  subst hn
  exact fun j u h => World.news_of_block (cs := #[x, y, z]) (heap_alloc_new W _) j u h

set_option maxRecDepth 100000 in
set_option maxHeartbeats 3200000 in
theorem clWords_any (n : Nat) (hn : n ≤ 7) (w : World) : Calls Try.prog 23 #[.int .i64 (n : Nat)] w (StrPost (words n) w) := by
  obtain ⟨i0, hi, iz0, iz1, iz2⟩ := info_parts srInfo
  go_enter Try.func23, Try.ntmps23
  go_wp2_with fail
  go_loopw [0, 3] (fun i v wr => ∃ k : Nat, k ≤ n ∧ i = .int .i64 ((n - k : Nat) : Int) ∧ wr.ownsRow w.heap.size 9 1 v (3 ^ k) (strV (words k)) ∧ Below w.heap.size w wr) (fun i _ _ => (intOf i).toNat)
  case atStart => exact ⟨0, Nat.zero_le _, rfl, litCellsP (by simp) (by omega) rfl rfl, by go_grown⟩
  case round =>
    obtain ⟨k, hk, rfl, hO, hb⟩ := hrel
    have hz : w.heap.size ≤ wr.heap.size := hb.size
    have h3 : 0 < 3 ^ k := Nat.pow_pos (by decide)
    obtain ⟨g, cap, rfl, hg0, hcp⟩ := hO.form h3
    by_cases hlt : k < n
    · obtain ⟨M, hM⟩ : ∃ M, 3 ^ k = M := ⟨_, rfl⟩
      have hM1 : M ≤ 2187 := by rw [← hM]; exact Nat.pow_le_pow_right (by decide) (show k ≤ 7 by omega)
      have hMS := Lib.hid (show 3 ^ (k + 1) = 3 * M by rw [Nat.pow_succ, hM, Nat.mul_comm])
      have hl := words_count k
      have hnx := words_nx k
      have hul : ∀ u ∈ words k, u.length ≤ 10 := fun u hu => by rw [words_len k u hu]; omega
      rw [hM] at hO h3 hl
      generalize words k = l at hO hl hnx hul
      have hg := (hO.lt g rfl).2
      have HP := Lib.hid (str_of hO hl)
      have HL := Lib.hid hl
      have HNX := Lib.hid hnx
      have HUL := Lib.hid hul
      have HB := Lib.hid hb
      have hd0 : 0 < n - k := by omega
      have hdd : ((n - k : Nat) : Int) - 1 = ((n - (k + 1) : Nat) : Int) := by omega
      generalize hd : n - k = d at *
      generalize hd2 : n - (k + 1) = d2 at *
      obtain ⟨wo, rfl⟩ : ∃ wo : World, wo = wr := ⟨_, rfl⟩
      rw [hM]
      clear hO hl hnx hul hb hM
      go_wp2_with fail
      go_loopw [4, 14] (fun t j wr => ∃ (jj : Nat) (v : Value), jj ≤ M ∧ j = .int .i64 jj ∧ v = t ∧ wr.ownsRow wo.heap.size 9 1 v (3 * jj) (strV (nxW (l.take jj))) ∧ Below wo.heap.size wo wr) (fun _ j _ => M - (intOf j).toNat)
      case atStart => exact ⟨0, _, Nat.zero_le _, rfl, rfl, World.ownsRow_nil _ _ _ _, Below.refl _ _⟩
      case round =>
        obtain ⟨j, v, hj, rfl, rfl, hN, hb2⟩ := hrel
        have hz2 := hb2.size
        by_cases hlj : j < M
        · obtain ⟨u, hu⟩ : ∃ u, l[j]? = some u := ⟨_, List.getElem?_eq_getElem (by rw [HL.out]; exact hlj)⟩
          have c0 := (HP.out.below hg hb2) j u hu
          have hul := HUL.out u (List.mem_of_getElem? hu)
          have HT := Lib.hid (nxW_take hu)
          obtain ⟨T1, hT1⟩ : ∃ T, ofL (u ++ [76]) = T := ⟨_, rfl⟩
          obtain ⟨T2, hT2⟩ : ∃ T, ofL (u ++ [82]) = T := ⟨_, rfl⟩
          obtain ⟨T3, hT3⟩ : ∃ T, ofL (u ++ [83]) = T := ⟨_, rfl⟩
          have k1 : ∀ w : World, (Op.stringOp .add (ofL u) ⟨#[76]⟩).run Try.prog w = .ok (.string T1) w := fun w => concat_run (by rw [← hT1]; exact ofL_snoc u 76) (by rw [ofL_size]; show _ + 1 ≤ _; omega) w
          have k2 : ∀ w : World, (Op.stringOp .add (ofL u) ⟨#[82]⟩).run Try.prog w = .ok (.string T2) w := fun w => concat_run (by rw [← hT2]; exact ofL_snoc u 82) (by rw [ofL_size]; show _ + 1 ≤ _; omega) w
          have k3 : ∀ w : World, (Op.stringOp .add (ofL u) ⟨#[83]⟩).run Try.prog w = .ok (.string T3) w := fun w => concat_run (by rw [← hT3]; exact ofL_snoc u 83) (by rw [ofL_size]; show _ + 1 ≤ _; omega) w
          have HV := Lib.hid (show strV (nxW (l.take (j + 1))) = strV (nxW (l.take j)) ++ [.string T1, .string T2, .string T3] by rw [HT.out, strV_append, ← hT1, ← hT2, ← hT3]; rfl)
          have HN := Lib.hid (hN.alloc (.cells #[.string T1, .string T2, .string T3] 9))
          have HB2 := Lib.hid (hb2.alloc hz2 (.cells #[.string T1, .string T2, .string T3] 9))
          clear hu hN hb2 hT1 hT2 hT3
          go_wp2_with (at_builtin; refine wpList_append_own_at _ rfl _ _ 37 rfl wo.heap.size 9 i0 (.string ByteArray.empty) 1 16 Try.underlying37 hi iz0 iz1 iz2 rfl (by decide) v _ _ rfl HN.out ⟨wr.heap.size, 0, none⟩ 3 3 [.string T1, .string T2, .string T3] rfl rfl (news_three rfl _ _ _ _) (by intro u hu; simp at hu; rcases hu with rfl | rfl | rfl <;> rfl) (by unfold maxLen; omega) (by omega) (by simp; omega) ?_; intro v' w2 hown' hgrow hnil hloc)
          have hlt' := HN.out.lt
          have HB8 := Lib.hid (HB2.out.grown hgrow (by simp; omega) (fun k hk => (hlt' k hk).1))
          have HO8 := Lib.hid hown'
          clear hlt' hgrow hown' hnil hloc
          go_roundw
          case rel => exact ⟨j + 1, v', by omega, by go_num, rfl, by rw [HV.out]; exact HO8.out, HB8.out⟩
          case measure => simp [intOf]; omega
        · obtain rfl : j = M := by omega
          have hta : l.take j = l := List.take_of_length_le (by rw [HL.out]; exact Nat.le_refl _)
          rw [hta] at hN
          have HN := Lib.hid (own_lessP hN hz)
          have HB2 := Lib.hid (HB.out.trans (hb2.mono hz))
          clear hN hb2 hta
          go_wp2_with fail
          go_roundw
          case rel => exact ⟨k + 1, by omega, by rw [hd2], by rw [hMS.out, HNX.out]; exact HN.out, HB2.out⟩
          case measure => simp [intOf]; omega
    · obtain rfl : k = n := by omega
      have HO := Lib.hid hO
      have HB := Lib.hid hb
      have h00 : k - k = 0 := by omega
      rw [h00]
      clear hO hb
      go_wp2_with fail
      go_ret
      exact ⟨_, rfl, by rw [words_count]; exact HO.out, HB.out⟩

end Go.Proofs.Ytadlkmfgjmcgeab
