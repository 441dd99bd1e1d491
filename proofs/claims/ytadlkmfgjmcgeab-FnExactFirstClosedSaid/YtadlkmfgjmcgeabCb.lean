/- Contract: the model's 'clBacks': the keys of all ends, in order. -/
import Derived.Test.YtadlkmfgjmcgeabCe
import Derived.Test.YtadlkmfgjmcgeabSe2
import Derived.Test.YtadlkmfgjmcgeabCw
namespace Go.Proofs.Ytadlkmfgjmcgeab
open Go.ChangeShapes Go.WideShapes Go.ChangeAt Go.RowKit

set_option linter.unusedVariables false

def sp4 : Sp := ⟨0, 0, 0, 0, 4⟩
/-- The key of the end of a text, laid from 0 with the heading 4. -/
def bkI (u : List UInt8) : Int := keyI (fin sp4 u) (trW u)
def bkL (n : Nat) : List Int := (words n).map bkI
theorem trW_bd (u : List UInt8) (n : Nat) (h : u.length ≤ n) : -(n : Int) ≤ trW u ∧ trW u ≤ n := by
  have n1 := cnt_le 76 u
  have n2 := cnt_le 82 u
  unfold trW
  omega
theorem fin_sm (h : Int) (h0 : 0 ≤ h) (h7 : h ≤ 7) (u : List UInt8) (hu : u.length ≤ 14) (t : Int) (t0 : -60 ≤ t) (t1 : t ≤ 60) : smK (fin ⟨0, 0, 0, 0, h⟩ u) t := by
  have := fin_ok (s := ⟨0, 0, 0, 0, h⟩) (n := 0) (by simp [Sp.okB, h0, h7]) u
  simp only [Sp.okB] at this
  simp only [smK]
  omega
theorem bk_sm {n : Nat} (hn : n ≤ 7) {u : List UInt8} (h : u ∈ words n) : smK (fin sp4 u) (trW u) := by
  have hl := words_len n u h
  have := trW_bd u 7 (by omega)
  exact fin_sm 4 (by decide) (by decide) u (by omega) _ (by omega) (by omega)

set_option maxRecDepth 100000 in
set_option maxHeartbeats 3200000 in
theorem clBacks_any (n : Nat) (hn : n ≤ 7) (w : World) : Calls Try.prog 22 #[.int .i64 (n : Nat)] w (SortPost (bkL n) w) := by
  obtain ⟨i0, hi, iz0, iz1, iz2⟩ := info_parts nmInfoS
  have P := Lib.hid (clWords_any n hn)
  have hpc : ∀ u ∈ words n, u.all pcb = true ∧ u.length ≤ 14 ∧ smK (fin sp4 u) (trW u) := fun u hu => ⟨words_pcb n u hu, by rw [words_len n u hu]; omega, bk_sm hn hu⟩
  have hlen := words_count n
  have hL : bkL n = (words n).map bkI := rfl
  rw [hL]
  obtain ⟨M, hM⟩ : ∃ M, 3 ^ n = M := ⟨_, rfl⟩
  have hM1 : M ≤ 2187 := by rw [← hM]; exact Nat.pow_le_pow_right (by decide) hn
  rw [hM] at hlen
  generalize words n = l at *
  have HPC := Lib.hid hpc
  have HL := Lib.hid hlen
  clear hL hpc hlen hM
  go_enter Try.func22, Try.ntmps22
  go_wp2_with fail
  refine (P.out _).mono ?_
  rintro e w1 ⟨v1, rfl, o1, hb1⟩
  rw [HL.out] at o1
  obtain ⟨av, cv, rfl⟩ := own_formC o1
  have HB1 := Lib.hid hb1
  have O1 := Lib.hid o1
  clear hb1 o1
  go_wp2_with fail
  go_loopw [3, 11] (fun t j wr => ∃ (jj : Nat) (v : Value), jj ≤ M ∧ j = .int .i64 jj ∧ v = t ∧ wr.ownsRow w1.heap.size 3 1 v jj (((l.take jj).map bkI).map (Value.int .i64)) ∧ Below w1.heap.size w1 wr) (fun _ j _ => M - (intOf j).toNat)
  case atStart => exact ⟨0, _, Nat.zero_le _, rfl, rfl, World.ownsRow_nil _ _ _ _, Below.refl _ _⟩
  case round =>
    obtain ⟨j, v, hj, rfl, rfl, hN, hb2⟩ := hrel
    have hz2 := hb2.size
    by_cases hlj : j < M
    · obtain ⟨u, hu⟩ : ∃ u, l[j]? = some u := ⟨_, List.getElem?_eq_getElem (by rw [HL.out]; exact hlj)⟩
      obtain ⟨hp1, hp2, hp3⟩ := HPC.out u (List.mem_of_getElem? hu)
      obtain ⟨g, rfl⟩ : ∃ g, av = some ⟨g, 0, none⟩ := by
        rcases O1.out.2 with ⟨h, h0⟩ | ⟨g, cap, _, h, _⟩
        · omega
        · injection h with h; exact ⟨g, h⟩
      have c0 := (str_of O1.out HL.out).below (O1.out.lt g rfl).2 hb2 j u hu
      have CE := Lib.hid (clEnd_any u hp1 hp2 4 (by decide) (by decide))
      have CK := Lib.hid (clKey_any (fin sp4 u) (trW u) hp3)
      have HT := Lib.hid (show ((l.take (j + 1)).map bkI).map (Value.int .i64) = ((l.take j).map bkI).map (Value.int .i64) ++ [.int .i64 (keyI (fin sp4 u) (trW u))] by
        rw [List.take_add_one, hu, List.map_append, List.map_append]; rfl)
      rw [show (⟨0, 0, 0, 0, 4⟩ : Sp) = sp4 from rfl] at CE
      generalize keyI (fin sp4 u) (trW u) = K at *
      generalize fin sp4 u = p at *
      generalize trW u = tr at *
      generalize ofL u = T at *
      have HN := Lib.hid hN
      have HB2 := Lib.hid hb2
      clear hu hp1 hp2 hp3 hN hb2
      go_wp2_with fail
      refine (CE.out _).mono ?_
      rintro e w2 ⟨rfl, hb3⟩
      have hz3 := hb3.size
      go_wp2_with fail
      refine (CK.out _).mono ?_
      rintro e w3 ⟨rfl, hb4⟩
      have hz4 := hb4.size
      simp at hz4
      have hAll := ((HB2.out.trans (hb3.mono hz2)).alloc (Nat.le_trans hz2 hz3) (.cells #[.int .i64 p.x0, .int .i64 p.x1, .int .i64 p.x2, .int .i64 p.x3] 36)).trans (hb4.mono (by simp; omega))
      have hst := (hb3.alloc hz3 (.cells #[.int .i64 p.x0, .int .i64 p.x1, .int .i64 p.x2, .int .i64 p.x3] 36)).trans (hb4.mono (by simp; omega))
      have HN3 := Lib.hid ((HN.out.kept (below_grown hst) (by cases v.ownBlock <;> simp)).alloc (.cells #[.int .i64 K] 3))
      have HB3 := Lib.hid (hAll.alloc hAll.size (.cells #[.int .i64 K] 3))
      have hz5 := hAll.size
      clear hb3 hb4 hAll hst
      go_wp2_with (at_builtin; refine wpList_append_own_at _ rfl _ _ 25 rfl w1.heap.size 3 i0 (.int .i64 0) 1 8 Try.underlying25 hi iz0 iz1 iz2 rfl (by decide) v _ _ rfl HN3.out ⟨w3.heap.size, 0, none⟩ 1 1 [.int .i64 K] rfl rfl (cell_one_new _ _ _) (by intro u hu; simp at hu; subst hu; rfl) (by unfold maxLen; omega) (by omega) (by simp; omega) ?_; intro v' w4 hown' hgrow hnil hloc)
      have hlt' := HN3.out.lt
      have HB8 := Lib.hid (HB3.out.grown hgrow (by simp; omega) (fun k hk => (hlt' k hk).1))
      have HO8 := Lib.hid hown'
      clear hlt' hgrow hown' hnil hloc
      go_roundw
      case rel => exact ⟨j + 1, v', by omega, by go_num, rfl, by rw [HT.out]; exact HO8.out, HB8.out⟩
      case measure => simp [intOf]; omega
    · obtain rfl : j = M := by omega
      have hta : l.take j = l := List.take_of_length_le (by rw [HL.out]; exact Nat.le_refl _)
      rw [hta] at hN
      have hln : (l.map bkI).length = j := by rw [List.length_map, HL.out]
      have hIV : IntV wr v (l.map bkI) := iv_own (by rw [hln]; exact hN)
      have S := Lib.hid (fun W hW => clSort_any (l.map bkI) (by rw [hln]; omega) v W (hIV.below hW))
      have HB2 := Lib.hid (HB1.out.trans (hb2.mono HB1.out.size))
      clear hN hb2 hta hln hIV
      go_wp2_with fail
      refine (S.out _ (Below.refl _ _)).mono ?_
      rintro e w2 ⟨v2, ys, rfl, h1, h2, h3, hb5⟩
      have H1 := Lib.hid h1
      have HB5 := Lib.hid (HB2.out.trans (hb5.mono HB2.out.size))
      clear h1 hb5
      go_wp2_with fail
      go_ret
      exact ⟨v2, ys, rfl, H1.out, h2, h3, HB5.out⟩

end Go.Proofs.Ytadlkmfgjmcgeab
