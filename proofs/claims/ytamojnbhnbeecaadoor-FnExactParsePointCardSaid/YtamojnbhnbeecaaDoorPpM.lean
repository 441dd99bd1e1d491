/- Points read back from texts. -/
import Derived.Test.YtamojnbhnbeecaaDoorRdM
import Derived.Test.YtamojnbhnbeecaaDoorLsM
import Derived.Lib.AtoiAll
import Derived.Lib.AtoiTie
import Derived.Lib.Split
namespace Go.Proofs.YtamojnbhnbeecaaDoor

/-- What strconv.Atoi reads; none where it fails. -/
def atv (l : List UInt8) : Option Int := match Lib.atoiAll l with | .ok v => some v | _ => none
theorem atv_ok {l : List UInt8} {v : Int} (h : Lib.atoiAll l = .ok v) : atv l = some v := by simp [atv, h]
theorem atv_no {l : List UInt8} (h : ∀ v, Lib.atoiAll l ≠ .ok v) : atv l = none := by
  unfold atv
  cases hA : Lib.atoiAll l
  · rename_i v
    exact absurd hA (h v)
  · rfl
  · rfl

theorem decFrom_all : ∀ (l : List UInt8) (acc : Nat), (∀ c ∈ l, isG c = true) → Lib.decFrom acc l = some (l.foldl (fun a d => 10 * a + (d.toNat - 48)) acc)
  | [], acc, _ => rfl
  | c :: l, acc, h => by
    have hb := isG_bd (h c List.mem_cons_self)
    have hd : Lib.digitVal c = some (c.toNat - 48) := by
      unfold Lib.digitVal
      rw [if_pos hb]
    rw [Lib.decFrom, hd, List.foldl_cons]
    simp only
    rw [decFrom_all l _ (fun d hd => h d (List.mem_cons_of_mem _ hd)), Nat.mul_comm]
theorem decNat_dd (n : Nat) : Lib.decNat (Lib.decDigits n) = some n := by
  unfold Lib.decNat
  rw [if_neg (by simpa using dd_ne n), decFrom_all _ _ (dd_isG n)]
  exact congrArg some (gval_dd n)
theorem atv_itoa {n : Int} (h0 : -999999 ≤ n) (h1 : n ≤ 999999) : atv (Lib.itoa n) = some n := by
  have hl : (Lib.itoa n).length ≤ 18 := by
    have := nu_len h0 h1
    unfold nuT at this
    rw [ofL_size] at this
    omega
  refine atv_ok ?_
  rw [Lib.atoiAll_short _ hl]
  by_cases hn : n < 0
  · obtain ⟨u, rfl⟩ : ∃ u : Nat, n = -(u : Int) := ⟨n.natAbs, by omega⟩
    rw [Lib.itoa_neg u (by omega)]
    simp [Lib.atoi, decNat_dd, Lib.NumEnd.ofOption]
  · obtain ⟨u, rfl⟩ : ∃ u : Nat, n = (u : Int) := ⟨n.toNat, by omega⟩
    rw [Lib.itoa_nonneg]
    rcases hd : Lib.decDigits u with _ | ⟨c, r⟩
    · exact absurd hd (dd_ne u)
    · have hb := isG_bd (dd_isG u c (by rw [hd]; exact List.mem_cons_self))
      have h45 : (c == 45) = false := by
        rw [beq_eq_false_iff_ne]
        rintro rfl
        revert hb
        decide
      have h43 : (c == 43) = false := by
        rw [beq_eq_false_iff_ne]
        rintro rfl
        revert hb
        decide
      have hdn := decNat_dd u
      rw [hd] at hdn
      simp [Lib.atoi, h45, h43, hdn, Lib.NumEnd.ofOption]

theorem index_hit : ∀ (u t : List UInt8), (44 : UInt8) ∉ u → Lib.index (u ++ 44 :: t) [44] = (u.length : Int)
  | [], t, _ => by simp [Lib.index]
  | c :: u, t, h => by
    have hc : ¬ (44 : UInt8) = c := fun e => h (by rw [e]; exact List.mem_cons_self)
    have ih := index_hit u t (fun hm => h (List.mem_cons_of_mem _ hm))
    rw [List.cons_append, Lib.index]
    simp only [List.isPrefixOf, beq_eq_false_iff_ne.2 hc, Bool.false_and, ih, List.length_cons]
    simp
theorem index_miss : ∀ u : List UInt8, (44 : UInt8) ∉ u → Lib.index u [44] = -1
  | [], _ => rfl
  | c :: u, h => by
    have hc : ¬ (44 : UInt8) = c := fun e => h (by rw [e]; exact List.mem_cons_self)
    have ih := index_miss u (fun hm => h (List.mem_cons_of_mem _ hm))
    rw [Lib.index]
    simp [List.isPrefixOf, beq_eq_false_iff_ne.2 hc, ih]
theorem splitK_hit (k : Nat) (u t : List UInt8) (h : (44 : UInt8) ∉ u) : Lib.splitK [44] 0 (k + 1) (u ++ 44 :: t) = u :: Lib.splitK [44] 0 k t := by
  have hi := index_hit u t h
  rw [Lib.splitK, if_neg (by rw [hi]; simp), hi]
  simp
theorem splitK_miss (k : Nat) (u : List UInt8) (h : (44 : UInt8) ∉ u) : Lib.splitK [44] 0 k u = [u] := by
  cases k with
  | zero => rfl
  | succ k => rw [Lib.splitK, if_pos (by rw [index_miss u h]; rfl)]

/-- The pieces, at most five. -/
def pcs (s : ByteArray) : List (List UInt8) := Lib.splitK [44] 0 (min 5 (s.size + 1) - 1) s.data.toList
theorem itoa_no44 (n : Int) : (44 : UInt8) ∉ Lib.itoa n := by
  intro h
  by_cases hn : n < 0
  · obtain ⟨u, rfl⟩ : ∃ u : Nat, n = -(u : Int) := ⟨n.natAbs, by omega⟩
    rw [Lib.itoa_neg u (by omega)] at h
    rcases List.mem_cons.1 h with h | h
    · revert h; decide
    · have := dd_isG u 44 h
      revert this; decide
  · obtain ⟨u, rfl⟩ : ∃ u : Nat, n = (u : Int) := ⟨n.toNat, by omega⟩
    rw [Lib.itoa_nonneg] at h
    have := dd_isG u 44 h
    revert this; decide
theorem ptJ_list (a b c d : Int) : (ptJ a b c d).data.toList = Lib.join [Lib.itoa a, Lib.itoa b, Lib.itoa c, Lib.itoa d] [44] := by simp [ptJ, ofL]
theorem pcs_ptJ (a b c d : Int) : pcs (ptJ a b c d) = [Lib.itoa a, Lib.itoa b, Lib.itoa c, Lib.itoa d] := by
  have hl : 4 ≤ (ptJ a b c d).size := by
    rw [← size_list, ptJ_list, join_two, join_two, join_two, Lib.join_one]
    have hd : 1 ≤ (Lib.itoa d).length := by
      by_cases hn : d < 0
      · obtain ⟨u, rfl⟩ : ∃ u : Nat, d = -(u : Int) := ⟨d.natAbs, by omega⟩
        rw [Lib.itoa_neg u (by omega)]; simp
      · obtain ⟨u, rfl⟩ : ∃ u : Nat, d = (u : Int) := ⟨d.toNat, by omega⟩
        rw [Lib.itoa_nonneg]
        exact List.length_pos_iff.2 (dd_ne u)
    simp only [List.length_append, List.length_cons]
    omega
  unfold pcs
  rw [show min 5 ((ptJ a b c d).size + 1) - 1 = 4 by omega, ptJ_list, join_two, join_two, join_two, Lib.join_one]
  rw [splitK_hit 3 _ _ (itoa_no44 a), splitK_hit 2 _ _ (itoa_no44 b), splitK_hit 1 _ _ (itoa_no44 c), splitK_miss 1 _ (itoa_no44 d)]

abbrev Q4 := Int × Int × Int × Int
def ppP (s : ByteArray) : Option Q4 := match pcs s with
  | [x0, x1, x2, x3] => match atv x0, atv x1, atv x2, atv x3 with
    | some a, some b, some c, some d => if goodB a b c d = true ∧ ptJ a b c d = s then some (a, b, c, d) else none
    | _, _, _, _ => none
  | _ => none
def ppM (s : ByteArray) : Option Q4 := if 40 < s.size then none else match lsp 44 s.data.toList with
  | [x0, x1, x2, x3] => if piB x0 = true ∧ piB x1 = true ∧ piB x2 = true ∧ piB x3 = true then some (piV x0, piV x1, piV x2, piV x3) else none
  | _ => none
theorem good_bd {a b c d : Int} (h : goodB a b c d = true) : (-999999 ≤ a ∧ a ≤ 999999) ∧ (-999999 ≤ b ∧ b ≤ 999999) ∧ (-999999 ≤ c ∧ c ≤ 999999) ∧ (-999999 ≤ d ∧ d ≤ 999999) := by
  simp only [goodB, decide_eq_true_eq] at h
  omega
theorem ppP_yes {s : ByteArray} {a b c d : Int} (hg : goodB a b c d = true) (hs : ptJ a b c d = s) : ppP s = some (a, b, c, d) := by
  obtain ⟨ha, hb, hc, hd⟩ := good_bd hg
  have h1 : pcs s = [Lib.itoa a, Lib.itoa b, Lib.itoa c, Lib.itoa d] := by rw [← hs]; exact pcs_ptJ a b c d
  simp only [ppP, h1, atv_itoa ha.1 ha.2, atv_itoa hb.1 hb.2, atv_itoa hc.1 hc.2, atv_itoa hd.1 hd.2]
  rw [if_pos ⟨hg, hs⟩]
theorem ppP_some {s : ByteArray} {q : Q4} (h : ppP s = some q) : goodB q.1 q.2.1 q.2.2.1 q.2.2.2 = true ∧ ptJ q.1 q.2.1 q.2.2.1 q.2.2.2 = s := by
  unfold ppP at h
  split at h
  · split at h
    · split at h
      · rename_i hx
        obtain rfl := Option.some.inj h
        exact hx
      · cases h
    · cases h
  · cases h
theorem ppM_yes {s : ByteArray} {a b c d : Int} (hg : goodB a b c d = true) (hs : ptJ a b c d = s) : ppM s = some (a, b, c, d) := by
  obtain ⟨ha, hb, hc, hd⟩ := good_bd hg
  have h40 := ptJ_len hg
  have h1 : lsp 44 s.data.toList = [Lib.itoa a, Lib.itoa b, Lib.itoa c, Lib.itoa d] := by
    rw [← hs, ptJ_list]
    refine lsp_of_join 44 _ _ ?_
    intro y hy
    simp only [List.mem_cons, List.mem_nil_iff, or_false] at hy
    rcases hy with rfl | rfl | rfl | rfl <;> exact itoa_no44 _
  rw [hs] at h40
  simp only [ppM, h1, pi_itoa ha.1 ha.2, pi_itoa hb.1 hb.2, pi_itoa hc.1 hc.2, pi_itoa hd.1 hd.2]
  rw [if_neg (by omega)]
  simp
theorem pi_back2 {l : List UInt8} (h : piB l = true) : Lib.itoa (piV l) = l ∧ -999999 ≤ piV l ∧ piV l ≤ 999999 := by
  obtain ⟨n, hn, h0, h1⟩ := pi_back h
  have := (pi_itoa h0 h1).2
  rw [hn] at this
  rw [this]
  exact ⟨hn, h0, h1⟩
theorem ppM_some {s : ByteArray} {q : Q4} (h : ppM s = some q) : goodB q.1 q.2.1 q.2.2.1 q.2.2.2 = true ∧ ptJ q.1 q.2.1 q.2.2.1 q.2.2.2 = s := by
  unfold ppM at h
  split at h
  · cases h
  · split at h
    · rename_i x0 x1 x2 x3 hx
      split at h
      · rename_i hp
        obtain rfl := Option.some.inj h
        obtain ⟨e0, b0, c0⟩ := pi_back2 hp.1
        obtain ⟨e1, b1, c1⟩ := pi_back2 hp.2.1
        obtain ⟨e2, b2, c2⟩ := pi_back2 hp.2.2.1
        obtain ⟨e3, b3, c3⟩ := pi_back2 hp.2.2.2
        refine ⟨by simp only [goodB, decide_eq_true_eq]; omega, ?_⟩
        simp only [ptJ, e0, e1, e2, e3]
        have := lsp_join 44 s.data.toList
        rw [hx] at this
        rw [this, ofL_self]
      · cases h
    · cases h
theorem pp_eq (s : ByteArray) : ppP s = ppM s := by
  cases hp : ppP s with
  | some q =>
    obtain ⟨a, b, c, d⟩ := q
    obtain ⟨h1, h2⟩ := ppP_some hp
    exact (ppM_yes h1 h2).symm
  | none =>
    cases hm : ppM s with
    | none => rfl
    | some q =>
      obtain ⟨a, b, c, d⟩ := q
      obtain ⟨h1, h2⟩ := ppM_some hm
      rw [ppP_yes h1 h2] at hp
      cases hp

end Go.Proofs.YtamojnbhnbeecaaDoor
