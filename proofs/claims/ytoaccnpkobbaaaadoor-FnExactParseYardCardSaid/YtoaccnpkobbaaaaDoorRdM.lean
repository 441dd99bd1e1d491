/- Numbers read from texts, canonically. -/
import Derived.Test.YtoaccnpkobbaaaaDoorNuM
namespace Go.Proofs.YtoaccnpkobbaaaaDoor

def isG (c : UInt8) : Bool := decide (48 ≤ c.toNat ∧ c.toNat ≤ 57)

def gval (ds : List UInt8) : Nat := ds.foldl (fun a d => 10 * a + (d.toNat - 48)) 0

theorem gval_snoc (l : List UInt8) (d : UInt8) : gval (l ++ [d]) = 10 * gval l + (d.toNat - 48) := by simp [gval]

theorem isG_bd {d : UInt8} (h : isG d = true) : 48 ≤ d.toNat ∧ d.toNat ≤ 57 := by simpa [isG] using h

theorem gval_lt : ∀ (m : Nat) (l : List UInt8), l.length = m → (∀ c ∈ l, isG c = true) → gval l < 10 ^ m
  | 0, l, h, _ => by rw [List.eq_nil_of_length_eq_zero h]; decide
  | m + 1, l, h, hd => by
    have hne : l ≠ [] := fun e => by rw [e] at h; cases h
    have e := List.dropLast_concat_getLast hne
    have ih := gval_lt m l.dropLast (by simp [h]) (fun c hc => hd c (List.dropLast_subset _ hc))
    have hb := isG_bd (hd _ (List.getLast_mem hne))
    rw [← e, gval_snoc, Nat.pow_succ]
    omega

/-- Whether a text is a number below a million as it is written. -/
def rdB (l : List UInt8) : Bool := decide (1 ≤ l.length ∧ l.length ≤ 6) && (!(decide (l.head? = some 48) && decide (1 < l.length)) && l.all isG)

def rdV (l : List UInt8) : Int := if rdB l = true then (gval l : Int) else -1

theorem rdV_yes {l : List UInt8} (h : rdB l = true) : rdV l = (gval l : Int) := by simp [rdV, h]

theorem rdV_no {l : List UInt8} (h : rdB l = false) : rdV l = -1 := by simp [rdV, h]

theorem g_u8n (d : Nat) (h : d < 10) : (UInt8.ofNat (48 + d)).toNat = 48 + d := by
  rw [UInt8.toNat_ofNat']
  omega

theorem isG_digit {d : Nat} (h : d < 10) : isG (UInt8.ofNat (48 + d)) = true := by
  unfold isG
  rw [g_u8n d h, decide_eq_true_eq]
  omega

theorem dd_isG : ∀ n c, c ∈ Lib.decDigits n → isG c = true := by
  intro n
  induction n using Nat.strongRecOn with
  | _ n ih =>
    intro c hc
    by_cases h : n < 10
    · rw [dd_small h] at hc
      rw [List.mem_singleton.1 hc]
      exact isG_digit h
    · rw [dd_big h] at hc
      rcases List.mem_append.1 hc with hc | hc
      · exact ih (n / 10) (by omega) c hc
      · rw [List.mem_singleton.1 hc]
        exact isG_digit (by omega)

theorem gval_dd : ∀ n, gval (Lib.decDigits n) = n := by
  intro n
  induction n using Nat.strongRecOn with
  | _ n ih =>
    by_cases h : n < 10
    · rw [dd_small h]
      simp only [gval, List.foldl_cons, List.foldl_nil, g_u8n n h]
      omega
    · rw [dd_big h, gval_snoc, ih (n / 10) (by omega), g_u8n (n % 10) (by omega)]
      omega

theorem dd_ne (n : Nat) : Lib.decDigits n ≠ [] := by
  by_cases h : n < 10
  · rw [dd_small h]; simp
  · rw [dd_big h]; simp

theorem dd_head : ∀ n, 1 ≤ n → (Lib.decDigits n).head? ≠ some 48 := by
  intro n
  induction n using Nat.strongRecOn with
  | _ n ih =>
    intro h1
    by_cases h : n < 10
    · rw [dd_small h]
      intro e
      have e2 : UInt8.ofNat (48 + n) = 48 := by simpa using e
      have := congrArg UInt8.toNat e2
      rw [g_u8n n h] at this
      have h48 : (48 : UInt8).toNat = 48 := rfl
      omega
    · rw [dd_big h]
      have hi := ih (n / 10) (by omega) (by omega)
      cases hd : Lib.decDigits (n / 10) with
      | nil => exact absurd hd (dd_ne _)
      | cons a r => rw [hd] at hi; simpa using hi

theorem dd_len6 {n : Nat} (h : n < 1000000) : (Lib.decDigits n).length ≤ 6 := by
  rw [Lib.decDigits_length]
  exact nd_le 5 n (by simpa using h)

theorem rd_dd {n : Nat} (h : n < 1000000) : rdB (Lib.decDigits n) = true := by
  simp only [rdB, Bool.and_eq_true, decide_eq_true_eq, Bool.not_eq_true', Bool.and_eq_false_iff, decide_eq_false_iff_not, List.all_eq_true]
  refine ⟨⟨?_, dd_len6 h⟩, ?_, fun c hc => dd_isG n c hc⟩
  · have := dd_ne n
    rcases hl : Lib.decDigits n with _ | ⟨a, r⟩
    · exact absurd hl this
    · simp
  · by_cases h1 : 1 ≤ n
    · exact .inl (dd_head n h1)
    · obtain rfl : n = 0 := by omega
      right
      rw [dd_small (by omega)]
      simp

/-- A number as it is written is told by what it spells. -/
theorem dd_of_rd : ∀ (m : Nat) (l : List UInt8), l.length = m → 1 ≤ m → (∀ c ∈ l, isG c = true) → (l.head? ≠ some 48 ∨ m = 1) → Lib.decDigits (gval l) = l
  | 0, _, _, h, _, _ => by omega
  | 1, l, h, _, hg, _ => by
    obtain ⟨c, rfl⟩ := List.length_eq_one_iff.1 h
    have hb := isG_bd (hg c (by simp))
    have e : gval [c] = c.toNat - 48 := by simp [gval]
    rw [e, dd_small (by omega)]
    congr 1
    rw [← UInt8.toNat_inj, g_u8n _ (by omega)]
    omega
  | m + 2, l, h, _, hg, hh => by
    have hne : l ≠ [] := fun e => by rw [e] at h; cases h
    have e := List.dropLast_concat_getLast hne
    have hdl : l.dropLast.length = m + 1 := by simp [h]
    have hhd : l.dropLast.head? = l.head? := by
      rcases l with _ | ⟨a, _ | ⟨b, r⟩⟩
      · exact absurd rfl hne
      · simp at h
      · simp
    have hh2 : l.dropLast.head? ≠ some 48 := by
      rw [hhd]
      rcases hh with hh | hh
      · exact hh
      · omega
    have ih := dd_of_rd (m + 1) l.dropLast hdl (by omega) (fun c hc => hg c (List.dropLast_subset _ hc)) (.inl hh2)
    have hb := isG_bd (hg _ (List.getLast_mem hne))
    have hg1 : 1 ≤ gval l.dropLast := by
      rcases Nat.eq_zero_or_pos (gval l.dropLast) with h0 | h0
      · exfalso
        apply hh2
        rw [← ih, h0, dd_small (by omega)]
        rfl
      · exact h0
    have hv : gval l = 10 * gval l.dropLast + ((l.getLast hne).toNat - 48) := by rw [← gval_snoc, e]
    have hdiv : gval l / 10 = gval l.dropLast := by omega
    have hmod : gval l % 10 = (l.getLast hne).toNat - 48 := by omega
    rw [dd_big (by omega), hdiv, hmod, ih]
    conv => rhs; rw [← e]
    congr 2
    rw [← UInt8.toNat_inj, g_u8n _ (by omega)]
    omega

theorem rd_back {l : List UInt8} (h : rdB l = true) : Lib.decDigits (gval l) = l ∧ gval l < 1000000 := by
  simp only [rdB, Bool.and_eq_true, decide_eq_true_eq, Bool.not_eq_true', Bool.and_eq_false_iff, decide_eq_false_iff_not, List.all_eq_true] at h
  obtain ⟨⟨h1, h2⟩, h3, h4⟩ := h
  refine ⟨dd_of_rd l.length l rfl h1 h4 ?_, ?_⟩
  · rcases h3 with h3 | h3
    · exact .inl h3
    · exact .inr (by omega)
  · have h5 := gval_lt l.length l rfl h4
    have h6 : 10 ^ l.length ≤ 10 ^ 6 := Nat.pow_le_pow_right (by decide) h2
    omega

/-- A whole number with its sign. -/
def piB (l : List UInt8) : Bool := match l with
  | 45 :: r => if r = [] then rdB l else rdB r && decide (0 < gval r)
  | _ => rdB l

theorem pi_back {l : List UInt8} (h : piB l = true) : ∃ n : Int, Lib.itoa n = l ∧ -999999 ≤ n ∧ n ≤ 999999 := by
  unfold piB at h
  split at h
  · rename_i r
    split at h
    · exfalso
      rename_i hr
      subst hr
      revert h
      decide
    · simp only [Bool.and_eq_true, decide_eq_true_eq] at h
      obtain ⟨e1, e2⟩ := rd_back h.1
      refine ⟨-(gval r : Int), ?_, by omega, by omega⟩
      rw [Lib.itoa_neg _ h.2, e1]
  · obtain ⟨e1, e2⟩ := rd_back h
    exact ⟨(gval l : Int), by rw [Lib.itoa_nonneg, e1], by omega, by omega⟩

def piV (l : List UInt8) : Int := match l with
  | 45 :: r => if r = [] then rdV l else - rdV r
  | _ => rdV l

theorem pi_itoa {n : Int} (h0 : -999999 ≤ n) (h1 : n ≤ 999999) : piB (Lib.itoa n) = true ∧ piV (Lib.itoa n) = n := by
  by_cases hn : n < 0
  · obtain ⟨u, rfl⟩ : ∃ u : Nat, n = -(u : Int) := ⟨n.natAbs, by omega⟩
    rw [Lib.itoa_neg u (by omega)]
    have h2 := rd_dd (n := u) (by omega)
    simp only [piB, piV, if_neg (dd_ne u), h2, rdV_yes h2, gval_dd, Bool.true_and, decide_eq_true_eq]
    exact ⟨by omega, trivial⟩
  · obtain ⟨u, rfl⟩ : ∃ u : Nat, n = (u : Int) := ⟨n.toNat, by omega⟩
    rw [Lib.itoa_nonneg]
    have h2 := rd_dd (n := u) (by omega)
    have hne : ∀ r, Lib.decDigits u ≠ 45 :: r := fun r e => by
      have := dd_isG u 45 (by rw [e]; simp)
      revert this
      decide
    unfold piB piV
    split
    · rename_i r hr
      exact absurd hr (hne r)
    · exact ⟨h2, by rw [rdV_yes h2, gval_dd]⟩

end Go.Proofs.YtoaccnpkobbaaaaDoor
