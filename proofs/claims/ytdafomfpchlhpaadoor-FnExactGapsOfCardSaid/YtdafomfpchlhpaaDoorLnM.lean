/- Lines of trains as lists of bytes: signals, ticks, and lines that come again. -/
import Derived.Test.YtdafomfpchlhpaaDoorTkM
import Derived.Test.YtdafomfpchlhpaaDoorYdM
namespace Go.Proofs.YtdafomfpchlhpaaDoor.Ln

set_option linter.unusedVariables false

def lnb (c : UInt8) : Bool := c == 84 || c == 46

def lnB (l : List UInt8) : Bool := decide (1 ≤ l.length ∧ l.length ≤ 24) && l.all lnb

structure LnOk (l : List UInt8) : Prop where
  n1 : 1 ≤ l.length
  n24 : l.length ≤ 24
  tt : ∀ (i : Nat) c, l[i]? = some c → c = 84 ∨ c = 46

theorem lnB_iff (l : List UInt8) : lnB l = true ↔ LnOk l := by
  simp only [lnB, lnb, Bool.and_eq_true, decide_eq_true_eq, List.all_eq_true, Bool.or_eq_true, beq_iff_eq]
  constructor
  · rintro ⟨⟨h1, h2⟩, h3⟩
    exact ⟨h1, h2, fun i c hc => h3 c (List.mem_of_getElem? hc)⟩
  · intro h
    refine ⟨⟨h.n1, h.n24⟩, fun c hc => ?_⟩
    obtain ⟨i, hi⟩ := List.getElem?_of_mem hc
    exact h.tt i c hi

/-- Is there a train in the block i? -/
def tr (l : List UInt8) (i : Nat) : Bool := l.getD i 46 == 84

/-- Are all blocks that the signal looks at empty? -/
def clr (l : List UInt8) (g i : Nat) : Bool := (List.range (min g (l.length - 1))).all fun k => !tr l ((i + (k + 1)) % l.length)

def grn (l : List UInt8) (g i : Nat) : Bool := decide (2 ≤ l.length) && clr l g i

def mvs (l : List UInt8) (g i : Nat) : Bool := tr l i && grn l g i

def nxt (n i : Nat) : Nat := if i + 1 = n then 0 else i + 1

def prv (n p : Nat) : Nat := if p = 0 then n - 1 else p - 1

theorem nxt_mod {n i : Nat} (h : i < n) : (i + 1) % n = nxt n i := by
  unfold nxt
  split
  · rename_i e; rw [e]; exact Nat.mod_self n
  · exact Nat.mod_eq_of_lt (by omega)

theorem nxt_lt {n i : Nat} (h : i < n) : nxt n i < n := by unfold nxt; split <;> omega

theorem prv_lt {n p : Nat} (h : p < n) : prv n p < n := by unfold prv; split <;> omega

theorem prv_nxt {n i : Nat} (h : i < n) : prv n (nxt n i) = i := by unfold prv nxt; split <;> (try split) <;> omega

theorem nxt_prv {n p : Nat} (h : p < n) : nxt n (prv n p) = p := by unfold prv nxt; split <;> split <;> omega

theorem getD_at {l : List UInt8} {i : Nat} (h : i < l.length) : l[i]? = some (l.getD i 46) := by rw [List.getD, List.getElem?_eq_getElem h]; rfl

theorem LnOk.at' {l : List UInt8} (h : LnOk l) (i : Nat) : l.getD i 46 = 84 ∨ l.getD i 46 = 46 := by
  rw [List.getD]
  cases hc : l[i]? with
  | none => right; rfl
  | some c => exact h.tt i c hc

theorem tr_yes {l : List UInt8} {i : Nat} (h : tr l i = true) : l.getD i 46 = 84 := by simpa [tr] using h

theorem LnOk.tr_no {l : List UInt8} (h : LnOk l) {i : Nat} (ht : tr l i = false) : l.getD i 46 = 46 := by
  rcases h.at' i with e | e
  · rw [tr, e] at ht; simp at ht
  · exact e

theorem mvs_next {l : List UInt8} {g i : Nat} (hg : 1 ≤ g) (hi : i < l.length) (h : mvs l g i = true) : tr l i = true ∧ tr l (nxt l.length i) = false ∧ 2 ≤ l.length := by
  simp only [mvs, grn, clr, Bool.and_eq_true, decide_eq_true_eq, List.all_eq_true, List.mem_range, Bool.not_eq_true'] at h
  obtain ⟨h1, h2, h3⟩ := h
  have := h3 0 (by omega)
  rw [Nat.zero_add, nxt_mod hi] at this
  exact ⟨h1, this, h2⟩

/-- A tick, carried out for the blocks below j: trains move one after the other. -/
def stc (l : List UInt8) (g j p : Nat) : UInt8 :=
  if mvs l g (prv l.length p) = true ∧ prv l.length p < j then 84 else if mvs l g p = true ∧ p < j then 46 else l.getD p 46

def stL (l : List UInt8) (g j : Nat) : List UInt8 := (List.range l.length).map (stc l g j)

def tk (l : List UInt8) (g : Nat) : List UInt8 := stL l g l.length

theorem stL_len (l : List UInt8) (g j : Nat) : (stL l g j).length = l.length := by simp [stL]

theorem tk_len (l : List UInt8) (g : Nat) : (tk l g).length = l.length := stL_len _ _ _

theorem stL_get {l : List UInt8} {g j p : Nat} (h : p < l.length) : (stL l g j)[p]? = some (stc l g j p) := by simp [stL, h]

theorem stL_zero (l : List UInt8) (g : Nat) : stL l g 0 = l := by
  refine List.ext_getElem? fun p => ?_
  by_cases h : p < l.length
  · rw [stL_get h, getD_at h]; simp [stc]
  · rw [List.getElem?_eq_none (by rw [stL_len]; omega), List.getElem?_eq_none (by omega)]

theorem stL_keep {l : List UInt8} {g j : Nat} (hm : mvs l g j = false) : stL l g (j + 1) = stL l g j := by
  refine List.ext_getElem? fun p => ?_
  by_cases h : p < l.length
  · rw [stL_get h, stL_get h]
    congr 1
    have e1 : (mvs l g (prv l.length p) = true ∧ prv l.length p < j + 1) ↔ (mvs l g (prv l.length p) = true ∧ prv l.length p < j) := by
      constructor
      · rintro ⟨a, b⟩
        refine ⟨a, ?_⟩
        have : prv l.length p ≠ j := by intro e; rw [e, hm] at a; cases a
        omega
      · rintro ⟨a, b⟩; exact ⟨a, by omega⟩
    have e2 : (mvs l g p = true ∧ p < j + 1) ↔ (mvs l g p = true ∧ p < j) := by
      constructor
      · rintro ⟨a, b⟩
        refine ⟨a, ?_⟩
        have : p ≠ j := by intro e; rw [e, hm] at a; cases a
        omega
      · rintro ⟨a, b⟩; exact ⟨a, by omega⟩
    simp only [stc, e1, e2]
  · rw [List.getElem?_eq_none (by rw [stL_len]; omega), List.getElem?_eq_none (by rw [stL_len]; omega)]

theorem stL_at {l : List UInt8} {g j : Nat} (hg : 1 ≤ g) (hj : j < l.length) (hm : mvs l g j = true) : (stL l g j)[j]? = some 84 := by
  obtain ⟨h1, h2, h3⟩ := mvs_next hg hj hm
  rw [stL_get hj, stc, if_neg, if_neg (by omega), tr_yes h1]
  rintro ⟨a, b⟩
  have := (mvs_next hg (prv_lt hj) a).2.1
  rw [nxt_prv hj, h1] at this
  cases this

theorem stL_next {l : List UInt8} {g j : Nat} (hl : LnOk l) (hg : 1 ≤ g) (hj : j < l.length) (hm : mvs l g j = true) : (stL l g j)[nxt l.length j]? = some 46 := by
  obtain ⟨h1, h2, h3⟩ := mvs_next hg hj hm
  rw [stL_get (nxt_lt hj), stc, prv_nxt hj, if_neg (by omega), if_neg, hl.tr_no h2]
  rintro ⟨a, b⟩
  have := (mvs_next hg (nxt_lt hj) a).1
  rw [h2] at this
  cases this

theorem stL_move {l : List UInt8} {g j : Nat} (hg : 1 ≤ g) (hj : j < l.length) (hm : mvs l g j = true) : stL l g (j + 1) = ((stL l g j).set j 46).set (nxt l.length j) 84 := by
  obtain ⟨h1, h2, h3⟩ := mvs_next hg hj hm
  refine List.ext_getElem? fun p => ?_
  by_cases h : p < l.length
  · rw [stL_get h, List.getElem?_set, List.length_set, stL_len]
    by_cases e : nxt l.length j = p
    · subst e
      rw [if_pos rfl, if_pos h, stc, prv_nxt hj, if_pos ⟨hm, by omega⟩]
    · rw [if_neg e, List.getElem?_set, stL_len]
      have e3 : prv l.length p ≠ j := fun q => e (by rw [← q, nxt_prv h])
      by_cases e2 : j = p
      · subst e2
        rw [if_pos rfl, if_pos h, stc, if_neg, if_pos ⟨hm, by omega⟩]
        rintro ⟨a, b⟩
        have := (mvs_next hg (prv_lt hj) a).2.1
        rw [nxt_prv hj, h1] at this
        cases this
      · rw [if_neg e2, stL_get h]
        have q1 : (prv l.length p < j + 1) ↔ (prv l.length p < j) := by omega
        have q2 : (p < j + 1) ↔ (p < j) := by omega
        simp only [stc, q1, q2]
  · rw [List.getElem?_eq_none (by rw [stL_len]; omega), List.getElem?_eq_none (by simp [stL_len]; omega)]

theorem LnOk.st {l : List UInt8} (h : LnOk l) (g j : Nat) : LnOk (stL l g j) := by
  refine ⟨by rw [stL_len]; exact h.n1, by rw [stL_len]; exact h.n24, fun i c hc => ?_⟩
  have hi : i < l.length := by
    have := (List.getElem?_eq_some_iff.1 hc).1
    rwa [stL_len] at this
  rw [stL_get hi] at hc
  injection hc with hc
  rw [← hc, stc]
  split
  · exact .inl rfl
  · split
    · exact .inr rfl
    · exact h.at' i

theorem LnOk.tk {l : List UInt8} (h : LnOk l) (g : Nat) : LnOk (tk l g) := h.st g _

/-- The model's two rounds: trains leave; trains come. -/
def o1 (l : List UInt8) (g j : Nat) : List UInt8 := (List.range l.length).map fun p => if mvs l g p = true ∧ p < j then 46 else l.getD p 46

def o2 (l : List UInt8) (g j : Nat) : List UInt8 := (List.range l.length).map fun p => if mvs l g (prv l.length p) = true ∧ prv l.length p < j then 84 else if mvs l g p = true then 46 else l.getD p 46

theorem o1_len (l : List UInt8) (g j : Nat) : (o1 l g j).length = l.length := by simp [o1]

theorem o2_len (l : List UInt8) (g j : Nat) : (o2 l g j).length = l.length := by simp [o2]

theorem o1_zero (l : List UInt8) (g : Nat) : o1 l g 0 = l := by
  refine List.ext_getElem? fun p => ?_
  by_cases h : p < l.length
  · rw [getD_at h]; simp [o1, h]
  · rw [List.getElem?_eq_none (by rw [o1_len]; omega), List.getElem?_eq_none (by omega)]

theorem o12 (l : List UInt8) (g : Nat) : o1 l g l.length = o2 l g 0 := by
  refine List.map_congr_left fun p hp => ?_
  have := List.mem_range.1 hp
  simp [this]

theorem o2_tk (l : List UInt8) (g : Nat) : o2 l g l.length = tk l g := by
  refine List.map_congr_left fun p hp => ?_
  have := List.mem_range.1 hp
  simp only [stc, this, and_true]

theorem o1_keep {l : List UInt8} {g j : Nat} (hm : mvs l g j = false) : o1 l g (j + 1) = o1 l g j := by
  refine List.map_congr_left fun p hp => ?_
  by_cases e : p = j
  · subst e; simp [hm]
  · have : (p < j + 1) ↔ (p < j) := by omega
    simp only [this]

theorem o2_keep {l : List UInt8} {g j : Nat} (hm : mvs l g j = false) : o2 l g (j + 1) = o2 l g j := by
  refine List.map_congr_left fun p hp => ?_
  by_cases e : prv l.length p = j
  · rw [e]; simp [hm]
  · have : (prv l.length p < j + 1) ↔ (prv l.length p < j) := by omega
    simp only [this]

theorem o1_move {l : List UInt8} {g j : Nat} (hj : j < l.length) (hm : mvs l g j = true) : o1 l g (j + 1) = (o1 l g j).set j 46 := by
  refine List.ext_getElem? fun p => ?_
  rw [List.getElem?_set, o1_len]
  by_cases e : j = p
  · subst e; simp [o1, hj, hm]
  · rw [if_neg e]
    by_cases h : p < l.length
    · have : (p < j + 1) ↔ (p < j) := by omega
      simp [o1, h, this]
    · rw [List.getElem?_eq_none (by rw [o1_len]; omega), List.getElem?_eq_none (by rw [o1_len]; omega)]

theorem o2_move {l : List UInt8} {g j : Nat} (hj : j < l.length) (hm : mvs l g j = true) : o2 l g (j + 1) = (o2 l g j).set (nxt l.length j) 84 := by
  refine List.ext_getElem? fun p => ?_
  rw [List.getElem?_set, o2_len]
  by_cases h : p < l.length
  · by_cases e : nxt l.length j = p
    · subst e
      rw [if_pos rfl, if_pos h]
      simp [o2, h, prv_nxt hj, hm]
    · rw [if_neg e]
      have e3 : prv l.length p ≠ j := fun q => e (by rw [← q, nxt_prv h])
      have : (prv l.length p < j + 1) ↔ (prv l.length p < j) := by omega
      simp [o2, h, this]
  · rw [List.getElem?_eq_none (by rw [o2_len]; omega), List.getElem?_eq_none (by rw [o2_len]; omega)]
    have := nxt_lt hj
    rw [if_neg (by omega)]

theorem cnt_set (c x y : UInt8) : ∀ (l : List UInt8) (i : Nat), l[i]? = some y → cnt c (l.set i x) + (if y == c then 1 else 0) = cnt c l + (if x == c then 1 else 0)
  | [], i, h => by simp at h
  | z :: l, 0, h => by
    simp at h
    subst h
    simp only [List.set_cons_zero, cnt, List.count_cons]
    omega
  | z :: l, i + 1, h => by
    have := cnt_set c x y l i (by simpa using h)
    simp only [List.set_cons_succ, cnt, List.count_cons] at this ⊢
    omega

theorem cnt_st {l : List UInt8} {g : Nat} (hl : LnOk l) (hg : 1 ≤ g) : ∀ j, j ≤ l.length → cnt 84 (stL l g j) = cnt 84 l
  | 0, _ => by rw [stL_zero]
  | j + 1, h => by
    have ih := cnt_st hl hg j (by omega)
    cases hm : mvs l g j
    · rw [stL_keep hm, ih]
    · have h0 := stL_at hg (by omega) hm
      have h1 := stL_next hl hg (by omega) hm
      have hne : j ≠ nxt l.length j := by
        intro e
        rw [← e, h0] at h1
        simp at h1
      have a := cnt_set 84 46 84 (stL l g j) j h0
      have b := cnt_set 84 84 46 ((stL l g j).set j 46) (nxt l.length j) (by rw [List.getElem?_set_ne hne]; exact h1)
      rw [stL_move hg (by omega) hm]
      simp at a b
      omega

theorem cnt_tk {l : List UInt8} {g : Nat} (hl : LnOk l) (hg : 1 ≤ g) : cnt 84 (tk l g) = cnt 84 l := cnt_st hl hg _ (Nat.le_refl _)

/-- Signals. -/
def sgc (l : List UInt8) (g i : Nat) : UInt8 := if tr l i then (if grn l g i then 103 else 114) else 46

def sg (l : List UInt8) (g : Nat) : List UInt8 := (List.range l.length).map (sgc l g)

theorem sg_len (l : List UInt8) (g : Nat) : (sg l g).length = l.length := by simp [sg]

theorem sg_get {l : List UInt8} {g p : Nat} (h : p < l.length) : (sg l g)[p]? = some (sgc l g p) := by simp [sg, h]

def woc (c : UInt8) : UInt8 := if c == 103 || c == 114 then 84 else c

def wo (s : List UInt8) : List UInt8 := s.map woc

theorem wo_sg {l : List UInt8} (hl : LnOk l) (g : Nat) : wo (sg l g) = l := by
  refine List.ext_getElem? fun p => ?_
  by_cases h : p < l.length
  · rw [wo, List.getElem?_map, sg_get h, getD_at h]
    cases ht : tr l p
    · rw [hl.tr_no ht]; simp [sgc, ht, woc]
    · rw [tr_yes ht]
      cases hgr : grn l g p <;> simp [sgc, ht, hgr, woc]
  · rw [List.getElem?_eq_none (by rw [wo, List.length_map, sg_len]; omega), List.getElem?_eq_none (by omega)]

theorem sg_inj {l m : List UInt8} (hl : LnOk l) (hm : LnOk m) {g : Nat} (e : sg l g = sg m g) : l = m := by
  rw [← wo_sg hl g, e, wo_sg hm g]

theorem sgc_green {l : List UInt8} {g i : Nat} : (sgc l g i == 103) = mvs l g i := by
  cases ht : tr l i <;> cases hgr : grn l g i <;> simp [sgc, mvs, ht, hgr]

theorem sgc_red {l : List UInt8} {g i : Nat} : (sgc l g i == 114) = (tr l i && !grn l g i) := by
  cases ht : tr l i <;> cases hgr : grn l g i <;> simp [sgc, ht, hgr]

theorem sgc_mem {l : List UInt8} {g i : Nat} : sgc l g i = 46 ∨ sgc l g i = 103 ∨ sgc l g i = 114 := by
  cases ht : tr l i <;> cases hgr : grn l g i <;> simp [sgc, ht, hgr]

/-- How many trains move in the next tick. -/
def mvN (l : List UInt8) (g : Nat) : Nat := (List.range l.length).countP (mvs l g)

theorem cnt_map (c : UInt8) (f : Nat → UInt8) (r : List Nat) : cnt c (r.map f) = r.countP fun i => f i == c := by
  rw [cnt, List.count, List.countP_map]
  rfl

theorem cnt_green (l : List UInt8) (g : Nat) : cnt 103 (sg l g) = mvN l g := by
  rw [sg, cnt_map, mvN]
  congr 1
  funext i
  exact sgc_green

theorem cnt_sum (l : List UInt8) (g : Nat) : cnt 103 (sg l g) + cnt 114 (sg l g) = cnt 84 l := by
  have h84 : cnt 84 l = (List.range l.length).countP (tr l) := by
    have : l = (List.range l.length).map fun i => l.getD i 46 := by
      refine List.ext_getElem? fun p => ?_
      by_cases h : p < l.length
      · rw [getD_at h]; simp [h]
      · rw [List.getElem?_eq_none (by omega), List.getElem?_eq_none (by simp; omega)]
    conv => lhs; rw [this]
    rw [cnt_map]
    rfl
  rw [h84, sg, cnt_map, cnt_map]
  generalize List.range l.length = r
  induction r with
  | nil => rfl
  | cons i r ih =>
    simp only [List.countP_cons, sgc_green, sgc_red] at ih ⊢
    cases ht : tr l i <;> cases hgr : grn l g i <;> simp [mvs, ht, hgr] <;> simp [mvs] at ih <;> omega

theorem mvN_le (l : List UInt8) (g : Nat) : mvN l g ≤ l.length := by
  have := List.countP_le_length (p := mvs l g) (l := List.range l.length)
  simpa [mvN] using this

/-- The line behind k ticks, and the moves in them. -/
def orb (l : List UInt8) (g : Nat) : Nat → List UInt8
  | 0 => l
  | k + 1 => tk (orb l g k) g

theorem orb_ok {l : List UInt8} (h : LnOk l) (g : Nat) : ∀ k, LnOk (orb l g k)
  | 0 => h
  | k + 1 => (orb_ok h g k).tk g

theorem orb_len (l : List UInt8) (g : Nat) : ∀ k, (orb l g k).length = l.length
  | 0 => rfl
  | k + 1 => by rw [orb, tk_len, orb_len l g k]

theorem orb_cnt {l : List UInt8} {g : Nat} (h : LnOk l) (hg : 1 ≤ g) : ∀ k, cnt 84 (orb l g k) = cnt 84 l
  | 0 => rfl
  | k + 1 => by rw [orb, cnt_tk (orb_ok h g k) hg, orb_cnt h hg k]

def mvT (l : List UInt8) (g : Nat) : Nat → Nat
  | 0 => 0
  | k + 1 => mvT l g k + mvN (orb l g k) g

theorem mvT_le {l : List UInt8} (h : LnOk l) (g : Nat) : ∀ k, mvT l g k ≤ 24 * k
  | 0 => Nat.le_refl _
  | k + 1 => by
    have a := mvT_le h g k
    have b := mvN_le (orb l g k) g
    have c := (orb_ok h g k).n24
    rw [mvT]
    omega

theorem orb_shift (l : List UInt8) (g : Nat) : ∀ k, orb (tk l g) g k = orb l g (k + 1)
  | 0 => rfl
  | k + 1 => by rw [orb, orb_shift l g k]; rfl

theorem mvT_mono (l : List UInt8) (g : Nat) {i : Nat} : ∀ {k : Nat}, i ≤ k → mvT l g i ≤ mvT l g k
  | 0, h => by rw [Nat.le_zero.1 h]; exact Nat.le_refl _
  | k + 1, h => by
    by_cases e : i = k + 1
    · rw [e]; exact Nat.le_refl _
    · exact Nat.le_trans (mvT_mono l g (k := k) (by omega)) (Nat.le_add_right _ _)

/-- Waits. -/
def wtT (l : List UInt8) (g : Nat) : Nat → Nat
  | 0 => 0
  | k + 1 => wtT l g k + cnt 114 (sg (orb l g k) g)

theorem wtT_eq {l : List UInt8} {g : Nat} (h : LnOk l) (hg : 1 ≤ g) : ∀ k, wtT l g k + mvT l g k = cnt 84 l * k
  | 0 => by simp [wtT, mvT]
  | k + 1 => by
    have a := wtT_eq h hg k
    have b := cnt_sum (orb l g k) g
    rw [orb_cnt h hg, cnt_green] at b
    rw [wtT, mvT, Nat.mul_add, Nat.mul_one]
    omega

/-- Lines come again. -/
def nuL (l : List UInt8) : Nat := Yd.bits (l.map fun c => if c = 84 then 1 else 0) 0

theorem nuL_lt {l : List UInt8} (h : LnOk l) : nuL l < 16777216 := by
  have := Yd.bits_lt (l.map fun c => if c = 84 then (1 : Int) else 0) 0 1 (fun s hs => by
    obtain ⟨c, _, rfl⟩ := List.mem_map.1 hs
    split <;> omega) (by omega)
  rw [List.length_map, Nat.one_mul] at this
  exact Nat.lt_of_lt_of_le this (Nat.pow_le_pow_right (n := 2) (by decide) h.n24)

theorem nuL_inj {l m : List UInt8} (h : LnOk l) (h' : LnOk m) (hl : l.length = m.length) (e : nuL l = nuL m) : l = m := by
  have := (Yd.bits_inj (l.map fun c => if c = 84 then (1 : Int) else 0) (m.map fun c => if c = 84 then (1 : Int) else 0) 0 0 (by simpa using hl) (fun s hs => by
    obtain ⟨c, _, rfl⟩ := List.mem_map.1 hs
    split <;> omega) (fun s hs => by
    obtain ⟨c, _, rfl⟩ := List.mem_map.1 hs
    split <;> omega) e).2
  refine List.ext_getElem? fun p => ?_
  have hp := congrArg (fun z => z[p]?) this
  simp only [List.getElem?_map] at hp
  cases ha : l[p]? with
  | none =>
    rw [List.getElem?_eq_none_iff] at ha
    rw [List.getElem?_eq_none (by omega)]
  | some a =>
    cases hb : m[p]? with
    | none =>
      rw [List.getElem?_eq_none_iff] at hb
      have := (List.getElem?_eq_some_iff.1 ha).1
      omega
    | some b =>
      rw [ha, hb] at hp
      rcases h.tt p a ha with rfl | rfl <;> rcases h'.tt p b hb with rfl | rfl <;> simp at hp ⊢

def IsPer (l : List UInt8) (g p q : Nat) : Prop := q < p ∧ p ≤ 16777216 ∧ orb l g q = orb l g p ∧ ∀ i j, i < j → j < p → orb l g i ≠ orb l g j

theorem per_ex {l : List UInt8} (h : LnOk l) (g : Nat) : ∃ p q, IsPer l g p q := by
  obtain ⟨p, q, h1, h2, h3, h4⟩ := Yd.first_again (f := fun i => nuL (orb l g i)) fun i => nuL_lt (orb_ok h g i)
  exact ⟨p, q, h1, h2, nuL_inj (orb_ok h g q) (orb_ok h g p) (by rw [orb_len, orb_len]) h3, fun i j hij hj e => h4 i j hij hj (by rw [e])⟩

theorem IsPer.new {l : List UInt8} {g p q k : Nat} (h : IsPer l g p q) (hk : k < p) : ∀ i, i < k → ¬ orb l g i = orb l g k := fun i hi => h.2.2.2 i k hi hk

theorem IsPer.old {l : List UInt8} {g p q : Nat} (h : IsPer l g p q) : ∀ i, i < p → orb l g i = orb l g p → i = q := fun i hi e => by
  rw [← h.2.2.1] at e
  refine Classical.byContradiction fun hn => ?_
  rcases Nat.lt_or_ge i q with hlt | hge
  · exact h.2.2.2 i q hlt h.1 e
  · exact h.2.2.2 q i (by omega) hi e.symm

theorem IsPer.uniq {l : List UInt8} {g p q p' q' : Nat} (h : IsPer l g p q) (h' : IsPer l g p' q') : p = p' ∧ q = q' := by
  have e : p = p' := by
    rcases Nat.lt_trichotomy p p' with hlt | e | hgt
    · exact absurd h.2.2.1 (h'.2.2.2 q p h.1 hlt)
    · exact e
    · exact absurd h'.2.2.1 (h.2.2.2 q' p' h'.1 hgt)
  subst e
  exact ⟨rfl, h'.old q h.1 h.2.2.1⟩

theorem orb_add (l : List UInt8) (g a b : Nat) : orb l g (a + b) = orb (orb l g a) g b := by
  induction b with
  | zero => rfl
  | succ b ih => rw [← Nat.add_assoc, orb, ih]; rfl

/-- Behind which tick of the first p the line is the one behind t. -/
def rdT (p q t : Nat) : Nat := if q ≤ t then q + (t - q) % (p - q) else t

theorem rdT_lt {l : List UInt8} {g p q : Nat} (h : IsPer l g p q) (t : Nat) : rdT p q t < p := by
  unfold rdT
  have := h.1
  split
  · have := Nat.mod_lt (t - q) (show 0 < p - q by omega)
    omega
  · omega

theorem orb_rd {l : List UInt8} {g p q : Nat} (h : IsPer l g p q) (t : Nat) : orb l g (rdT p q t) = orb l g t := by
  unfold rdT
  split
  · rename_i hqt
    have key : ∀ m r, orb l g (q + (m * (p - q) + r)) = orb l g (q + r) := by
      intro m
      induction m with
      | zero => intro r; simp
      | succ m ih =>
        intro r
        rw [Nat.add_mul, Nat.one_mul]
        have e : q + (m * (p - q) + (p - q) + r) = p + (m * (p - q) + r) := by have := h.1; omega
        rw [e, orb_add, ← h.2.2.1, ← orb_add, ih]
    have := key ((t - q) / (p - q)) ((t - q) % (p - q))
    rw [Nat.mul_comm, Nat.div_add_mod] at this
    rw [← this]
    congr 1
    omega
  · rfl

/-- All signals are green. -/
def fre (l : List UInt8) (g : Nat) : Bool := (List.range l.length).all fun i => !(tr l i && !grn l g i)

theorem fre_iff (l : List UInt8) (g : Nat) : fre l g = true ↔ cnt 114 (sg l g) = 0 := by
  rw [sg, cnt_map, List.countP_eq_zero]
  simp only [fre, List.all_eq_true, sgc_red, Bool.not_eq_true', Bool.not_eq_true]

end Go.Proofs.YtdafomfpchlhpaaDoor.Ln
