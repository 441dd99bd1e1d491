/- Yards and runs on them, as plain lists of numbers: steps, numbers of runs, runs that no step makes, runs of which a step makes another, runs that come again. -/
import Derived.Test.YtdafomfpchlhpaaDoorBa
namespace Go.Proofs.YtdafomfpchlhpaaDoor.Yd

set_option linter.unusedVariables false
def inRng (n lo hi : Int) : Bool := decide (lo ≤ n ∧ n ≤ hi)

def kdB (ks : List Int) : Bool := ks.all fun k => decide (0 ≤ k ∧ k ≤ 2)

def rlB (rs : List Int) : Bool := rs.all fun j => decide (0 ≤ j ∧ j ≤ (rs.length : Int) - 1)

def jnB (rs : List Int) : Bool := (List.range rs.length).all fun i => decide (rs.getD i 0 ≠ (i : Int) ∧ rs.getD (rs.getD i 0).toNat 0 = (i : Int))

def ydB (ks rs : List Int) : Bool := decide (1 ≤ ks.length ∧ ks.length ≤ 6 ∧ rs.length = 3 * ks.length) && kdB ks && rlB rs && jnB rs

structure YdOk (ks rs : List Int) : Prop where
  n1 : 1 ≤ ks.length
  n6 : ks.length ≤ 6
  nr : rs.length = 3 * ks.length
  kd : ∀ (i : Nat) k, ks[i]? = some k → 0 ≤ k ∧ k ≤ 2
  rl : ∀ (i : Nat) j, rs[i]? = some j → 0 ≤ j ∧ j < 3 * (ks.length : Int)
  ne : ∀ (i : Nat) j, rs[i]? = some j → j ≠ (i : Int)
  bk : ∀ (i : Nat) j, rs[i]? = some j → rs[j.toNat]? = some (i : Int)

theorem kdB_iff (ks : List Int) : kdB ks = true ↔ ∀ (i : Nat) k, ks[i]? = some k → 0 ≤ k ∧ k ≤ 2 := by
  simp only [kdB, List.all_eq_true, decide_eq_true_eq]
  constructor
  · intro h i k hk; exact h k (List.mem_of_getElem? hk)
  · intro h k hk; obtain ⟨i, hi⟩ := List.getElem?_of_mem hk; exact h i k hi

theorem rlB_iff (rs : List Int) : rlB rs = true ↔ ∀ (i : Nat) j, rs[i]? = some j → 0 ≤ j ∧ j ≤ (rs.length : Int) - 1 := by
  simp only [rlB, List.all_eq_true, decide_eq_true_eq]
  constructor
  · intro h i k hk; exact h k (List.mem_of_getElem? hk)
  · intro h k hk; obtain ⟨i, hi⟩ := List.getElem?_of_mem hk; exact h i k hi

theorem jnB_iff (rs : List Int) : jnB rs = true ↔ ∀ (i : Nat) j, rs[i]? = some j → j ≠ (i : Int) ∧ rs.getD j.toNat 0 = (i : Int) := by
  simp only [jnB, List.all_eq_true, decide_eq_true_eq, List.mem_range]
  constructor
  · intro h i k hk
    have hi : i < rs.length := (List.getElem?_eq_some_iff.1 hk).1
    have := h i hi
    rw [List.getD, hk] at this
    simpa using this
  · intro h i hi
    have := h i _ (List.getElem?_eq_getElem hi)
    rw [List.getD, List.getElem?_eq_getElem hi]
    simpa using this

theorem good_iff (ks rs : List Int) : ydB ks rs = true ↔ YdOk ks rs := by
  simp only [ydB, Bool.and_eq_true, decide_eq_true_eq, kdB_iff, rlB_iff, jnB_iff]
  constructor
  · rintro ⟨⟨⟨⟨h1, h2, h3⟩, h4⟩, h5⟩, h6⟩
    refine ⟨h1, h2, h3, h4, fun i j hj => ?_, fun i j hj => (h6 i j hj).1, fun i j hj => ?_⟩
    · have := h5 i j hj; omega
    · have a := h5 i j hj
      have b := (h6 i j hj).2
      have hlt : j.toNat < rs.length := by omega
      rw [List.getD, List.getElem?_eq_getElem hlt] at b
      rw [List.getElem?_eq_getElem hlt]
      simpa using b
  · intro h
    refine ⟨⟨⟨⟨h.n1, h.n6, h.nr⟩, h.kd⟩, fun i j hj => ?_⟩, fun i j hj => ⟨h.ne i j hj, ?_⟩⟩
    · have := h.rl i j hj; have := h.nr; omega
    · rw [List.getD, h.bk i j hj]; rfl

/-- A run: an end and the states. -/
def stB (ss : List Int) : Bool := ss.all fun s => decide (0 ≤ s ∧ s ≤ 1)

def rnB (ks rs : List Int) (a : Int) (ss : List Int) : Bool := ydB ks rs && decide (0 ≤ a ∧ a ≤ (rs.length : Int) - 1) && decide (ss.length = ks.length) && stB ss

theorem stB_iff (ss : List Int) : stB ss = true ↔ ∀ (i : Nat) s, ss[i]? = some s → 0 ≤ s ∧ s ≤ 1 := by
  simp only [stB, List.all_eq_true, decide_eq_true_eq]
  constructor
  · intro h i k hk; exact h k (List.mem_of_getElem? hk)
  · intro h k hk; obtain ⟨i, hi⟩ := List.getElem?_of_mem hk; exact h i k hi

structure RnOk (ks : List Int) (a : Nat) (ss : List Int) : Prop where
  at' : a < 3 * ks.length
  len : ss.length = ks.length
  st : ∀ (i : Nat) s, ss[i]? = some s → 0 ≤ s ∧ s ≤ 1

theorem run_iff (ks rs : List Int) (a : Int) (ss : List Int) : rnB ks rs a ss = true ↔ YdOk ks rs ∧ ∃ n : Nat, a = (n : Int) ∧ RnOk ks n ss := by
  simp only [rnB, Bool.and_eq_true, decide_eq_true_eq, good_iff, stB_iff]
  constructor
  · rintro ⟨⟨⟨h1, h2⟩, h3⟩, h4⟩
    have := h1.nr
    exact ⟨h1, a.toNat, by omega, by omega, h3, h4⟩
  · rintro ⟨h, n, rfl, h1, h2, h3⟩
    have := h.nr
    exact ⟨⟨⟨h, by omega⟩, h2⟩, h3⟩

/-- The end behind a step, and the states behind it. -/
def sOut (a : Nat) (ss : List Int) : Nat := if a % 3 = 0 then 3 * (a / 3) + 1 + (ss.getD (a / 3) 0).toNat else 3 * (a / 3)

def stA (rs : List Int) (a : Nat) (ss : List Int) : Nat := (rs.getD (sOut a ss) 0).toNat

def stV (kd : Int) (a : Nat) (s : Int) : Int := if a % 3 = 0 then (if kd = 2 then 1 - s else s) else (if kd = 0 then ((a % 3 : Nat) : Int) - 1 else s)

def stS (ks : List Int) (a : Nat) (ss : List Int) : List Int := ss.set (a / 3) (stV (ks.getD (a / 3) 0) a (ss.getD (a / 3) 0))

theorem RnOk.get {ks : List Int} {a : Nat} {ss : List Int} (h : RnOk ks a ss) : ∃ s, ss[a / 3]? = some s ∧ 0 ≤ s ∧ s ≤ 1 := by
  have hl : a / 3 < ss.length := by have := h.at'; have := h.len; omega
  exact ⟨ss[a / 3], List.getElem?_eq_getElem hl, h.st _ _ (List.getElem?_eq_getElem hl)⟩

theorem RnOk.kind {ks rs : List Int} {a : Nat} {ss : List Int} (h : RnOk ks a ss) (hg : YdOk ks rs) : ∃ k, ks[a / 3]? = some k ∧ 0 ≤ k ∧ k ≤ 2 := by
  have hl : a / 3 < ks.length := by have := h.at'; omega
  exact ⟨ks[a / 3], List.getElem?_eq_getElem hl, hg.kd _ _ (List.getElem?_eq_getElem hl)⟩

theorem RnOk.out_lt {ks : List Int} {a : Nat} {ss : List Int} (h : RnOk ks a ss) : sOut a ss < 3 * ks.length := by
  obtain ⟨s, hs, h0, h1⟩ := h.get
  have := h.at'
  unfold sOut
  rw [List.getD, hs]
  simp only [Option.getD_some]
  split <;> omega

theorem RnOk.rail {ks rs : List Int} {a : Nat} {ss : List Int} (h : RnOk ks a ss) (hg : YdOk ks rs) : rs[sOut a ss]? = some ((stA rs a ss : Nat) : Int) ∧ stA rs a ss < 3 * ks.length := by
  have hl := h.out_lt
  rw [← hg.nr] at hl
  have := hg.rl _ _ (List.getElem?_eq_getElem hl)
  have e : stA rs a ss = (rs[sOut a ss]'hl).toNat := by rw [stA, List.getD, List.getElem?_eq_getElem hl]; rfl
  rw [e, List.getElem?_eq_getElem hl]
  exact ⟨by congr 1; omega, by omega⟩

theorem stV_in {kd : Int} {a : Nat} {s : Int} (h0 : 0 ≤ s) (h1 : s ≤ 1) : 0 ≤ stV kd a s ∧ stV kd a s ≤ 1 := by
  unfold stV
  split
  · split <;> omega
  · split <;> omega

theorem RnOk.step {ks rs : List Int} {a : Nat} {ss : List Int} (h : RnOk ks a ss) (hg : YdOk ks rs) : RnOk ks (stA rs a ss) (stS ks a ss) := by
  refine ⟨(h.rail hg).2, by rw [stS, List.length_set]; exact h.len, fun i s hs => ?_⟩
  rw [stS, List.getElem?_set] at hs
  obtain ⟨s', hs', h0, h1⟩ := h.get
  split at hs
  · split at hs
    · injection hs with hs
      have e : ss.getD (a / 3) 0 = s' := by rw [List.getD, hs']; rfl
      rw [← hs, e]
      exact stV_in h0 h1
    · cases hs
  · exact h.st _ _ hs

/-- n steps. -/
def orb (ks rs : List Int) (a : Nat) (ss : List Int) : Nat → Nat × List Int
  | 0 => (a, ss)
  | n + 1 => (stA rs (orb ks rs a ss n).1 (orb ks rs a ss n).2, stS ks (orb ks rs a ss n).1 (orb ks rs a ss n).2)

theorem orb_run {ks rs : List Int} {a : Nat} {ss : List Int} (h : RnOk ks a ss) (hg : YdOk ks rs) : ∀ n, RnOk ks (orb ks rs a ss n).1 (orb ks rs a ss n).2
  | 0 => h
  | n + 1 => (orb_run h hg n).step hg

/-- The number of a run. -/
def bits : List Int → Nat → Nat
  | [], n => n
  | s :: l, n => bits l (2 * n + s.toNat)

def num (x : Nat × List Int) : Nat := bits x.2 x.1

theorem bits_div : ∀ (l : List Int) (n : Nat), (∀ s ∈ l, 0 ≤ s ∧ s ≤ 1) → bits l n / 2 ^ l.length = n
  | [], n, _ => by simp [bits]
  | s :: l, n, h => by
    have h1 := h s (by simp)
    rw [bits, List.length_cons, Nat.pow_succ, ← Nat.div_div_eq_div_mul, bits_div l _ (fun s hs => h s (by simp [hs]))]
    omega

theorem bits_inj : ∀ (l l' : List Int) (n n' : Nat), l.length = l'.length → (∀ s ∈ l, 0 ≤ s ∧ s ≤ 1) → (∀ s ∈ l', 0 ≤ s ∧ s ≤ 1) → bits l n = bits l' n' → n = n' ∧ l = l'
  | [], [], n, n', _, _, _, h => ⟨h, rfl⟩
  | s :: l, s' :: l', n, n', hl, h, h', e => by
    obtain ⟨e1, rfl⟩ := bits_inj l l' _ _ (by simpa using hl) (fun x hx => h x (by simp [hx])) (fun x hx => h' x (by simp [hx])) e
    have a := h s (by simp)
    have b := h' s' (by simp)
    exact ⟨by omega, by congr 1; omega⟩
  | [], _ :: _, _, _, hl, _, _, _ => by simp at hl
  | _ :: _, [], _, _, hl, _, _, _ => by simp at hl

theorem bits_lt : ∀ (l : List Int) (n m : Nat), (∀ s ∈ l, 0 ≤ s ∧ s ≤ 1) → n < m → bits l n < m * 2 ^ l.length
  | [], n, m, _, h => by simpa [bits] using h
  | s :: l, n, m, h, hn => by
    have h1 := h s (by simp)
    have := bits_lt l (2 * n + s.toNat) (2 * m) (fun s hs => h s (by simp [hs])) (by omega)
    rw [bits, List.length_cons, Nat.pow_succ]
    calc _ < 2 * m * 2 ^ l.length := this
      _ = m * (2 ^ l.length * 2) := by rw [Nat.mul_comm 2 m, Nat.mul_assoc, Nat.mul_comm 2]

theorem RnOk.mem {ks : List Int} {a : Nat} {ss : List Int} (h : RnOk ks a ss) : ∀ s ∈ ss, 0 ≤ s ∧ s ≤ 1 := fun s hs => by
  obtain ⟨i, hi⟩ := List.getElem?_of_mem hs
  exact h.st i s hi

theorem num_inj {ks : List Int} {a b : Nat} {ss tt : List Int} (h : RnOk ks a ss) (h' : RnOk ks b tt) (e : num (a, ss) = num (b, tt)) : a = b ∧ ss = tt :=
  bits_inj ss tt a b (by rw [h.len, h'.len]) h.mem h'.mem e

theorem num_lt {ks : List Int} {a : Nat} {ss : List Int} (h : RnOk ks a ss) : num (a, ss) < 3 * ks.length * 2 ^ ks.length := by
  have := bits_lt ss a (3 * ks.length) h.mem h.at'
  rwa [h.len] at this

/-- Pigeons: numbers below N, no two of them alike, are at most N. -/
theorem pigeon : ∀ (N : Nat) (l : List Nat), l.Nodup → (∀ x ∈ l, x < N) → l.length ≤ N
  | 0, l, _, h => by
    cases l with
    | nil => simp
    | cons x l => exact absurd (h x (by simp)) (by omega)
  | N + 1, l, hd, h => by
    have h1 := pigeon N (l.erase N) (hd.erase N) (fun x hx => by
      have := (hd.mem_erase_iff.1 hx)
      have := h x this.2
      omega)
    have h2 := List.length_erase (a := N) (l := l)
    split at h2 <;> omega

theorem range_map_nodup {f : Nat → Nat} {n : Nat} (h : ∀ i j, i < j → j < n → f i ≠ f j) : ((List.range n).map f).Nodup := by
  rw [List.Nodup, List.pairwise_map]
  refine List.Pairwise.imp_of_mem ?_ List.pairwise_lt_range
  intro i j hi hj hij
  rw [List.mem_range] at hj
  exact h i j hij hj

/-- Runs come again. -/
theorem again {f : Nat → Nat} {N : Nat} (h : ∀ i, f i < N) : ∃ j, j ≤ N ∧ ∃ i, i < j ∧ f i = f j := by
  refine Classical.byContradiction fun hn => ?_
  have := pigeon N ((List.range (N + 1)).map f) (range_map_nodup fun i j hij hj e => hn ⟨j, by omega, i, hij, e⟩) (fun x hx => by
    obtain ⟨i, _, rfl⟩ := List.mem_map.1 hx
    exact h i)
  simp at this
  omega

theorem getD_of {l : List Int} {i : Nat} {x : Int} (h : l[i]? = some x) : l.getD i 0 = x := by rw [List.getD, h]; rfl

theorem set_self {l : List Int} {i : Nat} {x : Int} (h : l[i]? = some x) : l.set i x = l := by
  refine List.ext_getElem? fun j => ?_
  rw [List.getElem?_set]
  split
  · rename_i e; subst e
    split
    · exact h.symm
    · rename_i hn; rw [List.getElem?_eq_none (by omega)]
  · rfl

theorem set_set (l : List Int) (i : Nat) (x y : Int) : (l.set i x).set i y = l.set i y := by simp

theorem get_set {l : List Int} {i : Nat} (x : Int) (h : i < l.length) : (l.set i x)[i]? = some x := by simp [h]

theorem RnOk.set {ks : List Int} {a b k : Nat} {ss : List Int} (h : RnOk ks a ss) (hb : b < 3 * ks.length) {x : Int} (h0 : 0 ≤ x) (h1 : x ≤ 1) : RnOk ks b (ss.set k x) :=
  ⟨hb, by rw [List.length_set]; exact h.len, fun i s hs => by
    rw [List.getElem?_set] at hs
    split at hs
    · split at hs
      · injection hs with hs; omega
      · cases hs
    · exact h.st _ _ hs⟩

/-- Where a run comes from: the switch that the train has left. -/
theorem back_at {ks rs : List Int} {a b : Nat} {ss tt : List Int} (hg : YdOk ks rs) (h : RnOk ks a ss) (ha : stA rs a ss = b) (hs : stS ks a ss = tt) :
    rs.getD b 0 = (sOut a ss : Nat) ∧ sOut a ss / 3 = a / 3 ∧ ss = tt.set (a / 3) (ss.getD (a / 3) 0) := by
  obtain ⟨s, e1, h0, h1⟩ := h.get
  have hr := (h.rail hg).1
  rw [ha] at hr
  have hk := hg.bk _ _ hr
  rw [Int.toNat_natCast] at hk
  refine ⟨getD_of hk, ?_, ?_⟩
  · unfold sOut
    rw [getD_of e1]
    split <;> omega
  · rw [← hs, stS, set_set, getD_of e1, set_self e1]

/-- Is a run made by a step? -/
def mdB (ks rs : List Int) (b : Nat) (tt : List Int) : Bool :=
  let e := (rs.getD b 0).toNat
  decide (e % 3 = 0) || decide (tt.getD (e / 3) 0 = (if ks.getD (e / 3) 0 = 2 then 2 - ((e % 3 : Nat) : Int) else ((e % 3 : Nat) : Int) - 1))

theorem made_iff {ks rs : List Int} {b : Nat} {tt : List Int} (hg : YdOk ks rs) (hb : RnOk ks b tt) :
    mdB ks rs b tt = true ↔ ∃ a ss, RnOk ks a ss ∧ stA rs a ss = b ∧ stS ks a ss = tt := by
  have hbl : b < rs.length := by rw [hg.nr]; exact hb.at'
  obtain ⟨e, he⟩ : ∃ e : Nat, rs[b]? = some (e : Int) := by
    have h0 := List.getElem?_eq_getElem hbl
    have := hg.rl _ _ h0
    exact ⟨(rs[b]).toNat, by rw [h0]; congr 1; omega⟩
  have hel : e < 3 * ks.length := by have := hg.rl _ _ he; omega
  have hbk : rs[e]? = some (b : Int) := by simpa using hg.bk _ _ he
  have hkl : e / 3 < ks.length := by omega
  have hk0 := List.getElem?_eq_getElem hkl
  have hkd := hg.kd _ _ hk0
  generalize ks[e / 3] = kd at hk0 hkd
  have htl : e / 3 < tt.length := by rw [hb.len]; exact hkl
  have ht0 := List.getElem?_eq_getElem htl
  have htd := hb.st _ _ ht0
  generalize tt[e / 3] = t at ht0 htd
  simp only [mdB, getD_of he, Int.toNat_natCast, getD_of hk0, getD_of ht0, Bool.or_eq_true, decide_eq_true_eq]
  constructor
  · intro h
    by_cases h3 : e % 3 = 0
    · -- over the stem
      by_cases hz : kd = 0
      · have q1 : (3 * (e / 3) + 1 + t.toNat) / 3 = e / 3 := by omega
        have q2 : (3 * (e / 3) + 1 + t.toNat) % 3 = 1 + t.toNat := by omega
        refine ⟨3 * (e / 3) + 1 + t.toNat, tt, ⟨by omega, hb.len, hb.st⟩, ?_, ?_⟩
        · rw [stA, sOut, q1, q2, if_neg (by omega), show 3 * (e / 3) = e by omega, getD_of hbk]; rfl
        · rw [stS, q1, stV, q2, if_neg (by omega), getD_of hk0, if_pos hz]
          exact set_self (by rw [ht0]; congr 1; omega)
      · have q1 : (3 * (e / 3) + 1) / 3 = e / 3 := by omega
        have q2 : (3 * (e / 3) + 1) % 3 = 1 := by omega
        refine ⟨3 * (e / 3) + 1, tt, ⟨by omega, hb.len, hb.st⟩, ?_, ?_⟩
        · rw [stA, sOut, q1, q2, if_neg (by omega), show 3 * (e / 3) = e by omega, getD_of hbk]; rfl
        · rw [stS, q1, stV, q2, if_neg (by omega), getD_of hk0, if_neg hz, getD_of ht0]
          exact set_self ht0
    · have ht : t = if kd = 2 then 2 - ((e % 3 : Nat) : Int) else ((e % 3 : Nat) : Int) - 1 := by
        rcases h with h | h
        · exact absurd h h3
        · exact h
      have q1 : (3 * (e / 3)) / 3 = e / 3 := by omega
      have q2 : (3 * (e / 3)) % 3 = 0 := by omega
      have hg0 := get_set (l := tt) (i := e / 3) (((e % 3 : Nat) : Int) - 1) htl
      refine ⟨3 * (e / 3), tt.set (e / 3) (((e % 3 : Nat) : Int) - 1), hb.set (by omega) (by omega) (by omega), ?_, ?_⟩
      · rw [stA, sOut, q1, q2, if_pos rfl, getD_of hg0, show 3 * (e / 3) + 1 + ((((e % 3 : Nat) : Int) - 1)).toNat = e by omega, getD_of hbk]; rfl
      · rw [stS, q1, set_set, getD_of hg0, stV, q2, if_pos rfl, getD_of hk0]
        refine set_self ?_
        rw [ht0, ht]
        split <;> congr 1 <;> omega
  · rintro ⟨a, ss, h, ha, hs⟩
    obtain ⟨e1, e2, e3⟩ := back_at hg h ha hs
    rw [getD_of he] at e1
    have e1' : e = sOut a ss := by omega
    obtain ⟨s, hs1, h0, h1⟩ := h.get
    have hsl : a / 3 < ss.length := (List.getElem?_eq_some_iff.1 hs1).1
    have e4 : a / 3 = e / 3 := by rw [e1', e2]
    by_cases h3 : a % 3 = 0
    · right
      have e5 : e = 3 * (a / 3) + 1 + s.toNat := by rw [e1', sOut, if_pos h3, getD_of hs1]
      have e6 : t = stV kd a s := by
        have := get_set (stV (ks.getD (a / 3) 0) a (ss.getD (a / 3) 0)) hsl
        rw [← stS, hs, e4, ht0, getD_of hk0, ← e4, getD_of hs1] at this
        exact Option.some.inj this
      rw [e6, stV, if_pos h3]
      split <;> omega
    · left
      rw [e1', sOut, if_neg h3]
      omega

/-- The states that a number stands for. -/
def bo : Nat → Nat → List Int
  | 0, _ => []
  | n + 1, s => ((s / 2 ^ n % 2 : Nat) : Int) :: bo n s

theorem bo_len : ∀ n s, (bo n s).length = n
  | 0, _ => rfl
  | n + 1, s => by rw [bo, List.length_cons, bo_len]

theorem bo_mem : ∀ (n s : Nat) x, x ∈ bo n s → 0 ≤ x ∧ x ≤ 1
  | 0, _, x, h => by simp [bo] at h
  | n + 1, s, x, h => by
    rw [bo, List.mem_cons] at h
    rcases h with rfl | h
    · omega
    · exact bo_mem n s x h

theorem bits_bo : ∀ (n s a : Nat), bits (bo n s) a = a * 2 ^ n + s % 2 ^ n
  | 0, s, a => by simp [bo, bits, Nat.mod_one]
  | n + 1, s, a => by
    rw [bo, bits, bits_bo n s, Int.toNat_natCast, Nat.pow_succ, Nat.mod_mul]
    generalize 2 ^ n = p
    generalize s / p % 2 = q
    rw [Nat.add_mul, Nat.mul_comm 2 a, Nat.mul_assoc, Nat.mul_comm 2 p, Nat.mul_comm q p]
    omega

theorem bo_run {ks : List Int} {b : Nat} (s : Nat) (hb : b < 3 * ks.length) : RnOk ks b (bo ks.length s) :=
  ⟨hb, bo_len _ _, fun i x hx => bo_mem _ _ _ (List.mem_of_getElem? hx)⟩

theorem num_bo {n b s : Nat} (hs : s < 2 ^ n) : num (b, bo n s) = b * 2 ^ n + s := by
  show bits (bo n s) b = _
  rw [bits_bo, Nat.mod_eq_of_lt hs]

/-- .. and the run. -/
def dc (n m : Nat) : Nat × List Int := (m / 2 ^ n, bo n (m % 2 ^ n))

theorem num_dc (n m : Nat) : num (dc n m) = m := by
  rw [dc, num_bo (Nat.mod_lt _ (Nat.two_pow_pos n)), Nat.mul_comm]
  exact Nat.div_add_mod m (2 ^ n)

theorem dc_run {ks : List Int} {m : Nat} (h : m < 3 * ks.length * 2 ^ ks.length) : RnOk ks (dc ks.length m).1 (dc ks.length m).2 :=
  bo_run _ (Nat.div_lt_of_lt_mul (by rwa [Nat.mul_comm]))

theorem dc_num {ks : List Int} {a : Nat} {ss : List Int} (h : RnOk ks a ss) : dc ks.length (num (a, ss)) = (a, ss) := by
  have h1 := dc_run (num_lt h)
  obtain ⟨e1, e2⟩ := num_inj h1 h (num_dc _ _)
  exact Prod.ext e1 e2

def stepN (ks rs : List Int) (x : Nat × List Int) : Nat × List Int := (stA rs x.1 x.2, stS ks x.1 x.2)

/-- How many runs no step makes, and that these are a third. -/
def unN (ks rs : List Int) : Nat := (List.range (3 * ks.length * 2 ^ ks.length)).countP fun i => !((List.range (3 * ks.length * 2 ^ ks.length)).any fun m => num (stepN ks rs (dc ks.length m)) == i)

theorem countP_mul (A B : Nat) (f : Nat → Bool) : (List.range (A * B)).countP f = ((List.range A).map fun a => (List.range B).countP fun s => f (a * B + s)).sum := by
  induction A with
  | zero => simp
  | succ A ih =>
    rw [Nat.add_mul, Nat.one_mul, List.range_add, List.countP_append, ih, List.range_succ, List.map_append, List.sum_append, List.countP_map]
    simp [Function.comp_def]

theorem sum_ite (l : List Nat) (p : Nat → Bool) (c : Nat) : (l.map fun a => if p a then 0 else c).sum = (l.countP fun a => !p a) * c := by
  induction l with
  | nil => simp
  | cons x l ih =>
    rw [List.map_cons, List.sum_cons, ih, List.countP_cons]
    cases p x <;> simp [Nat.add_mul, Nat.add_comm]

theorem half : ∀ n, n ≤ 6 → ∀ k, k < n → ∀ c : Nat, c ≤ 1 → (List.range (2 ^ n)).countP (fun s => !decide ((bo n s).getD k 0 = (c : Int))) = 2 ^ n / 2 := by
  have h : ∀ n : Fin 7, ∀ k : Fin 6, k.val < n.val → ∀ c : Fin 2, (List.range (2 ^ n.val)).countP (fun s => !decide ((bo n.val s).getD k.val 0 = (c.val : Int))) = 2 ^ n.val / 2 := by decide +kernel
  intro n hn k hk c hc
  exact h ⟨n, by omega⟩ ⟨k, by omega⟩ hk ⟨c, by omega⟩

theorem third : ∀ n, n ≤ 6 → (List.range (3 * n)).countP (fun a => !decide (a % 3 = 0)) = 2 * n := by
  intro n hn
  have h : ∀ n : Fin 7, (List.range (3 * n.val)).countP (fun a => !decide (a % 3 = 0)) = 2 * n.val := by decide +kernel
  exact h ⟨n, by omega⟩

theorem rail_perm {ks rs : List Int} (hg : YdOk ks rs) : ((List.range (3 * ks.length)).map fun b => (rs.getD b 0).toNat).Perm (List.range (3 * ks.length)) := by
  have hget : ∀ b, b < 3 * ks.length → ∃ e : Nat, rs[b]? = some (e : Int) ∧ e < 3 * ks.length ∧ rs[e]? = some (b : Int) := by
    intro b hb
    have h0 := List.getElem?_eq_getElem (l := rs) (i := b) (by rw [hg.nr]; exact hb)
    have h1 := hg.rl _ _ h0
    have h2 := hg.bk _ _ h0
    generalize rs[b]'(by rw [hg.nr]; exact hb) = j at h0 h1 h2
    exact ⟨j.toNat, by rw [h0]; congr 1; omega, by omega, h2⟩
  have hnd : ((List.range (3 * ks.length)).map fun b => (rs.getD b 0).toNat).Nodup := by
    refine range_map_nodup fun i j hij hj e => ?_
    obtain ⟨x, hx, _, hx'⟩ := hget i (by omega)
    obtain ⟨y, hy, _, hy'⟩ := hget j hj
    rw [getD_of hx, getD_of hy] at e
    have e' : x = y := by omega
    subst e'
    rw [hx'] at hy'
    injection hy' with hy'
    omega
  rw [List.perm_iff_count]
  intro a
  rw [List.Nodup.count hnd, List.Nodup.count List.nodup_range]
  congr 1
  refine propext ⟨fun h => ?_, fun h => ?_⟩
  · obtain ⟨b, hb, rfl⟩ := List.mem_map.1 h
    rw [List.mem_range] at hb
    obtain ⟨e, he, hl, _⟩ := hget b hb
    rw [getD_of he, List.mem_range]; simpa using hl
  · rw [List.mem_range] at h
    obtain ⟨e, he, hl, hb⟩ := hget a h
    exact List.mem_map.2 ⟨e, List.mem_range.2 hl, by simp only [getD_of hb]; rfl⟩

theorem unN_eq {ks rs : List Int} (hg : YdOk ks rs) : unN ks rs = ks.length * 2 ^ ks.length := by
  have h1 : unN ks rs = (List.range (3 * ks.length * 2 ^ ks.length)).countP fun i => !(mdB ks rs (dc ks.length i).1 (dc ks.length i).2) := by
    refine List.countP_congr fun i hi => ?_
    rw [List.mem_range] at hi
    simp only [Bool.not_eq_true']
    rw [← Bool.not_eq_true, ← Bool.not_eq_true, made_iff hg (dc_run hi), List.any_eq_true]
    refine not_congr ⟨?_, ?_⟩
    · rintro ⟨m, hm, e⟩
      rw [List.mem_range] at hm
      have hr := dc_run hm
      have e' : num (stepN ks rs (dc ks.length m)) = i := by simpa using e
      have hd := dc_num (hr.step hg)
      refine ⟨_, _, hr, ?_, ?_⟩
      · rw [← e']; exact (congrArg Prod.fst hd).symm
      · rw [← e']; exact (congrArg Prod.snd hd).symm
    · rintro ⟨a, ss, h, ha, hs⟩
      refine ⟨num (a, ss), List.mem_range.2 (num_lt h), ?_⟩
      rw [dc_num h]
      simp only [stepN, ha, hs, beq_iff_eq]
      exact num_dc _ _
  rw [h1, countP_mul]
  have h2 : ((List.range (3 * ks.length)).map fun a => (List.range (2 ^ ks.length)).countP fun s => !(mdB ks rs (dc ks.length (a * 2 ^ ks.length + s)).1 (dc ks.length (a * 2 ^ ks.length + s)).2)) =
      ((List.range (3 * ks.length)).map fun b => (rs.getD b 0).toNat).map fun e => if decide (e % 3 = 0) then 0 else 2 ^ ks.length / 2 := by
    rw [List.map_map]
    refine List.map_congr_left fun a ha => ?_
    rw [List.mem_range] at ha
    have hal : a < rs.length := by rw [hg.nr]; exact ha
    have h0 := List.getElem?_eq_getElem hal
    have hrl := hg.rl _ _ h0
    simp only [Function.comp_def]
    have e0 : ∀ s, s < 2 ^ ks.length → dc ks.length (a * 2 ^ ks.length + s) = (a, bo ks.length s) := fun s hs => by
      rw [← num_bo hs, dc_num (bo_run s ha)]
    have h3 : (List.range (2 ^ ks.length)).countP (fun s => !(mdB ks rs (dc ks.length (a * 2 ^ ks.length + s)).1 (dc ks.length (a * 2 ^ ks.length + s)).2)) = (List.range (2 ^ ks.length)).countP (fun s => !(mdB ks rs a (bo ks.length s))) :=
      List.countP_congr fun s hs => by rw [List.mem_range] at hs; rw [e0 s hs]
    rw [h3]
    generalize hee : (rs.getD a 0).toNat = e
    have hel : e < 3 * ks.length := by rw [getD_of h0] at hee; omega
    by_cases hz : e % 3 = 0
    · rw [if_pos (by simpa using hz), List.countP_eq_zero]
      intro s _
      simp only [mdB, hee, hz, decide_true, Bool.true_or, Bool.not_true]
      exact Bool.false_ne_true
    · rw [if_neg (by simpa using hz)]
      by_cases hk : ks.getD (e / 3) 0 = 2
      · rw [← half ks.length hg.n6 (e / 3) (by omega) (2 - e % 3) (by omega)]
        refine List.countP_congr fun s _ => ?_
        have e5 : ((2 - e % 3 : Nat) : Int) = 2 - ((e % 3 : Nat) : Int) := by omega
        simp only [mdB, hee, hk, if_true, hz, decide_false, Bool.false_or, e5]
      · rw [← half ks.length hg.n6 (e / 3) (by omega) (e % 3 - 1) (by omega)]
        refine List.countP_congr fun s _ => ?_
        have e5 : ((e % 3 - 1 : Nat) : Int) = ((e % 3 : Nat) : Int) - 1 := by omega
        simp only [mdB, hee, hk, if_false, hz, decide_false, Bool.false_or, e5]
  rw [h2, ((rail_perm hg).map _).sum_nat, sum_ite _ (fun e => decide (e % 3 = 0)), third _ hg.n6]
  have h4 : 2 ^ ks.length = 2 * (2 ^ ks.length / 2) := by
    obtain ⟨m, hm⟩ : ∃ m, ks.length = m + 1 := ⟨ks.length - 1, by have := hg.n1; omega⟩
    rw [hm, Nat.pow_succ]; omega
  generalize 2 ^ ks.length / 2 = c at *
  rw [h4, Nat.mul_assoc, Nat.mul_left_comm]

/-- Two lists that rise and have the same members are alike. -/
theorem rise_eq {α : Type} (f : α → Nat) : ∀ (l l' : List α), l.Pairwise (fun x y => f x < f y) → l'.Pairwise (fun x y => f x < f y) → (∀ x, x ∈ l ↔ x ∈ l') → l = l'
  | [], [], _, _, _ => rfl
  | [], y :: l', _, _, h => absurd ((h y).2 (by simp)) (by simp)
  | x :: l, [], _, _, h => absurd ((h x).1 (by simp)) (by simp)
  | x :: l, y :: l', h1, h2, h => by
    rw [List.pairwise_cons] at h1 h2
    have e : x = y := by
      have a := (h x).1 (by simp)
      have b := (h y).2 (by simp)
      rw [List.mem_cons] at a b
      rcases a with a | a
      · exact a
      · rcases b with b | b
        · exact b.symm
        · have := h2.1 _ a; have := h1.1 _ b; omega
    subst e
    rw [rise_eq f l l' h1.2 h2.2 fun z => ?_]
    constructor
    · intro hz
      have := (h z).1 (by simp [hz])
      rw [List.mem_cons] at this
      rcases this with rfl | h3
      · exact absurd (h1.1 _ hz) (by omega)
      · exact h3
    · intro hz
      have := (h z).2 (by simp [hz])
      rw [List.mem_cons] at this
      rcases this with rfl | h3
      · exact absurd (h2.1 _ hz) (by omega)
      · exact h3

/-- All runs, in their order; those of which a step makes one. -/
def allR (n : Nat) : List (Nat × List Int) := (List.range (3 * n * 2 ^ n)).map (dc n)

def bkL (ks rs : List Int) (b : Nat) (tt : List Int) : List (Nat × List Int) := (allR ks.length).filter fun x => num (stepN ks rs x) == num (b, tt)

/-- .. out of six. -/
def sixL (k : Nat) (tt : List Int) : List (Nat × List Int) :=
  [(3 * k, tt.set k 0), (3 * k, tt.set k 1), (3 * k + 1, tt.set k 0), (3 * k + 1, tt.set k 1), (3 * k + 2, tt.set k 0), (3 * k + 2, tt.set k 1)]

def bk6 (ks rs : List Int) (b : Nat) (tt : List Int) : List (Nat × List Int) := (sixL ((rs.getD b 0).toNat / 3) tt).filter fun x => decide (stepN ks rs x = (b, tt))

theorem mem_allR {ks : List Int} {x : Nat × List Int} : x ∈ allR ks.length ↔ RnOk ks x.1 x.2 := by
  rw [allR, List.mem_map]
  constructor
  · rintro ⟨m, hm, rfl⟩
    exact dc_run (List.mem_range.1 hm)
  · intro h
    exact ⟨num x, List.mem_range.2 (num_lt h), dc_num h⟩

theorem allR_rise (n : Nat) : (allR n).Pairwise fun x y => num x < num y := by
  rw [allR, List.pairwise_map]
  refine List.Pairwise.imp (fun h => ?_) List.pairwise_lt_range
  rw [num_dc, num_dc]; exact h

theorem bits_set : ∀ (l : List Int) (n k : Nat), k < l.length → bits (l.set k 0) n < bits (l.set k 1) n
  | [], _, k, h => by simp at h
  | s :: l, n, 0, _ => by
    have : ∀ (l : List Int) (a b : Nat), a < b → bits l a < bits l b := by
      intro l
      induction l with
      | nil => intro a b h; exact h
      | cons s l ih => intro a b h; exact ih _ _ (by omega)
    simp only [List.set_cons_zero, bits]
    exact this l _ _ (by show 2 * n + 0 < 2 * n + 1; omega)
  | s :: l, n, k + 1, h => by
    simp only [List.set_cons_succ, bits]
    exact bits_set l _ k (by simpa using h)

theorem num_lt_of {ks : List Int} {a b : Nat} {ss tt : List Int} (h : RnOk ks a ss) (h' : RnOk ks b tt) (hab : a < b) : num (a, ss) < num (b, tt) := by
  have e1 := bits_div ss a h.mem
  have e2 := bits_div tt b h'.mem
  rw [h.len] at e1
  rw [h'.len] at e2
  refine Classical.byContradiction fun hn => ?_
  have : bits tt b / 2 ^ ks.length ≤ bits ss a / 2 ^ ks.length := Nat.div_le_div_right (Nat.le_of_not_lt hn)
  omega

theorem bk_eq {ks rs : List Int} {b : Nat} {tt : List Int} (hg : YdOk ks rs) (hb : RnOk ks b tt) : bkL ks rs b tt = bk6 ks rs b tt := by
  have hbl : b < rs.length := by rw [hg.nr]; exact hb.at'
  have h0 := List.getElem?_eq_getElem hbl
  have hrl := hg.rl _ _ h0
  generalize hee : (rs.getD b 0).toNat = e
  have hel : e < 3 * ks.length := by rw [getD_of h0] at hee; omega
  have hkt : e / 3 < tt.length := by rw [hb.len]; omega
  have rok : ∀ (j : Nat) (x : Int), j < 3 → 0 ≤ x → x ≤ 1 → RnOk ks (3 * (e / 3) + j) (tt.set (e / 3) x) := fun j x hj h0 h1 => hb.set (by omega) h0 h1
  refine rise_eq num _ _ ((allR_rise _).filter _) ?_ fun x => ?_
  · rw [bk6, hee]
    refine List.Pairwise.filter _ ?_
    have l01 : ∀ j, num (3 * (e / 3) + j, tt.set (e / 3) 0) < num (3 * (e / 3) + j, tt.set (e / 3) 1) := fun j => bits_set _ _ _ hkt
    have lab : ∀ (i j : Nat) (x y : Int), i < j → j < 3 → 0 ≤ x → x ≤ 1 → 0 ≤ y → y ≤ 1 → num (3 * (e / 3) + i, tt.set (e / 3) x) < num (3 * (e / 3) + j, tt.set (e / 3) y) := fun i j x y hij hj h1 h2 h3 h4 =>
      num_lt_of (rok i x (by omega) h1 h2) (rok j y hj h3 h4) (by omega)
    have a0 := l01 0
    have a1 := l01 1
    have a2 := l01 2
    have b1 := lab 0 1 0 0 (by decide) (by decide) (by decide) (by decide) (by decide) (by decide)
    have b2 := lab 0 1 0 1 (by decide) (by decide) (by decide) (by decide) (by decide) (by decide)
    have b3 := lab 0 1 1 0 (by decide) (by decide) (by decide) (by decide) (by decide) (by decide)
    have b4 := lab 0 1 1 1 (by decide) (by decide) (by decide) (by decide) (by decide) (by decide)
    have c1 := lab 1 2 0 0 (by decide) (by decide) (by decide) (by decide) (by decide) (by decide)
    have c2 := lab 1 2 0 1 (by decide) (by decide) (by decide) (by decide) (by decide) (by decide)
    have c3 := lab 1 2 1 0 (by decide) (by decide) (by decide) (by decide) (by decide) (by decide)
    have c4 := lab 1 2 1 1 (by decide) (by decide) (by decide) (by decide) (by decide) (by decide)
    simp only [Nat.add_zero] at a0 b1 b2 b3 b4
    simp only [sixL, List.pairwise_cons, List.mem_cons, List.not_mem_nil, or_false]
    refine ⟨?_, ?_, ?_, ?_, ?_, ?_, List.Pairwise.nil⟩
    · rintro y (rfl | rfl | rfl | rfl | rfl) <;> omega
    · rintro y (rfl | rfl | rfl | rfl) <;> omega
    · rintro y (rfl | rfl | rfl) <;> omega
    · rintro y (rfl | rfl) <;> omega
    · rintro y rfl; omega
    · intro y hy; exact hy.elim
  · simp only [bkL, bk6, hee, List.mem_filter, mem_allR, beq_iff_eq, decide_eq_true_eq]
    constructor
    · rintro ⟨hx, hn⟩
      have hst := hx.step hg
      obtain ⟨e1, e2⟩ := num_inj hst hb hn
      obtain ⟨f1, f2, f3⟩ := back_at hg hx e1 e2
      have e4 : x.1 / 3 = e / 3 := by
        rw [← f2]; congr 1; omega
      obtain ⟨s, hs, g0, g1⟩ := hx.get
      rw [getD_of hs, e4] at f3
      refine ⟨?_, Prod.ext e1 e2⟩
      have hx3 : x.1 = 3 * (e / 3) ∨ x.1 = 3 * (e / 3) + 1 ∨ x.1 = 3 * (e / 3) + 2 := by omega
      have hs3 : s = 0 ∨ s = 1 := by omega
      obtain ⟨x1, x2⟩ := x
      simp only at f3 hx3
      rw [f3]
      rcases hs3 with rfl | rfl <;> rcases hx3 with rfl | rfl | rfl <;> simp [sixL]
    · rintro ⟨hx, hn⟩
      refine ⟨?_, by rw [hn]⟩
      simp only [sixL, List.mem_cons, List.not_mem_nil, or_false] at hx
      rcases hx with rfl | rfl | rfl | rfl | rfl | rfl
      · exact rok 0 0 (by decide) (by decide) (by decide)
      · exact rok 0 1 (by decide) (by decide) (by decide)
      · exact rok 1 0 (by decide) (by decide) (by decide)
      · exact rok 1 1 (by decide) (by decide) (by decide)
      · exact rok 2 0 (by decide) (by decide) (by decide)
      · exact rok 2 1 (by decide) (by decide) (by decide)

/-- The first run that has been there, and when it had. -/
theorem first_again {f : Nat → Nat} {N : Nat} (h : ∀ i, f i < N) : ∃ p q : Nat, q < p ∧ p ≤ N ∧ f q = f p ∧ ∀ i j, i < j → j < p → f i ≠ f j := by
  have ⟨j, hj, i, hij, e⟩ := again h
  have hex : ∃ p, p ≤ N ∧ ∃ q, q < p ∧ f q = f p := ⟨j, hj, i, hij, e⟩
  have least : ∀ n, (∃ p, p ≤ n ∧ p ≤ N ∧ ∃ q, q < p ∧ f q = f p) → ∃ p, (p ≤ N ∧ ∃ q, q < p ∧ f q = f p) ∧ ∀ r, r < p → ¬ ∃ q, q < r ∧ f q = f r := by
    intro n
    induction n with
    | zero => rintro ⟨p, hp, _, q, hq, _⟩; omega
    | succ n ih =>
      rintro ⟨p, hp, hN, hq⟩
      by_cases hc : ∃ p, p ≤ n ∧ p ≤ N ∧ ∃ q, q < p ∧ f q = f p
      · exact ih hc
      · exact ⟨p, ⟨hN, hq⟩, fun r hr hh => hc ⟨r, by omega, by omega, hh⟩⟩
  obtain ⟨p, ⟨hpN, q, hq, hf⟩, hl⟩ := least N ⟨j, hj, hj, i, hij, e⟩
  exact ⟨p, q, hq, hpN, hf, fun i j hij hj e => hl j hj ⟨i, hij, e⟩⟩

end Go.Proofs.YtdafomfpchlhpaaDoor.Yd
