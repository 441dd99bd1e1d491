/- Puzzles, nothing of the program: what fits into the gaps, solutions in order, what the search finds behind a beginning, sure pieces. -/
import Derived.Test.YtdafomfpchlhpaaDoorBx
namespace Go.Proofs.YtdafomfpchlhpaaDoor

set_option linter.unusedVariables false
set_option linter.unusedSimpArgs false

/-- A puzzle's parts. -/
structure Pz where
  t : ByteArray
  s : Int
  c : Int

abbrev pv (p : Pz) : Value := .agg #[.string p.t, .int .i64 p.s, .int .i64 p.c]

/-- A letter of a puzzle. -/
def gpc (c : UInt8) : Bool := c == 63 || pcb c

/-- How many gaps there are. -/
def gps (t : List UInt8) : Nat := cnt 63 t

def pzOK (p : Pz) : Prop := 1 ≤ p.t.size ∧ p.t.size ≤ 40 ∧ (∀ c ∈ p.t.data.toList, gpc c = true) ∧ gps p.t.data.toList ≤ 9 ∧ 0 ≤ p.s ∧ 0 ≤ p.c ∧ p.s + p.c = (gps p.t.data.toList : Nat)

instance (p : Pz) : Decidable (pzOK p) := by unfold pzOK; infer_instance

def pzB (p : Pz) : Bool := decide (pzOK p)

theorem pzB_ok {p : Pz} (h : pzB p = true) : pzOK p := of_decide_eq_true h

theorem gpc_cases {c : UInt8} (h : gpc c = true) : c = 63 ∨ (c = 83 ∨ (c = 76 ∨ c = 82)) := by
  simp only [gpc, Bool.or_eq_true, beq_iff_eq] at h
  exact h.imp id pcb_cases

theorem gps_cons (c : UInt8) (t : List UInt8) : gps (c :: t) = gps t + (if c == 63 then 1 else 0) := cnt_cons 63 c t

theorem gps_append (t u : List UInt8) : gps (t ++ u) = gps t + gps u := by simp [gps, cnt]

/-- The pieces that may stand at a letter. -/
def chs (c : UInt8) : List UInt8 := if c == 63 then ltr else [c]

/-- All texts that fit. -/
def fil : List UInt8 → List (List UInt8)
  | [] => [[]]
  | c :: t => (chs c).flatMap fun d => (fil t).map fun v => d :: v

def fit : List UInt8 → List UInt8 → Bool
  | [], [] => true
  | c :: t, d :: w => (c == 63 || c == d) && fit t w
  | _, _ => false

/-- How many straights stand at the gaps. -/
def gS : List UInt8 → List UInt8 → Nat
  | c :: t, d :: w => (if c == 63 && d == 83 then 1 else 0) + gS t w
  | _, _ => 0

theorem gS_le : ∀ (t w : List UInt8), gS t w ≤ gps t
  | [], w => by simp [gS]
  | c :: t, [] => by simp [gS]
  | c :: t, d :: w => by
    have ih := gS_le t w
    rw [gps_cons, gS]
    cases c == 63 <;> cases d == 83 <;> simp <;> omega

theorem fit_len : ∀ {t w : List UInt8}, fit t w = true → w.length = t.length
  | [], [], _ => rfl
  | c :: t, d :: w, h => by
    simp only [fit, Bool.and_eq_true] at h
    simp [fit_len h.2]
  | [], d :: w, h => by simp [fit] at h
  | c :: t, [], h => by simp [fit] at h

theorem fil_iff : ∀ {t w : List UInt8}, (∀ c ∈ t, gpc c = true) → (w ∈ fil t ↔ fit t w = true ∧ ∀ c ∈ w, c ∈ ltr)
  | [], [], _ => by simp [fil, fit]
  | [], d :: w, _ => by simp [fil, fit]
  | c :: t, [], _ => by simp [fil, fit]
  | c :: t, d :: w, h => by
    have ih := fil_iff (t := t) (w := w) fun x hx => h x (by simp [hx])
    have hc := gpc_cases (h c (by simp))
    simp only [fil, List.mem_flatMap, List.mem_map, List.cons.injEq, fit, Bool.and_eq_true, List.mem_cons, forall_eq_or_imp]
    constructor
    · rintro ⟨e, he, v, hv, rfl, rfl⟩
      have := ih.1 hv
      refine ⟨⟨?_, this.1⟩, ?_, this.2⟩
      · simp only [chs] at he
        split at he
        · rename_i h63; simp [h63]
        · simp at he; simp [he]
      · simp only [chs] at he
        split at he
        · exact he
        · rename_i h63
          simp at he
          subst he
          rcases hc with rfl | rfl | rfl | rfl
          · exact absurd rfl h63
          all_goals simp [ltr]
    · rintro ⟨⟨h1, h2⟩, h3, h4⟩
      refine ⟨d, ?_, w, ih.2 ⟨h2, h4⟩, rfl, rfl⟩
      simp only [chs]
      simp only [Bool.or_eq_true, beq_iff_eq] at h1
      split
      · exact h3
      · rename_i h63
        simp at h63
        simp [h1.resolve_left h63]

theorem fil_append (t : List UInt8) : ∀ u, fil (t ++ u) = (fil t).flatMap fun a => (fil u).map fun b => a ++ b := by
  induction t with
  | nil => intro u; simp [fil]
  | cons c t ih =>
    intro u
    simp only [List.cons_append, fil, ih, List.flatMap_assoc, List.flatMap_map, List.map_flatMap, List.map_map]
    rfl

theorem fil_snoc (t : List UInt8) (c : UInt8) : fil (t ++ [c]) = (fil t).flatMap fun w => (chs c).map fun d => w ++ [d] := by
  rw [fil_append]
  congr 1
  funext w
  simp only [fil, List.map_cons, List.map_nil]
  generalize chs c = l
  induction l with
  | nil => rfl
  | cons a l ih => simpa using ih

theorem fil_pos : ∀ t : List UInt8, 0 < (fil t).length
  | [] => by simp [fil]
  | c :: t => by
    have := fil_pos t
    simp only [fil, chs]
    split <;> simp [ltr] <;> omega

theorem fil_count : ∀ t : List UInt8, (fil t).length = 3 ^ gps t
  | [] => rfl
  | c :: t => by
    have ih := fil_count t
    rw [gps_cons]
    simp only [fil, chs]
    split
    · rename_i h; simp [ltr, ih, Nat.pow_succ]; omega
    · rename_i h; simp [ih]

/-- The solutions, in order. -/
def sol (p : Pz) : List (List UInt8) := (fil p.t.data.toList).filter fun w => spE (fin sp0 w) sp0 && ((gS p.t.data.toList w : Int) == p.s)

/-- Whether a text is a solution. -/
def slB (p : Pz) (w : List UInt8) : Bool := fit p.t.data.toList w && (rgb w && ((gS p.t.data.toList w : Int) == p.s))

/-- What the search finds behind the beginning u, which has led to a, in the rest t, with s straights more at the gaps. -/
def pzR (t : List UInt8) (s : Nat) (u : List UInt8) (a : Sp) : List (List UInt8) := ((fil t).filter fun w => spE (fin a w) sp0 && (gS t w == s)).map fun w => u ++ w

theorem pzR_nil (u : List UInt8) (a : Sp) : pzR [] 0 u a = if spE a sp0 then [u] else [] := by
  simp only [pzR, fil, gS, List.filter_cons, List.filter_nil]
  have e : fin a [] = a := rfl
  rw [e]
  split <;> simp_all

/-- The same for one piece that may stand next. -/
def pzN (t : List UInt8) (s k : Nat) (u : List UInt8) (a : Sp) (d : UInt8) : List (List UInt8) := ((fil t).filter fun w => spE (fin (a.next d) w) sp0 && (gS t w + k == s)).map fun w => (u ++ [d]) ++ w

theorem pzR_step (c : UInt8) (t : List UInt8) (s : Nat) (u : List UInt8) (a : Sp) : pzR (c :: t) s u a = (chs c).flatMap fun d => pzN t s (if c == 63 && d == 83 then 1 else 0) u a d := by
  simp only [pzR, pzN, fil, List.filter_flatMap, List.map_flatMap, List.filter_map, List.map_map]
  congr 1
  funext d
  have e1 : ((fun w => spE (fin a w) sp0 && (gS (c :: t) w == s)) ∘ fun v => d :: v) = fun w => spE (fin (a.next d) w) sp0 && (gS t w + (if c == 63 && d == 83 then 1 else 0) == s) := by
    funext w
    simp only [Function.comp, fin_cons, gS]
    rw [Nat.add_comm]
  have e2 : ((fun w => u ++ w) ∘ fun v => d :: v) = fun w => (u ++ [d]) ++ w := by
    funext w
    simp
  rw [e1, e2]

theorem pzN_zero (t : List UInt8) (s : Nat) (u : List UInt8) (a : Sp) (d : UInt8) : pzN t s 0 u a d = pzR t s (u ++ [d]) (a.next d) := rfl

theorem pzN_one (t : List UInt8) (s : Nat) (u : List UInt8) (a : Sp) (d : UInt8) : pzN t (s + 1) 1 u a d = pzR t s (u ++ [d]) (a.next d) := by
  simp only [pzN, pzR]
  congr 2
  funext w
  congr 1
  rw [Bool.eq_iff_iff]; simp

theorem pzN_none (t : List UInt8) (u : List UInt8) (a : Sp) (d : UInt8) : pzN t 0 1 u a d = [] := by
  simp [pzN]

theorem pzR_many {t : List UInt8} {s : Nat} (h : gps t < s) (u : List UInt8) (a : Sp) : pzR t s u a = [] := by
  simp only [pzR, List.map_eq_nil_iff, List.filter_eq_nil_iff]
  intro w _
  have := gS_le t w
  simp; omega

theorem pzR_piece {c : UInt8} (h : c ≠ 63) (t : List UInt8) (s : Nat) (u : List UInt8) (a : Sp) : pzR (c :: t) s u a = pzR t s (u ++ [c]) (a.next c) := by
  rw [pzR_step]
  have hb : (c == 63) = false := beq_eq_false_iff_ne.2 h
  simp only [chs, hb, Bool.false_and, Bool.false_eq_true, if_false, List.flatMap_cons, List.flatMap_nil, List.append_nil, pzN_zero]

theorem pzR_top (p : Pz) {s : Nat} (h : p.s = s) : pzR p.t.data.toList s [] sp0 = sol p := by
  simp only [pzR, sol, List.nil_append, List.map_id', h]
  congr 1
  funext w
  congr 1
  rw [Bool.eq_iff_iff]; simp; omega

theorem pzR_le (t : List UInt8) (s : Nat) (u : List UInt8) (a : Sp) : (pzR t s u a).length ≤ 3 ^ gps t := by
  rw [pzR, List.length_map, ← fil_count]
  exact List.length_filter_le _ _

/-- A list that is made no longer than 401. -/
def capA (L R : List (List UInt8)) : List (List UInt8) := if 400 < L.length then L else (L ++ R).take 401

theorem capA_nil {L : List (List UInt8)} (h : L.length ≤ 401) : capA L [] = L := by
  unfold capA
  split
  · rfl
  · rw [List.append_nil, List.take_of_length_le h]

theorem capA_len {L R : List (List UInt8)} (h : L.length ≤ 401) : (capA L R).length ≤ 401 := by
  unfold capA
  split
  · exact h
  · rw [List.length_take]; omega

theorem capA_app {L A B : List (List UInt8)} : capA (capA L A) B = capA L (A ++ B) := by
  by_cases h : 400 < L.length
  · simp [capA, h]
  · by_cases h2 : 400 < (L ++ A).length
    · have e1 : capA L A = (L ++ A).take 401 := by simp [capA, h]
      have e2 : 400 < (capA L A).length := by rw [e1, List.length_take]; omega
      rw [capA, if_pos e2, e1]
      simp only [capA, if_neg h]
      rw [← List.append_assoc]
      exact (List.take_append_of_le_length (l₁ := L ++ A) (by omega)).symm
    · have e1 : capA L A = L ++ A := by rw [capA, if_neg h, List.take_of_length_le (by omega)]
      rw [e1, capA, if_neg h2, capA, if_neg h, List.append_assoc]

theorem capA_full {L R : List (List UInt8)} (h : 400 < L.length) : capA L R = L := by simp [capA, h]

theorem capA_one {L : List (List UInt8)} (h : ¬ 400 < L.length) (u : List UInt8) : capA L [u] = L ++ [u] := by
  rw [capA, if_neg h, List.take_of_length_le (by simp; omega)]

theorem capA_start (R : List (List UInt8)) : capA [] R = R.take 401 := by simp [capA]

theorem cap_few {R : List (List UInt8)} (h : R.length ≤ 400) : R.take 401 = R := List.take_of_length_le (by omega)

theorem cap_test (R : List (List UInt8)) : (R.take 401).length ≤ 400 ↔ R.length ≤ 400 := by rw [List.length_take]; omega

theorem sol_len (p : Pz) : (sol p).length ≤ 3 ^ gps p.t.data.toList := by
  rw [sol, ← fil_count]
  exact List.length_filter_le _ _

theorem sol_mem {p : Pz} (h : pzOK p) {w : List UInt8} : w ∈ sol p ↔ slB p w = true ∧ ∀ c ∈ w, c ∈ ltr := by
  rw [sol, List.mem_filter, fil_iff h.2.2.1, slB, rgb]
  simp only [Bool.and_eq_true, decide_eq_true_eq]
  constructor
  · rintro ⟨⟨h1, h2⟩, h3, h4⟩
    have := fit_len h1
    have h5 := h.1
    rw [size_list] at this
    exact ⟨⟨h1, ⟨by omega, h3⟩, h4⟩, h2⟩
  · rintro ⟨⟨h1, ⟨_, h3⟩, h4⟩, h2⟩
    exact ⟨⟨h1, h2⟩, h3, h4⟩

/-- What two texts have alike, and gaps where they differ. -/
def alk (a b : List UInt8) : List UInt8 := List.zipWith (fun x y => if x == y then x else 63) a b

/-- The sure pieces of a list of texts as long as a. -/
def surA (a : List UInt8) (l : List (List UInt8)) : List UInt8 := l.foldl alk a

theorem alk_len {a b : List UInt8} (h : a.length = b.length) : (alk a b).length = a.length := by simp [alk, h]

theorem surA_len {a : List UInt8} {l : List (List UInt8)} (h : ∀ b ∈ l, b.length = a.length) : (surA a l).length = a.length := by
  induction l generalizing a with
  | nil => rfl
  | cons b l ih =>
    have h1 := alk_len (h b (by simp)).symm
    rw [show surA a (b :: l) = surA (alk a b) l from rfl, ih (fun x hx => by rw [h1]; exact h x (by simp [hx])), h1]

theorem surA_snoc (a : List UInt8) (l : List (List UInt8)) (b : List UInt8) : surA a (l ++ [b]) = alk (surA a l) b := by simp [surA]

end Go.Proofs.YtdafomfpchlhpaaDoor
