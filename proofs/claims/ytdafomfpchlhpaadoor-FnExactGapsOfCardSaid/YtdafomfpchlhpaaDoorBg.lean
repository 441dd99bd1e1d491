/- The first greatest one of some; the longest ring of a box, on both sides; how many tracks; boxes of rings; different ends. Nothing of the program. -/
import Derived.Test.YtdafomfpchlhpaaDoorBx
namespace Go.Proofs.YtdafomfpchlhpaaDoor

set_option linter.unusedVariables false
set_option linter.unusedSimpArgs false

/-- One more: it takes the place of the greatest if it is greater. -/
def fgS {α : Type} (gt : α → α → Bool) (o : Option α) (x : α) : Option α := match o with | none => some x | some g => some (if gt x g then x else g)

def fgO {α : Type} (gt : α → α → Bool) (l : List α) : Option α := l.foldl (fgS gt) none

theorem fgO_nil {α : Type} (gt : α → α → Bool) : fgO gt ([] : List α) = none := rfl

theorem fgO_snoc {α : Type} (gt : α → α → Bool) (l : List α) (x : α) : fgO gt (l ++ [x]) = fgS gt (fgO gt l) x := by simp [fgO]

theorem fgO_some {α : Type} (gt : α → α → Bool) (l : List α) (h : l ≠ []) : ∃ g, fgO gt l = some g := by
  rcases List.eq_nil_or_concat l with rfl | ⟨m, x, rfl⟩
  · exact absurd rfl h
  · rw [List.concat_eq_append, fgO_snoc]
    cases fgO gt m
    · exact ⟨x, rfl⟩
    · exact ⟨_, rfl⟩

theorem fgO_isSome {α : Type} (gt : α → α → Bool) (l : List α) : (fgO gt l).isSome = decide (0 < l.length) := by
  cases l with
  | nil => rfl
  | cons a l =>
    obtain ⟨g, hg⟩ := fgO_some gt (a :: l) (by simp)
    rw [hg]; simp

theorem fgO_mem {α : Type} (gt : α → α → Bool) (l : List α) (g : α) (h : fgO gt l = some g) : g ∈ l := by
  rcases List.eq_nil_or_concat l with rfl | ⟨m, x, rfl⟩
  · cases h
  · rw [List.concat_eq_append] at h ⊢
    rw [fgO_snoc] at h
    cases hm : fgO gt m with
    | none => rw [hm] at h; simp only [fgS, Option.some.injEq] at h; simp [h]
    | some g' =>
      have := fgO_mem gt m g' hm
      rw [hm] at h
      simp only [fgS, Option.some.injEq] at h
      split at h
      · simp [← h]
      · simp [← h, this]
termination_by l.length
decreasing_by simp_all

/-- The rings that are laid from s straights and c curves, by their numbers of pieces. -/
def cvr (s c : Nat) (w : List UInt8) : Bool := decide (cnt 83 w ≤ s) && decide (w.length ≤ cnt 83 w + c)

def lgN (s c n : Nat) : List (List UInt8) := (clsL sp0 n).filter (cvr s c)

def lgL (s c k : Nat) : List (List UInt8) := (List.range k).flatMap fun i => lgN s c (i + 1)

theorem lgL_succ (s c k : Nat) : lgL s c (k + 1) = lgL s c k ++ lgN s c (k + 1) := by simp [lgL, List.range_succ]

theorem lgN_iff {s c n : Nat} {w : List UInt8} : w ∈ lgN s c n ↔ ((w.length = n ∧ ∀ d ∈ w, d ∈ ltr) ∧ fin sp0 w = sp0) ∧ (cnt 83 w ≤ s ∧ w.length ≤ cnt 83 w + c) := by
  rw [lgN, List.mem_filter, cls_iffB, cvr, Bool.and_eq_true, decide_eq_true_eq, decide_eq_true_eq]

theorem lgL_iff {s c k : Nat} {w : List UInt8} : w ∈ lgL s c k ↔ 0 < w.length ∧ w.length ≤ k ∧ w ∈ lgN s c w.length := by
  rw [lgL, List.mem_flatMap]
  constructor
  · rintro ⟨i, hi, hw⟩
    have h := (lgN_iff.1 hw).1.1.1
    have := List.mem_range.1 hi
    refine ⟨by omega, by omega, ?_⟩
    rw [h]; exact hw
  · rintro ⟨h0, hk, hw⟩
    exact ⟨w.length - 1, List.mem_range.2 (by omega), by rw [show w.length - 1 + 1 = w.length by omega]; exact hw⟩

def ltl (a b : List UInt8) : Prop := a.length < b.length ∨ (a.length = b.length ∧ a < b)

theorem lgL_lt (s c : Nat) : ∀ k, (lgL s c k).Pairwise ltl
  | 0 => by simp [lgL]
  | k + 1 => by
    rw [lgL_succ, List.pairwise_append]
    refine ⟨lgL_lt s c k, ?_, fun a ha b hb => ?_⟩
    · refine List.Pairwise.imp_of_mem (fun {a b} ha hb h => .inr ⟨?_, h⟩) ((cls_ltB sp0 (k + 1)).filter (cvr s c))
      have h1 := (cls_iffB.1 (List.mem_filter.1 ha).1).1.1
      have h2 := (cls_iffB.1 (List.mem_filter.1 hb).1).1.1
      omega
    · have h1 := (lgL_iff.1 ha).2.1
      have h2 := (lgN_iff.1 hb).1.1.1
      exact .inl (by omega)

/-- The first one of those with the most pieces. -/
def IsLg (l : List (List UInt8)) (o : Option (List UInt8)) : Prop := match o with | none => l = [] | some w => w ∈ l ∧ ∀ v ∈ l, v.length < w.length ∨ (v.length = w.length ∧ ¬ v < w)

def lgt (x g : List UInt8) : Bool := decide (g.length < x.length)

theorem lg_fg {l : List (List UInt8)} (h : l.Pairwise ltl) : IsLg l (fgO lgt l) := by
  rcases List.eq_nil_or_concat l with rfl | ⟨m, x, rfl⟩
  · rfl
  · rw [List.concat_eq_append] at h ⊢
    rw [List.pairwise_append] at h
    have ih := lg_fg h.1
    rw [fgO_snoc]
    cases hm : fgO lgt m with
    | none =>
      rw [hm] at ih
      simp only [IsLg] at ih
      subst ih
      simp only [IsLg, fgS, List.nil_append, List.mem_singleton, forall_eq, true_and]
      exact .inr (lt_irr x)
    | some g =>
      rw [hm] at ih
      obtain ⟨i1, i2⟩ := ih
      have hgx := h.2.2 g i1 x (by simp)
      simp only [fgS, lgt, decide_eq_true_eq, IsLg]
      by_cases hc : g.length < x.length
      · rw [if_pos hc]
        refine ⟨by simp, fun v hv => ?_⟩
        rcases List.mem_append.1 hv with hv | hv
        · have := i2 v hv
          exact .inl (by omega)
        · rw [List.mem_singleton.1 hv]; exact .inr ⟨rfl, lt_irr x⟩
      · rw [if_neg hc]
        refine ⟨by simp [i1], fun v hv => ?_⟩
        rcases List.mem_append.1 hv with hv | hv
        · exact i2 v hv
        · rw [List.mem_singleton.1 hv]
          rcases hgx with g1 | ⟨g1, g2⟩
          · omega
          · exact .inr ⟨g1.symm, lt_asy g2⟩
termination_by l.length
decreasing_by simp_all

theorem lg_one {l : List (List UInt8)} {o p : Option (List UInt8)} (h : IsLg l o) (g : IsLg l p) : o = p := by
  cases o with
  | none =>
    simp only [IsLg] at h
    subst h
    cases p with
    | none => rfl
    | some w => simp [IsLg] at g
  | some w =>
    cases p with
    | none => simp only [IsLg] at g; subst g; simp [IsLg] at h
    | some v =>
      obtain ⟨h1, h2⟩ := h
      obtain ⟨g1, g2⟩ := g
      have a := h2 v g1
      have b := g2 w h1
      have e : v.length = w.length := by omega
      have a : ¬ v < w := by rcases a with a | a; omega; exact a.2
      have b : ¬ w < v := by rcases b with b | b; omega; exact b.2
      rcases lt_tri v w with t | t | t
      · exact absurd t a
      · rw [t]
      · exact absurd t b

def lgO (s c : Nat) : Option (List UInt8) := fgO lgt (lgL s c (s + c))

/-- The model's search: the least ring of n pieces with at most s straights and c curves. -/
def IsLs (X : List UInt8 → Prop) (b : List UInt8) : Prop := (b = [] ∧ ∀ w, ¬ X w) ∨ (X b ∧ 0 < b.length ∧ ∀ v, X v → ¬ v < b)

theorem isLs_start : IsLs (fun _ => False) [] := .inl ⟨rfl, fun _ h => h⟩

theorem isLs_ext {X Y : List UInt8 → Prop} {b : List UInt8} (h : IsLs X b) (e : ∀ w, X w ↔ Y w) : IsLs Y b := by
  have : X = Y := funext fun w => propext (e w)
  rw [← this]; exact h

/-- One more: it is taken if it is the first or less. -/
def lsN (b x : List UInt8) : List UInt8 := if b = [] ∨ x < b then x else b

theorem isLs_next {X : List UInt8 → Prop} {b x : List UInt8} (h : IsLs X b) (hx : 0 < x.length) : IsLs (fun w => X w ∨ w = x) (lsN b x) := by
  unfold lsN
  rcases h with ⟨rfl, h⟩ | ⟨h1, h2, h3⟩
  · rw [if_pos (.inl rfl)]
    refine .inr ⟨.inr rfl, hx, fun v hv => ?_⟩
    rcases hv with hv | rfl
    · exact absurd hv (h v)
    · exact lt_irr v
  · by_cases hlt : x < b
    · rw [if_pos (.inr hlt)]
      refine .inr ⟨.inr rfl, hx, fun v hv => ?_⟩
      rcases hv with hv | rfl
      · exact fun g => h3 v hv (lt_trn g hlt)
      · exact lt_irr v
    · rw [if_neg (by rintro (rfl | g); exact absurd h2 (by simp); exact hlt g)]
      refine .inr ⟨.inl h1, h2, fun v hv => ?_⟩
      rcases hv with hv | rfl
      · exact h3 v hv
      · exact hlt

/-- The least one of n pieces, when nothing longer is there. -/
theorem isLs_long {s c n : Nat} {b : List UInt8} (h : IsLs (fun w => w ∈ lgN s c n) b) (hn : 0 < n) (hns : n ≤ s + c) (hno : ∀ m, n < m → m ≤ s + c → lgN s c m = []) (hb : b ≠ []) : lgO s c = some b := by
  refine lg_one (lg_fg (lgL_lt s c (s + c))) ?_
  rcases h with ⟨rfl, _⟩ | ⟨h1, h2, h3⟩
  · exact absurd rfl hb
  · have hl := (lgN_iff.1 h1).1.1.1
    refine ⟨lgL_iff.2 ⟨h2, by omega, by rw [hl]; exact h1⟩, fun v hv => ?_⟩
    have hv := lgL_iff.1 hv
    rcases Nat.lt_trichotomy v.length n with g | g | g
    · exact .inl (by omega)
    · exact .inr ⟨by omega, h3 v (g ▸ hv.2.2)⟩
    · rw [hno _ g hv.2.1] at hv; simp at hv

theorem isLs_none {s c : Nat} (hno : ∀ m, 0 < m → m ≤ s + c → lgN s c m = []) : lgO s c = none := by
  refine lg_one (lg_fg (lgL_lt s c (s + c))) ?_
  show lgL s c (s + c) = []
  rw [List.eq_nil_iff_forall_not_mem]
  intro v hv
  have hv := lgL_iff.1 hv
  rw [hno _ hv.1 hv.2.1] at hv; simp at hv

theorem lgN_box {s c n : Nat} (hn : 0 < n) {w : List UInt8} : w ∈ lgN s c n ↔ ∃ k, n - c ≤ k ∧ k ≤ s ∧ k ≤ n ∧ w ∈ bxR k (n - k) := by
  rw [lgN_iff]
  constructor
  · rintro ⟨⟨⟨h1, h2⟩, h3⟩, h4, h5⟩
    have h6 : cnt 83 w ≤ w.length := List.count_le_length
    exact ⟨cnt 83 w, by omega, h4, by omega, bxR_iff.2 ⟨⟨⟨by omega, h2⟩, rfl⟩, by omega, h3⟩⟩
  · rintro ⟨k, k1, k2, k3, hw⟩
    have h := bxR_iff.1 hw
    exact ⟨⟨⟨by omega, h.1.1.2⟩, h.2.2⟩, by omega, by omega⟩

/-- How many tracks: the model's product and the program's. -/
def ctM (s c : Nat) : Nat → Nat
  | 0 => 1
  | k + 1 => ctM s c k * (c + (k + 1)) / (k + 1)

def ctP (s c : Nat) : Nat → Nat
  | 0 => 1
  | k + 1 => 2 * ctP s c k * (s + (k + 1)) / (k + 1)

theorem ct_all : ∀ s < 13, ∀ c < 13, s + c ≤ 12 → ctM s c s * 2 ^ c = ctP s c c ∧ (∀ k ≤ s, ctM s c k ≤ 1000) ∧ ∀ k ≤ c, ctP s c k ≤ 1000000 := by decide +kernel

theorem ct_same {s c : Nat} (h : s + c ≤ 12) : ctM s c s * 2 ^ c = ctP s c c := (ct_all s (by omega) c (by omega) h).1

theorem ctM_le {s c k : Nat} (h : s + c ≤ 12) (hk : k ≤ s) : ctM s c k ≤ 1000 := (ct_all s (by omega) c (by omega) h).2.1 k hk

theorem ctP_le {s c k : Nat} (h : s + c ≤ 12) (hk : k ≤ c) : ctP s c k ≤ 1000000 := (ct_all s (by omega) c (by omega) h).2.2 k hk

/-- The numbers of straights of the boxes of n pieces from which a ring is laid whole. -/
def hasR (n s : Nat) : Bool := decide (0 < (bxR s (n - s)).length)

def rbL (n k : Nat) : List Nat := (List.range k).filter (hasR n)

theorem rbL_succ (n k : Nat) : rbL n (k + 1) = rbL n k ++ (if hasR n k then [k] else []) := by
  simp only [rbL, List.range_succ, List.filter_append, List.filter_cons, List.filter_nil]

theorem rbL_le (n k : Nat) : (rbL n k).length ≤ k := by
  have := List.length_filter_le (hasR n) (List.range k)
  rw [List.length_range] at this
  exact this

theorem hasR_iff {n s : Nat} (hn : 0 < n) (hs : s ≤ n) : hasR n s = true ↔ ∃ w ∈ clsL sp0 n, cnt 83 w = s := by
  rw [hasR, decide_eq_true_eq, bxR_cls (by omega), show s + (n - s) = n by omega, List.length_pos_iff_exists_mem]
  constructor
  · rintro ⟨w, hw⟩
    rw [List.mem_filter, beq_iff_eq] at hw
    exact ⟨w, hw⟩
  · rintro ⟨w, hw⟩
    exact ⟨w, by rw [List.mem_filter, beq_iff_eq]; exact hw⟩

/-- The different ones of some. -/
def ddS (l : List Sp) (x : Sp) : List Sp := if l.any (fun y => spE y x) then l else l ++ [x]

def ddL (l : List Sp) : List Sp := l.foldl ddS []

theorem ddL_snoc (l : List Sp) (x : Sp) : ddL (l ++ [x]) = ddS (ddL l) x := by simp [ddL]

theorem ddL_le (l : List Sp) : (ddL l).length ≤ l.length := by
  rcases List.eq_nil_or_concat l with rfl | ⟨m, x, rfl⟩
  · exact Nat.le_refl _
  · rw [List.concat_eq_append, ddL_snoc, ddS]
    have := ddL_le m
    split <;> simp <;> omega
termination_by l.length
decreasing_by simp_all

end Go.Proofs.YtdafomfpchlhpaaDoor
