/- Points by their four numbers: sides, order, and the border that turns to the left at each corner. -/
import Derived.Test.YtfcgglcpphaekaaZr
namespace Go.Proofs.Ytfcgglcpphaekaa

/-- A point's four numbers. -/
structure Pn where
  a : Int
  b : Int
  c : Int
  d : Int
deriving DecidableEq
namespace Pn

instance : Inhabited Pn := ⟨⟨0, 0, 0, 0⟩⟩

/-- The vector from p to q. -/
def vec (p q : Pn) : Ve := ⟨⟨2 * (q.a - p.a), (q.b - p.b) - (q.d - p.d)⟩, ⟨2 * (q.c - p.c), (q.b - p.b) + (q.d - p.d)⟩⟩

/-- The side of r to the line from p to q. -/
def sd (p q r : Pn) : Int := (Ve.cr (vec p q) (vec p r)).sn

theorem ext' {p q : Pn} (ha : p.a = q.a) (hb : p.b = q.b) (hc : p.c = q.c) (hd : p.d = q.d) : p = q := by cases p; cases q; simp_all

theorem vec_add (p q r : Pn) : vec p q + vec q r = vec p r := by
  apply Ve.ext' <;> apply Su.ext' <;> simp only [Ve.add_X, Ve.add_Y, Su.add_x, Su.add_r, vec] <;> omega

theorem vec_neg (p q : Pn) : -vec p q = vec q p := by
  apply Ve.ext' <;> apply Su.ext' <;> simp only [Ve.neg_X, Ve.neg_Y, Su.neg_x, Su.neg_r, vec] <;> omega

theorem vec_zero {p q : Pn} : vec p q = 0 ↔ p = q := by
  constructor
  · intro h
    have h1 := congrArg (fun v : Ve => v.X.x) h; have h2 := congrArg (fun v : Ve => v.X.r) h
    have h3 := congrArg (fun v : Ve => v.Y.x) h; have h4 := congrArg (fun v : Ve => v.Y.r) h
    simp only [vec, show (0 : Ve).X = 0 from rfl, show (0 : Ve).Y = 0 from rfl, Su.zero_x, Su.zero_r] at h1 h2 h3 h4
    apply ext' <;> omega
  · rintro rfl
    apply Ve.ext' <;> apply Su.ext' <;> simp [vec, show (0 : Ve).X = 0 from rfl, show (0 : Ve).Y = 0 from rfl, Su.zero_x, Su.zero_r]

/-- p comes before q: to the east (e), or to the west. -/
def vd (e : Bool) (p q : Pn) : Ve := cond e (vec p q) (vec q p)

def ltd (e : Bool) (p q : Pn) : Prop := Ve.lx (vd e p q)

theorem vd_add (e : Bool) (p q r : Pn) : vd e p q + vd e q r = vd e p r := by
  cases e
  · have : ∀ u v : Ve, u + v = v + u := fun u v => by
      apply Ve.ext' <;> simp only [Ve.add_X, Ve.add_Y, Su.add_comm]
    simp only [vd, cond_false]; rw [this, vec_add]
  · exact vec_add p q r

theorem vd_neg (e : Bool) (p q : Pn) : -vd e p q = vd e q p := by cases e <;> exact vec_neg _ _

theorem vd_zero {e : Bool} {p q : Pn} : vd e p q = 0 ↔ p = q := by
  cases e
  · exact vec_zero.trans eq_comm
  · exact vec_zero

theorem sd_vd (e : Bool) (p q r : Pn) : sd p q r = (Ve.cr (vd e p q) (vd e p r)).sn := by
  cases e
  · unfold sd vd
    rw [cond_false, cond_false, ← vec_neg p q, ← vec_neg p r, Ve.cr_neg2]
  · rfl

theorem ltd_trans {e : Bool} {p q r : Pn} (h : ltd e p q) (k : ltd e q r) : ltd e p r := by
  unfold ltd; rw [← vd_add e p q r]; exact Ve.lx_add h k

theorem ltd_tri (e : Bool) (p q : Pn) : ltd e p q ∨ p = q ∨ ltd e q p := by
  rcases Ve.lx_tri (vd e p q) with h | h | h
  · exact .inl h
  · exact .inr (.inl (vd_zero.1 h))
  · rw [vd_neg] at h; exact .inr (.inr h)

theorem ltd_asymm {e : Bool} {p q : Pn} (h : ltd e p q) : ¬ ltd e q p := by
  unfold ltd; rw [← vd_neg]; exact Ve.lx_neg h

theorem ltd_ne {e : Bool} {p q : Pn} (h : ltd e p q) : p ≠ q := fun k => Ve.lx_ne h (vd_zero.2 k)

theorem ltd_flip {e : Bool} {p q : Pn} : ltd (!e) p q ↔ ltd e q p := by cases e <;> exact Iff.rfl

def led (e : Bool) (p q : Pn) : Prop := ltd e p q ∨ p = q

theorem sd_cyc (p q r : Pn) : sd q r p = sd p q r := by
  unfold sd
  congr 1
  apply Su.ext' <;> simp only [Ve.cr, Su.mul_x, Su.mul_r, Su.sub_x, Su.sub_r, vec] <;> grind

theorem sd_swap (p q r : Pn) : sd p r q = -sd p q r := by
  unfold sd; rw [Ve.cr_swap, Su.sn_of_neg]

theorem sd_self (p q : Pn) : sd p q p = 0 := by
  unfold sd
  rw [show vec p p = 0 from vec_zero.2 rfl]
  apply Su.sn_zero.2
  apply Su.ext' <;> simp [Ve.cr, Su.mul_x, Su.mul_r, Su.sub_x, Su.sub_r, show (0 : Ve).X = 0 from rfl, show (0 : Ve).Y = 0 from rfl, Su.zero_x, Su.zero_r]

theorem sd_end (p q : Pn) : sd p q q = 0 := by
  unfold sd; rw [Ve.cr_self]; rfl

/-- The same side from the second point on. -/
theorem sd_from (e : Bool) (p q r : Pn) : sd p q r = (Ve.cr (vd e p q) (vd e q r)).sn := by
  rw [sd_vd e, ← vd_add e p q r, Ve.cr_add_self]

/-- q is to the left of the piece from a to b, or on it. -/
def LB (e : Bool) (a b q : Pn) : Prop := 0 < sd a b q ∨ (sd a b q = 0 ∧ led e a q ∧ led e q b)

/-- Corners, the last one first: each piece has all points of l to its left or on it. -/
def Edges (e : Bool) (l : List Pn) : List Pn → Prop
  | b :: a :: rest => (ltd e a b ∧ a ∈ l ∧ b ∈ l ∧ ∀ q ∈ l, LB e a b q) ∧ Edges e l (a :: rest)
  | _ => True

/-- A further point is strictly to the left of each piece. -/
def Lefts (n : Pn) : List Pn → Prop
  | b :: a :: rest => 0 < sd a b n ∧ Lefts n (a :: rest)
  | _ => True

def popW (n : Pn) : List Pn → List Pn
  | b :: a :: rest => if sd a b n ≤ 0 then popW n (a :: rest) else b :: a :: rest
  | st => st

def pushW (st : List Pn) (n : Pn) : List Pn := n :: popW n st

theorem popW_ne {n : Pn} : ∀ {st : List Pn}, st ≠ [] → popW n st ≠ []
  | [], h => h
  | [_], _ => by simp [popW]
  | b :: a :: rest, _ => by
    unfold popW
    split
    · exact popW_ne (st := a :: rest) (by simp)
    · simp

theorem popW_last {n : Pn} : ∀ {st : List Pn}, (popW n st).getLast? = st.getLast?
  | [] => rfl
  | [_] => rfl
  | b :: a :: rest => by
    unfold popW
    split
    · rw [popW_last (st := a :: rest)]; simp [List.getLast?_cons]
    · rfl

/-- If the further point is strictly to the left of the topmost piece, it is so of all. -/
theorem lefts_of_top {e : Bool} {l : List Pn} {n : Pn} (hn : ∀ q ∈ l, ltd e q n) : ∀ {st : List Pn} {b a : Pn}, Edges e l (b :: a :: st) → 0 < sd a b n → Lefts n (b :: a :: st)
  | [], _, _, _, h => ⟨h, trivial⟩
  | s :: st, b, a, hE, h => by
    obtain ⟨⟨hab, ha, hb, _⟩, hE2⟩ := hE
    have h1 := hE2.1
    obtain ⟨hsa, _, _, hall⟩ := h1
    refine ⟨h, lefts_of_top hn hE2 ?_⟩
    have hs : 0 < sd s a b := by
      rcases hall b hb with h | ⟨_, _, h⟩
      · exact h
      · exfalso
        rcases h with h | h
        · exact ltd_asymm h hab
        · exact ltd_ne hab h.symm
    rw [sd_from e] at hs ⊢
    rw [sd_vd e] at h
    have := Ve.cr_trans hsa hab (hn a ha) (by omega) (by omega)
    have h3 := this.2
    omega

/-- What popping leaves: the pieces stay, the further point is to the left of them, and all points are to the left of the way from the top to it. -/
theorem popW_spec {e : Bool} {l : List Pn} {n : Pn} (hn : ∀ q ∈ l, ltd e q n) (m0 : Pn) (hm0 : ∀ q ∈ l, led e m0 q) : ∀ {st : List Pn} {t : Pn}, Edges e l (t :: st) → t ∈ l → (t :: st).getLast? = some m0 →
    (∀ q ∈ l, ltd e t q → LB e t n q) →
    ∃ t' st', popW n (t :: st) = t' :: st' ∧ t' ∈ l ∧ Edges e l (t' :: st') ∧ Lefts n (t' :: st') ∧ ∀ q ∈ l, LB e t' n q
  | [], t, hE, ht, hlast, hR => by
    have e0 : t = m0 := by simpa using hlast
    subst e0
    refine ⟨t, [], rfl, ht, trivial, trivial, fun q hq => ?_⟩
    rcases hm0 q hq with h | h
    · exact hR q hq h
    · subst h
      exact .inr ⟨sd_self _ _, .inr rfl, .inl (hn _ ht)⟩
  | a :: rest, t, hE, ht, hlast, hR => by
    obtain ⟨⟨hat, ha, _, hall⟩, hE2⟩ := hE
    unfold popW
    by_cases hs : sd a t n ≤ 0
    · rw [if_pos hs]
      refine popW_spec hn m0 hm0 hE2 ha (by simpa [List.getLast?_cons] using hlast) fun q hq haq => ?_
      -- all points beyond a are to the left of the way from a to n
      have h1 : 0 ≤ (Ve.cr (vd e a n) (vd e a t)).sn := by
        rw [sd_vd e] at hs
        rw [Ve.cr_swap, Su.sn_of_neg]; omega
      have h2 : 0 ≤ (Ve.cr (vd e a t) (vd e a q)).sn := by
        rw [← sd_vd e]
        rcases hall q hq with h | h
        · omega
        · omega
      have := Ve.cr_trans (hn a ha) hat haq h1 h2
      rw [← sd_vd e] at this
      by_cases hz : sd a n q = 0
      · exact .inr ⟨hz, .inl haq, .inl (hn q hq)⟩
      · exact .inl (by omega)
    · rw [if_neg hs]
      refine ⟨t, a :: rest, rfl, ht, ⟨⟨hat, ha, ht, hall⟩, hE2⟩, lefts_of_top hn ⟨⟨hat, ha, ht, hall⟩, hE2⟩ (by omega), fun q hq => ?_⟩
      rcases ltd_tri e t q with h | h | h
      · exact hR q hq h
      · subst h
        exact .inr ⟨sd_self _ _, .inr rfl, .inl (hn _ ht)⟩
      · -- q before t
        have h1 : 0 ≤ (Ve.cr (vd e q t) (vd e a t)).sn := by
          have h0 : 0 ≤ sd a t q := by
            rcases hall q hq with h | h
            · omega
            · omega
          rw [sd_from e] at h0
          rw [Ve.cr_swap, ← vd_neg e t q, Ve.cr_neg_r, Su.neg_neg']
          exact h0
        have h2 : 0 < (Ve.cr (vd e a t) (vd e t n)).sn := by rw [← sd_from e]; omega
        have := Ve.cr_trans h hat (hn t ht) h1 (by omega)
        refine .inl ?_
        rw [sd_vd e, ← vd_neg e q t, Ve.cr_neg_r, Ve.cr_swap, Su.neg_neg']
        omega

/-- The corners behind the points l: the last of them is the last corner, the first one the first. -/
structure Chain (e : Bool) (l st : List Pn) : Prop where
  edges : Edges e l st
  top : st.head? = l.getLast?
  bottom : st.getLast? = l.head?

theorem edges_more {e : Bool} {l : List Pn} {n : Pn} : ∀ {st : List Pn}, Edges e l st → Lefts n st → Edges e (l ++ [n]) st
  | [], _, _ => trivial
  | [_], _, _ => trivial
  | b :: a :: rest, ⟨⟨h1, h2, h3, h4⟩, h5⟩, ⟨k1, k2⟩ => by
    refine ⟨⟨h1, by simp [h2], by simp [h3], fun q hq => ?_⟩, edges_more h5 k2⟩
    rcases List.mem_append.1 hq with hq | hq
    · exact h4 q hq
    · simp only [List.mem_singleton] at hq
      subst hq
      exact .inl k1

/-- In order: each one before all that come later. -/
def Asc (e : Bool) : List Pn → Prop
  | [] => True
  | p :: l => (∀ q ∈ l, ltd e p q) ∧ Asc e l

theorem asc_snoc {e : Bool} : ∀ {l : List Pn} {n : Pn}, Asc e (l ++ [n]) ↔ Asc e l ∧ ∀ q ∈ l, ltd e q n
  | [], n => by simp [Asc]
  | p :: l, n => by
    simp only [List.cons_append, Asc, asc_snoc (l := l)]
    constructor
    · rintro ⟨h1, h2, h3⟩
      refine ⟨⟨fun q hq => h1 q (by simp [hq]), h2⟩, fun q hq => ?_⟩
      rcases List.mem_cons.1 hq with h | hq
      · subst h; exact h1 n (by simp)
      · exact h3 q hq
    · rintro ⟨⟨h1, h2⟩, h3⟩
      refine ⟨fun q hq => ?_, h2, fun q hq => h3 q (by simp [hq])⟩
      rcases List.mem_append.1 hq with hq | hq
      · exact h1 q hq
      · simp only [List.mem_singleton] at hq
        subst hq; exact h3 p (by simp)

theorem chain_push {e : Bool} {l st : List Pn} {n : Pn} (hA : Asc e (l ++ [n])) (h : Chain e l st) : Chain e (l ++ [n]) (pushW st n) := by
  obtain ⟨hA1, hn⟩ := asc_snoc.1 hA
  cases l with
  | nil =>
    have : st = [] := by
      cases st with
      | nil => rfl
      | cons s st => have := h.top; simp at this
    subst this
    exact ⟨trivial, rfl, rfl⟩
  | cons p l =>
    cases st with
    | nil => have := h.bottom; simp at this
    | cons t st =>
      have hl : t ∈ p :: l := by
        have := h.top
        simp only [List.head?_cons] at this
        exact List.mem_of_getLast? this.symm
      have hbot := h.bottom
      simp only [List.head?_cons] at hbot
      obtain ⟨t', st', h1, h2, h3, h4, h5⟩ := popW_spec (e := e) hn p (fun q hq => by
        rcases List.mem_cons.1 hq with rfl | hq
        · exact .inr rfl
        · exact .inl (hA1.1 q hq)) h.edges hl hbot (fun q hq htq => by
        exfalso
        -- the top is the last of all
        have htop := h.top
        simp only [List.head?_cons] at htop
        obtain ⟨ys, hys⟩ := List.getLast?_eq_some_iff.1 htop.symm
        rw [hys] at hA1 hq
        have h6 := (asc_snoc.1 hA1).2
        rcases List.mem_append.1 hq with hq | hq
        · exact ltd_asymm (h6 q hq) htq
        · simp only [List.mem_singleton] at hq
          subst hq; exact ltd_ne htq rfl)
      unfold pushW
      rw [h1]
      refine ⟨⟨⟨hn t' h2, List.mem_append.2 (.inl h2), by simp, fun q hq => ?_⟩, edges_more h3 h4⟩, by rw [List.getLast?_append]; simp, ?_⟩
      · rcases List.mem_append.1 hq with hq | hq
        · exact h5 q hq
        · simp only [List.mem_singleton] at hq
          subst hq
          exact .inr ⟨sd_end _ _, .inl (hn t' h2), .inr rfl⟩
      · have := popW_last (n := n) (st := t :: st)
        rw [h1] at this
        rw [List.getLast?_cons_cons, this, hbot]
        simp

theorem chain_fold {e : Bool} : ∀ (l2 : List Pn) {l st : List Pn}, Asc e (l ++ l2) → Chain e l st → Chain e (l ++ l2) (l2.foldl pushW st)
  | [], l, st, _, h => by simpa using h
  | n :: l2, l, st, hA, h => by
    have e1 : l ++ n :: l2 = (l ++ [n]) ++ l2 := by simp
    rw [e1] at hA ⊢
    have hA2 : Asc e (l ++ [n]) := by
      clear h e1
      generalize l ++ [n] = m at hA
      induction m with
      | nil => trivial
      | cons p m ih => exact ⟨fun q hq => hA.1 q (by simp [hq]), ih hA.2⟩
    exact chain_fold l2 hA (chain_push hA2 h)

theorem chain_all {e : Bool} {l : List Pn} (hA : Asc e l) : Chain e l (l.foldl pushW []) := by
  have := chain_fold l (l := []) (st := []) (by simpa using hA) ⟨trivial, rfl, rfl⟩
  simpa using this
end Pn

end Go.Proofs.Ytfcgglcpphaekaa
