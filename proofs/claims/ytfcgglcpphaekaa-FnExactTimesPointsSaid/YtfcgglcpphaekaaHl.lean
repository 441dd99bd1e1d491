/- The corners of a hull: what borders of places in order give is what going around from the first one on gives. -/
import Derived.Test.YtfcgglcpphaekaaHu
namespace Go.Proofs.Ytfcgglcpphaekaa

namespace Pn
/-- The sign of the product of the ways from q to a and to b. -/
def dn (q a b : Pn) : Int := (Ve.dt (vec q a) (vec q b)).sn

/-- q is on the piece from a to b. -/
def btw (a b q : Pn) : Bool := decide (sd a b q = 0 ∧ dn q a b ≤ 0)

def lexbt (a b q : Pn) : Prop := (led true a q ∧ led true q b) ∨ (led true q a ∧ led true b q)

theorem btw_lex {a b q : Pn} (h : sd a b q = 0) : dn q a b ≤ 0 ↔ lexbt a b q := by
  have h' : (Ve.cr (vec a q) (vec a b)).sn = 0 := by
    have := sd_swap a b q
    rw [h] at this; exact this
  have e1 : vec a b + -vec a q = vec q b := by
    rw [vec_neg, ← vec_add q a b]
    apply Ve.ext' <;> simp only [Ve.add_X, Ve.add_Y, Su.add_comm]
  have e2 : vec a q + -vec a b = vec b q := by rw [Ve.neg_sub', e1, vec_neg]
  have := Ve.between h'
  rw [e1, e2, vec_neg] at this
  unfold dn
  rw [← this]
  unfold lexbt led ltd vd
  simp only [cond_true, vec_zero]
  constructor
  · rintro (⟨h1, h2⟩ | ⟨h1, h2⟩)
    · exact .inl ⟨h1, h2⟩
    · exact .inr ⟨h1.imp id Eq.symm, h2.imp id Eq.symm⟩
  · rintro (⟨h1, h2⟩ | ⟨h1, h2⟩)
    · exact .inl ⟨h1, h2⟩
    · exact .inr ⟨h1.imp id Eq.symm, h2.imp id Eq.symm⟩

theorem btw_iff {a b q : Pn} : btw a b q = true ↔ sd a b q = 0 ∧ lexbt a b q := by
  unfold btw
  rw [decide_eq_true_eq]
  constructor
  · rintro ⟨h, k⟩; exact ⟨h, (btw_lex h).1 k⟩
  · rintro ⟨h, k⟩; exact ⟨h, (btw_lex h).2 k⟩

theorem led_antisymm {e : Bool} {p q : Pn} (h : led e p q) (k : led e q p) : p = q := by
  rcases h with h | h
  · rcases k with k | k
    · exact absurd k (ltd_asymm h)
    · exact k.symm
  · exact h

theorem led_trans {e : Bool} {p q r : Pn} (h : led e p q) (k : led e q r) : led e p r := by
  rcases h with h | h
  · rcases k with k | k
    · exact .inl (ltd_trans h k)
    · subst k; exact .inl h
  · subst h; exact k

/-- b comes behind a on the border of the points l: all are to the left of the piece, or on it. -/
def Nxt (l : List Pn) (a b : Pn) : Prop := b ∈ l ∧ a ≠ b ∧ ∀ q ∈ l, 0 < sd a b q ∨ (sd a b q = 0 ∧ lexbt a b q)

/-- What the model does with one point. -/
def scanF (a : Pn) (n p : Pn) : Pn := if p = a then n else if n = a ∨ sd a n p < 0 ∨ (sd a n p = 0 ∧ btw a p n = true) then p else n

theorem scan_stay {l : List Pn} {a b : Pn} (h : Nxt l a b) {p : Pn} (hp : p ∈ l) : scanF a b p = b := by
  obtain ⟨_, hab, hall⟩ := h
  unfold scanF
  by_cases h1 : p = a
  · rw [if_pos h1]
  · rw [if_neg h1]
    split
    · rename_i hc
      rcases hc with hc | hc | ⟨hc, hc2⟩
      · exact absurd hc.symm hab
      · rcases hall p hp with h | h <;> omega
      · obtain ⟨_, hb⟩ := btw_iff.1 hc2
        have hl : lexbt a b p := by
          rcases hall p hp with h | h
          · omega
          · exact h.2
        rcases hl with ⟨l1, l2⟩ | ⟨l1, l2⟩ <;> rcases hb with ⟨b1, b2⟩ | ⟨b1, b2⟩
        · exact led_antisymm l2 b2
        · exact absurd (led_antisymm (led_trans l2 b1) l1) h1
        · exact absurd (led_antisymm l1 (led_trans b1 b2)) h1
        · exact led_antisymm b2 l2
    · rfl

theorem scan_take {l : List Pn} {a b c : Pn} (h : Nxt l a b) (hc : c ∈ l) : scanF a c b = b := by
  obtain ⟨_, hab, hall⟩ := h
  unfold scanF
  rw [if_neg (fun e => hab e.symm), if_pos]
  rcases hall c hc with h | ⟨h, h2⟩
  · have := sd_swap a b c
    exact .inr (.inl (by omega))
  · have := sd_swap a b c
    exact .inr (.inr ⟨by omega, btw_iff.2 ⟨h, h2⟩⟩)

theorem scan_take0 {l : List Pn} {a b : Pn} (h : Nxt l a b) : scanF a a b = b := by
  unfold scanF
  rw [if_neg (fun e => h.2.1 e.symm), if_pos (.inl rfl)]

theorem scan_or (a n p : Pn) : scanF a n p = n ∨ scanF a n p = p := by
  unfold scanF
  split
  · exact .inl rfl
  · split
    · exact .inr rfl
    · exact .inl rfl

theorem scan_from {l : List Pn} {a b : Pn} (h : Nxt l a b) : ∀ (m : List Pn) (n : Pn), (∀ q ∈ m, q ∈ l) → (n ∈ l ∨ n = a) → (n = b ∨ b ∈ m) → m.foldl (scanF a) n = b
  | [], n, _, _, hb => by
    rcases hb with hb | hb
    · exact hb
    · cases hb
  | p :: m, n, hm, hn, hb => by
    have hp := hm p (by simp)
    refine scan_from h m _ (fun q hq => hm q (by simp [hq])) ?_ ?_
    · rcases scan_or a n p with e | e
      · rw [e]; exact hn
      · rw [e]; exact .inl hp
    · rcases hb with hb | hb
      · subst hb; exact .inl (scan_stay h hp)
      · rcases List.mem_cons.1 hb with hb | hb
        · subst hb
          rcases hn with hn | hn
          · exact .inl (scan_take h hn)
          · subst hn; exact .inl (scan_take0 h)
        · exact .inr hb

theorem scan_all {l : List Pn} {a b : Pn} (h : Nxt l a b) : l.foldl (scanF a) a = b :=
  scan_from h l a (fun _ h => h) (.inr rfl) (.inr h.1)

theorem scan_one {l : List Pn} {a : Pn} (h : ∀ q ∈ l, q = a) : l.foldl (scanF a) a = a := by
  induction l with
  | nil => rfl
  | cons p l ih =>
    rw [List.foldl_cons]
    have : scanF a a p = a := by unfold scanF; rw [if_pos (h p (by simp))]
    rw [this]
    exact ih (fun q hq => h q (by simp [hq]))

/-- What the model does for its start. -/
noncomputable def minF (s p : Pn) : Pn := open Classical in if ltd true p s then p else s
theorem min_fold : ∀ (m : List Pn) (s k : Pn), led true k s → (∀ q ∈ m, led true k q) → (k = s ∨ k ∈ m) → m.foldl minF s = k
  | [], s, k, _, _, h => by
    rcases h with h | h
    · exact h.symm
    · cases h
  | p :: m, s, k, hs, hm, h => by
    rw [List.foldl_cons]
    have hp := hm p (by simp)
    refine min_fold m _ k ?_ (fun q hq => hm q (by simp [hq])) ?_
    · unfold minF; split
      · exact hp
      · exact hs
    · unfold minF
      by_cases hlt : ltd true p s
      · rw [if_pos hlt]
        rcases h with h | h
        · subst h
          rcases hp with hp | hp
          · exact absurd hlt (ltd_asymm hp)
          · exact .inl hp
        · rcases List.mem_cons.1 h with h | h
          · exact .inl h
          · exact .inr h
      · rw [if_neg hlt]
        rcases h with h | h
        · exact .inl h
        · rcases List.mem_cons.1 h with h | h
          · subst h
            rcases hs with hs | hs
            · exact absurd hs hlt
            · exact .inl hs
          · exact .inr h

/-- Each one leads to the one behind it. -/
def Pth (R : Pn → Pn → Prop) : List Pn → Prop
  | a :: b :: l => R a b ∧ Pth R (b :: l)
  | _ => True

theorem pth_imp {R S : Pn → Pn → Prop} (h : ∀ a b, R a b → S a b) : ∀ {l : List Pn}, Pth R l → Pth S l
  | [], _ => trivial
  | [_], _ => trivial
  | _ :: _ :: _, ⟨h1, h2⟩ => ⟨h _ _ h1, pth_imp h h2⟩

theorem pth_join {R : Pn → Pn → Prop} {m : Pn} {z : List Pn} : ∀ {x : List Pn}, Pth R (x ++ [m]) → Pth R (m :: z) → Pth R (x ++ m :: z)
  | [], _, h => h
  | [_], h, k => ⟨h.1, k⟩
  | _ :: b :: x, h, k => ⟨h.1, pth_join (x := b :: x) h.2 k⟩

theorem pth_snoc {R : Pn → Pn → Prop} {a b : Pn} {x : List Pn} (h : Pth R (x ++ [a])) (k : R a b) : Pth R ((x ++ [a]) ++ [b]) := by
  rw [List.append_assoc]
  exact pth_join h ⟨k, trivial⟩

theorem pth_edges {e : Bool} {l : List Pn} : ∀ {st : List Pn}, Edges e l st → Pth (fun a b => ltd e a b ∧ Nxt l a b) st.reverse
  | [], _ => trivial
  | [_], _ => trivial
  | b :: a :: rest, ⟨⟨h1, h2, h3, h4⟩, h5⟩ => by
    have ih := pth_edges h5
    simp only [List.reverse_cons] at ih ⊢
    refine pth_snoc ih ⟨h1, h3, ltd_ne h1, fun q hq => ?_⟩
    rcases h4 q hq with h | ⟨h, k1, k2⟩
    · exact .inl h
    · refine .inr ⟨h, ?_⟩
      cases e
      · exact .inr ⟨k1.imp id Eq.symm, k2.imp id Eq.symm⟩
      · exact .inl ⟨k1, k2⟩

theorem pth_get {R : Pn → Pn → Prop} : ∀ {l : List Pn} (i : Nat) {a b : Pn}, Pth R l → l[i]? = some a → l[i + 1]? = some b → R a b
  | [], _, _, _, _, h, _ => by simp at h
  | [_], i, _, _, _, _, k => by simp at k
  | x :: y :: l, 0, a, b, h, h1, h2 => by
    simp at h1 h2
    subst h1; subst h2; exact h.1
  | x :: y :: l, i + 1, a, b, h, h1, h2 => pth_get (l := y :: l) i h.2 (by simpa using h1) (by simpa using h2)

theorem pth_first {e : Bool} {m : Pn} : ∀ {l : List Pn}, Pth (ltd e) (m :: l) → ∀ q ∈ l, ltd e m q
  | [], _, q, hq => by cases hq
  | p :: l, ⟨h1, h2⟩, q, hq => by
    rcases List.mem_cons.1 hq with h | h
    · subst h; exact h1
    · exact ltd_trans h1 (pth_first h2 q h)

theorem pth_last {e : Bool} {m : Pn} : ∀ {l : List Pn}, Pth (ltd e) (l ++ [m]) → ∀ q ∈ l, ltd e q m
  | [], _, q, hq => by cases hq
  | [p], h, q, hq => by simp only [List.mem_singleton] at hq; subst hq; exact h.1
  | p :: r :: l, h, q, hq => by
    have ih := pth_last (l := r :: l) h.2
    rcases List.mem_cons.1 hq with h' | h'
    · subst h'; exact ltd_trans h.1 (ih r (by simp))
    · exact ih q h'

/-- The border of places in their order. -/
def bord (l : List Pn) : List Pn := (l.foldl pushW []).reverse

/-- The corners of the hull of places in their order. -/
def hul (l : List Pn) : List Pn := if l.length = 1 then l else (bord l).dropLast ++ (bord l.reverse).dropLast

theorem asc_rev : ∀ {l : List Pn}, Asc true l → Asc false l.reverse
  | [], _ => trivial
  | p :: l, ⟨h1, h2⟩ => by
    rw [List.reverse_cons]
    refine asc_snoc.2 ⟨asc_rev h2, fun q hq => ?_⟩
    have := h1 q (by simpa using hq)
    exact ltd_flip.2 this

theorem bord_spec {e : Bool} {l : List Pn} (h : Asc e l) : Pth (fun a b => ltd e a b ∧ Nxt l a b) (bord l) ∧ (bord l).head? = l.head? ∧ (bord l).getLast? = l.getLast? := by
  have c := chain_all h
  refine ⟨pth_edges c.edges, ?_, ?_⟩
  · unfold bord; rw [List.head?_reverse]; exact c.bottom
  · unfold bord; rw [List.getLast?_reverse]; exact c.top

theorem nxt_mem {l m : List Pn} (h : ∀ q, q ∈ l ↔ q ∈ m) {a b : Pn} (k : Nxt l a b) : Nxt m a b :=
  ⟨(h b).1 k.1, k.2.1, fun q hq => k.2.2 q ((h q).2 hq)⟩

/-- What the model needs of the corners, for the points m that stand at the places l. -/
structure HulIs (m H : List Pn) : Prop where
  pos : 0 < H.length
  start : ∀ s, m.head? = some s → m.foldl minF s = H[0]!
  next : ∀ i, i < H.length → m.foldl (scanF H[i]!) H[i]! = if i + 1 < H.length then H[i + 1]! else H[0]!
  fresh : ∀ i, i + 1 < H.length → H[i + 1]! ≠ H[0]! ∧ H[i + 1]! ≠ H[i]!

theorem hul_is {m l : List Pn} (hm : ∀ q, q ∈ m ↔ q ∈ l) (hA : Asc true l) (hl : l ≠ []) : HulIs m (hul l) := by
  obtain ⟨k, l', rfl⟩ : ∃ k l', l = k :: l' := by
    cases l with
    | nil => exact absurd rfl hl
    | cons k l' => exact ⟨k, l', rfl⟩
  have hk : ∀ q ∈ m, led true k q := fun q hq => by
    rcases List.mem_cons.1 ((hm q).1 hq) with h | h
    · exact .inr h.symm
    · exact .inl (hA.1 q h)
  have hst : ∀ s, m.head? = some s → m.foldl minF s = k := fun s hs => by
    have hsm : s ∈ m := List.mem_of_head? hs
    exact min_fold m s k (hk s hsm) hk (.inr ((hm k).2 (by simp)))
  unfold hul
  by_cases h1 : (k :: l').length = 1
  · rw [if_pos h1]
    have : l' = [] := by simpa using h1
    subst this
    refine ⟨by simp, hst, fun i hi => ?_, fun i hi => by simp at hi⟩
    have : i = 0 := by simpa using hi
    subst this
    simp only [List.length_singleton, Nat.lt_irrefl, Nat.zero_add, if_false]
    exact scan_one fun q hq => by simpa using (hm q).1 hq
  · rw [if_neg h1]
    obtain ⟨M, hM⟩ : ∃ M, (k :: l').getLast? = some M := ⟨(k :: l').getLast (by simp), List.getLast?_eq_some_getLast (by simp)⟩
    have hkM : k ≠ M := by
      obtain ⟨ys, hys⟩ := List.getLast?_eq_some_iff.1 hM
      cases ys with
      | nil => exfalso; rw [hys] at h1; simp at h1
      | cons y ys =>
        simp only [List.cons_append, List.cons.injEq] at hys
        obtain ⟨rfl, hys⟩ := hys
        exact ltd_ne (hA.1 M (by rw [hys]; simp))
    have B1 := bord_spec hA
    have B2 := bord_spec (asc_rev hA)
    rw [List.head?_cons, hM] at B1
    rw [List.head?_reverse, List.getLast?_reverse, hM, List.head?_cons] at B2
    obtain ⟨p1, q1, r1⟩ := B1
    obtain ⟨p2, q2, r2⟩ := B2
    obtain ⟨S, hS⟩ := List.getLast?_eq_some_iff.1 r1
    obtain ⟨T, hT⟩ := List.getLast?_eq_some_iff.1 r2
    rw [hS] at p1 q1
    rw [hT] at p2 q2
    rw [hS, hT, List.dropLast_concat, List.dropLast_concat]
    obtain ⟨S', rfl⟩ : ∃ S', S = k :: S' := by
      cases S with
      | nil => simp at q1; exact absurd q1.symm hkM
      | cons s S' => simp at q1; exact ⟨S', by rw [q1]⟩
    obtain ⟨T', rfl⟩ : ∃ T', T = M :: T' := by
      cases T with
      | nil => simp at q2; exact absurd q2 hkM
      | cons s S' => simp at q2; exact ⟨S', by rw [q2]⟩
    have n1 : Pth (Nxt m) (k :: S' ++ [M]) := pth_imp (fun a b h => nxt_mem (fun q => (hm q).symm) h.2) p1
    have n2 : Pth (Nxt m) (M :: (T' ++ [k])) := by
      have := pth_imp (fun a b h => nxt_mem (m := m) (fun q => by rw [List.mem_reverse]; exact (hm q).symm) h.2) p2
      simpa using this
    have n3 := pth_join n1 n2
    have e1 : k :: S' ++ M :: (T' ++ [k]) = (k :: S' ++ M :: T') ++ [k] := by simp
    rw [e1] at n3
    have f1 : ∀ q ∈ S' ++ M :: T', q ≠ k := fun q hq => by
      rcases List.mem_append.1 hq with h | h
      · have := pth_first (pth_imp (fun a b h => h.1) p1) q (show q ∈ S' ++ [M] from List.mem_append.2 (.inl h))
        exact (ltd_ne this).symm
      · exact ltd_ne (pth_last (pth_imp (fun a b h => h.1) p2) q h)
    generalize hH : k :: S' ++ M :: T' = H at *
    have hH0 : H[0]! = k := by rw [← hH]; rfl
    have hHl : 0 < H.length := by rw [← hH]; simp
    have get : ∀ i, i < H.length → (H ++ [k])[i]? = some H[i]! := fun i hi => by
      rw [List.getElem?_append_left hi, getElem!_pos H i hi, List.getElem?_eq_getElem hi]
    refine ⟨hHl, fun s hs => by rw [hH0]; exact hst s hs, fun i hi => ?_, fun i hi => ⟨?_, ?_⟩⟩
    · by_cases h2 : i + 1 < H.length
      · rw [if_pos h2]
        exact scan_all (pth_get i n3 (get i hi) (get _ h2))
      · rw [if_neg h2, hH0]
        refine scan_all (pth_get i n3 (get i hi) ?_)
        rw [List.getElem?_append_right (by omega), show i + 1 - H.length = 0 by omega]; rfl
    · rw [hH0]
      refine f1 _ ?_
      have e2 : H = k :: (S' ++ M :: T') := by rw [← hH]; rfl
      rw [e2] at hi ⊢
      rw [getElem!_pos (k :: (S' ++ M :: T')) (i + 1) hi]
      simp only [List.getElem_cons_succ]
      exact List.getElem_mem _
    · exact (pth_get i n3 (get i (by omega)) (get _ hi)).2.1.symm
end Pn

end Go.Proofs.Ytfcgglcpphaekaa
