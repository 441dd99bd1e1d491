/- Yards read back from texts. -/
import Derived.Test.YtoaccnpkobbaaaaDoorYxM
import Derived.Test.YtoaccnpkobbaaaaDoorRdM
import Derived.Test.YtoaccnpkobbaaaaDoorLsM
import Derived.Lib.AtoiAll
import Derived.Lib.AtoiTie
import Derived.Lib.Split
import Derived.Lib.IndexMore
namespace Go.Proofs.YtoaccnpkobbaaaaDoor
open Yd

/-- What strconv.Atoi reads; none where it fails. -/
def atw (l : List UInt8) : Option Int := match Lib.atoiAll l with | .ok v => some v | _ => none

theorem atw_ok {l : List UInt8} {v : Int} (h : Lib.atoiAll l = .ok v) : atw l = some v := by simp [atw, h]

theorem atw_no {l : List UInt8} (h : ∀ v, Lib.atoiAll l ≠ .ok v) : atw l = none := by
  unfold atw
  cases hA : Lib.atoiAll l
  · rename_i v
    exact absurd hA (h v)
  · rfl
  · rfl

theorem decFromY : ∀ (l : List UInt8) (acc : Nat), (∀ c ∈ l, isG c = true) → Lib.decFrom acc l = some (l.foldl (fun a d => 10 * a + (d.toNat - 48)) acc)
  | [], acc, _ => rfl
  | c :: l, acc, h => by
    have hb := isG_bd (h c List.mem_cons_self)
    have hd : Lib.digitVal c = some (c.toNat - 48) := by
      unfold Lib.digitVal
      rw [if_pos hb]
    rw [Lib.decFrom, hd, List.foldl_cons]
    simp only
    rw [decFromY l _ (fun d hd => h d (List.mem_cons_of_mem _ hd)), Nat.mul_comm]

theorem decNatY (n : Nat) : Lib.decNat (Lib.decDigits n) = some n := by
  unfold Lib.decNat
  rw [if_neg (by simpa using dd_ne n), decFromY _ _ (dd_isG n)]
  exact congrArg some (gval_dd n)

theorem atw_nat {u : Nat} (h1 : u < 100) : atw (Lib.itoa (u : Int)) = some (u : Int) := by
  have hl : (Lib.itoa (u : Int)).length ≤ 18 := by
    have := itoa_len (x := (u : Int)) (by omega) (by omega)
    omega
  refine atw_ok ?_
  rw [Lib.atoiAll_short _ hl, Lib.itoa_nonneg]
  rcases hd : Lib.decDigits u with _ | ⟨c, r⟩
  · exact absurd hd (dd_ne u)
  · have hb := isG_bd (dd_isG u c (by rw [hd]; exact List.mem_cons_self))
    have h45 : (c == 45) = false := by
      rw [beq_eq_false_iff_ne]
      rintro rfl
      revert hb
      decide
    have h43 : (c == 43) = false := by
      rw [beq_eq_false_iff_ne]
      rintro rfl
      revert hb
      decide
    have hdn := decNatY u
    rw [hd] at hdn
    simp [Lib.atoi, h45, h43, hdn, Lib.NumEnd.ofOption]

theorem index_hitB (b : UInt8) : ∀ (u t : List UInt8), b ∉ u → Lib.index (u ++ b :: t) [b] = (u.length : Int)
  | [], t, _ => by simp [Lib.index]
  | c :: u, t, h => by
    have hc : ¬ b = c := fun e => h (by rw [e]; exact List.mem_cons_self)
    have ih := index_hitB b u t (fun hm => h (List.mem_cons_of_mem _ hm))
    rw [List.cons_append, Lib.index]
    simp only [List.isPrefixOf, beq_eq_false_iff_ne.2 hc, Bool.false_and, ih, List.length_cons]
    simp

theorem index_missB (b : UInt8) : ∀ u : List UInt8, b ∉ u → Lib.index u [b] = -1
  | [], _ => rfl
  | c :: u, h => by
    have hc : ¬ b = c := fun e => h (by rw [e]; exact List.mem_cons_self)
    have ih := index_missB b u (fun hm => h (List.mem_cons_of_mem _ hm))
    rw [Lib.index]
    simp [List.isPrefixOf, beq_eq_false_iff_ne.2 hc, ih]

theorem splitK_join : ∀ (r : List (List UInt8)) (x : List UInt8) (k : Nat), (∀ y ∈ x :: r, (44 : UInt8) ∉ y) → r.length ≤ k → Lib.splitK [44] 0 k (Lib.join (x :: r) [44]) = x :: r
  | [], x, k, h, _ => by
    have hx := h x (by simp)
    rw [Lib.join_one]
    cases k with
    | zero => rfl
    | succ k => rw [Lib.splitK, if_pos (by rw [index_missB 44 x hx]; rfl)]
  | y :: r, x, 0, h, hk => by simp at hk
  | y :: r, x, k + 1, h, hk => by
    have hx := h x (by simp)
    have ih := splitK_join r y k (fun z hz => h z (by simp at hz ⊢; right; exact hz)) (by simpa using hk)
    have hi := index_hitB 44 x (Lib.join (y :: r) [44]) hx
    rw [join_two, Lib.splitK, if_neg (by rw [hi]; simp), hi]
    simp [ih]

theorem itoa_no (u : Nat) : (44 : UInt8) ∉ Lib.itoa (u : Int) := by
  intro h
  rw [Lib.itoa_nonneg] at h
  have := dd_isG u 44 h
  revert this; decide

theorem kL_no (ks : List Int) : (58 : UInt8) ∉ kL ks := by
  intro h
  rw [kL, List.mem_map] at h
  obtain ⟨k, _, hk⟩ := h
  unfold letB at hk
  split at hk
  · revert hk; decide
  · split at hk <;> (revert hk; decide)

/-- The kind with a letter. -/
def kdV (c : UInt8) : Int := if c = 108 then 0 else if c = 115 then 1 else if c = 116 then 2 else -1

theorem kdV_let {k : Int} (h0 : 0 ≤ k) (h1 : k ≤ 2) : kdV (letB k) = k := by
  have : k = 0 ∨ k = 1 ∨ k = 2 := by omega
  rcases this with rfl | rfl | rfl <;> rfl

theorem let_kdV {c : UInt8} (h : kdV c ≠ -1) : letB (kdV c) = c := by
  unfold kdV at h ⊢
  split
  · rename_i e; rw [e]; rfl
  · split
    · rename_i e; rw [e]; rfl
    · split
      · rename_i e; rw [e]; rfl
      · rename_i e1 e2 e3; simp [e1, e2, e3] at h

/-- The letters and the words of a text, as the program cuts it. -/
def cutA (s : ByteArray) : List UInt8 := (Lib.cut s.data.toList [58]).1

def cutB (s : ByteArray) : List UInt8 := (Lib.cut s.data.toList [58]).2.1

def wrds (l : List UInt8) : List (List UInt8) := Lib.splitK [44] 0 (min 19 (l.length + 1) - 1) l

abbrev Y2 := List Int × List Int

def ypI (s : ByteArray) : Option Y2 := if 6 < (cutA s).length then none else ((wrds (cutB s)).mapM atw).bind fun rs => if ydB ((cutA s).map kdV) rs = true ∧ ofL (yxL ((cutA s).map kdV) rs) = s then some ((cutA s).map kdV, rs) else none

/-- .. as the model does. -/
def ypM (s : ByteArray) : Option Y2 := if 100 < s.size then none else match lsp 58 s.data.toList with
  | [p0, p1] => if (p0.all fun c => decide (kdV c ≠ -1)) = true ∧ ydB (p0.map kdV) ((lsp 44 p1).map rdV) = true then some (p0.map kdV, (lsp 44 p1).map rdV) else none
  | _ => none

theorem ypI_some {s : ByteArray} {q : Y2} (h : ypI s = some q) : ydB q.1 q.2 = true ∧ ofL (yxL q.1 q.2) = s := by
  unfold ypI at h
  split at h
  · cases h
  · obtain ⟨rs, _, h2⟩ := Option.bind_eq_some_iff.1 h
    split at h2
    · rename_i hx
      obtain rfl := Option.some.inj h2
      exact hx
    · cases h2

theorem mapM_atw : ∀ (rs : List Int), (∀ x ∈ rs, 0 ≤ x ∧ x < 100) → (rs.map Lib.itoa).mapM atw = some rs
  | [], _ => rfl
  | x :: rs, h => by
    obtain ⟨h0, h1⟩ := h x (by simp)
    obtain ⟨u, rfl⟩ : ∃ u : Nat, x = (u : Int) := ⟨x.toNat, by omega⟩
    have ih := mapM_atw rs (fun y hy => h y (by simp [hy]))
    rw [List.map_cons, List.mapM_cons, atw_nat (by omega), ih]
    rfl

theorem yd_bd {ks rs : List Int} (hg : YdOk ks rs) : ∀ x ∈ rs, 0 ≤ x ∧ x < 100 := fun x hx => by
  obtain ⟨j, hj⟩ := List.getElem?_of_mem hx
  have := hg.rl _ _ hj
  have := hg.nr
  have := hg.n6
  omega

theorem kd_map {ks rs : List Int} (hg : YdOk ks rs) : (kL ks).map kdV = ks := by
  rw [kL, List.map_map]
  conv => rhs; rw [← List.map_id ks]
  refine List.map_congr_left fun x hx => ?_
  obtain ⟨j, hj⟩ := List.getElem?_of_mem hx
  have := hg.kd _ _ hj
  exact kdV_let this.1 this.2

theorem rs_cons {ks rs : List Int} (hg : YdOk ks rs) : ∃ x r, rs = x :: r ∧ r.length ≤ 17 := by
  have h1 := hg.n1
  have h2 := hg.nr
  have h6 := hg.n6
  match rs, h2 with
  | [], h2 => simp at h2; omega
  | x :: r, h2 => exact ⟨x, r, rfl, by simp at h2; omega⟩

theorem nu_no {ks rs : List Int} (hg : YdOk ks rs) : ∀ y ∈ rs.map Lib.itoa, (44 : UInt8) ∉ y := fun y hy => by
  obtain ⟨x, hx, rfl⟩ := List.mem_map.1 hy
  have := yd_bd hg x hx
  obtain ⟨u, rfl⟩ : ∃ u : Nat, x = (u : Int) := ⟨x.toNat, by omega⟩
  exact itoa_no u

theorem nuL_ge : ∀ (r : List Int) (x : Int), (∀ y ∈ x :: r, 0 ≤ y ∧ y < 100) → r.length + 1 ≤ (nuL (x :: r)).length
  | [], x, h => by
    obtain ⟨h0, _⟩ := h x (by simp)
    obtain ⟨u, rfl⟩ : ∃ u : Nat, x = (u : Int) := ⟨x.toNat, by omega⟩
    rw [nuL_one, Lib.itoa_nonneg]
    have := List.length_pos_iff.2 (dd_ne u)
    simp; omega
  | y :: r, x, h => by
    have ih := nuL_ge r y (fun z hz => h z (by simp at hz ⊢; right; exact hz))
    rw [nuL, List.map_cons, List.map_cons, join_two]
    rw [nuL, List.map_cons] at ih
    simp only [List.length_append, List.length_cons] at ih ⊢
    omega

theorem yx_list {ks rs : List Int} {s : ByteArray} (h : ofL (yxL ks rs) = s) : s.data.toList = kL ks ++ 58 :: nuL rs := by
  rw [← h, yxL]; simp [ofL]

theorem ypI_yes {s : ByteArray} {ks rs : List Int} (hy : ydB ks rs = true) (hs : ofL (yxL ks rs) = s) : ypI s = some (ks, rs) := by
  have hg := (good_iff _ _).1 hy
  have hl := yx_list hs
  have hi := index_hitB 58 (kL ks) (nuL rs) (kL_no ks)
  have hA : cutA s = kL ks := by
    rw [cutA, Lib.cut, hl, hi, if_pos (by omega)]; simp
  have hB : cutB s = nuL rs := by
    rw [cutB, Lib.cut, hl, hi, if_pos (by omega)]; simp
  obtain ⟨x, r, hr, hr17⟩ := rs_cons hg
  have hge := nuL_ge r x (by rw [← hr]; exact yd_bd hg)
  have hW : wrds (nuL rs) = rs.map Lib.itoa := by
    have hno := nu_no hg
    rw [hr] at hno ⊢
    rw [wrds]
    rw [List.map_cons] at hno
    exact splitK_join (r.map Lib.itoa) (Lib.itoa x) _ hno (by rw [List.length_map]; omega)
  rw [ypI, hA, if_neg (by rw [kL_len]; have := hg.n6; omega), hB, hW, mapM_atw rs (yd_bd hg), kd_map hg]
  simp [hy, hs]

theorem rd_itoa {u : Nat} (h : u < 1000000) : rdV (Lib.itoa (u : Int)) = (u : Int) := by
  rw [Lib.itoa_nonneg, rdV_yes (rd_dd h), gval_dd]

theorem ypM_yes {s : ByteArray} {ks rs : List Int} (hy : ydB ks rs = true) (hs : ofL (yxL ks rs) = s) : ypM s = some (ks, rs) := by
  have hg := (good_iff _ _).1 hy
  have hl := yx_list hs
  have h100 : s.size ≤ 100 := by
    have := yxP_len hg rs.length
    rw [yxP_all hg] at this
    rw [← hs, ofL_size]; exact this
  obtain ⟨x, r, hr, hr17⟩ := rs_cons hg
  have h58 : (58 : UInt8) ∉ nuL rs := fun h => by
    have hall : ∀ (l : List Int), (∀ y ∈ l, 0 ≤ y ∧ y < 100) → (58 : UInt8) ∉ nuL l := by
      intro l
      induction l with
      | nil => intro _ h; simp [nuL, Lib.join_nil] at h
      | cons y l ih =>
        intro hb h
        have hy' : (58 : UInt8) ∉ Lib.itoa y := fun h => by
          obtain ⟨u, rfl⟩ : ∃ u : Nat, y = (u : Int) := ⟨y.toNat, by have := hb y (by simp); omega⟩
          rw [Lib.itoa_nonneg] at h
          have := dd_isG u 58 h
          revert this; decide
        cases l with
        | nil => rw [nuL_one] at h; exact hy' h
        | cons z l =>
          rw [nuL, List.map_cons, List.map_cons, join_two] at h
          rcases List.mem_append.1 h with h | h
          · exact hy' h
          · rcases List.mem_cons.1 h with h | h
            · revert h; decide
            · exact ih (fun w hw => hb w (by simp at hw ⊢; right; exact hw)) (by rw [nuL, List.map_cons]; exact h)
    exact hall rs (yd_bd hg) h
  have h1 : lsp 58 s.data.toList = [kL ks, nuL rs] := by rw [hl, lsp_hit 58 _ _ (kL_no ks), lsp_miss 58 _ h58]
  have h2 : lsp 44 (nuL rs) = rs.map Lib.itoa := by
    have hno := nu_no hg
    rw [hr] at hno ⊢
    rw [nuL, List.map_cons]
    exact lsp_of_join 44 _ _ hno
  have h3 : (rs.map Lib.itoa).map rdV = rs := by
    rw [List.map_map]
    conv => rhs; rw [← List.map_id rs]
    refine List.map_congr_left fun y hy' => ?_
    have := yd_bd hg y hy'
    obtain ⟨u, rfl⟩ : ∃ u : Nat, y = (u : Int) := ⟨y.toNat, by omega⟩
    exact rd_itoa (by omega)
  have h4 : ((kL ks).all fun c => decide (kdV c ≠ -1)) = true := by
    rw [List.all_eq_true]
    intro c hc
    rw [kL, List.mem_map] at hc
    obtain ⟨k, hk, rfl⟩ := hc
    obtain ⟨j, hj⟩ := List.getElem?_of_mem hk
    have := hg.kd _ _ hj
    rw [kdV_let this.1 this.2]
    simp; omega
  simp only [ypM, if_neg (show ¬ 100 < s.size by omega), h1, h2, h3, kd_map hg, h4, hy, and_self, if_true]

theorem ypM_some {s : ByteArray} {q : Y2} (h : ypM s = some q) : ydB q.1 q.2 = true ∧ ofL (yxL q.1 q.2) = s := by
  unfold ypM at h
  split at h
  · cases h
  · split at h
    · rename_i p0 p1 hp
      split at h
      · rename_i hx
        obtain rfl := Option.some.inj h
        refine ⟨hx.2, ?_⟩
        have hg := (good_iff _ _).1 hx.2
        have hj := lsp_join 58 s.data.toList
        rw [hp, join_two, Lib.join_one] at hj
        have e0 : kL (p0.map kdV) = p0 := by
          rw [kL, List.map_map]
          conv => rhs; rw [← List.map_id p0]
          refine List.map_congr_left fun c hc => ?_
          have := List.all_eq_true.1 hx.1 c hc
          exact let_kdV (by simpa using this)
        have e1 : nuL ((lsp 44 p1).map rdV) = p1 := by
          rw [nuL, List.map_map]
          have : (lsp 44 p1).map (Lib.itoa ∘ rdV) = lsp 44 p1 := by
            conv => rhs; rw [← List.map_id (lsp 44 p1)]
            refine List.map_congr_left fun l hl => ?_
            have hb := yd_bd hg (rdV l) (List.mem_map.2 ⟨l, hl, rfl⟩)
            show Lib.itoa (rdV l) = l
            cases hr : rdB l
            · rw [rdV_no hr] at hb; omega
            · rw [rdV_yes hr, Lib.itoa_nonneg]; exact (rd_back hr).1
          rw [this]
          exact lsp_join 44 p1
        show ofL (yxL (p0.map kdV) ((lsp 44 p1).map rdV)) = s
        rw [yxL, e0, e1, ← ofL_self s, ← hj]
        simp
      · cases h
    · cases h

theorem yp_eq (s : ByteArray) : ypI s = ypM s := by
  cases hp : ypI s with
  | some q =>
    obtain ⟨h1, h2⟩ := ypI_some hp
    exact (ypM_yes h1 h2).symm
  | none =>
    cases hm : ypM s with
    | none => rfl
    | some q =>
      obtain ⟨h1, h2⟩ := ypM_some hm
      rw [ypI_yes h1 h2] at hp
      cases hp

end Go.Proofs.YtoaccnpkobbaaaaDoor
