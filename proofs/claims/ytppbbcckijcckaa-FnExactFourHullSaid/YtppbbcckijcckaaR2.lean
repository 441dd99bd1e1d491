/- Contracts and facts, put together (part 2). Conditions: each says its own. -/
import Derived.Test.YtppbbcckijcckaaR1
import Derived.Deep.QuietTactic
import Derived.BigQuiet

/- Meetings: pairs of joints at one point, in their order. -/
namespace Go.Proofs.Ytppbbcckijcckaa

def ptE (p q : Sp) : Bool := p.x0 == q.x0 && (p.x1 == q.x1 && (p.x2 == q.x2 && p.x3 == q.x3))

theorem ptE_comm (p q : Sp) : ptE p q = ptE q p := by
  simp only [ptE]
  rw [Bool.eq_iff_iff]
  simp only [Bool.and_eq_true, beq_iff_eq]
  omega

def mtA (l : List Sp) (i j : Nat) : Bool :=
  match l[i]?, l[j]? with
  | some p, some q => ptE p q
  | _, _ => false

theorem mtA_at {l : List Sp} {i j : Nat} {p q : Sp} (hp : l[i]? = some p) (hq : l[j]? = some q) : mtA l i j = ptE p q := by simp [mtA, hp, hq]

def rowM (l : List Sp) (j i : Nat) : List (Nat × Nat) := ((List.range i).filter (fun a => mtA l a j)).map (fun a => (a, j))

def accM (l : List Sp) (j i : Nat) : List (Nat × Nat) := (List.range j).flatMap (fun b => rowM l b b) ++ rowM l j i

/-- All pairs, in the order of the second one, then of the first one. -/
def prs (l : List Sp) : List (Nat × Nat) := (List.range l.length).flatMap (fun b => rowM l b b)

theorem rowM_zero (l : List Sp) (j : Nat) : rowM l j 0 = [] := rfl

theorem accM_zero (l : List Sp) : accM l 0 0 = [] := rfl

theorem accM_yes {l : List Sp} {j i : Nat} (h : mtA l i j = true) : accM l j (i + 1) = accM l j i ++ [(i, j)] := by
  simp [accM, rowM, List.range_succ, List.filter_append, h]

theorem accM_no {l : List Sp} {j i : Nat} (h : mtA l i j = false) : accM l j (i + 1) = accM l j i := by
  simp [accM, rowM, List.range_succ, List.filter_append, h]

theorem accM_next (l : List Sp) (j : Nat) : accM l j j = accM l (j + 1) 0 := by
  simp [accM, rowM_zero, List.range_succ, List.flatMap_append]

theorem accM_end (l : List Sp) : accM l l.length 0 = prs l := by simp [accM, rowM_zero, prs]

theorem accM_grow (l : List Sp) (j i : Nat) : ∀ d, ∃ r, accM l j (i + d) = accM l j i ++ r
  | 0 => ⟨[], by simp⟩
  | d + 1 => by
    obtain ⟨r, hr⟩ := accM_grow l j i d
    cases h : mtA l (i + d) j
    · exact ⟨r, by rw [← Nat.add_assoc, accM_no h, hr]⟩
    · exact ⟨r ++ [(i + d, j)], by rw [← Nat.add_assoc, accM_yes h, hr, List.append_assoc]⟩

theorem accM_rows (l : List Sp) (j : Nat) : ∀ d, ∃ r, accM l (j + d) 0 = accM l j 0 ++ r
  | 0 => ⟨[], by simp⟩
  | d + 1 => by
    obtain ⟨r, hr⟩ := accM_rows l j d
    obtain ⟨r', hr'⟩ := accM_grow l (j + d) 0 (j + d)
    rw [Nat.zero_add] at hr'
    exact ⟨r ++ r', by rw [← Nat.add_assoc, ← accM_next, hr', hr, List.append_assoc]⟩

theorem accM_pre {l : List Sp} {j i : Nat} (hj : j < l.length) (hi : i ≤ j) : ∃ r, prs l = accM l j i ++ r := by
  obtain ⟨r, hr⟩ := accM_grow l j i (j - i)
  obtain ⟨r', hr'⟩ := accM_rows l (j + 1) (l.length - (j + 1))
  rw [show i + (j - i) = j by omega, accM_next] at hr
  rw [show j + 1 + (l.length - (j + 1)) = l.length by omega, accM_end] at hr'
  exact ⟨r ++ r', by rw [hr', hr, List.append_assoc]⟩

theorem rowM_length (l : List Sp) (j i : Nat) : (rowM l j i).length ≤ i := by
  have := List.length_filter_le (fun a => mtA l a j) (List.range i)
  simpa [rowM] using this

theorem flat_length {α : Type} (f : Nat → List α) (m : Nat) : ∀ n, (∀ b, b < n → (f b).length ≤ m) → ((List.range n).flatMap f).length ≤ n * m
  | 0, _ => by simp
  | n + 1, h => by
    have ih := flat_length f m n (fun b hb => h b (by omega))
    have h1 := h n (by omega)
    rw [List.range_succ, List.flatMap_append, List.length_append, Nat.succ_mul]
    simp only [List.flatMap_cons, List.flatMap_nil, List.append_nil]
    omega

theorem prs_length (l : List Sp) : (prs l).length ≤ l.length * l.length :=
  flat_length _ _ _ (fun b hb => Nat.le_trans (rowM_length l b b) (by omega))

def prCells (l : List (Nat × Nat)) : List Value := (l.map fun p => [Value.int .i64 (p.1 : Nat), Value.int .i64 (p.2 : Nat)]).flatten

theorem prCells_append (l m : List (Nat × Nat)) : prCells (l ++ m) = prCells l ++ prCells m := by simp [prCells]

theorem prCells_length (l : List (Nat × Nat)) : (prCells l).length = l.length * 2 := by
  induction l with
  | nil => rfl
  | cons a l ih => simp only [prCells, List.map_cons, List.flatten_cons, List.length_append, List.length_cons, List.length_nil] at ih ⊢; omega

theorem take_pre {α : Type} {l a r : List α} (h : l = a ++ r) (n : Nat) (hn : a.length = n) : l.take n = a := by
  subst h hn
  simp

theorem take_allM {α : Type} {l : List α} {n : Nat} (h : l.length ≤ n) : l.take n = l := List.take_of_length_le h

end Go.Proofs.Ytppbbcckijcckaa

/- A closed track has one meeting just if its joints behind the first one are apart. -/
namespace Go.Proofs.Ytppbbcckijcckaa

theorem prs_mem {l : List Sp} {i j : Nat} : (i, j) ∈ prs l ↔ j < l.length ∧ i < j ∧ mtA l i j = true := by
  simp only [prs, rowM, List.mem_flatMap, List.mem_range, List.mem_map, List.mem_filter, Prod.mk.injEq]
  constructor
  · rintro ⟨b, hb, a, ⟨ha, hm⟩, rfl, rfl⟩; exact ⟨hb, ha, hm⟩
  · rintro ⟨hb, ha, hm⟩; exact ⟨j, hb, i, ⟨ha, hm⟩, rfl, rfl⟩

theorem mtA_drop (l : List Sp) (i j : Nat) : mtA (l.drop 1) i j = mtA l (i + 1) (j + 1) := by
  simp [mtA]

theorem ptE_eq {p q : Sp} : ptE p q = true ↔ p.x0 = q.x0 ∧ p.x1 = q.x1 ∧ p.x2 = q.x2 ∧ p.x3 = q.x3 := by
  simp [ptE]

theorem mtA_some {l : List Sp} {i j : Nat} : mtA l i j = true ↔ ∃ p q, l[i]? = some p ∧ l[j]? = some q ∧ ptE p q = true := by
  unfold mtA
  constructor
  · intro h
    split at h
    · rename_i p q hp hq; exact ⟨p, q, hp, hq, h⟩
    · cases h
  · rintro ⟨p, q, hp, hq, h⟩
    rw [hp, hq]; exact h

theorem mtA_two {l : List Sp} {a i j : Nat} (h1 : mtA l a i = true) (h2 : mtA l a j = true) : mtA l i j = true := by
  obtain ⟨p, q, hp, hq, e1⟩ := mtA_some.1 h1
  obtain ⟨p', r, hp', hr, e2⟩ := mtA_some.1 h2
  rw [hp] at hp'
  cases hp'
  rw [ptE_eq] at e1 e2
  exact mtA_some.2 ⟨q, r, hq, hr, ptE_eq.2 (by omega)⟩

theorem plain_eq {l : List Sp} {n : Nat} (hl : l.length = n + 1) (h1 : 1 ≤ n) (hz : mtA l 0 n = true) : (decide (((prs l).take 2).length = 1)) = (prs (l.drop 1)).isEmpty := by
  have hd : (l.drop 1).length = n := by rw [List.length_drop, hl]; rfl
  cases he : prs (l.drop 1) with
  | nil =>
    have hno : ∀ i j, 1 ≤ i → i < j → j < n + 1 → mtA l i j = false := by
      intro i j hi hij hj
      cases hm : mtA l i j
      · rfl
      · have : (i - 1, j - 1) ∈ prs (l.drop 1) := prs_mem.2 ⟨by omega, by omega, by rw [mtA_drop, show i - 1 + 1 = i by omega, show j - 1 + 1 = j by omega]; exact hm⟩
        rw [he] at this
        cases this
    have hno0 : ∀ j, j < n → 0 < j → mtA l 0 j = false := by
      intro j hj h0
      cases hm : mtA l 0 j
      · rfl
      · rw [← hno j n (by omega) (by omega) (by omega)]
        exact (mtA_two hm hz).symm
    have hrow : ∀ b, b < n → rowM l b b = [] := by
      intro b hb
      simp only [rowM, List.map_eq_nil_iff, List.filter_eq_nil_iff, List.mem_range, Bool.not_eq_true]
      intro a ha
      by_cases h0 : a = 0
      · subst h0; exact hno0 b hb ha
      · exact hno a b (by omega) ha (by omega)
    have hlast : rowM l n n = [(0, n)] := by
      obtain ⟨m, rfl⟩ : ∃ m, n = m + 1 := ⟨n - 1, by omega⟩
      have hf : ((List.range m).map Nat.succ).filter (fun a => mtA l a (m + 1)) = [] := by
        simp only [List.filter_eq_nil_iff, List.mem_map, List.mem_range, Bool.not_eq_true]
        rintro _ ⟨a, ha, rfl⟩
        exact hno _ _ (by omega) (by omega) (by omega)
      simp only [rowM]
      rw [List.range_succ_eq_map, List.filter_cons, if_pos hz, hf]
      rfl
    have hall : prs l = [(0, n)] := by
      simp only [prs, hl, List.range_succ, List.flatMap_append, List.flatMap_cons, List.flatMap_nil, List.append_nil, hlast]
      have : (List.range n).flatMap (fun b => rowM l b b) = [] := by
        simp only [List.flatMap_eq_nil_iff, List.mem_range]
        exact hrow
      rw [this]
      rfl
    rw [hall]
    rfl
  | cons x r =>
    obtain ⟨i, j⟩ := x
    have hm : (i, j) ∈ prs (l.drop 1) := by rw [he]; exact List.mem_cons_self
    obtain ⟨g1, g2, g3⟩ := prs_mem.1 hm
    rw [mtA_drop] at g3
    have m1 : (i + 1, j + 1) ∈ prs l := prs_mem.2 ⟨by omega, by omega, g3⟩
    have m2 : (0, n) ∈ prs l := prs_mem.2 ⟨by omega, by omega, hz⟩
    have : ((prs l).take 2).length ≠ 1 := by
      intro h
      rw [List.length_take] at h
      have hle : (prs l).length = 1 := by omega
      obtain ⟨y, hy⟩ := List.length_eq_one_iff.1 hle
      rw [hy] at m1 m2
      simp only [List.mem_singleton] at m1 m2
      rw [← m2] at m1
      simp at m1
    rw [decide_eq_false this]
    rfl

end Go.Proofs.Ytppbbcckijcckaa

/- Contracts: meetings in the model: the first one, and how many. -/
namespace Go.Proofs.Ytppbbcckijcckaa
open Go.ChangeShapes Go.WideShapes Go.ChangeAt Go.RowKit

set_option linter.unusedVariables false

def prsS (s : ByteArray) : List (Nat × Nat) := cond (tkB s) (prs (lays sp0 s.data.toList)) []

theorem prsS_yes {s : ByteArray} (h : tkB s = true) : prsS s = prs (lays sp0 s.data.toList) := by simp [prsS, h]

theorem prsS_no {s : ByteArray} (h : tkB s = false) : prsS s = [] := by simp [prsS, h]

def fI (l : List (Nat × Nat)) : Int := (l.head?.map fun p => (p.1 : Int)).getD 0

def fJ (l : List (Nat × Nat)) : Int := (l.head?.map fun p => (p.2 : Int)).getD 0

def fB (l : List (Nat × Nat)) : Bool := l.head?.isSome

theorem ret_fm {l : List (Nat × Nat)} {i j : Int} {b : Bool} (h1 : fI l = i) (h2 : fJ l = j) (h3 : fB l = b) : Ending.returned (.tuple #[.int .i64 i, .int .i64 j, .bool b]) = Ending.returned (.tuple #[.int .i64 (fI l), .int .i64 (fJ l), .bool (fB l)]) := by rw [h1, h2, h3]

theorem ret_no {l : List (Nat × Nat)} (h : l = []) : Ending.returned (.tuple #[.int .i64 0, .int .i64 0, .bool false]) = Ending.returned (.tuple #[.int .i64 (fI l), .int .i64 (fJ l), .bool (fB l)]) := by subst h; rfl

theorem ret_one {l r : List (Nat × Nat)} {i j : Nat} (h : l = (i, j) :: r) : Ending.returned (.tuple #[.int .i64 (i : Nat), .int .i64 (j : Nat), .bool true]) = Ending.returned (.tuple #[.int .i64 (fI l), .int .i64 (fJ l), .bool (fB l)]) := by subst h; rfl

end Go.Proofs.Ytppbbcckijcckaa

/- Contract: the program's 'meetings'. -/
namespace Go.Proofs.Ytppbbcckijcckaa
open Go.ChangeShapes Go.WideShapes Go.ChangeAt Go.RowKit

set_option linter.unusedVariables false

theorem prInfo : (Try.prog.info? 141).map (fun i => (i.zero, i.size, i.bytes)) = some (some (.agg #[.int .i64 0, .int .i64 0]), 2, 16) := by kernel_rfl

theorem own_blk {W : World} {B : Nat} {e t : TypeId} {size n : Nat} {v : Value} {xs : List Value} {g : Nat} {cs : Array Value} {fz : Nat × Nat} (h : W.ownsRow B e size v n xs) (hg : W.heap[g]? = some (.cells cs t fz)) (hne : e ≠ t) : some g ≠ v.ownBlock := by
  rcases h.2 with ⟨rfl, _⟩ | ⟨g', cap, cur, rfl, _, hg', _⟩
  · simp [Value.ownBlock]
  · intro he
    simp only [Value.ownBlock, Option.some.injEq] at he
    subst he
    rw [hg] at hg'
    simp only [Option.some.injEq, Obj.cells.injEq] at hg'
    exact hne hg'.2.1.symm

/-- Joints at their place, in a block that was there. -/
def JtAt (w : World) (g : Nat) (l : List Sp) : Prop :=
  ∀ i p, l[i]? = some p → w.cell? ⟨g, i * 4, none⟩ = some (.int .i64 p.x0) ∧ w.cell? ⟨g, i * 4 + 1, none⟩ = some (.int .i64 p.x1) ∧ w.cell? ⟨g, i * 4 + 2, none⟩ = some (.int .i64 p.x2) ∧ w.cell? ⟨g, i * 4 + 3, none⟩ = some (.int .i64 p.x3)

theorem JtAt.below {w w' : World} {g n : Nat} {l : List Sp} (h : JtAt w g l) (hg : g < n) (hb : Below n w w') : JtAt w' g l := by
  intro i p hp
  obtain ⟨a, b, c, d⟩ := h i p hp
  refine ⟨?_, ?_, ?_, ?_⟩
  · rw [hb.cell (p := ⟨g, i * 4, none⟩) hg]; exact a
  · rw [hb.cell (p := ⟨g, i * 4 + 1, none⟩) hg]; exact b
  · rw [hb.cell (p := ⟨g, i * 4 + 2, none⟩) hg]; exact c
  · rw [hb.cell (p := ⟨g, i * 4 + 3, none⟩) hg]; exact d

def MePost (l : List Sp) (m : Nat) (w : World) (e : Ending) (w' : World) : Prop :=
  ∃ v, e = .returned v ∧ w'.ownsRow w.heap.size 141 2 v ((prs l).take m).length (prCells ((prs l).take m)) ∧ Below w.heap.size w w'

set_option maxRecDepth 100000 in
set_option maxHeartbeats 3200000 in
theorem meetings_any (g N cap m : Nat) (l : List Sp) (hN : l.length = N) (hN1 : N ≤ 41) (hm : m ≤ 2000) (w : World) (hg : g < w.heap.size) (hc : JtAt w g l) (hcap : N ≤ cap) (hcap2 : cap ≤ maxLen) :
    Calls Try.prog 126 #[.slice (some ⟨g, 0, none⟩) N cap, .int .i64 (m : Nat)] w (MePost l m w) := by
  have HN := Lib.hid hN
  have HC := Lib.hid hc
  obtain ⟨i0, hi, iz0, iz1, iz2⟩ := info_parts prInfo
  unfold maxLen at hcap2
  clear hN hc
  go_enter Try.func126, Try.ntmps126
  go_wp2_with fail
  go_step3
  go_wp2_with fail
  go_step3
  go_wp2_with fail
  go_loopw [5, 12] (fun t i wr => ∃ (j : Nat) (v : Value), j ≤ N ∧ i = .int .i64 j ∧ v = t ∧ (accM l j 0).length ≤ m ∧ wr.ownsRow w.heap.size 141 2 v (accM l j 0).length (prCells (accM l j 0)) ∧ Below w.heap.size w wr) (fun _ i _ => N - (intOf i).toNat)
  case atStart => exact ⟨0, _, Nat.zero_le _, rfl, rfl, Nat.zero_le _, World.ownsRow_nil _ _ _ _, Below.refl _ _⟩
  case round =>
    obtain ⟨j, v, hj, rfl, rfl, hlen, hO, hb⟩ := hrel
    obtain ⟨wo, rfl⟩ : ∃ wo : World, wo = wr := ⟨_, rfl⟩
    have hz : w.heap.size ≤ wo.heap.size := hb.size
    by_cases hlt : j < N
    · obtain ⟨q, hq⟩ : ∃ q, l[j]? = some q := ⟨_, List.getElem?_eq_getElem (by rw [HN.out]; exact hlt)⟩
      obtain ⟨d0, d1, d2, d3⟩ := (HC.out.below hg hb) j q hq
      have HQ := Lib.hid hq
      have HO := Lib.hid hO
      have HB := Lib.hid hb
      obtain ⟨y0, y1, y2, y3, y4⟩ := q
      clear hq hO hb
      go_wp2_with fail
      go_loopw [5, 21] (fun t i wr => ∃ (a : Nat) (v : Value), a ≤ j ∧ i = .int .i64 a ∧ v = t ∧ (accM l j a).length ≤ m ∧ wr.ownsRow w.heap.size 141 2 v (accM l j a).length (prCells (accM l j a)) ∧ wr.heap[wo.heap.size]? = some (.cells #[.int .i64 y0, .int .i64 y1, .int .i64 y2, .int .i64 y3] 26 (0, 0)) ∧ Below w.heap.size w wr) (fun _ i _ => j - (intOf i).toNat)
      case atStart => exact ⟨0, _, Nat.zero_le _, rfl, rfl, hlen, HO.out.alloc _, heap_alloc_new _ _, HB.out.alloc hz _⟩
      case round =>
        obtain ⟨a, v, haj, rfl, rfl, hlen, hO, hblk, hb⟩ := hrel
        have hz2 : w.heap.size ≤ wr.heap.size := hb.size
        have hzl := blk_lt hblk
        by_cases hla : a < j
        · obtain ⟨p, hp⟩ : ∃ p, l[a]? = some p := ⟨_, List.getElem?_eq_getElem (by rw [HN.out]; omega)⟩
          obtain ⟨c0, c1, c2, c3⟩ := (HC.out.below hg hb) a p hp
          obtain ⟨e0, e1, e2, e3⟩ := blk_cells hblk
          have hmt := mtA_at hp HQ.out
          obtain ⟨x0, x1, x2, x3, x4⟩ := p
          simp only [ptE] at hmt c0 c1 c2 c3
          obtain ⟨av, cv, rfl⟩ : ∃ av cv, v = .slice av (accM l j a).length cv := by
            rcases hO.2 with ⟨h, h0⟩ | ⟨gv, cv, _, h, _⟩
            · exact ⟨none, 0, by rw [h, h0]⟩
            · exact ⟨_, _, h⟩
          have HO2 := Lib.hid hO
          have HB2 := Lib.hid hb
          have HK2 := Lib.hid hblk
          clear hp hO hb hblk
          by_cases hfull : (accM l j a).length = m
          · obtain ⟨r, hr⟩ := accM_pre (l := l) (j := j) (i := a) (by rw [HN.out]; exact hlt) haj
            have HT := Lib.hid (take_pre hr m hfull)
            clear hr
            have b1 : (((accM l j a).length : Nat) : Int) = ((m : Nat) : Int) := by omega
            go_wp2_with fail
            rw [Exit.noGoto_ret]
            go_ret
            exact ⟨_, rfl, by rw [HT.out]; exact HO2.out.alloc _, HB2.out.alloc hz2 _⟩
          · have HF := Lib.hid hfull
            have b1 : ((((accM l j a).length : Nat) : Int) == ((m : Nat) : Int)) = false := by simp; omega
            have b2 : ((accM l j a).length == m) = false := by simp; omega
            have hcm : (x0 == y0 && (x1 == y1 && (x2 == y2 && x3 == y3))) = (y0 == x0 && (y1 == x1 && (y2 == x2 && y3 == x3))) := ptE_comm ⟨x0, x1, x2, x3, x4⟩ ⟨y0, y1, y2, y3, y4⟩
            rw [hcm] at hmt
            clear hcm
            cases hv : (y0 == x0 && (y1 == x1 && (y2 == x2 && y3 == x3)))
            · rw [hv] at hmt
              have HM := Lib.hid hmt
              clear hfull hmt
              go_wp2_with fail
              go_roundw
              case rel => exact ⟨a + 1, _, by omega, by go_num, rfl, by rw [accM_no HM.out]; exact hlen, by rw [accM_no HM.out]; exact HO2.out.alloc _, (Below.heap_alloc _ _ _ hzl).trans HK2.out, HB2.out.alloc hz2 _⟩
              case measure => simp [intOf]; omega
            · rw [hv] at hmt
              have HM := Lib.hid hmt
              clear hfull hmt
              go_wp2_with (at_builtin; refine wpList_append_own _ rfl _ _ 116 rfl w.heap.size 141 i0 (.agg #[.int .i64 0, .int .i64 0]) 2 16 Try.underlying116 hi iz0 iz1 iz2 rfl (by decide) _ _ _ rfl ((HO2.out.alloc _).alloc _) ⟨wr.heap.size + 1, 0, none⟩ 1 1 [.int .i64 ((a : Nat) : Int), .int .i64 ((j : Nat) : Int)] rfl rfl (newc (by simp)) (by intro u hu; simp at hu; rcases hu with rfl | rfl <;> rfl) (by unfold maxLen; omega) (by omega) (by simp; omega) ?_)
              intro v' w3 hJ3 hg3 _
              have HOA := Lib.hid ((HO2.out.alloc (.cells #[.int .i64 x0, .int .i64 x1, .int .i64 x2, .int .i64 x3] 26)).alloc (.cells #[.int .i64 ((a : Nat) : Int), .int .i64 ((j : Nat) : Int)] 141))
              have hbA := (Below.heap_alloc (wr.alloc (.cells #[.int .i64 x0, .int .i64 x1, .int .i64 x2, .int .i64 x3] 26)) (.cells #[.int .i64 ((a : Nat) : Int), .int .i64 ((j : Nat) : Int)] 141) wo.heap.size (by simp; omega)).trans ((Below.heap_alloc wr (.cells #[.int .i64 x0, .int .i64 x1, .int .i64 x2, .int .i64 x3] 26) _ hzl).trans HK2.out)
              have HK3 := Lib.hid ((hg3.block wo.heap.size (by simp; omega) (own_blk HOA.out hbA (by decide))).trans hbA)
              have HB3 := Lib.hid ((((HB2.out.alloc hz2 (.cells #[.int .i64 x0, .int .i64 x1, .int .i64 x2, .int .i64 x3] 26)).alloc (by simp; omega) (.cells #[.int .i64 ((a : Nat) : Int), .int .i64 ((j : Nat) : Int)] 141)).grown hg3 (by simp; omega) (fun k hk => (HOA.out.lt k hk).1)))
              have HJ3 := Lib.hid hJ3
              clear hJ3 hg3 hbA c0 c1 c2 c3 e0 e1 e2 e3
              go_wp2_with fail
              go_roundw
              case rel => exact ⟨a + 1, v', by omega, by go_num, rfl, by have := HF.out; rw [accM_yes HM.out, List.length_append]; simp only [List.length_cons, List.length_nil]; omega, by rw [accM_yes HM.out, prCells_append, List.length_append]; exact HJ3.out, HK3.out, HB3.out⟩
              case measure => simp [intOf]; omega
        · obtain rfl : a = j := by omega
          have HO2 := Lib.hid hO
          have HB2 := Lib.hid hb
          clear hO hb hblk
          go_wp2_with fail
          go_roundw
          case rel => exact ⟨a + 1, _, by omega, by go_num, rfl, by rw [← accM_next]; exact hlen, by rw [← accM_next]; exact HO2.out, HB2.out⟩
          case measure => simp [intOf]; omega
    · obtain rfl : j = N := by omega
      have hE : accM l j 0 = prs l := by have := accM_end l; rw [HN.out] at this; exact this
      rw [hE] at hlen hO
      have HT := Lib.hid (take_allM hlen)
      have HO2 := Lib.hid hO
      have HB2 := Lib.hid hb
      clear hE hO hb
      go_wp2_with fail
      rw [Exit.noGoto_ret]
      go_ret
      exact ⟨_, rfl, by rw [HT.out]; exact HO2.out, HB2.out⟩

end Go.Proofs.Ytppbbcckijcckaa

/- Contracts: whether a closed track is plain. -/
namespace Go.Proofs.Ytppbbcckijcckaa
open Go.ChangeShapes Go.WideShapes Go.ChangeAt Go.RowKit

set_option linter.unusedVariables false

def plR (s : ByteArray) : Bool := clB s && (prs ((lays sp0 s.data.toList).drop 1)).isEmpty

theorem ret_pl {s : ByteArray} {x : Bool} {b : Bool} (hb : clB s = b) (hs : plR s = x) : Ending.returned (.tuple #[.bool x, .bool b]) = Ending.returned (.tuple #[.bool (plR s), .bool (clB s)]) := by rw [hb, hs]

theorem own_cap' {W : World} {B n g cap size : Nat} {e : TypeId} {xs : List Value} (h : W.ownsRow B e size (.slice (some ⟨g, 0, none⟩) n cap) n xs) : n ≤ cap ∧ cap ≤ maxLen := by
  rcases h.2 with ⟨h, _⟩ | ⟨g', cap', cur, h, _, _, h1, h2, _⟩
  · cases h
  · injection h with _ _ h3
    subst h3
    exact ⟨h1, h2⟩

theorem own_form' {W : World} {B n size : Nat} {e : TypeId} {v : Value} {xs : List Value} (h : W.ownsRow B e size v n xs) : ∃ av cv, v = .slice av n cv := by
  rcases h.2 with ⟨h, h0⟩ | ⟨g, cap, cur, h, _⟩
  · exact ⟨none, 0, by rw [h, h0]⟩
  · exact ⟨_, _, h⟩

theorem ret_b2 {x y : Bool} (h : x = y) : Ending.returned (.tuple #[.bool x, .bool true]) = Ending.returned (.tuple #[.bool y, .bool true]) := by rw [h]

theorem jt_of2 {W : World} {B n g cap : Nat} {e : TypeId} {l : List Sp} (h : W.ownsRow B e 4 (.slice (some ⟨g, 0, none⟩) n cap) n (ptCells l)) (hn : l.length = n) : JtAt W g l := fun i p hp => own_pt h hn hp

/-- In a closed track the first joint and the last one meet. -/
theorem cl_ends {s : ByteArray} (h : clB s = true) : 1 ≤ s.size ∧ mtA (lays sp0 s.data.toList) 0 s.size = true := by
  have ht := clB_tk h
  rw [clB_yes ht] at h
  simp only [Bool.and_eq_true, decide_eq_true_eq, zS] at h
  refine ⟨h.1, mtA_some.2 ⟨sp0, _, ?_, lays_atA sp0 s, ?_⟩⟩
  · cases hd : s.data.toList <;> rfl
  · have hz := h.2.1
    rw [zP, enS_yes ht] at hz
    simp only [Bool.and_eq_true, beq_iff_eq] at hz
    rw [ptE_eq]
    exact ⟨hz.1.symm, hz.2.1.symm, hz.2.2.1.symm, hz.2.2.2.symm⟩

theorem jt_off {w : World} {g : Nat} {l : List Sp} (h : JtAt w g l) {i : Nat} {p : Sp} (hp : (l.drop 1)[i]? = some p) :
    w.cell? ⟨g, 4 + i * 4, none⟩ = some (.int .i64 p.x0) ∧ w.cell? ⟨g, 4 + i * 4 + 1, none⟩ = some (.int .i64 p.x1) ∧ w.cell? ⟨g, 4 + i * 4 + 2, none⟩ = some (.int .i64 p.x2) ∧ w.cell? ⟨g, 4 + i * 4 + 3, none⟩ = some (.int .i64 p.x3) := by
  rw [List.getElem?_drop] at hp
  have := h _ p hp
  rwa [show (1 + i) * 4 = 4 + i * 4 by omega] at this

set_option maxRecDepth 100000 in
set_option maxHeartbeats 1600000 in
theorem spIsPlain (s : ByteArray) (hs : s.size ≤ 1048576) (w : World) :
    Calls Try.prog 81 #[.string s] w fun e w' => e = .returned (.tuple #[.bool (plR s), .bool (clB s)]) ∧ Below w.heap.size w w' := by
  have HC := Lib.hid (clGood_any s hs)
  cases tc : clB s
  · have R := Lib.hid (show plR s = false by simp [plR, tc])
    rw [tc] at HC
    go_enter Try.func81, Try.ntmps81
    go_wp2_with (go_at_call 61; (with_reducible refine (HC.out _).mono ?_); rintro e wA ⟨rfl, h1⟩; (try with_reducible replace h1 := undrew h1); have hB : Below w.heap.size w wA := ba (by go_grown) h1; obtain ⟨hcwA, hfwA⟩ := bcell h1; have hqwA := h1.size; (try simp at hqwA); )
    go_ret2
    exact ⟨by rw [R.out]; rfl, by go_grown⟩
  have ht := clB_tk tc
  have h40 := tkB_size ht
  have hR : plR s = (prs ((lays sp0 s.data.toList).drop 1)).isEmpty := by simp [plR, tc]
  have hL := lays_lenA sp0 s
  rw [tc] at HC
  go_enter Try.func81, Try.ntmps81
  go_wp2_with (go_at_call 61; (with_reducible refine (HC.out _).mono ?_); rintro e wA ⟨rfl, h1⟩; (try with_reducible replace h1 := undrew h1); have hB : Below w.heap.size w wA := ba (by go_grown) h1; obtain ⟨hcwA, hfwA⟩ := bcell h1; have hqwA := h1.size; (try simp at hqwA); )
  refine (tkJoints_yes s ht _).mono ?_
  rintro e w1 ⟨g, cap, rfl, hO, hb1⟩
  generalize lays sp0 s.data.toList = l at hR hO hL
  have hN : (l.drop 1).length = s.size := by rw [List.length_drop, hL]; rfl
  obtain ⟨hcp, hcp2⟩ := own_cap' hO
  have hg := (hO.lt g rfl).2
  have HJ := Lib.hid (jt_of2 hO hL)
  have HR := Lib.hid hR
  have HN := Lib.hid hN
  have HB := Lib.hid (ba (by go_grown) hb1 : Below w.heap.size w w1)
  have i1 : (1 : Int) ≤ ((s.size + 1 : Nat) : Int) := by omega
  have i2 : ((s.size + 1 : Nat) : Int) ≤ (cap : Int) := by omega
  clear hO hb1 hL hR hN
  have hn1 : ¬ cap = 1 := by have := (cl_ends tc).1; omega
  go_wp2_with fail
  go_loopw [17] (fun i wr => ∃ (j : Nat), j ≤ s.size ∧ i = .int .i64 j ∧ accM (l.drop 1) j 0 = [] ∧ Below w1.heap.size w1 wr) (fun i _ => s.size + 1 - (intOf i).toNat)
  case atStart => exact ⟨0, Nat.zero_le _, rfl, accM_zero _, Below.refl _ _⟩
  case round =>
    obtain ⟨j, hj, rfl, hacc, hb⟩ := hrel
    have HA := Lib.hid hacc
    have hz := hb.size
    have HB1 := Lib.hid hb
    clear hacc hb
    obtain ⟨wo, rfl⟩ : ∃ wo : World, wo = wr := ⟨_, rfl⟩
    by_cases hlt : j < s.size
    · obtain ⟨q, hq⟩ : ∃ q, (l.drop 1)[j]? = some q := ⟨_, List.getElem?_eq_getElem (by rw [HN.out]; exact hlt)⟩
      obtain ⟨d0, d1, d2, d3⟩ := jt_off (HJ.out.below hg HB1.out) hq
      have HQ := Lib.hid hq
      obtain ⟨y0, y1, y2, y3, y4⟩ := q
      clear hq
      go_wp2_with fail
      go_loopw [26] (fun i wr => ∃ (a : Nat), a ≤ j ∧ i = .int .i64 a ∧ accM (l.drop 1) j a = [] ∧ wr.heap[wo.heap.size]? = some (.cells #[.int .i64 y0, .int .i64 y1, .int .i64 y2, .int .i64 y3] 26 (0, 0)) ∧ Below w1.heap.size w1 wr) (fun i _ => j + 1 - (intOf i).toNat)
      case atStart => exact ⟨0, Nat.zero_le _, rfl, HA.out, heap_alloc_new _ _, HB1.out.alloc hz _⟩
      case round =>
        obtain ⟨a, haj, rfl, hacc, hblk, hb⟩ := hrel
        have hz2 := hb.size
        have hzl := blk_lt hblk
        by_cases hla : a < j
        · obtain ⟨p, hp⟩ : ∃ p, (l.drop 1)[a]? = some p := ⟨_, List.getElem?_eq_getElem (by rw [HN.out]; omega)⟩
          obtain ⟨c0, c1, c2, c3⟩ := jt_off (HJ.out.below hg hb) hp
          obtain ⟨e0, e1, e2, e3⟩ := blk_cells hblk
          have hm := mtA_at hp HQ.out
          obtain ⟨x0, x1, x2, x3, x4⟩ := p
          simp only [ptE] at hm c0 c1 c2 c3
          have HA2 := Lib.hid hacc
          have HK2 := Lib.hid hblk
          have HB2 := Lib.hid hb
          have hcm : (x0 == y0 && (x1 == y1 && (x2 == y2 && x3 == y3))) = (y0 == x0 && (y1 == x1 && (y2 == x2 && y3 == x3))) := ptE_comm ⟨x0, x1, x2, x3, x4⟩ ⟨y0, y1, y2, y3, y4⟩
          rw [hcm] at hm
          clear hp hacc hblk hb hcm
          cases hv : (y0 == x0 && (y1 == x1 && (y2 == x2 && y3 == x3)))
          · rw [hv] at hm
            have HM := Lib.hid hm
            clear hm
            go_wp2_with fail
            go_roundw
            case rel => exact ⟨a + 1, by omega, by go_num, by rw [accM_no HM.out]; exact HA2.out, (Below.heap_alloc _ _ _ hzl).trans HK2.out, HB2.out.alloc hz2 _⟩
            case measure => simp [intOf]; omega
          · rw [hv] at hm
            have HM := Lib.hid hm
            clear hm
            obtain ⟨r, hr⟩ := accM_pre (l := l.drop 1) (j := j) (i := a + 1) (by rw [HN.out]; omega) (by omega)
            rw [accM_yes HM.out, HA2.out] at hr
            have HE := Lib.hid hr
            clear hr
            go_wp2_with fail
            go_ret2
            exact ⟨by rw [HR.out, HE.out]; rfl, HB.out.trans ((HB2.out.alloc hz2 _).mono HB.out.size)⟩
        · obtain rfl : a = j := by omega
          have HA2 := Lib.hid hacc
          have HB2 := Lib.hid hb
          clear hacc hblk hb
          go_wp2_with fail
          go_roundw
          case rel => exact ⟨a + 1, by omega, by go_num, by rw [← accM_next]; exact HA2.out, HB2.out⟩
          case measure => simp [intOf]; omega
    · obtain rfl : j = s.size := by omega
      have HE := Lib.hid (accM_end (l.drop 1))
      rw [HN.out, HA.out] at HE
      go_wp2_with fail
      go_ret2
      exact ⟨by rw [HR.out, ← HE.out]; rfl, HB.out.trans (HB1.out.mono HB.out.size)⟩

theorem imPl (s : ByteArray) (htc : clB s = true) (ht : tkB s = true) (w : World) :
    Calls Try.prog 82 #[.string s] w fun e w' => e = .returned (.tuple #[.bool (decide (((prs (lays sp0 s.data.toList)).take 2).length = 1)), .bool true]) ∧ Below w.heap.size w w' := by
  have h40 := tkB_size ht
  have hs : s.size ≤ 1048576 := by omega
  have HC := Lib.hid (isClosed_any s hs)
  rw [htc] at HC
  have hL := lays_lenA sp0 s
  go_enter Try.func82, Try.ntmps82
  go_wp2_with (go_at_call 64; (with_reducible refine (HC.out _).mono ?_); rintro e wA ⟨rfl, h1⟩; (try with_reducible replace h1 := undrew h1); have hB : Below w.heap.size w wA := ba (by go_grown) h1; obtain ⟨hcwA, hfwA⟩ := bcell h1; have hqwA := h1.size; (try simp at hqwA); )
  refine (imJointsOf_yes s ht _).mono ?_
  rintro e w1 ⟨g, cap, rfl, hO, hb1⟩
  simp only [okT]
  generalize hle : lays sp0 s.data.toList = l at hO hL
  have HLE := Lib.hid hle
  clear hle
  have hv := meetings_any g (s.size + 1) cap 2 l hL (by omega) (by omega) w1 (hO.lt g rfl).2 (jt_of2 hO hL) (own_cap' hO).1 (own_cap' hO).2
  have HV := Lib.hid hv
  have HB := Lib.hid (ba (by go_grown) hb1 : Below w.heap.size w w1)
  have hlen : ((prs l).take 2).length ≤ 2 := by rw [List.length_take]; omega
  clear hO hb1 hL hv
  go_wp2_with fail
  refine HV.out.mono ?_
  rintro e w2 ⟨v, rfl, hM, hb2⟩
  obtain ⟨m, hm⟩ : ∃ m, ((prs l).take 2).length = m := ⟨_, rfl⟩
  rw [hm] at hM hlen
  have HM := Lib.hid hm
  obtain ⟨av, cv, rfl⟩ := own_form' hM
  have HB2 := Lib.hid (HB.out.trans (hb2.mono HB.out.size))
  clear hm
  clear hM hb2
  go_wp2_with fail
  go_ret2
  exact ⟨ret_b2 (by rw [HLE.out, HM.out]; by_cases h : m = 1; (subst h; rfl); (rw [decide_eq_false h]; exact beq_eq_false_iff_ne.2 (by omega))), HB2.out⟩

theorem imIsPlain (s : ByteArray) (hs : s.size ≤ 1048576) (w : World) :
    Calls Try.prog 82 #[.string s] w fun e w' => e = .returned (.tuple #[.bool (plR s), .bool (clB s)]) ∧ Below w.heap.size w w' := by
  cases tc : clB s
  · have HC := Lib.hid (isClosed_any s hs)
    have R := Lib.hid (show plR s = false by simp [plR, tc])
    rw [tc] at HC
    go_enter Try.func82, Try.ntmps82
    go_wp2_with (go_at_call 64; (with_reducible refine (HC.out _).mono ?_); rintro e wA ⟨rfl, h1⟩; (try with_reducible replace h1 := undrew h1); have hB : Below w.heap.size w wA := ba (by go_grown) h1; obtain ⟨hcwA, hfwA⟩ := bcell h1; have hqwA := h1.size; (try simp at hqwA); )
    go_ret2
    exact ⟨by rw [R.out]; rfl, by go_grown⟩
  · obtain ⟨h1, hz⟩ := cl_ends tc
    have := imPl s tc (clB_tk tc) w
    rw [plain_eq (lays_lenA sp0 s) h1 hz] at this
    simpa [plR, tc] using this

end Go.Proofs.Ytppbbcckijcckaa

/- Contracts: IsSimple, in the model and in the program. -/
namespace Go.Proofs.Ytppbbcckijcckaa
open Go.ChangeShapes Go.WideShapes Go.ChangeAt Go.RowKit Go.Sort

set_option linter.unusedVariables false
set_option linter.unusedSimpArgs false

def siR (s : ByteArray) : Bool := plR s && decide (ccR s = 0)

theorem rBB {x y b c : Bool} (h : x = y) (k : b = c) : Ending.returned (.tuple #[.bool x, .bool b]) = Ending.returned (.tuple #[.bool y, .bool c]) := by rw [h, k]

set_option maxRecDepth 100000 in
set_option maxHeartbeats 800000 in
theorem imIsSimple (s : ByteArray) (hs : s.size ≤ 1048576) (w : World) :
    Calls Try.prog 36 #[.string s] w fun e w' => e = .returned (.tuple #[.bool (siR s), .bool (clB s)]) ∧ Below w.heap.size w w' := by
  have CC := imCountCrossings s hs
  have PL := imIsPlain s hs
  have e0 := Lib.hid (show siR s = (plR s && decide (ccR s = 0)) from rfl)
  generalize siR s = R at *
  generalize plR s = P at *
  generalize ccR s = n at *
  cases P
  · go_enter Try.func36, Try.ntmps36
    go_wp2_with (first | (go_at_call 34; (with_reducible refine (CC _).mono ?_); rintro e wA ⟨rfl, h1⟩; (try with_reducible replace h1 := undrew h1); have hB : Below w.heap.size w wA := ba (by go_grown) h1; obtain ⟨hcwA, hfwA⟩ := bcell h1; have hqwA := h1.size; (try simp at hqwA); (try have hz0wA : w.heap.size < wA.heap.size := (by omega)); (try have he0wA : w.heap.size ≤ wA.heap.size := (by omega))) | (go_at_call 82; (with_reducible refine (PL _).mono ?_); rintro e wB ⟨rfl, h1⟩; (try with_reducible replace h1 := undrew h1); have hB : Below w.heap.size w wB := ba (by go_grown) h1; obtain ⟨hcwB, hfwB⟩ := bcell h1; have hqwB := h1.size; (try simp at hqwB); (try have hz0wB : w.heap.size < wB.heap.size := (by omega)); (try have he0wB : w.heap.size ≤ wB.heap.size := (by omega))))
    go_returns
    exact ⟨rBB (by rw [e0.out]; rfl) rfl, by go_grown⟩
  · by_cases hn : n = 0
    · subst hn
      go_enter Try.func36, Try.ntmps36
      go_wp2_with (first | (go_at_call 34; (with_reducible refine (CC _).mono ?_); rintro e wA ⟨rfl, h1⟩; (try with_reducible replace h1 := undrew h1); have hB : Below w.heap.size w wA := ba (by go_grown) h1; obtain ⟨hcwA, hfwA⟩ := bcell h1; have hqwA := h1.size; (try simp at hqwA); (try have hz0wA : w.heap.size < wA.heap.size := (by omega)); (try have he0wA : w.heap.size ≤ wA.heap.size := (by omega))) | (go_at_call 82; (with_reducible refine (PL _).mono ?_); rintro e wB ⟨rfl, h1⟩; (try with_reducible replace h1 := undrew h1); have hB : Below w.heap.size w wB := ba (by go_grown) h1; obtain ⟨hcwB, hfwB⟩ := bcell h1; have hqwB := h1.size; (try simp at hqwB); (try have hz0wB : w.heap.size < wB.heap.size := (by omega)); (try have he0wB : w.heap.size ≤ wB.heap.size := (by omega))))
      go_returns
      exact ⟨rBB (by rw [e0.out]; rfl) rfl, by go_grown⟩
    · have f1 : (n == 0) = false := beq_eq_false_iff_ne.2 hn
      go_enter Try.func36, Try.ntmps36
      go_wp2_with (first | (go_at_call 34; (with_reducible refine (CC _).mono ?_); rintro e wA ⟨rfl, h1⟩; (try with_reducible replace h1 := undrew h1); have hB : Below w.heap.size w wA := ba (by go_grown) h1; obtain ⟨hcwA, hfwA⟩ := bcell h1; have hqwA := h1.size; (try simp at hqwA); (try have hz0wA : w.heap.size < wA.heap.size := (by omega)); (try have he0wA : w.heap.size ≤ wA.heap.size := (by omega))) | (go_at_call 82; (with_reducible refine (PL _).mono ?_); rintro e wB ⟨rfl, h1⟩; (try with_reducible replace h1 := undrew h1); have hB : Below w.heap.size w wB := ba (by go_grown) h1; obtain ⟨hcwB, hfwB⟩ := bcell h1; have hqwB := h1.size; (try simp at hqwB); (try have hz0wB : w.heap.size < wB.heap.size := (by omega)); (try have he0wB : w.heap.size ≤ wB.heap.size := (by omega))))
      go_returns
      exact ⟨rBB (by rw [e0.out, decide_eq_false hn]; first | rfl | simp [hn]) rfl, by go_grown⟩

set_option maxRecDepth 100000 in
set_option maxHeartbeats 800000 in
theorem spIsSimple (s : ByteArray) (hs : s.size ≤ 1048576) (w : World) :
    Calls Try.prog 35 #[.string s] w fun e w' => e = .returned (.tuple #[.bool (siR s), .bool (clB s)]) ∧ Below w.heap.size w w' := by
  have PL := spIsPlain s hs
  have e0 := Lib.hid (show siR s = (plR s && decide (ccR s = 0)) from rfl)
  cases hc : clB s
  · have hp : plR s = false := by simp [plR, hc]
    rw [hc, hp] at PL
    rw [hp] at e0
    generalize siR s = R at *
    go_enter Try.func35, Try.ntmps35
    go_wp2_with (go_at_call 81; (with_reducible refine (PL _).mono ?_); rintro e wB ⟨rfl, h1⟩; (try with_reducible replace h1 := undrew h1); have hB : Below w.heap.size w wB := ba (by go_grown) h1; obtain ⟨hcwB, hfwB⟩ := bcell h1; have hqwB := h1.size; (try simp at hqwB); (try have hz0wB : w.heap.size < wB.heap.size := (by omega)); (try have he0wB : w.heap.size ≤ wB.heap.size := (by omega)))
    go_returns
    exact ⟨rBB (by rw [e0.out]; rfl) rfl, by go_grown⟩
  · have ht := clB_tk hc
    have AC := arCrossingsP s hs ht
    rw [show cnO (clB s) (chds (jp s)) s.size = ccR s by simp [ccR, ht]] at AC
    rw [hc] at PL
    generalize siR s = R at *
    generalize plR s = P at *
    generalize ccR s = n at *
    cases P
    · go_enter Try.func35, Try.ntmps35
      go_wp2_with (go_at_call 81; (with_reducible refine (PL _).mono ?_); rintro e wB ⟨rfl, h1⟩; (try with_reducible replace h1 := undrew h1); have hB : Below w.heap.size w wB := ba (by go_grown) h1; obtain ⟨hcwB, hfwB⟩ := bcell h1; have hqwB := h1.size; (try simp at hqwB); (try have hz0wB : w.heap.size < wB.heap.size := (by omega)); (try have he0wB : w.heap.size ≤ wB.heap.size := (by omega)))
      go_returns
      exact ⟨rBB (by rw [e0.out]; rfl) rfl, by go_grown⟩
    · by_cases hn : n = 0
      · subst hn
        go_enter Try.func35, Try.ntmps35
        go_wp2_with (first | (go_at_call 79; (with_reducible refine (AC _).mono ?_); rintro e wA ⟨rfl, h1⟩; (try with_reducible replace h1 := undrew h1); have hB : Below w.heap.size w wA := ba (by go_grown) h1; obtain ⟨hcwA, hfwA⟩ := bcell h1; have hqwA := h1.size; (try simp at hqwA); (try have hz0wA : w.heap.size < wA.heap.size := (by omega)); (try have he0wA : w.heap.size ≤ wA.heap.size := (by omega))) | (go_at_call 81; (with_reducible refine (PL _).mono ?_); rintro e wB ⟨rfl, h1⟩; (try with_reducible replace h1 := undrew h1); have hB : Below w.heap.size w wB := ba (by go_grown) h1; obtain ⟨hcwB, hfwB⟩ := bcell h1; have hqwB := h1.size; (try simp at hqwB); (try have hz0wB : w.heap.size < wB.heap.size := (by omega)); (try have he0wB : w.heap.size ≤ wB.heap.size := (by omega))))
        go_returns
        exact ⟨rBB (by rw [e0.out]; rfl) rfl, by go_grown⟩
      · have f1 : (n == 0) = false := beq_eq_false_iff_ne.2 hn
        go_enter Try.func35, Try.ntmps35
        go_wp2_with (first | (go_at_call 79; (with_reducible refine (AC _).mono ?_); rintro e wA ⟨rfl, h1⟩; (try with_reducible replace h1 := undrew h1); have hB : Below w.heap.size w wA := ba (by go_grown) h1; obtain ⟨hcwA, hfwA⟩ := bcell h1; have hqwA := h1.size; (try simp at hqwA); (try have hz0wA : w.heap.size < wA.heap.size := (by omega)); (try have he0wA : w.heap.size ≤ wA.heap.size := (by omega))) | (go_at_call 81; (with_reducible refine (PL _).mono ?_); rintro e wB ⟨rfl, h1⟩; (try with_reducible replace h1 := undrew h1); have hB : Below w.heap.size w wB := ba (by go_grown) h1; obtain ⟨hcwB, hfwB⟩ := bcell h1; have hqwB := h1.size; (try simp at hqwB); (try have hz0wB : w.heap.size < wB.heap.size := (by omega)); (try have he0wB : w.heap.size ≤ wB.heap.size := (by omega))))
        go_returns
        exact ⟨rBB (by rw [e0.out, decide_eq_false hn]; first | rfl | simp [hn]) rfl, by go_grown⟩

end Go.Proofs.Ytppbbcckijcckaa
