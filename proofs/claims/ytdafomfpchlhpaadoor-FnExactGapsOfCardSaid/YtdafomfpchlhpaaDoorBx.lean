/- Tracks that are laid whole from a box: all of them in order, the rings among them. Nothing of the program. -/
import Derived.Test.YtdafomfpchlhpaaDoorWdM
import Derived.Test.YtdafomfpchlhpaaDoorRgM
namespace Go.Proofs.YtdafomfpchlhpaaDoor

set_option linter.unusedVariables false
set_option linter.unusedSimpArgs false

theorem words_iffB : ∀ (n : Nat) (w : List UInt8), w ∈ words n ↔ w.length = n ∧ ∀ c ∈ w, c ∈ ltr
  | 0, w => by
    simp only [words, List.mem_cons, List.not_mem_nil, or_false, List.length_eq_zero_iff]
    constructor
    · rintro rfl; simp
    · exact fun h => h.1
  | n + 1, [] => by simp [words_cons]
  | n + 1, c :: w => by
    rw [words_cons]
    simp only [List.mem_flatMap, List.mem_map, List.cons.injEq, List.length_cons, Nat.add_right_cancel_iff, List.mem_cons, forall_eq_or_imp]
    constructor
    · rintro ⟨d, hd, u, hu, rfl, rfl⟩
      have := (words_iffB n u).1 hu
      exact ⟨this.1, hd, this.2⟩
    · rintro ⟨h1, h2, h3⟩
      exact ⟨c, h2, w, (words_iffB n w).2 ⟨h1, h3⟩, rfl, rfl⟩

theorem cls_iffB {n : Nat} {w : List UInt8} : w ∈ clsL sp0 n ↔ (w.length = n ∧ ∀ c ∈ w, c ∈ ltr) ∧ fin sp0 w = sp0 := by
  rw [clsL, List.mem_filter, words_iffB, spE_iff]

theorem words_ltB : ∀ n, (words n).Pairwise fun a b => a < b
  | 0 => by simp [words]
  | n + 1 => by
    rw [words_cons, List.pairwise_flatMap]
    constructor
    · intro c _
      exact List.Pairwise.map _ (fun a b h => List.cons_lt_cons_iff.2 (.inr ⟨rfl, h⟩)) (words_ltB n)
    · have hl : ltr.Pairwise fun a b => a < b := by decide
      refine hl.imp fun {a b} hab x hx y hy => ?_
      obtain ⟨u, _, rfl⟩ := List.mem_map.1 hx
      obtain ⟨v, _, rfl⟩ := List.mem_map.1 hy
      exact List.cons_lt_cons_iff.2 (.inl hab)

theorem cls_ltB (a : Sp) (n : Nat) : (clsL a n).Pairwise fun a b => a < b := (words_ltB n).filter _

theorem cnt3B : ∀ {w : List UInt8}, (∀ c ∈ w, c ∈ ltr) → cnt 83 w + cnt 76 w + cnt 82 w = w.length
  | [], _ => rfl
  | c :: w, h => by
    have ih := cnt3B (w := w) (fun d hd => h d (by simp [hd]))
    have hc := h c (by simp)
    have e : ∀ d : UInt8, cnt d (c :: w) = cnt d w + (if c == d then 1 else 0) := fun d => by simp [cnt, List.count_cons]
    rw [e, e, e, List.length_cons]
    simp only [ltr, List.mem_cons, List.not_mem_nil, or_false] at hc
    rcases hc with rfl | rfl | rfl <;> simp <;> omega

/-- The texts of pieces that are laid whole from s straights and c curves, in order. -/
def bxW (s c : Nat) : List (List UInt8) := (words (s + c)).filter fun w => cnt 83 w == s

def bxL (s c : Nat) (u : List UInt8) : List (List UInt8) := (bxW s c).map fun v => u ++ v

theorem cnt_cons (d c : UInt8) (w : List UInt8) : cnt d (c :: w) = cnt d w + (if c == d then 1 else 0) := by simp [cnt, List.count_cons]

theorem filt_next (n s : Nat) : (words (n + 1)).filter (fun w => cnt 83 w == s) = ((words n).filter fun w => cnt 83 w == s).map (fun v => 76 :: v) ++ (((words n).filter fun w => cnt 83 w == s).map (fun v => 82 :: v) ++ ((words n).filter fun w => cnt 83 w + 1 == s).map (fun v => 83 :: v)) := by
  rw [words_cons]
  simp only [ltr, List.flatMap_cons, List.flatMap_nil, List.append_nil, List.filter_append, List.filter_map, Function.comp_def, cnt_cons]
  congr 1

theorem filt_none (n s : Nat) (h : n < s) : (words n).filter (fun w => cnt 83 w == s) = [] := by
  rw [List.filter_eq_nil_iff]
  intro w hw
  have h1 := words_len n w hw
  have h2 : cnt 83 w ≤ w.length := List.count_le_length
  simp only [beq_iff_eq]
  omega

theorem bxL_zero (u : List UInt8) : bxL 0 0 u = [u] := by simp [bxL, bxW, words, cnt]

theorem bxW_curve (s c : Nat) : bxW s (c + 1) = (bxW s c).map (fun v => 76 :: v) ++ ((bxW s c).map (fun v => 82 :: v) ++ match s with | 0 => [] | s + 1 => (bxW s (c + 1)).map fun v => 83 :: v) := by
  unfold bxW
  rw [show s + (c + 1) = (s + c) + 1 from rfl, filt_next]
  congr 2
  cases s with
  | zero => simp
  | succ s =>
    rw [show s + 1 + c = s + (c + 1) by omega]
    congr 1
    apply List.filter_congr
    intro v _
    simp

theorem bxW_last (s : Nat) : bxW (s + 1) 0 = (bxW s 0).map fun v => 83 :: v := by
  unfold bxW
  rw [show s + 1 + 0 = s + 1 from rfl, filt_next, filt_none s (s + 1) (by omega)]
  simp only [List.map_nil, List.nil_append, Nat.add_zero]
  congr 1
  apply List.filter_congr
  intro v _
  simp

theorem map_cons_app (u : List UInt8) (d : UInt8) (l : List (List UInt8)) : (l.map fun v => d :: v).map (fun v => u ++ v) = l.map fun v => (u ++ [d]) ++ v := by
  rw [List.map_map]
  congr 1
  funext v
  simp

theorem bxL_C (c : Nat) (u : List UInt8) : bxL 0 (c + 1) u = bxL 0 c (u ++ [76]) ++ bxL 0 c (u ++ [82]) := by
  unfold bxL
  rw [bxW_curve, List.map_append, List.map_append, map_cons_app, map_cons_app]
  simp

theorem bxL_B (s c : Nat) (u : List UInt8) : bxL (s + 1) (c + 1) u = bxL (s + 1) c (u ++ [76]) ++ bxL (s + 1) c (u ++ [82]) ++ bxL s (c + 1) (u ++ [83]) := by
  unfold bxL
  rw [bxW_curve, List.map_append, List.map_append, map_cons_app, map_cons_app, map_cons_app, List.append_assoc]

theorem bxL_S (s : Nat) (u : List UInt8) : bxL (s + 1) 0 u = bxL s 0 (u ++ [83]) := by
  unfold bxL
  rw [bxW_last, map_cons_app]

theorem bxW_nil (s c : Nat) : bxL s c [] = bxW s c := by simp [bxL]

theorem bxW_iff {s c : Nat} {w : List UInt8} : w ∈ bxW s c ↔ (w.length = s + c ∧ ∀ d ∈ w, d ∈ ltr) ∧ cnt 83 w = s := by
  rw [bxW, List.mem_filter, words_iffB, beq_iff_eq]

theorem bxW_lt (s c : Nat) : (bxW s c).Pairwise fun a b => a < b := (words_ltB _).filter _

theorem bxW_le (s c : Nat) : (bxW s c).length ≤ 3 ^ (s + c) := by
  rw [← words_count]
  exact List.length_filter_le _ _

/-- A ring, as its pieces. -/
def rgb (w : List UInt8) : Bool := decide (0 < w.length) && spE (fin sp0 w) sp0

def bxR (s c : Nat) : List (List UInt8) := (bxW s c).filter rgb

theorem bxR_iff {s c : Nat} {w : List UInt8} : w ∈ bxR s c ↔ ((w.length = s + c ∧ ∀ d ∈ w, d ∈ ltr) ∧ cnt 83 w = s) ∧ (0 < w.length ∧ fin sp0 w = sp0) := by
  rw [bxR, List.mem_filter, bxW_iff, rgb, Bool.and_eq_true, decide_eq_true_eq, spE_iff]

theorem bxR_cls {s c : Nat} (h : 0 < s + c) : bxR s c = (clsL sp0 (s + c)).filter fun w => cnt 83 w == s := by
  rw [bxR, bxW, clsL, List.filter_filter, List.filter_filter]
  apply List.filter_congr
  intro w hw
  have h1 := words_len _ w hw
  rw [rgb, show decide (0 < w.length) = true by simp; omega, Bool.true_and, Bool.and_comm]

theorem bxR_zero : bxR 0 0 = [] := by simp [bxR, bxW, words, rgb, cnt]

theorem bxR_le (s c : Nat) : (bxR s c).length ≤ 3 ^ (s + c) := Nat.le_trans (List.length_filter_le _ _) (bxW_le s c)

theorem bxR_lt (s c : Nat) : (bxR s c).Pairwise fun a b => a < b := (bxW_lt s c).filter _

end Go.Proofs.YtdafomfpchlhpaaDoor
