/- Texts of n pieces, in order; which of them lead from a step back to the beginning; the way back from a step. -/
import Derived.Test.YtdafomfpchlhpaaDoorStM
import Derived.Test.YtdafomfpchlhpaaDoorRoM
namespace Go.Proofs.YtdafomfpchlhpaaDoor

def ltr : List UInt8 := [76, 82, 83]

def words : Nat → List (List UInt8)
  | 0 => [[]]
  | n + 1 => (words n).flatMap fun w => ltr.map fun c => w ++ [c]

theorem words_add (a : Nat) : ∀ b, words (a + b) = (words a).flatMap fun u => (words b).map fun v => u ++ v
  | 0 => by simp [words]
  | b + 1 => by
    rw [← Nat.add_assoc]
    show (words (a + b)).flatMap _ = _
    rw [words_add a b, List.flatMap_assoc]
    congr 1
    funext u
    show _ = ((words b).flatMap _).map _
    rw [List.flatMap_map, List.map_flatMap]
    congr 1
    funext v
    simp [ltr]

theorem words_cons (n : Nat) : words (n + 1) = ltr.flatMap fun c => (words n).map fun v => c :: v := by
  rw [Nat.add_comm, words_add 1 n]
  simp [words, ltr]

theorem words_len : ∀ (n : Nat) (w : List UInt8), w ∈ words n → w.length = n
  | 0, w, h => by simp [words] at h; simp [h]
  | n + 1, w, h => by
    simp only [words, List.mem_flatMap, List.mem_map] at h
    obtain ⟨u, hu, c, _, rfl⟩ := h
    simp [words_len n u hu]

theorem words_pcb : ∀ (n : Nat) (w : List UInt8), w ∈ words n → w.all pcb = true
  | 0, w, h => by simp [words] at h; simp [h]
  | n + 1, w, h => by
    simp only [words, List.mem_flatMap, List.mem_map] at h
    obtain ⟨u, hu, c, hc, rfl⟩ := h
    rw [List.all_append, words_pcb n u hu]
    simp only [ltr, List.mem_cons, List.not_mem_nil, or_false] at hc
    rcases hc with rfl | rfl | rfl <;> rfl

theorem words_count : ∀ n : Nat, (words n).length = 3 ^ n
  | 0 => rfl
  | n + 1 => by
    simp only [words, List.length_flatMap, List.length_map]
    rw [show (ltr.length) = 3 from rfl, List.map_const', List.sum_replicate_nat, words_count n, Nat.pow_succ]

theorem fin_append (s : Sp) (l m : List UInt8) : fin s (l ++ m) = fin (fin s l) m := by simp [fin, List.foldl_append]

theorem fin_cons (s : Sp) (c : UInt8) (l : List UInt8) : fin s (c :: l) = fin (s.next c) l := rfl

def spE (p q : Sp) : Bool := (p.x0 == q.x0 && (p.x1 == q.x1 && (p.x2 == q.x2 && p.x3 == q.x3))) && p.h == q.h

theorem spE_iff {p q : Sp} : spE p q = true ↔ p = q := by
  obtain ⟨a0, a1, a2, a3, a4⟩ := p
  obtain ⟨b0, b1, b2, b3, b4⟩ := q
  simp only [spE, Bool.and_eq_true, beq_iff_eq, Sp.mk.injEq]
  constructor
  · rintro ⟨⟨h0, h1, h2, h3⟩, h4⟩; exact ⟨h0, h1, h2, h3, h4⟩
  · rintro ⟨h0, h1, h2, h3, h4⟩; exact ⟨⟨h0, h1, h2, h3⟩, h4⟩

theorem spE_no {p q : Sp} : spE p q = false ↔ p ≠ q := by
  rw [← Bool.not_eq_true, spE_iff]

/-- The end that a part of a track has if it leads from s back to the beginning. -/
def wayB (s : Sp) : Sp := ⟨tu0 ((8 - s.h) % 8) (-s.x0) (-s.x1) (-s.x2) (-s.x3), tu1 ((8 - s.h) % 8) (-s.x0) (-s.x1) (-s.x2) (-s.x3), tu2 ((8 - s.h) % 8) (-s.x0) (-s.x1) (-s.x2) (-s.x3), tu3 ((8 - s.h) % 8) (-s.x0) (-s.x1) (-s.x2) (-s.x3), (8 - s.h) % 8⟩

theorem rot_back (a v : Sp) (k0 : 0 ≤ a.h) (k7 : a.h ≤ 7) (h0 : 0 ≤ v.h) (h7 : v.h ≤ 7) : rot a v = sp0 ↔ v = wayB a := by
  obtain ⟨a0, a1, a2, a3, a4⟩ := a
  obtain ⟨b0, b1, b2, b3, b4⟩ := v
  simp only at k0 k7 h0 h7
  have e8 : a4 = 0 ∨ a4 = 1 ∨ a4 = 2 ∨ a4 = 3 ∨ a4 = 4 ∨ a4 = 5 ∨ a4 = 6 ∨ a4 = 7 := by omega
  rcases e8 with rfl | rfl | rfl | rfl | rfl | rfl | rfl | rfl <;> simp [rot, wayB, sp0, tu0, tu1, tu2, tu3] <;> omega

theorem fin_back (a : Sp) (k0 : 0 ≤ a.h) (k7 : a.h ≤ 7) (l : List UInt8) : fin a l = sp0 ↔ fin sp0 l = wayB a := by
  rw [fin_rot a k0 k7 l]
  have h := fin_ok sp0_ok l
  simp only [Sp.okB] at h
  exact rot_back a _ k0 k7 h.2.2.2.2.1 h.2.2.2.2.2

/-- All texts of n pieces that lead from a step back to the beginning. -/
def clsL (a : Sp) (n : Nat) : List (List UInt8) := (words n).filter fun w => spE (fin a w) sp0

/-- Parts: texts with their ends. -/
def parts (a : Sp) (n : Nat) : List (Sp × List UInt8) := (words n).map fun w => (fin a w, w)

/-- The texts of parts at a step. -/
def grp (k : Sp) (l : List (Sp × List UInt8)) : List (List UInt8) := (l.filter fun p => spE p.1 k).map Prod.snd

theorem parts_succ (a : Sp) (n : Nat) : parts a (n + 1) = (parts a n).flatMap fun p => ltr.map fun c => (p.1.next c, p.2 ++ [c]) := by
  simp only [parts, words, List.map_flatMap, List.flatMap_map, List.map_map]
  congr 1
  funext w
  simp [ltr, fin_snoc]

theorem parts_len (a : Sp) (n : Nat) : (parts a n).length = 3 ^ n := by rw [parts, List.length_map, words_count]

/-- Closed ones, out of two parts. -/
theorem cls_halves (a : Sp) (k0 : 0 ≤ a.h) (k7 : a.h ≤ 7) (m n : Nat) :
    ((parts a m).flatMap fun p => (grp (wayB p.1) (parts sp0 n)).map fun v => p.2 ++ v) = clsL a (m + n) := by
  rw [clsL, words_add, List.filter_flatMap, show parts a m = (words m).map fun w => (fin a w, w) from rfl, List.flatMap_map]
  congr 1
  funext u
  simp only [grp, parts, List.filter_map, List.map_map, Function.comp_def]
  rw [show (fun w : List UInt8 => u ++ w) = (fun v => u ++ v) from rfl]
  congr 1
  apply List.filter_congr
  intro v _
  have hb : (fin a u).okB _ := fin_ok (s := a) (n := (a.x0.natAbs + a.x1.natAbs + a.x2.natAbs + a.x3.natAbs : Nat)) (by simp only [Sp.okB]; omega) u
  simp only [Sp.okB] at hb
  have h := fin_back (fin a u) hb.2.2.2.2.1 hb.2.2.2.2.2 v
  rw [Bool.eq_iff_iff, spE_iff, spE_iff, fin_append, h]

/-- The turn of a text. -/
def trW (l : List UInt8) : Int := (cnt 76 l : Int) - (cnt 82 l : Int)

end Go.Proofs.YtdafomfpchlhpaaDoor
