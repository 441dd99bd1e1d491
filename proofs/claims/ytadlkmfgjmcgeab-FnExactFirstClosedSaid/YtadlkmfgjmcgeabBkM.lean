/- Texts laid backwards: from the end, turned round, they lead to the beginning, turned round. -/
import Derived.Test.YtadlkmfgjmcgeabWdM
import Derived.Test.YtadlkmfgjmcgeabSe2
import Derived.Test.YtadlkmfgjmcgeabCe
namespace Go.Proofs.Ytadlkmfgjmcgeab

def around (s : Sp) : Sp := ⟨s.x0, s.x1, s.x2, s.x3, (s.h + 4) % 8⟩
def back (l : List UInt8) : List UInt8 := (l.map mir).reverse
theorem back_cons (c : UInt8) (l : List UInt8) : back (c :: l) = back l ++ [mir c] := by simp [back]
theorem back_len (l : List UInt8) : (back l).length = l.length := by simp [back]
theorem mir_ltr {c : UInt8} (h : c ∈ ltr) : mir c ∈ ltr := by
  simp only [ltr, List.mem_cons, List.not_mem_nil, or_false] at h
  rcases h with rfl | rfl | rfl <;> decide
theorem words_iff : ∀ (n : Nat) (w : List UInt8), w ∈ words n ↔ w.length = n ∧ ∀ c ∈ w, c ∈ ltr
  | 0, w => by
    simp only [words, List.mem_cons, List.not_mem_nil, or_false, List.length_eq_zero_iff]
    constructor
    · rintro rfl; simp
    · exact fun h => h.1
  | n + 1, [] => by simp [words_cons]
  | n + 1, c :: w => by
    rw [words_cons]
    simp only [List.mem_flatMap, List.mem_map, List.cons.injEq, List.length_cons, Nat.add_right_cancel_iff, List.mem_cons, forall_eq_or_imp]
    constructor
    · rintro ⟨d, hd, u, hu, rfl, rfl⟩
      have := (words_iff n u).1 hu
      exact ⟨this.1, hd, this.2⟩
    · rintro ⟨h1, h2, h3⟩
      exact ⟨c, h2, w, (words_iff n w).2 ⟨h1, h3⟩, rfl, rfl⟩
theorem back_words {n : Nat} {w : List UInt8} (h : w ∈ words n) : back w ∈ words n := by
  rw [words_iff] at h ⊢
  refine ⟨by rw [back_len, h.1], fun c hc => ?_⟩
  simp only [back, List.mem_reverse, List.mem_map] at hc
  obtain ⟨d, hd, rfl⟩ := hc
  exact mir_ltr (h.2 d hd)
theorem mir_mir {c : UInt8} (h : c ∈ ltr) : mir (mir c) = c := by
  simp only [ltr, List.mem_cons, List.not_mem_nil, or_false] at h
  rcases h with rfl | rfl | rfl <;> decide
theorem back_back {n : Nat} {w : List UInt8} (h : w ∈ words n) : back (back w) = w := by
  have h2 := ((words_iff n w).1 h).2
  simp only [back, List.map_reverse, List.reverse_reverse, List.map_map]
  conv => rhs; rw [← List.map_id w]
  exact List.map_congr_left fun c hc => mir_mir (h2 c hc)

def hds : List Int := [0, 1, 2, 3, 4, 5, 6, 7]
theorem step_back8 : ∀ c ∈ ltr, ∀ h ∈ hds, dd0 c h + dd0 (mir c) ((nh c h + 4) % 8) = 0 ∧ dd1 c h + dd1 (mir c) ((nh c h + 4) % 8) = 0 ∧ dd2 c h + dd2 (mir c) ((nh c h + 4) % 8) = 0 ∧ dd3 c h + dd3 (mir c) ((nh c h + 4) % 8) = 0 ∧ nh (mir c) ((nh c h + 4) % 8) = (h + 4) % 8 := by decide +kernel
theorem hds_mem {h : Int} (h0 : 0 ≤ h) (h7 : h ≤ 7) : h ∈ hds := by
  have e : h = 0 ∨ h = 1 ∨ h = 2 ∨ h = 3 ∨ h = 4 ∨ h = 5 ∨ h = 6 ∨ h = 7 := by omega
  rcases e with rfl | rfl | rfl | rfl | rfl | rfl | rfl | rfl <;> simp [hds]
theorem step_back (s : Sp) {c : UInt8} (hc : c ∈ ltr) (h0 : 0 ≤ s.h) (h7 : s.h ≤ 7) : (around (s.next c)).next (mir c) = around s := by
  obtain ⟨e0, e1, e2, e3, e4⟩ := step_back8 c hc s.h (hds_mem h0 h7)
  simp only [around, Sp.next, Sp.mk.injEq]
  exact ⟨by omega, by omega, by omega, by omega, e4⟩
theorem fin_back2 : ∀ (l : List UInt8) (s : Sp), (∀ c ∈ l, c ∈ ltr) → 0 ≤ s.h → s.h ≤ 7 → fin (around (fin s l)) (back l) = around s
  | [], s, _, _, _ => rfl
  | c :: l, s, hl, h0, h7 => by
    have hc := hl c (by simp)
    have hb := nh_bd c s.h h0 h7
    have ih := fin_back2 l (s.next c) (fun d hd => hl d (by simp [hd])) hb.1 hb.2
    rw [back_cons, fin_cons, fin_snoc, ih]
    exact step_back s hc h0 h7

theorem trW_cons (c : UInt8) (l : List UInt8) : trW (c :: l) = trW l + trW [c] := by
  simp only [trW, cnt, List.count_cons, List.count_nil]
  omega
theorem trW_append (l m : List UInt8) : trW (l ++ m) = trW l + trW m := by
  simp only [trW, cnt, List.count_append]
  omega
theorem trW_back : ∀ (l : List UInt8), (∀ c ∈ l, c ∈ ltr) → trW (back l) = -trW l
  | [], _ => rfl
  | c :: l, hl => by
    rw [back_cons, trW_append, trW_cons c l, trW_back l (fun d hd => hl d (by simp [hd]))]
    have hc := hl c (by simp)
    have : trW [mir c] = -trW [c] := by
      simp only [ltr, List.mem_cons, List.not_mem_nil, or_false] at hc
      rcases hc with rfl | rfl | rfl <;> decide
    omega
theorem fin_h : ∀ (l : List UInt8) (s : Sp), (∀ c ∈ l, c ∈ ltr) → 0 ≤ s.h → s.h ≤ 7 → (fin s l).h = (s.h + trW l) % 8
  | [], s, _, h0, h7 => by show s.h = (s.h + 0) % 8; omega
  | c :: l, s, hl, h0, h7 => by
    have hc := hl c (by simp)
    have hb := nh_bd c s.h h0 h7
    have e : (s.next c).h % 8 = (s.h + trW [c]) % 8 := by
      simp only [Sp.next]
      simp only [ltr, List.mem_cons, List.not_mem_nil, or_false] at hc
      rcases hc with rfl | rfl | rfl
      · show (nh 76 s.h) % 8 = (s.h + 1) % 8; simp [nh]
      · show (nh 82 s.h) % 8 = (s.h + -1) % 8; simp [nh]; omega
      · show (nh 83 s.h) % 8 = (s.h + 0) % 8; simp [nh]
    rw [fin_cons, fin_h l (s.next c) (fun d hd => hl d (by simp [hd])) hb.1 hb.2, trW_cons]
    omega

/-- Whether pieces lead back is told by their end, laid backwards from 0 with the heading 4, and by the turn. -/
theorem leads_iff (p : Sp) (h0 : 0 ≤ p.h) (h7 : p.h ≤ 7) {n : Nat} {v : List UInt8} (hv : v ∈ words n) :
    fin p v = sp0 ↔ ((fin ⟨0, 0, 0, 0, 4⟩ (back v)).x0 = p.x0 ∧ (fin ⟨0, 0, 0, 0, 4⟩ (back v)).x1 = p.x1 ∧ (fin ⟨0, 0, 0, 0, 4⟩ (back v)).x2 = p.x2 ∧ (fin ⟨0, 0, 0, 0, 4⟩ (back v)).x3 = p.x3) ∧ (p.h + trW v) % 8 = 0 := by
  have hl := ((words_iff n v).1 hv).2
  have hb := ((words_iff n (back v)).1 (back_words hv)).2
  have hh := fin_h v p hl h0 h7
  constructor
  · intro h
    have e := fin_back2 v p hl h0 h7
    rw [h] at e hh
    have e' : fin ⟨0, 0, 0, 0, 4⟩ (back v) = around p := e
    rw [e']
    exact ⟨⟨rfl, rfl, rfl, rfl⟩, hh.symm⟩
  · rintro ⟨⟨e0, e1, e2, e3⟩, e4⟩
    have hh2 := fin_h (back v) ⟨0, 0, 0, 0, 4⟩ hb (by decide) (by decide)
    rw [trW_back v hl] at hh2
    have ea : around (fin ⟨0, 0, 0, 0, 4⟩ (back v)) = p := by
      obtain ⟨p0, p1, p2, p3, p4⟩ := p
      simp only at e0 e1 e2 e3 e4 h0 h7 hh2
      simp only [around, Sp.mk.injEq]
      exact ⟨e0, e1, e2, e3, by omega⟩
    have e := fin_back2 (back v) ⟨0, 0, 0, 0, 4⟩ hb (by decide) (by decide)
    rw [ea, back_back hv] at e
    exact e
theorem words_nodup : ∀ n, (words n).Nodup
  | 0 => by simp [words]
  | n + 1 => by
    have ih := words_nodup n
    rw [words_cons]
    have hm : ∀ c : UInt8, ((words n).map fun v => c :: v).Nodup := fun c => by
      rw [List.nodup_iff_pairwise_ne] at *
      exact List.pairwise_map.2 (ih.imp fun h e => h (by injection e))
    simp only [ltr, List.flatMap_cons, List.flatMap_nil, List.append_nil]
    refine List.nodup_append.2 ⟨hm 76, List.nodup_append.2 ⟨hm 82, hm 83, ?_⟩, ?_⟩
    · rintro a ha b hb rfl
      simp only [List.mem_map] at ha hb
      obtain ⟨x, _, rfl⟩ := ha
      obtain ⟨y, _, h⟩ := hb
      simp at h
    · rintro a ha b hb rfl
      simp only [List.mem_map, List.mem_append] at ha hb
      obtain ⟨x, _, rfl⟩ := ha
      rcases hb with ⟨y, _, h⟩ | ⟨y, _, h⟩ <;> simp at h
theorem words_back (n : Nat) : ((words n).map back).Perm (words n) := by
  refine (List.perm_ext_iff_of_nodup ?_ (words_nodup n)).2 fun w => ?_
  · rw [List.nodup_iff_pairwise_ne]
    refine List.pairwise_map.2 ?_
    have := words_nodup n
    rw [List.nodup_iff_pairwise_ne] at this
    refine List.Pairwise.imp_of_mem ?_ this
    intro a b ha hb hab e
    exact hab (by rw [← back_back ha, ← back_back hb, e])
  · simp only [List.mem_map]
    constructor
    · rintro ⟨u, hu, rfl⟩; exact back_words hu
    · intro h; exact ⟨back w, back_words h, back_back h⟩

end Go.Proofs.Ytadlkmfgjmcgeab
