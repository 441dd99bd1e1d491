/- Contract of the program: the speed of a line. -/
import Derived.Test.YtogimjbjdgccnaaDoorCoJ
import Derived.Test.YtogimjbjdgccnaaDoorSpM
namespace Go.Proofs.YtogimjbjdgccnaaDoor
open Go.ChangeShapes Go.WideShapes Go.ChangeAt Go.RowKit
open Ln

set_option linter.unusedVariables false

theorem quo_nat' (a n : Nat) (ha : a ≤ 1099511627776) : IntKind.i64.wrap ((a : Int) / (n : Int)) = ((a / n : Nat) : Int) := by
  have := Nat.div_le_self a n
  rw [show ((a : Int) / (n : Int)) = ((a / n : Nat) : Int) from rfl]
  generalize a / n = d at this ⊢
  rw [IntKind.wrap_i64]
  omega

/-- The signals of a period, one behind the other. -/
def pdL (l : List UInt8) (gp q n : Nat) : List ByteArray := (List.range n).map fun i => sgT l gp (q + i)

theorem pdL_len (l : List UInt8) (gp q n : Nat) : (pdL l gp q n).length = n := by simp [pdL]

theorem pdL_get {l : List UInt8} {gp q n i : Nat} (h : i < n) : (pdL l gp q n)[i]? = some (sgT l gp (q + i)) := by simp [pdL, h]

theorem pdL_map (l : List UInt8) (gp q n : Nat) : (pdL l gp q n).map (·.data.toList) = (List.range n).map fun i => sg (orb l gp (q + i)) gp := by
  rw [pdL, List.map_map]
  exact List.map_congr_left fun i _ => by simp only [Function.comp, sgT, ofL_list]

theorem pd_cnt (l : List UInt8) (gp q : Nat) : ∀ n, cnt 103 ((List.range n).map fun i => sg (orb l gp (q + i)) gp).flatten = mvT l gp (q + n) - mvT l gp q
  | 0 => by simp [cnt]
  | n + 1 => by
    have ih := pd_cnt l gp q n
    have mo := mvT_mono l gp (show q ≤ q + n by omega)
    rw [List.range_succ, List.map_append, List.flatten_append, cnt, List.count_append, ← cnt, ih]
    simp only [List.map_cons, List.map_nil, List.flatten_cons, List.flatten_nil, List.append_nil]
    rw [← cnt, cnt_green, ← Nat.add_assoc, mvT]
    omega

theorem pd_len {l : List UInt8} (hl : LnOk l) (gp q : Nat) : ∀ n, ((List.range n).map fun i => sg (orb l gp (q + i)) gp).flatten.length ≤ 24 * n
  | 0 => by simp
  | n + 1 => by
    have ih := pd_len hl gp q n
    have := (orb_ok hl gp (q + n)).n24
    rw [List.range_succ, List.map_append, List.flatten_append, List.length_append]
    simp only [List.map_cons, List.map_nil, List.flatten_cons, List.flatten_nil, List.append_nil, sg_len]
    omega

theorem join_pd {l : List UInt8} (hl : LnOk l) (gp p q cap g P M : Nat) (hp : p ≤ 16777216) (hq : q < p) (hcap : p ≤ cap) (hP : p - q = P) (hM : mvT l gp p - mvT l gp q = M) (w : World) (hg : g < w.heap.size)
    (hc : ∀ i, i < p → w.cell? ⟨g, i, none⟩ = some (.string (sgT l gp i))) :
    Calls Tryd.prog 72 #[.slice (some ⟨g, q, none⟩) P (cap - q), .string ⟨#[]⟩] w fun e w' => (∃ J : List UInt8, e = .returned (.string (ofL J)) ∧ cnt 103 J = M) ∧ Below w.heap.size w w' := by
  have hJ : Lib.join ((pdL l gp q P).map (·.data.toList)) (ByteArray.mk #[]).data.toList = ((List.range P).map fun i => sg (orb l gp (q + i)) gp).flatten := by
    rw [show (ByteArray.mk #[]).data.toList = [] from rfl, join_nil, pdL_map]
  have hn := pd_len hl gp q P
  have := Tryd.strings_Join g q (cap - q) (pdL l gp q P) ⟨#[]⟩ w (fun j x hx => by
    have hj : j < P := by
      have := (List.getElem?_eq_some_iff.1 hx).1
      rwa [pdL_len] at this
    rw [pdL_get hj] at hx
    injection hx with hx
    rw [← hx]
    exact hc (q + j) (by omega)) hg (by rw [pdL_len]; omega) (by rw [pdL_len]; omega) (by rw [hJ]; omega)
  rw [pdL_len, hJ] at this
  refine this.mono ?_
  rintro e w1 ⟨rfl, h1⟩
  exact ⟨⟨_, rfl, by rw [pd_cnt, ← hM, show q + P = p by omega]⟩, h1⟩

set_option maxRecDepth 100000 in
set_option maxHeartbeats 1600000 in
theorem imSpeedOf (s : ByteArray) (g : Int) (hs : s.size ≤ 1048576) (w : World) :
    Calls Tryd.prog 40 #[.string s, .int .i64 g] w fun e w' => e = .returned (.tuple #[.agg #[.int .i64 (v0R s g), .int .i64 (v1R s g)], .bool (askB s g)]) ∧ Below w.heap.size w w' := by
  cases hb : askB s g
  · have C0 := courseOf_no s g hs hb
    have E1 := Lib.hid (v0R_no hb)
    have E2 := Lib.hid (v1R_no hb)
    clear hb
    go_enter Tryd.func40, Tryd.ntmps40
    go_wp2_with fail
    (go_at_call 64; (with_reducible refine (C0 _).mono ?_); rintro e wB ⟨rfl, h1⟩; (try with_reducible replace h1 := undrew h1); have hB : Below w.heap.size w wB := ba (by go_grown) h1; obtain ⟨hcwB, hfwB⟩ := bcell h1; have hqwB := h1.size; (try simp at hqwB); (try have hz0wB : w.heap.size < wB.heap.size := (by omega)); (try have he0wB : w.heap.size ≤ wB.heap.size := (by omega)))
    go_wp2_with fail
    refine bodyPost_ret (by simp [results, Tryd.results40, go_sem, *]; try rfl) rfl ?_
    exact ⟨rVV E1.out.symm E2.out.symm rfl, by go_grown⟩
  · obtain ⟨hl, gp, rfl, n1, n3⟩ := ask_yes hb
    obtain ⟨p, q, hP⟩ := per_ex hl gp
    have C0 := courseOf_yes s gp p q hl n1 n3 hP
    unfold CoPost at C0
    have ml := mvT_le hl gp p
    have hp := hP.2.1
    have hqp := hP.1
    obtain ⟨M, hM⟩ : ∃ M, mvT s.data.toList gp p - mvT s.data.toList gp q = M := ⟨_, rfl⟩
    obtain ⟨P, hQ⟩ : ∃ P, p - q = P := ⟨_, rfl⟩
    have E1 := Lib.hid (v0R_yes hb hP hM hQ)
    have E2 := Lib.hid (v1R_yes hb hP hM hQ)
    have hM2 : M ≤ 1099511627776 := by omega
    have hP2 : P ≤ 1099511627776 := by omega
    have hP0 : 0 < P := by omega
    have JN := Lib.hid (fun b cap hcap => join_pd hl gp p q cap b P M hp hqp hcap hQ hM)
    have PE := Lib.hid (fun av cap w => show Calls Tryd.prog 70 #[.agg #[.slice av p cap, .int .i64 q]] w fun e w' => e = .returned (.int .i64 (P : Nat)) ∧ Below w.heap.size w w' by
      have := period_any av p cap q (Nat.le_of_lt hqp) hp w
      rwa [show ((p : Int) - (q : Int)) = (P : Nat) by omega] at this)
    have hpq : (p : Int) - (q : Int) = (P : Nat) := by omega
    have CT := Lib.hid (fun J w => show Calls Tryd.prog 56 #[.string (ofL J), .string ⟨#[103]⟩] w fun e w' => e = .returned (.int .i64 (cnt 103 J : Nat)) ∧ w = w' by
      have := count_any (ofL J) 103 w
      rwa [ofL_list] at this)
    clear hb hl hP ml hM
    obtain ⟨l, hl⟩ : ∃ l, s.data.toList = l := ⟨_, rfl⟩
    rw [hl] at C0 JN
    clear hl
    have GC := Lib.hid (comDiv_any M P hM2 hP2)
    have hd := Nat.gcd_pos_of_pos_right M hP0
    generalize Nat.gcd M P = D at *
    have hne : ¬ (D : Int) = 0 := by omega
    have hne2 : ¬ D = 0 := by omega
    have y1 := Lib.hid (quo_nat' M D hM2)
    have y2 := Lib.hid (quo_nat' P D hP2)
    have x1 := Lib.hid (quo_nat M D hM2)
    have x2 := Lib.hid (quo_nat P D hP2)
    go_enter Tryd.func40, Tryd.ntmps40
    go_wp2_with fail
    refine (C0 _).mono ?_
    rintro e w1 ⟨b, cap, rfl, hg1, hg2, hpc, hcm, hc, h1⟩
    have z1 := h1.size
    simp at z1 hg1
    have hR : w1.cell? ⟨w.heap.size, 0, none⟩ = some (.int .i64 0) ∧ w1.cell? ⟨w.heap.size, 1, none⟩ = some (.int .i64 0) := by
      rw [h1.cell (by simp), h1.cell (by simp)]
      simp [go_sem]
    have hF : w1.frozen? ⟨w.heap.size, 0, none⟩ = false ∧ w1.frozen? ⟨w.heap.size, 1, none⟩ = false := by
      rw [h1.frozen (by simp), h1.frozen (by simp)]
      go_simp
    have HC := Lib.hid hc
    have H1 := Lib.hid h1
    clear hc
    go_wp2_with fail
    obtain ⟨k0, k1, hcc, hlt1⟩ := course_cells hg2 HC.out (Below.refl (w1.heap.size + 1) (w1.alloc (.cells #[.slice (some ⟨b, 0, none⟩) p cap, .int .i64 q] 63)))
    refine (JN.out b cap hpc _ (by simp; omega) hcc).mono ?_
    rintro e w2 ⟨⟨J, rfl, hJ⟩, h2⟩
    have CJ := CT.out J
    rw [hJ] at CJ
    have z2 := h2.size
    simp at z2
    have a0 := (h2.cell (p := ⟨w1.heap.size, 0, none⟩) (by simp)).trans k0
    have a1 := (h2.cell (p := ⟨w1.heap.size, 1, none⟩) (by simp)).trans k1
    have r0 := (h2.cell (p := ⟨w.heap.size, 0, none⟩) (by simp; omega)).trans ((cell_same (Below.heap_alloc _ _ _ (show w.heap.size < w1.heap.size by omega))).trans hR.1)
    have r1 := (h2.cell (p := ⟨w.heap.size, 1, none⟩) (by simp; omega)).trans ((cell_same (Below.heap_alloc _ _ _ (show w.heap.size < w1.heap.size by omega))).trans hR.2)
    have f0 := (h2.frozen (p := ⟨w.heap.size, 0, none⟩) (by simp; omega)).trans ((frozen_same (Below.heap_alloc _ _ _ (show w.heap.size < w1.heap.size by omega))).trans hF.1)
    have f1 := (h2.frozen (p := ⟨w.heap.size, 1, none⟩) (by simp; omega)).trans ((frozen_same (Below.heap_alloc _ _ _ (show w.heap.size < w1.heap.size by omega))).trans hF.2)
    have B2 : Below w.heap.size w w2 := (ba (by go_grown) (H1.out.alloc H1.out.size _)).trans (h2.mono (by simp; omega))
    have HB2 := Lib.hid B2
    clear hcc h1 h2 hR hF k0 k1 B2
    go_wp2_with (go_at_call 56; refine (CJ _).mono ?_; rintro e w' ⟨rfl, rfl⟩)
    refine (PE.out _ _ _).mono ?_
    rintro e w3 ⟨rfl, h3⟩
    have z3 := h3.size
    have hS0 := And.intro ((h3.cell (p := ⟨w1.heap.size, 0, none⟩) (by show w1.heap.size < w2.heap.size; omega)).trans a0) ((h3.cell (p := ⟨w1.heap.size, 1, none⟩) (by show w1.heap.size < w2.heap.size; omega)).trans a1)
    have hR := And.intro ((h3.cell (p := ⟨w.heap.size, 0, none⟩) (by show w.heap.size < w2.heap.size; omega)).trans r0) ((h3.cell (p := ⟨w.heap.size, 1, none⟩) (by show w.heap.size < w2.heap.size; omega)).trans r1)
    have g0 := (h3.frozen (p := ⟨w.heap.size, 0, none⟩) (by show w.heap.size < w2.heap.size; omega)).trans f0
    have g1 := (h3.frozen (p := ⟨w.heap.size, 1, none⟩) (by show w.heap.size < w2.heap.size; omega)).trans f1
    have h1 := HB2.out.trans (h3.mono HB2.out.size)
    have o1 : w.heap.size < w3.heap.size := by omega
    have o2 : w1.heap.size < w3.heap.size := by omega
    clear h3 a0 a1 r0 r1 f0 f1
    go_wp2_with (go_at_call 73; refine (GC.out _).mono ?_; rintro e w' ⟨rfl, rfl⟩)
    go_region_held3 (fun w' => w'.cell? ⟨w1.heap.size, 0, none⟩ = some (.slice (some ⟨b, 0, none⟩) p cap) ∧ w'.cell? ⟨w1.heap.size, 1, none⟩ = some (.int .i64 q))
      (first | (with_reducible assumption) | (with_reducible exact y1_drew hS0) | (with_reducible exact y1_drew (y1_alloc hS0 _)) | (with_reducible exact y1_alloc (y1_drew hS0) _) | (with_reducible refine y1_drew ?_; with_reducible assumption) | (with_reducible refine y1_alloc ?_ _; with_reducible assumption) | (with_reducible refine y1_re (by with_reducible assumption) ?_ _; (focus first | (with_reducible assumption) | omega | (simp; done) | (simp; omega))) | (with_reducible refine y1_below ?_ ?_ h1; (focus first | (with_reducible assumption) | (with_reducible refine y1_undrew ?_; with_reducible assumption)); (focus first | (with_reducible assumption) | omega | (simp; done) | (simp; omega))) | ((repeat (with_reducible refine y1_set ?_ _ _ ?_; rotate_left 1; (focus first | (with_reducible assumption) | omega | (simp; done) | (simp; omega)))); with_reducible assumption))
      (first | (go_at_call 70; (with_reducible refine (PE.out _ _ _).mono ?_); rintro e wB ⟨rfl, h1⟩; (try with_reducible replace h1 := undrew h1); have hB : Below w.heap.size w wB := ba (by go_grown) h1; obtain ⟨hcwB, hfwB⟩ := bcell h1; have hqwB := h1.size; (try simp at hqwB); (try have hz0wB : w.heap.size < wB.heap.size := (by omega)); (try have he0wB : w.heap.size ≤ wB.heap.size := (by omega)); (try have hz1wB : w1.heap.size < wB.heap.size := (by omega)); (try have he1wB : w1.heap.size ≤ wB.heap.size := (by omega)); have hR := y1_below hR (by first | omega | (simp; done) | (simp; omega)) h1))
    all_goals
      go_wp2_with fail
      refine bodyPost_ret (by simp [results, Tryd.results40, go_sem, *]; try rfl) rfl ?_
      exact ⟨rVV (by first | exact x1.out.trans E1.out.symm | exact y1.out.trans E1.out.symm) (by first | exact x2.out.trans E2.out.symm | exact y2.out.trans E2.out.symm) rfl, by go_grown⟩

end Go.Proofs.YtogimjbjdgccnaaDoor
