/- Contracts and facts, put together (part 1). Conditions: each says its own. -/
import Derived.Test.YtppbbcckijcckaaT3
import Derived.Lib.SlicesCompact

/- Places in order, each once: what sorting and compacting gives is ascending. All pure. -/
namespace Go.Proofs.Ytppbbcckijcckaa
open Go.Lib

set_option linter.unusedVariables false

instance : DecidableEq Pl := fun x y => decidable_of_iff (x.1 = y.1) ⟨Subtype.ext, fun h => by rw [h]⟩

theorem cmp_asc (d : Array Pl) (hs : ∀ i j, i < j → j < d.size → leP d[i]! d[j]!) : ∀ m, m ≤ d.size → Pn.Asc true ((compactUpTo d m).map (·.1)) ∧ ∀ q, q ∈ compactUpTo d m ↔ ∃ j, j < m ∧ d[j]! = q
  | 0, _ => ⟨trivial, fun q => by simp [compactUpTo]⟩
  | m + 1, hm => by
    obtain ⟨h1, h2⟩ := cmp_asc d hs m (by omega)
    rw [compactUpTo_succ]
    by_cases hk : keeps d m = true
    · rw [if_pos hk]
      refine ⟨?_, fun q => ?_⟩
      · rw [List.map_append]
        refine Pn.asc_snoc.2 ⟨h1, fun q hq => ?_⟩
        obtain ⟨x, hx, rfl⟩ := List.mem_map.1 hq
        obtain ⟨j, hj, rfl⟩ := (h2 x).1 hx
        have hle := hs j m hj (by omega)
        rcases Pn.ltd_tri true d[j]!.1 d[m]!.1 with h | h | h
        · exact h
        · exfalso
          have e : d[j]! = d[m]! := Subtype.ext h
          have hne : d[m]! ≠ d[m - 1]! := by
            have := hk
            simp only [keeps, decide_eq_true_eq] at this
            rcases this with h | h
            · omega
            · exact h
          by_cases hjm : j = m - 1
          · rw [hjm] at e; exact hne e.symm
          · have a := hs j (m - 1) (by omega) (by omega)
            have b := hs (m - 1) m (by omega) (by omega)
            rw [← e] at b
            rcases Pn.ltd_tri true d[j]!.1 d[m - 1]!.1 with h | h | h
            · exact b h
            · exact hne (by rw [← e]; exact Subtype.ext h)
            · exact a h
        · exact absurd h hle
      · rw [List.mem_append, h2, List.mem_singleton]
        constructor
        · rintro (⟨j, hj, e⟩ | e)
          · exact ⟨j, by omega, e⟩
          · exact ⟨m, by omega, e.symm⟩
        · rintro ⟨j, hj, e⟩
          by_cases hjm : j = m
          · subst hjm; exact .inr e.symm
          · exact .inl ⟨j, by omega, e⟩
    · rw [if_neg hk, List.append_nil]
      refine ⟨h1, fun q => ?_⟩
      rw [h2]
      have h0 : m ≠ 0 ∧ d[m]! = d[m - 1]! := by
        have := hk
        simp only [keeps, decide_eq_true_eq, not_or, ne_eq, Decidable.not_not] at this
        exact this
      constructor
      · rintro ⟨j, hj, e⟩
        exact ⟨j, by omega, e⟩
      · rintro ⟨j, hj, e⟩
        by_cases hjm : j = m
        · subst hjm; exact ⟨j - 1, by omega, by rw [← h0.2]; exact e⟩
        · exact ⟨j, by omega, e⟩

/-- The places of a list, in their order, each once. -/
def plcs (l : List Pl) : List Pl := compactUpTo (srtP l).toArray l.length

theorem plcs_asc (l : List Pl) : Pn.Asc true ((plcs l).map (·.1)) ∧ (∀ q, q ∈ (plcs l).map (·.1) ↔ q ∈ l.map (·.1)) := by
  have hl : (srtP l).length = l.length := (srtP_perm l).length_eq
  have hs := srtP_sorted l
  have hp : ∀ i j, i < j → j < (srtP l).toArray.size → leP (srtP l).toArray[i]! (srtP l).toArray[j]! := fun i j hij hj => by
    have hj' : j < (srtP l).length := by simpa using hj
    have := List.pairwise_iff_getElem.1 hs i j (by omega) hj' hij
    rw [getElem!_pos _ j hj, getElem!_pos _ i (by simp; omega)]
    simpa using this
  obtain ⟨h1, h2⟩ := cmp_asc (srtP l).toArray hp l.length (by simp [hl])
  refine ⟨h1, fun q => ?_⟩
  simp only [List.mem_map]
  constructor
  · rintro ⟨x, hx, rfl⟩
    obtain ⟨j, hj, e⟩ := (h2 x).1 hx
    have hj' : j < (srtP l).toArray.size := by simp [hl]; exact hj
    rw [getElem!_pos _ j hj'] at e
    refine ⟨x, (srtP_perm l).mem_iff.1 ?_, rfl⟩
    rw [← e]
    simp
  · rintro ⟨x, hx, rfl⟩
    obtain ⟨j, hj, e⟩ := List.mem_iff_getElem.1 ((srtP_perm l).mem_iff.2 hx)
    refine ⟨x, (h2 x).2 ⟨j, by omega, ?_⟩, rfl⟩
    rw [getElem!_pos _ j (by simpa using hj)]
    simpa using e

theorem plcs_ne {l : List Pl} (h : l ≠ []) : (plcs l).map (·.1) ≠ [] := by
  cases l with
  | nil => exact absurd rfl h
  | cons x l =>
    intro e
    have := ((plcs_asc (x :: l)).2 x.1).2 (by simp)
    rw [e] at this
    cases this

theorem plcs_length (l : List Pl) : (plcs l).length ≤ l.length := by
  unfold plcs compactUpTo
  rw [List.length_map]
  refine Nat.le_trans (List.length_filter_le _ _) ?_
  simp

end Go.Proofs.Ytppbbcckijcckaa

/- The corners of the hull of a list of points, as a function; how many they are, and that they are points of the list. All pure. -/
namespace Go.Proofs.Ytppbbcckijcckaa
open Go.Lib

set_option linter.unusedVariables false

namespace Pn
theorem popW_mem {n q : Pn} : ∀ {st : List Pn}, q ∈ popW n st → q ∈ st
  | [], h => h
  | [_], h => h
  | b :: a :: rest, h => by
    unfold popW at h
    split at h
    · exact List.mem_cons_of_mem _ (popW_mem (st := a :: rest) h)
    · exact h

theorem popW_length {n : Pn} : ∀ {st : List Pn}, (popW n st).length ≤ st.length
  | [] => Nat.le_refl _
  | [_] => Nat.le_refl _
  | b :: a :: rest => by
    unfold popW
    split
    · exact Nat.le_trans (popW_length (st := a :: rest)) (by simp)
    · exact Nat.le_refl _

theorem push_mem {q : Pn} : ∀ (l : List Pn) {st : List Pn}, q ∈ l.foldl pushW st → q ∈ st ∨ q ∈ l
  | [], st, h => .inl h
  | p :: l, st, h => by
    rcases push_mem l h with h | h
    · rcases List.mem_cons.1 h with h | h
      · subst h; exact .inr (by simp)
      · exact .inl (popW_mem h)
    · exact .inr (by simp [h])

theorem push_length : ∀ (l : List Pn) {st : List Pn}, (l.foldl pushW st).length ≤ st.length + l.length
  | [], st => Nat.le_refl _
  | p :: l, st => by
    have h1 := push_length l (st := pushW st p)
    have h2 : (pushW st p).length ≤ st.length + 1 := by
      show (popW p st).length + 1 ≤ _
      have := popW_length (n := p) (st := st)
      omega
    simp only [List.foldl_cons, List.length_cons]
    omega

theorem bord_mem {q : Pn} {l : List Pn} (h : q ∈ bord l) : q ∈ l := by
  unfold bord at h
  rw [List.mem_reverse] at h
  rcases push_mem l h with h | h
  · cases h
  · exact h

theorem bord_length (l : List Pn) : (bord l).length ≤ l.length := by
  unfold bord
  rw [List.length_reverse]
  have := push_length l (st := [])
  simpa using this

theorem bord_pos {l : List Pn} (h : l ≠ []) : 0 < (bord l).length := by
  unfold bord
  rw [List.length_reverse]
  obtain ⟨a, l', rfl⟩ : ∃ a l', l = l' ++ [a] := by
    rcases List.eq_nil_or_concat l with e | ⟨l', a, e⟩
    · exact absurd e h
    · exact ⟨a, l', by simpa using e⟩
  rw [List.foldl_append]
  show 0 < (pushW _ a).length
  simp [pushW]

theorem hul_mem {q : Pn} {l : List Pn} (h : q ∈ hul l) : q ∈ l := by
  unfold hul at h
  split at h
  · exact h
  · rcases List.mem_append.1 h with h | h
    · exact bord_mem (List.dropLast_subset _ h)
    · have := bord_mem (List.dropLast_subset _ h)
      simpa using this

theorem hul_length (l : List Pn) : (hul l).length ≤ 2 * l.length := by
  unfold hul
  split
  · omega
  · rw [List.length_append, List.length_dropLast, List.length_dropLast]
    have h1 := bord_length l
    have h2 := bord_length l.reverse
    rw [List.length_reverse] at h2
    omega
end Pn

instance (n : Int) (p : Pn) : Decidable (Bd n p) := by unfold Bd; infer_instance

def mkPl (p : Pn) (h : Bd 100000 p) : Pl := ⟨p, h⟩

def toPl (p : Pn) : Pl := if h : Bd 100000 p then mkPl p h else default

theorem toPl_id {p : Pn} (h : Bd 100000 p) : (toPl p).1 = p := by unfold toPl; rw [dif_pos h]; rfl

theorem toPl_map {l : List Pn} (h : ∀ x ∈ l, Bd 100000 x) : (l.map toPl).map (·.1) = l := by
  rw [List.map_map]
  have e : l.map ((fun x : Pl => x.1) ∘ toPl) = l.map id := List.map_congr_left fun x hx => toPl_id (h x hx)
  exact e.trans (List.map_id l)

/-- The different places of a list, in their order. -/
def plL (l : List Pn) : List Pn := (plcs (l.map toPl)).map (·.1)

/-- The corners of the hull. -/
def hlL (l : List Pn) : List Pn := Pn.hul (plL l)

theorem plL_spec {l : List Pn} (h : ∀ x ∈ l, Bd 100000 x) (hne : l ≠ []) : Pn.Asc true (plL l) ∧ (∀ q, q ∈ l ↔ q ∈ plL l) ∧ plL l ≠ [] ∧ (plL l).length ≤ l.length := by
  obtain ⟨h1, h2⟩ := plcs_asc (l.map toPl)
  rw [toPl_map h] at h2
  refine ⟨h1, fun q => (h2 q).symm, plcs_ne (by simpa using hne), ?_⟩
  have := plcs_length (l.map toPl)
  simpa [plL] using this

theorem hlL_is {l : List Pn} (h : ∀ x ∈ l, Bd 100000 x) (hne : l ≠ []) : Pn.HulIs l (hlL l) := by
  obtain ⟨h1, h2, h3, _⟩ := plL_spec h hne
  exact Pn.hul_is h2 h1 h3

theorem hlL_mem {l : List Pn} (h : ∀ x ∈ l, Bd 100000 x) (hne : l ≠ []) {q : Pn} (hq : q ∈ hlL l) : q ∈ l :=
  ((plL_spec h hne).2.1 q).2 (Pn.hul_mem hq)

theorem hlL_length {l : List Pn} (h : ∀ x ∈ l, Bd 100000 x) (hne : l ≠ []) : (hlL l).length ≤ 2 * l.length := by
  have := Pn.hul_length (plL l)
  have := (plL_spec h hne).2.2.2
  unfold hlL; omega

theorem plL_bd {l : List Pn} (h : ∀ x ∈ l, Bd 100000 x) (hne : l ≠ []) : ∀ x ∈ plL l, Bd 100000 x := fun x hx => h x (((plL_spec h hne).2.1 x).2 hx)

end Go.Proofs.Ytppbbcckijcckaa

/- Contracts: the corners of a hull, in the model. -/
namespace Go.Proofs.Ytppbbcckijcckaa
open Go.ChangeShapes Go.WideShapes Go.ChangeAt Go.RowKit Go.Sort

set_option linter.unusedVariables false
set_option linter.unusedSimpArgs false

set_option maxRecDepth 100000 in
theorem arFirstP (p q : Pn) (hp : Bd 100000 p) (hq : Bd 100000 q) (w : World) :
    Calls Try.prog 128 #[pv p, pv q] w fun e w' => e = .returned (.bool (decide (cmpP p q < 0))) ∧ Below w.heap.size w w' := by
  have XP := spXP p (hp.mono (by omega))
  have XQ := spXP q (hq.mono (by omega))
  have YP := spYP p (hp.mono (by omega))
  have YQ := spYP q (hq.mono (by omega))
  have CX := spCmpQ p.tx q.tx (hp.tx_bd.mono (by omega)) (hq.tx_bd.mono (by omega))
  have CY := spCmpQ p.ty q.ty (hp.ty_bd.mono (by omega)) (hq.ty_bd.mono (by omega))
  have e0 : cmpP p q = if (p.tx - q.tx).sn = 0 then (p.ty - q.ty).sn else (p.tx - q.tx).sn := rfl
  by_cases h0 : (p.tx - q.tx).sn = 0
  · rw [e0, if_pos h0]
    have f0 : ((p.tx - q.tx).sn == 0) = true := beq_iff_eq.2 h0
    rw [h0] at CX
    go_enter Try.func128, Try.ntmps128
    go_wp2_with fail
    refine absW (F := fun W => (W.cell? ⟨w.heap.size, 0, none⟩ = some (.int .i64 (p).a) ∧ W.cell? ⟨w.heap.size, 1, none⟩ = some (.int .i64 (p).b) ∧ W.cell? ⟨w.heap.size, 2, none⟩ = some (.int .i64 (p).c) ∧ W.cell? ⟨w.heap.size, 3, none⟩ = some (.int .i64 (p).d)) ∧ (W.cell? ⟨w.heap.size + 1, 0, none⟩ = some (.int .i64 (q).a) ∧ W.cell? ⟨w.heap.size + 1, 1, none⟩ = some (.int .i64 (q).b) ∧ W.cell? ⟨w.heap.size + 1, 2, none⟩ = some (.int .i64 (q).c) ∧ W.cell? ⟨w.heap.size + 1, 3, none⟩ = some (.int .i64 (q).d)) ∧ Below w.heap.size w W ∧ W.heap.size = w.heap.size + 1 + 1) ⟨⟨by go_simp, by go_simp, by go_simp, by go_simp⟩, ⟨by go_simp, by go_simp, by go_simp, by go_simp⟩, by go_grown, by first | (simp; done) | (simp; omega)⟩ ?_
    rintro W ⟨⟨c0_0, c0_1, c0_2, c0_3⟩, ⟨c1_0, c1_1, c1_2, c1_3⟩, HB, hz⟩
    have k0_0 := fun d os => cell_regrown c0_0 d os
    have k0_1 := fun d os => cell_regrown c0_1 d os
    have k0_2 := fun d os => cell_regrown c0_2 d os
    have k0_3 := fun d os => cell_regrown c0_3 d os
    have k1_0 := fun d os => cell_regrown c1_0 d os
    have k1_1 := fun d os => cell_regrown c1_1 d os
    have k1_2 := fun d os => cell_regrown c1_2 d os
    have k1_3 := fun d os => cell_regrown c1_3 d os
    refine wp_region_quiet_below (by kernel_rfl) (by kernel_rfl) ?_
    repeat (quiet_step (first | (go_at_call 73; with_reducible exact Calls.regrown_of (XP _)) | (go_at_call 73; with_reducible exact Calls.regrown_of (XQ _)) | (go_at_call 97; with_reducible exact Calls.regrown_of (CX _))))
    refine wpQuiet_nil ?_
    rintro _ ⟨⟨dq, osq⟩, rfl⟩
    have hbw1 := below_regrown W dq osq
    generalize grow (redrawn W dq) osq = w1 at hbw1 ⊢
    obtain ⟨hcw1, hfw1⟩ := bcell hbw1
    have hlw1 := hbw1.size
    replace HB := ba HB hbw1
    go_wp2_with fail
    refine absW (F := fun X => (X.cell? ⟨w.heap.size, 0, none⟩ = some (.int .i64 (p).a) ∧ X.cell? ⟨w.heap.size, 1, none⟩ = some (.int .i64 (p).b) ∧ X.cell? ⟨w.heap.size, 2, none⟩ = some (.int .i64 (p).c) ∧ X.cell? ⟨w.heap.size, 3, none⟩ = some (.int .i64 (p).d)) ∧ (X.cell? ⟨w.heap.size + 1, 0, none⟩ = some (.int .i64 (q).a) ∧ X.cell? ⟨w.heap.size + 1, 1, none⟩ = some (.int .i64 (q).b) ∧ X.cell? ⟨w.heap.size + 1, 2, none⟩ = some (.int .i64 (q).c) ∧ X.cell? ⟨w.heap.size + 1, 3, none⟩ = some (.int .i64 (q).d)) ∧ (w.heap.size + 2 ≤ X.heap.size) ∧ Below w.heap.size w X) ⟨⟨by go_simp, by go_simp, by go_simp, by go_simp⟩, ⟨by go_simp, by go_simp, by go_simp, by go_simp⟩, by omega, by go_grown⟩ ?_
    rintro X ⟨⟨c0_0, c0_1, c0_2, c0_3⟩, ⟨c1_0, c1_1, c1_2, c1_3⟩, hzX, HB⟩
    have k0_0 := fun d os => cell_regrown c0_0 d os
    have k0_1 := fun d os => cell_regrown c0_1 d os
    have k0_2 := fun d os => cell_regrown c0_2 d os
    have k0_3 := fun d os => cell_regrown c0_3 d os
    have k1_0 := fun d os => cell_regrown c1_0 d os
    have k1_1 := fun d os => cell_regrown c1_1 d os
    have k1_2 := fun d os => cell_regrown c1_2 d os
    have k1_3 := fun d os => cell_regrown c1_3 d os
    refine wp_region_quiet_below (by kernel_rfl) (by kernel_rfl) ?_
    repeat (quiet_step (first | (go_at_call 77; with_reducible exact Calls.regrown_of (YP _)) | (go_at_call 77; with_reducible exact Calls.regrown_of (YQ _)) | (go_at_call 97; with_reducible exact Calls.regrown_of (CY _))))
    refine wpQuiet_nil ?_
    rintro _ ⟨⟨dq, osq⟩, rfl⟩
    have hbw2 := below_regrown X dq osq
    generalize grow (redrawn X dq) osq = w2 at hbw2 ⊢
    obtain ⟨hcw2, hfw2⟩ := bcell hbw2
    have hlw2 := hbw2.size
    replace HB := ba HB hbw2
    go_wp2_with fail
    go_returns
    exact ⟨rfl, by go_grown⟩
  · rw [e0, if_neg h0]
    generalize (p.tx - q.tx).sn = x at *
    have f0 : (x == 0) = false := beq_eq_false_iff_ne.2 h0
    have f1 : (x != 0) = true := by simp [h0]
    go_enter Try.func128, Try.ntmps128
    go_wp2_with fail
    refine absW (F := fun W => (W.cell? ⟨w.heap.size, 0, none⟩ = some (.int .i64 (p).a) ∧ W.cell? ⟨w.heap.size, 1, none⟩ = some (.int .i64 (p).b) ∧ W.cell? ⟨w.heap.size, 2, none⟩ = some (.int .i64 (p).c) ∧ W.cell? ⟨w.heap.size, 3, none⟩ = some (.int .i64 (p).d)) ∧ (W.cell? ⟨w.heap.size + 1, 0, none⟩ = some (.int .i64 (q).a) ∧ W.cell? ⟨w.heap.size + 1, 1, none⟩ = some (.int .i64 (q).b) ∧ W.cell? ⟨w.heap.size + 1, 2, none⟩ = some (.int .i64 (q).c) ∧ W.cell? ⟨w.heap.size + 1, 3, none⟩ = some (.int .i64 (q).d)) ∧ Below w.heap.size w W ∧ W.heap.size = w.heap.size + 1 + 1) ⟨⟨by go_simp, by go_simp, by go_simp, by go_simp⟩, ⟨by go_simp, by go_simp, by go_simp, by go_simp⟩, by go_grown, by first | (simp; done) | (simp; omega)⟩ ?_
    rintro W ⟨⟨c0_0, c0_1, c0_2, c0_3⟩, ⟨c1_0, c1_1, c1_2, c1_3⟩, HB, hz⟩
    have k0_0 := fun d os => cell_regrown c0_0 d os
    have k0_1 := fun d os => cell_regrown c0_1 d os
    have k0_2 := fun d os => cell_regrown c0_2 d os
    have k0_3 := fun d os => cell_regrown c0_3 d os
    have k1_0 := fun d os => cell_regrown c1_0 d os
    have k1_1 := fun d os => cell_regrown c1_1 d os
    have k1_2 := fun d os => cell_regrown c1_2 d os
    have k1_3 := fun d os => cell_regrown c1_3 d os
    refine wp_region_quiet_below (by kernel_rfl) (by kernel_rfl) ?_
    repeat (quiet_step (first | (go_at_call 73; with_reducible exact Calls.regrown_of (XP _)) | (go_at_call 73; with_reducible exact Calls.regrown_of (XQ _)) | (go_at_call 97; with_reducible exact Calls.regrown_of (CX _))))
    refine wpQuiet_nil ?_
    rintro _ ⟨⟨dq, osq⟩, rfl⟩
    have hbw1 := below_regrown W dq osq
    generalize grow (redrawn W dq) osq = w1 at hbw1 ⊢
    obtain ⟨hcw1, hfw1⟩ := bcell hbw1
    have hlw1 := hbw1.size
    replace HB := ba HB hbw1
    go_wp2_with fail
    go_returns
    exact ⟨rfl, by go_grown⟩

theorem pt_put7 {X : World} {b : Nat} {p q : Pn} (h : X.cell? ⟨b, 0, none⟩ = some (.int .i64 (p).a) ∧ X.cell? ⟨b, 1, none⟩ = some (.int .i64 (p).b) ∧ X.cell? ⟨b, 2, none⟩ = some (.int .i64 (p).c) ∧ X.cell? ⟨b, 3, none⟩ = some (.int .i64 (p).d)) : ((((X.setCell ⟨b, 0, none⟩ (.int .i64 q.a)).setCell ⟨b, 1, none⟩ (.int .i64 q.b)).setCell ⟨b, 2, none⟩ (.int .i64 q.c)).setCell ⟨b, 3, none⟩ (.int .i64 q.d)).cell? ⟨b, 0, none⟩ = some (.int .i64 (q).a) ∧ ((((X.setCell ⟨b, 0, none⟩ (.int .i64 q.a)).setCell ⟨b, 1, none⟩ (.int .i64 q.b)).setCell ⟨b, 2, none⟩ (.int .i64 q.c)).setCell ⟨b, 3, none⟩ (.int .i64 q.d)).cell? ⟨b, 1, none⟩ = some (.int .i64 (q).b) ∧ ((((X.setCell ⟨b, 0, none⟩ (.int .i64 q.a)).setCell ⟨b, 1, none⟩ (.int .i64 q.b)).setCell ⟨b, 2, none⟩ (.int .i64 q.c)).setCell ⟨b, 3, none⟩ (.int .i64 q.d)).cell? ⟨b, 2, none⟩ = some (.int .i64 (q).c) ∧ ((((X.setCell ⟨b, 0, none⟩ (.int .i64 q.a)).setCell ⟨b, 1, none⟩ (.int .i64 q.b)).setCell ⟨b, 2, none⟩ (.int .i64 q.c)).setCell ⟨b, 3, none⟩ (.int .i64 q.d)).cell? ⟨b, 3, none⟩ = some (.int .i64 (q).d) := by
  obtain ⟨h0, h1, h2, h3⟩ := h
  refine ⟨?_, ?_, ?_, ?_⟩ <;> simp [go_sem, *]

theorem min_snoc (l : List Pn) (s p : Pn) : (l ++ [p]).foldl Pn.minF s = Pn.minF (l.foldl Pn.minF s) p := by rw [List.foldl_append]; rfl

theorem minF_if (s p : Pn) : Pn.minF s p = if cmpP p s < 0 then p else s := by
  unfold Pn.minF
  by_cases h : cmpP p s < 0
  · rw [if_pos h, if_pos ((cmpP_lt p s).1 h)]
  · rw [if_neg h, if_neg (fun k => h ((cmpP_lt p s).2 k))]

theorem scan_snoc (l : List Pn) (a s p : Pn) : (l ++ [p]).foldl (Pn.scanF a) s = Pn.scanF a (l.foldl (Pn.scanF a) s) p := by rw [List.foldl_append]; rfl

theorem pn_eq (p q : Pn) : (p.a == q.a && (p.b == q.b && (p.c == q.c && p.d == q.d))) = decide (p = q) := by
  rw [Bool.eq_iff_iff, decide_eq_true_eq]
  simp only [Bool.and_eq_true, beq_iff_eq]
  exact ⟨fun h => Pn.ext' h.1 h.2.1 h.2.2.1 h.2.2.2, fun h => by subst h; simp⟩

/-- The blocks of the start, of the corner at hand and of the next one; the corners so far. -/
structure HvAt (w X : World) (D i : Nat) (v : Value) (H : List Pn) (z a nx : Pn) : Prop where
  own : X.ownsRow (w.heap.size + 1) 26 4 v (i + 1) (pnCs (H.take (i + 1)))
  cz : X.cell? ⟨w.heap.size, 0, none⟩ = some (.int .i64 (z).a) ∧ X.cell? ⟨w.heap.size, 1, none⟩ = some (.int .i64 (z).b) ∧ X.cell? ⟨w.heap.size, 2, none⟩ = some (.int .i64 (z).c) ∧ X.cell? ⟨w.heap.size, 3, none⟩ = some (.int .i64 (z).d)
  ca : X.cell? ⟨D, 0, none⟩ = some (.int .i64 (a).a) ∧ X.cell? ⟨D, 1, none⟩ = some (.int .i64 (a).b) ∧ X.cell? ⟨D, 2, none⟩ = some (.int .i64 (a).c) ∧ X.cell? ⟨D, 3, none⟩ = some (.int .i64 (a).d)
  cn : X.cell? ⟨D + 1, 0, none⟩ = some (.int .i64 (nx).a) ∧ X.cell? ⟨D + 1, 1, none⟩ = some (.int .i64 (nx).b) ∧ X.cell? ⟨D + 1, 2, none⟩ = some (.int .i64 (nx).c) ∧ X.cell? ⟨D + 1, 3, none⟩ = some (.int .i64 (nx).d)
  fn : ∀ i, X.frozen? ⟨D + 1, i, none⟩ = false
  ld : D + 1 < X.heap.size
  lw : w.heap.size < X.heap.size
  bl : Below w.heap.size w X

theorem HvAt.mono {w X X' : World} {D i : Nat} {v : Value} {H : List Pn} {z a nx : Pn} (h : HvAt w X D i v H z a nx) (hb : Below X.heap.size X X') : HvAt w X' D i v H z a nx := by
  obtain ⟨ow, cz, ca, cn, fn, ld, lw, bl⟩ := h
  have k : ∀ (b o : Nat) (v : Value), b < X.heap.size → X.cell? ⟨b, o, none⟩ = some v → X'.cell? ⟨b, o, none⟩ = some v := fun b o v hlt hv => by rw [hb.cell (p := ⟨b, o, none⟩) hlt]; exact hv
  have f : ∀ (b o : Nat), b < X.heap.size → X.frozen? ⟨b, o, none⟩ = false → X'.frozen? ⟨b, o, none⟩ = false := fun b o hlt hv => by rw [hb.frozen (p := ⟨b, o, none⟩) hlt]; exact hv
  have hz := hb.size
  exact ⟨own_below7 ow hb, ⟨k _ _ _ lw cz.1, k _ _ _ lw cz.2.1, k _ _ _ lw cz.2.2.1, k _ _ _ lw cz.2.2.2⟩, ⟨k _ _ _ (by omega) ca.1, k _ _ _ (by omega) ca.2.1, k _ _ _ (by omega) ca.2.2.1, k _ _ _ (by omega) ca.2.2.2⟩, ⟨k _ _ _ ld cn.1, k _ _ _ ld cn.2.1, k _ _ _ ld cn.2.2.1, k _ _ _ ld cn.2.2.2⟩, fun i => f _ _ ld (fn i), by omega, by omega, ba bl hb⟩

theorem HvAt.alloc {w X : World} {D i : Nat} {v : Value} {H : List Pn} {z a nx : Pn} (h : HvAt w X D i v H z a nx) (o : Obj) : HvAt w (X.alloc o) D i v H z a nx := h.mono ((Below.refl _ X).alloc (Nat.le_refl _) o)

theorem HvAt.put {w X : World} {D i : Nat} {v : Value} {H : List Pn} {z a nx q : Pn} (h : HvAt w X D i v H z a nx) (hD : w.heap.size < D) (hv : v.ownBlock ≠ some (D + 1)) :
    HvAt w ((((X.setCell ⟨D + 1, 0, none⟩ (.int .i64 q.a)).setCell ⟨D + 1, 1, none⟩ (.int .i64 q.b)).setCell ⟨D + 1, 2, none⟩ (.int .i64 q.c)).setCell ⟨D + 1, 3, none⟩ (.int .i64 q.d)) D i v H z a q := by
  obtain ⟨ow, ⟨z0, z1, z2, z3⟩, ⟨a0, a1, a2, a3⟩, cn, fn, ld, lw, bl⟩ := h
  have x0 : ¬ D + 1 = w.heap.size := by omega
  have x1 : ¬ D + 1 = D := by omega
  refine ⟨ownsRow_setCell_other (ownsRow_setCell_other (ownsRow_setCell_other (ownsRow_setCell_other ow hv _) hv _) hv _) hv _, ⟨?_, ?_, ?_, ?_⟩, ⟨?_, ?_, ?_, ?_⟩, pt_put7 cn, fun i => ?_, by simpa using ld, by simpa using lw, ?_⟩
  any_goals (simp [go_sem, *]; done)
  exact (((bl.setCell (by show w.heap.size ≤ D + 1; omega) _).setCell (by show w.heap.size ≤ D + 1; omega) _).setCell (by show w.heap.size ≤ D + 1; omega) _).setCell (by show w.heap.size ≤ D + 1; omega) _

set_option maxRecDepth 100000 in
set_option maxHeartbeats 6400000 in
theorem arHullP (g n cap : Nat) (l H : List Pn) (hn : l.length = n) (hn0 : 0 < n) (hb : n ≤ 1000) (hbd : ∀ x ∈ l, Bd 100000 x) (hH : Pn.HulIs l H) (hHb : ∀ x ∈ H, Bd 100000 x) (hHl : H.length ≤ 2000) (w : World) (hg : g < w.heap.size) (h1 : RowP w g l) :
    Calls Try.prog 86 #[.slice (some ⟨g, 0, none⟩) n cap] w fun e w' => ∃ v, e = .returned v ∧ w'.ownsRow (w.heap.size + 1) 26 4 v H.length (pnCs H) ∧ Below w.heap.size w w' := by
  obtain ⟨s0, hs0⟩ : ∃ x, l[0]? = some x := ⟨_, List.getElem?_eq_getElem (by omega)⟩
  have HST := Lib.hid (hH.start s0 (by rw [List.head?_eq_getElem?]; exact hs0))
  have HN := Lib.hid hn
  have H1 := Lib.hid h1
  have HM := Lib.hid hbd
  have HH := Lib.hid hH
  have HHB := Lib.hid hHb
  have hHp := hH.pos
  obtain ⟨i0, hi, iz0, iz1, iz2⟩ := info_parts ptInfo
  have hs0m := hbd s0 (List.mem_of_getElem? hs0)
  obtain ⟨c0, c1, c2, c3⟩ := h1 0 s0 hs0
  simp only [Nat.zero_mul, Nat.zero_add] at c0 c1 c2 c3
  have n1 : (0 : Int) < (n : Int) := by omega
  clear hn h1 hbd hH hHb hs0
  go_enter Try.func86, Try.ntmps86
  go_wp2_with fail
  go_loopw [17] (fun i wr => ∃ (k : Nat) (s : Pn), k ≤ n ∧ i = .int .i64 k ∧ (l.take k).foldl Pn.minF s0 = s ∧ Bd 100000 s ∧ (wr.cell? ⟨w.heap.size, 0, none⟩ = some (.int .i64 (s).a) ∧ wr.cell? ⟨w.heap.size, 1, none⟩ = some (.int .i64 (s).b) ∧ wr.cell? ⟨w.heap.size, 2, none⟩ = some (.int .i64 (s).c) ∧ wr.cell? ⟨w.heap.size, 3, none⟩ = some (.int .i64 (s).d)) ∧ (∀ i, wr.frozen? ⟨w.heap.size, i, none⟩ = false) ∧ w.heap.size < wr.heap.size ∧ Below w.heap.size w wr) (fun i _ => n - (intOf i).toNat)
  case atStart => exact ⟨0, s0, Nat.zero_le _, rfl, rfl, hs0m, ⟨by go_simp, by go_simp, by go_simp, by go_simp⟩, fun i => by go_simp, by simp, by go_grown⟩
  case round =>
    obtain ⟨k, s, hk, rfl, hs, hsb, ⟨q0, q1, q2, q3⟩, fs, zs, hB⟩ := hrel
    by_cases hlt : k < n
    · obtain ⟨p, hp⟩ : ∃ p, l[k]? = some p := ⟨_, List.getElem?_eq_getElem (by rw [HN.out]; exact hlt)⟩
      obtain ⟨c0, c1, c2, c3⟩ := (H1.out.below hg hB) k p hp
      have hpb := HM.out p (List.mem_of_getElem? hp)
      have gr : g < wr.heap.size := by omega
      have HS := Lib.hid (show (l.take (k + 1)).foldl Pn.minF s0 = if cmpP p s < 0 then p else s by
        rw [List.take_add_one, hp, ← minF_if, ← hs]; exact min_snoc _ _ _)
      have AF := arFirstP p s hpb hsb
      generalize cmpP p s = v at *
      have j1 : (0 : Int) ≤ (k : Int) := by omega
      have j2 : (k : Int) < (n : Int) := by omega
      clear hp hs
      by_cases hv : v < 0
      · have HS2 := Lib.hid (HS.out.trans (if_pos hv))
        rw [decide_eq_true hv] at AF
        go_wp2_with (go_at_call 128; (with_reducible refine (AF _).mono ?_); rintro e w1 ⟨rfl, h1⟩; (try with_reducible replace h1 := undrew h1); have hB : Below w.heap.size w w1 := ba (by go_grown) h1; obtain ⟨hcw1, hfw1⟩ := bcell h1; have hqw1 := h1.size; (try simp at hqw1); (try have hz0w1 : w.heap.size < w1.heap.size := (by omega)); (try have he0w1 : w.heap.size ≤ w1.heap.size := (by omega)); (try have hz1w1 : wr.heap.size < w1.heap.size := (by omega)); (try have he1w1 : wr.heap.size ≤ w1.heap.size := (by omega)))
        go_roundw
        case rel => exact ⟨k + 1, p, by omega, by go_num, HS2.out, hpb, pt_put7 (p := s) ⟨by go_simp, by go_simp, by go_simp, by go_simp⟩, fun i => by go_simp, by simp; omega, by go_grown⟩
        case measure => simp [intOf]; omega
      · have HS2 := Lib.hid (HS.out.trans (if_neg hv))
        rw [decide_eq_false hv] at AF
        go_wp2_with (go_at_call 128; (with_reducible refine (AF _).mono ?_); rintro e w1 ⟨rfl, h1⟩; (try with_reducible replace h1 := undrew h1); have hB : Below w.heap.size w w1 := ba (by go_grown) h1; obtain ⟨hcw1, hfw1⟩ := bcell h1; have hqw1 := h1.size; (try simp at hqw1); (try have hz0w1 : w.heap.size < w1.heap.size := (by omega)); (try have he0w1 : w.heap.size ≤ w1.heap.size := (by omega)); (try have hz1w1 : wr.heap.size < w1.heap.size := (by omega)); (try have he1w1 : wr.heap.size ≤ w1.heap.size := (by omega)))
        go_roundw
        case rel => exact ⟨k + 1, s, by omega, by go_num, HS2.out, hsb, ⟨by go_simp, by go_simp, by go_simp, by go_simp⟩, fun i => by go_simp, by omega, by go_grown⟩
        case measure => simp [intOf]; omega
    · have hkn : k = n := by omega
      rw [List.take_of_length_le (by rw [HN.out]; omega), HST.out] at hs
      subst hs
      have hO := World.ownsRow_lit (base := w.heap.size + 1) (e := 26) (size := 4) wr #[.int .i64 H[0]!.a, .int .i64 H[0]!.b, .int .i64 H[0]!.c, .int .i64 H[0]!.d] 1 (by omega) (by unfold maxLen; omega) rfl
      have HO := Lib.hid hO
      have HBo := Lib.hid (hB.alloc hB.size (ptO H[0]!))
      have zs2 := zs
      generalize hHz : H[0]! = z at *
      have HHZ := Lib.hid hHz
      clear hO c0 c1 c2 c3 hHz
      go_wp2_with fail
      go_loopw [6] (fun t wx => ∃ (i : Nat) (v : Value), i < H.length ∧ t = v ∧ wx.ownsRow (w.heap.size + 1) 26 4 v (i + 1) (pnCs (H.take (i + 1))) ∧ (wx.cell? ⟨w.heap.size, 0, none⟩ = some (.int .i64 (z).a) ∧ wx.cell? ⟨w.heap.size, 1, none⟩ = some (.int .i64 (z).b) ∧ wx.cell? ⟨w.heap.size, 2, none⟩ = some (.int .i64 (z).c) ∧ wx.cell? ⟨w.heap.size, 3, none⟩ = some (.int .i64 (z).d)) ∧ w.heap.size < wx.heap.size ∧ Below w.heap.size w wx) (fun t _ => H.length - (match t with | .slice _ n _ => n | _ => 0))
      case atStart =>
        refine ⟨0, _, hHp, rfl, ?_, ⟨by go_simp, by go_simp, by go_simp, by go_simp⟩, by simp; omega, HBo.out⟩
        have e : H.take (0 + 1) = [z] := by
          rw [← HHZ.out, getElem!_pos H 0 hHp]
          cases H with
          | nil => simp at hHp
          | cons x H => simp
        rw [e]
        exact HO.out
      case round =>
        obtain ⟨i, v0, hi', rfl, hO2, ⟨z0, z1, z2, z3⟩, zw, hB2⟩ := hrel
        obtain ⟨g2, cv, rfl, hg2, hg2'⟩ := hO2.form (by omega)
        obtain ⟨a, ha⟩ : ∃ x, H[i]? = some x := ⟨_, List.getElem?_eq_getElem hi'⟩
        have haz : H[i]! = a := by rw [getElem!_pos H i hi']; exact (List.getElem?_eq_some_iff.1 ha).2
        obtain ⟨a0, a1, a2, a3⟩ := RowP.of_own hO2 (by rw [List.length_take]; omega) i a (by rw [List.getElem?_take_of_lt (by omega)]; exact ha)
        have hab := HHB.out a (List.mem_of_getElem? ha)
        have hnx := HH.out.next i hi'
        rw [haz] at hnx
        have HNX := Lib.hid hnx
        have HFR := Lib.hid (HH.out.fresh i)
        have HAZ := Lib.hid haz
        have j1 : (0 : Int) ≤ (i : Int) := by omega
        have j2 : (i : Int) < (i : Int) + 1 := by omega
        have j3 : IntKind.i64.wrap (i : Int) = (i : Int) := IntWalk.i64_in _ ⟨by omega, by omega⟩
        have j4 : IntKind.i64.wrap ((i : Int) + 1) = (i : Int) + 1 := IntWalk.i64_in _ ⟨by omega, by omega⟩
        have zw' : w.heap.size < wr.heap.size + 1 := by omega
        have HA0 := Lib.hid (show HvAt w ((wr.alloc (ptO a)).alloc (ptO a)) wr.heap.size i (.slice (some ⟨g2, 0, none⟩) (i + 1) cv) H z a a from
          ⟨(hO2.alloc _).alloc _, ⟨by go_simp, by go_simp, by go_simp, by go_simp⟩, ⟨by go_simp, by go_simp, by go_simp, by go_simp⟩, ⟨by go_simp, by go_simp, by go_simp, by go_simp⟩, fun i => by go_simp, by simp, by simp; omega, by go_grown⟩)
        have hvb : (Value.slice (some ⟨g2, 0, none⟩) (i + 1) cv).ownBlock ≠ some (wr.heap.size + 1) := by simp [Value.ownBlock]; omega
        have hD := zw
        clear hO2 hnx ha haz
        go_wp2_with fail
        obtain ⟨wo, rfl⟩ : ∃ wo, wo = wr := ⟨_, rfl⟩
        go_loopw [37] (fun j wi => ∃ (k : Nat) (nx : Pn), k ≤ n ∧ j = .int .i64 k ∧ (l.take k).foldl (Pn.scanF a) a = nx ∧ Bd 100000 nx ∧ HvAt w wi wo.heap.size i (.slice (some ⟨g2, 0, none⟩) (i + 1) cv) H z a nx) (fun j _ => n - (intOf j).toNat)
        case atStart => exact ⟨0, a, Nat.zero_le _, rfl, rfl, hab, HA0.out⟩
        case round =>
          clear HA0 a0 a1 a2 a3 z0 z1 z2 z3
          obtain ⟨k, nx, hk, rfl, hs, hnb, hAt⟩ := hrel
          have HAi := Lib.hid hAt
          obtain ⟨ow, ⟨z0, z1, z2, z3⟩, ⟨a0, a1, a2, a3⟩, ⟨q0, q1, q2, q3⟩, fn, ld, lw, hB⟩ := hAt
          by_cases hlt : k < n
          · obtain ⟨p, hp⟩ : ∃ p, l[k]? = some p := ⟨_, List.getElem?_eq_getElem (by rw [HN.out]; exact hlt)⟩
            obtain ⟨c0, c1, c2, c3⟩ := (H1.out.below hg hB) k p hp
            have hpb := HM.out p (List.mem_of_getElem? hp)
            have gr : g < wr.heap.size := Nat.lt_of_lt_of_le hg hB.size
            have HS := Lib.hid (show (l.take (k + 1)).foldl (Pn.scanF a) a = if p = a then nx else if nx = a ∨ Pn.sd a nx p < 0 ∨ (Pn.sd a nx p = 0 ∧ Pn.btw a p nx = true) then p else nx by
              rw [List.take_add_one, hp, ← hs]; exact scan_snoc _ _ _ _)
            have AS := arSideP a nx p hab hnb hpb
            have AB := arBetweenP a p nx hab hpb hnb
            have k1 : (0 : Int) ≤ (k : Int) := by omega
            have k2 : (k : Int) < (n : Int) := by omega
            have ld' : wo.heap.size < wr.heap.size := by omega
            clear hp hs ow
            by_cases hpa : p = a
            · subst hpa
              have HS2 := Lib.hid (show (l.take (k + 1)).foldl (Pn.scanF p) p = nx by rw [HS.out, if_pos rfl])
              go_wp2_with fail
              go_roundw
              case rel => exact ⟨k + 1, nx, by omega, by go_num, HS2.out, hnb, HAi.out.alloc _⟩
              case measure => simp [intOf]; omega
            · have f1 : (p.a == a.a && (p.b == a.b && (p.c == a.c && p.d == a.d))) = false := by rw [pn_eq]; exact decide_eq_false hpa
              generalize Pn.sd a nx p = v at *
              generalize Pn.btw a p nx = bt at *
              by_cases hna : nx = a
              · have HS2 := Lib.hid (show (l.take (k + 1)).foldl (Pn.scanF a) a = p by rw [HS.out, if_neg hpa, if_pos (.inl hna)])
                have f2 : (nx.a == a.a && (nx.b == a.b && (nx.c == a.c && nx.d == a.d))) = true := by rw [pn_eq]; exact decide_eq_true hna
                clear hna
                go_wp2_with (first | (go_at_call 54; (with_reducible refine (AS _).mono ?_); rintro e w2 ⟨rfl, h1⟩; (try with_reducible replace h1 := undrew h1); have hB : Below w.heap.size w w2 := ba (by go_grown) h1; obtain ⟨hcw2, hfw2⟩ := bcell h1; have hqw2 := h1.size; (try simp at hqw2); (try have hz0w2 : w.heap.size < w2.heap.size := (by omega)); (try have he0w2 : w.heap.size ≤ w2.heap.size := (by omega)); (try have hz1w2 : wo.heap.size < w2.heap.size := (by omega)); (try have he1w2 : wo.heap.size ≤ w2.heap.size := (by omega)); (try have hz2w2 : wo.heap.size + 1 < w2.heap.size := (by omega)); (try have he2w2 : wo.heap.size + 1 ≤ w2.heap.size := (by omega)); (try have hz3w2 : wr.heap.size < w2.heap.size := (by omega)); (try have he3w2 : wr.heap.size ≤ w2.heap.size := (by omega)); have HA2 := Lib.hid ((HAi.out.alloc _).mono h1)) | (go_at_call 57; (with_reducible refine (AB _).mono ?_); rintro e w3 ⟨rfl, h1⟩; (try with_reducible replace h1 := undrew h1); have hB : Below w.heap.size w w3 := ba (by go_grown) h1; obtain ⟨hcw3, hfw3⟩ := bcell h1; have hqw3 := h1.size; (try simp at hqw3); (try have hz0w3 : w.heap.size < w3.heap.size := (by omega)); (try have he0w3 : w.heap.size ≤ w3.heap.size := (by omega)); (try have hz1w3 : wo.heap.size < w3.heap.size := (by omega)); (try have he1w3 : wo.heap.size ≤ w3.heap.size := (by omega)); (try have hz2w3 : wo.heap.size + 1 < w3.heap.size := (by omega)); (try have he2w3 : wo.heap.size + 1 ≤ w3.heap.size := (by omega)); (try have hz3w3 : wr.heap.size < w3.heap.size := (by omega)); (try have he3w3 : wr.heap.size ≤ w3.heap.size := (by omega)); have HA3 := Lib.hid (HA2.out.mono h1)))
                go_roundw
                case rel => exact ⟨k + 1, p, by omega, by go_num, HS2.out, hpb, (by first | exact HvAt.put HA3.out hD hvb | exact HvAt.put HA2.out hD hvb)⟩
                case measure => simp [intOf]; omega
              · have f2 : (nx.a == a.a && (nx.b == a.b && (nx.c == a.c && nx.d == a.d))) = false := by rw [pn_eq]; exact decide_eq_false hna
                by_cases hv : v < 0
                · have HS2 := Lib.hid (show (l.take (k + 1)).foldl (Pn.scanF a) a = p by rw [HS.out, if_neg hpa, if_pos (.inr (.inl hv))])
                  have dv : decide (v < 0) = true := decide_eq_true hv
                  go_wp2_with (first | (go_at_call 54; (with_reducible refine (AS _).mono ?_); rintro e w2 ⟨rfl, h1⟩; (try with_reducible replace h1 := undrew h1); have hB : Below w.heap.size w w2 := ba (by go_grown) h1; obtain ⟨hcw2, hfw2⟩ := bcell h1; have hqw2 := h1.size; (try simp at hqw2); (try have hz0w2 : w.heap.size < w2.heap.size := (by omega)); (try have he0w2 : w.heap.size ≤ w2.heap.size := (by omega)); (try have hz1w2 : wo.heap.size < w2.heap.size := (by omega)); (try have he1w2 : wo.heap.size ≤ w2.heap.size := (by omega)); (try have hz2w2 : wo.heap.size + 1 < w2.heap.size := (by omega)); (try have he2w2 : wo.heap.size + 1 ≤ w2.heap.size := (by omega)); (try have hz3w2 : wr.heap.size < w2.heap.size := (by omega)); (try have he3w2 : wr.heap.size ≤ w2.heap.size := (by omega)); have HA2 := Lib.hid ((HAi.out.alloc _).mono h1)) | (go_at_call 57; (with_reducible refine (AB _).mono ?_); rintro e w3 ⟨rfl, h1⟩; (try with_reducible replace h1 := undrew h1); have hB : Below w.heap.size w w3 := ba (by go_grown) h1; obtain ⟨hcw3, hfw3⟩ := bcell h1; have hqw3 := h1.size; (try simp at hqw3); (try have hz0w3 : w.heap.size < w3.heap.size := (by omega)); (try have he0w3 : w.heap.size ≤ w3.heap.size := (by omega)); (try have hz1w3 : wo.heap.size < w3.heap.size := (by omega)); (try have he1w3 : wo.heap.size ≤ w3.heap.size := (by omega)); (try have hz2w3 : wo.heap.size + 1 < w3.heap.size := (by omega)); (try have he2w3 : wo.heap.size + 1 ≤ w3.heap.size := (by omega)); (try have hz3w3 : wr.heap.size < w3.heap.size := (by omega)); (try have he3w3 : wr.heap.size ≤ w3.heap.size := (by omega)); have HA3 := Lib.hid (HA2.out.mono h1)))
                  go_roundw
                  case rel => exact ⟨k + 1, p, by omega, by go_num, HS2.out, hpb, (by first | exact HvAt.put HA3.out hD hvb | exact HvAt.put HA2.out hD hvb)⟩
                  case measure => simp [intOf]; omega
                · by_cases hv0 : v = 0
                  · cases bt
                    · have HS2 := Lib.hid (show (l.take (k + 1)).foldl (Pn.scanF a) a = nx by rw [HS.out, if_neg hpa, if_neg (by rintro (h | h | ⟨_, h⟩); exact hna h; exact hv h; cases h)])
                      have dv : decide (v < 0) = false := decide_eq_false hv
                      have dv0 : (v == 0) = true := beq_iff_eq.2 hv0
                      go_wp2_with (first | (go_at_call 54; (with_reducible refine (AS _).mono ?_); rintro e w2 ⟨rfl, h1⟩; (try with_reducible replace h1 := undrew h1); have hB : Below w.heap.size w w2 := ba (by go_grown) h1; obtain ⟨hcw2, hfw2⟩ := bcell h1; have hqw2 := h1.size; (try simp at hqw2); (try have hz0w2 : w.heap.size < w2.heap.size := (by omega)); (try have he0w2 : w.heap.size ≤ w2.heap.size := (by omega)); (try have hz1w2 : wo.heap.size < w2.heap.size := (by omega)); (try have he1w2 : wo.heap.size ≤ w2.heap.size := (by omega)); (try have hz2w2 : wo.heap.size + 1 < w2.heap.size := (by omega)); (try have he2w2 : wo.heap.size + 1 ≤ w2.heap.size := (by omega)); (try have hz3w2 : wr.heap.size < w2.heap.size := (by omega)); (try have he3w2 : wr.heap.size ≤ w2.heap.size := (by omega)); have HA2 := Lib.hid ((HAi.out.alloc _).mono h1)) | (go_at_call 57; (with_reducible refine (AB _).mono ?_); rintro e w3 ⟨rfl, h1⟩; (try with_reducible replace h1 := undrew h1); have hB : Below w.heap.size w w3 := ba (by go_grown) h1; obtain ⟨hcw3, hfw3⟩ := bcell h1; have hqw3 := h1.size; (try simp at hqw3); (try have hz0w3 : w.heap.size < w3.heap.size := (by omega)); (try have he0w3 : w.heap.size ≤ w3.heap.size := (by omega)); (try have hz1w3 : wo.heap.size < w3.heap.size := (by omega)); (try have he1w3 : wo.heap.size ≤ w3.heap.size := (by omega)); (try have hz2w3 : wo.heap.size + 1 < w3.heap.size := (by omega)); (try have he2w3 : wo.heap.size + 1 ≤ w3.heap.size := (by omega)); (try have hz3w3 : wr.heap.size < w3.heap.size := (by omega)); (try have he3w3 : wr.heap.size ≤ w3.heap.size := (by omega)); have HA3 := Lib.hid (HA2.out.mono h1)))
                      go_roundw
                      case rel => exact ⟨k + 1, nx, by omega, by go_num, HS2.out, hnb, (by first | exact HA3.out | exact HA2.out)⟩
                      case measure => simp [intOf]; omega
                    · have HS2 := Lib.hid (show (l.take (k + 1)).foldl (Pn.scanF a) a = p by rw [HS.out, if_neg hpa, if_pos (.inr (.inr ⟨hv0, rfl⟩))])
                      have dv : decide (v < 0) = false := decide_eq_false hv
                      have dv0 : (v == 0) = true := beq_iff_eq.2 hv0
                      go_wp2_with (first | (go_at_call 54; (with_reducible refine (AS _).mono ?_); rintro e w2 ⟨rfl, h1⟩; (try with_reducible replace h1 := undrew h1); have hB : Below w.heap.size w w2 := ba (by go_grown) h1; obtain ⟨hcw2, hfw2⟩ := bcell h1; have hqw2 := h1.size; (try simp at hqw2); (try have hz0w2 : w.heap.size < w2.heap.size := (by omega)); (try have he0w2 : w.heap.size ≤ w2.heap.size := (by omega)); (try have hz1w2 : wo.heap.size < w2.heap.size := (by omega)); (try have he1w2 : wo.heap.size ≤ w2.heap.size := (by omega)); (try have hz2w2 : wo.heap.size + 1 < w2.heap.size := (by omega)); (try have he2w2 : wo.heap.size + 1 ≤ w2.heap.size := (by omega)); (try have hz3w2 : wr.heap.size < w2.heap.size := (by omega)); (try have he3w2 : wr.heap.size ≤ w2.heap.size := (by omega)); have HA2 := Lib.hid ((HAi.out.alloc _).mono h1)) | (go_at_call 57; (with_reducible refine (AB _).mono ?_); rintro e w3 ⟨rfl, h1⟩; (try with_reducible replace h1 := undrew h1); have hB : Below w.heap.size w w3 := ba (by go_grown) h1; obtain ⟨hcw3, hfw3⟩ := bcell h1; have hqw3 := h1.size; (try simp at hqw3); (try have hz0w3 : w.heap.size < w3.heap.size := (by omega)); (try have he0w3 : w.heap.size ≤ w3.heap.size := (by omega)); (try have hz1w3 : wo.heap.size < w3.heap.size := (by omega)); (try have he1w3 : wo.heap.size ≤ w3.heap.size := (by omega)); (try have hz2w3 : wo.heap.size + 1 < w3.heap.size := (by omega)); (try have he2w3 : wo.heap.size + 1 ≤ w3.heap.size := (by omega)); (try have hz3w3 : wr.heap.size < w3.heap.size := (by omega)); (try have he3w3 : wr.heap.size ≤ w3.heap.size := (by omega)); have HA3 := Lib.hid (HA2.out.mono h1)))
                      go_roundw
                      case rel => exact ⟨k + 1, p, by omega, by go_num, HS2.out, hpb, (by first | exact HvAt.put HA3.out hD hvb | exact HvAt.put HA2.out hD hvb)⟩
                      case measure => simp [intOf]; omega
                  · have HS2 := Lib.hid (show (l.take (k + 1)).foldl (Pn.scanF a) a = nx by rw [HS.out, if_neg hpa, if_neg (by rintro (h | h | ⟨h, _⟩); exact hna h; exact hv h; exact hv0 h)])
                    have dv : decide (v < 0) = false := decide_eq_false hv
                    have dv0 : (v == 0) = false := beq_eq_false_iff_ne.2 hv0
                    go_wp2_with (first | (go_at_call 54; (with_reducible refine (AS _).mono ?_); rintro e w2 ⟨rfl, h1⟩; (try with_reducible replace h1 := undrew h1); have hB : Below w.heap.size w w2 := ba (by go_grown) h1; obtain ⟨hcw2, hfw2⟩ := bcell h1; have hqw2 := h1.size; (try simp at hqw2); (try have hz0w2 : w.heap.size < w2.heap.size := (by omega)); (try have he0w2 : w.heap.size ≤ w2.heap.size := (by omega)); (try have hz1w2 : wo.heap.size < w2.heap.size := (by omega)); (try have he1w2 : wo.heap.size ≤ w2.heap.size := (by omega)); (try have hz2w2 : wo.heap.size + 1 < w2.heap.size := (by omega)); (try have he2w2 : wo.heap.size + 1 ≤ w2.heap.size := (by omega)); (try have hz3w2 : wr.heap.size < w2.heap.size := (by omega)); (try have he3w2 : wr.heap.size ≤ w2.heap.size := (by omega)); have HA2 := Lib.hid ((HAi.out.alloc _).mono h1)) | (go_at_call 57; (with_reducible refine (AB _).mono ?_); rintro e w3 ⟨rfl, h1⟩; (try with_reducible replace h1 := undrew h1); have hB : Below w.heap.size w w3 := ba (by go_grown) h1; obtain ⟨hcw3, hfw3⟩ := bcell h1; have hqw3 := h1.size; (try simp at hqw3); (try have hz0w3 : w.heap.size < w3.heap.size := (by omega)); (try have he0w3 : w.heap.size ≤ w3.heap.size := (by omega)); (try have hz1w3 : wo.heap.size < w3.heap.size := (by omega)); (try have he1w3 : wo.heap.size ≤ w3.heap.size := (by omega)); (try have hz2w3 : wo.heap.size + 1 < w3.heap.size := (by omega)); (try have he2w3 : wo.heap.size + 1 ≤ w3.heap.size := (by omega)); (try have hz3w3 : wr.heap.size < w3.heap.size := (by omega)); (try have he3w3 : wr.heap.size ≤ w3.heap.size := (by omega)); have HA3 := Lib.hid (HA2.out.mono h1)))
                    go_roundw
                    case rel => exact ⟨k + 1, nx, by omega, by go_num, HS2.out, hnb, (by first | exact HA3.out | exact HA2.out)⟩
                    case measure => simp [intOf]; omega
          · have hkn : k = n := by omega
            rw [List.take_of_length_le (by rw [HN.out]; omega), HNX.out] at hs
            have g1 : ¬ (k : Int) < (n : Int) := by omega
            by_cases hlast : i + 1 < H.length
            · rw [if_pos hlast] at hs
              obtain ⟨fr1, fr2⟩ := HFR.out hlast
              rw [hs, HHZ.out] at fr1
              rw [hs, HAZ.out] at fr2
              have f3 : (nx.a == z.a && (nx.b == z.b && (nx.c == z.c && nx.d == z.d))) = false := by rw [pn_eq]; exact decide_eq_false fr1
              have f4 : (nx.a == a.a && (nx.b == a.b && (nx.c == a.c && nx.d == a.d))) = false := by rw [pn_eq]; exact decide_eq_false fr2
              have HT := Lib.hid (show H.take (i + 1 + 1) = H.take (i + 1) ++ [nx] by
                rw [List.take_add_one, List.getElem?_eq_getElem hlast]
                congr 1
                rw [← hs, getElem!_pos H (i + 1) hlast]; rfl)
              have HO := Lib.hid ow
              have HBw := Lib.hid hB
              have hBz := hB.size
              clear hs fr1 fr2 ow hB
              go_wp2_with (at_builtin; refine wpList_append_own _ rfl _ _ 47 rfl (w.heap.size + 1) 26 i0 (.agg #[.int .i64 0, .int .i64 0, .int .i64 0, .int .i64 0]) 4 32 Try.underlying47 hi iz0 iz1 iz2 rfl (by decide) _ _ _ rfl (HO.out.alloc _) ⟨wr.heap.size, 0, none⟩ 1 1 [.int .i64 nx.a, .int .i64 nx.b, .int .i64 nx.c, .int .i64 nx.d] rfl rfl (newc7 rfl) (by intro u hu; simp at hu; rcases hu with rfl | rfl | rfl | rfl <;> rfl) (by unfold maxLen; omega) (by omega) (by simp; omega) ?_)
              intro v' w3 hJ3 hg3 _
              have hJA := HO.out.alloc (ptO nx)
              have HB3 := Lib.hid ((HBw.out.alloc hBz (ptO nx)).grown hg3 (by simp; omega) (fun k hk => Nat.le_of_succ_le (hJA.lt k hk).1))
              have hne : some w.heap.size ≠ (Value.slice (some ⟨g2, 0, none⟩) (i + 1) cv).ownBlock := fun e => by
                simp [Value.ownBlock] at e; omega
              have hS3 : w3.cell? ⟨w.heap.size, 0, none⟩ = some (.int .i64 (z).a) ∧ w3.cell? ⟨w.heap.size, 1, none⟩ = some (.int .i64 (z).b) ∧ w3.cell? ⟨w.heap.size, 2, none⟩ = some (.int .i64 (z).c) ∧ w3.cell? ⟨w.heap.size, 3, none⟩ = some (.int .i64 (z).d) := ⟨hg3.cell (cl_alloc z0 _) hne, hg3.cell (cl_alloc z1 _) hne, hg3.cell (cl_alloc z2 _) hne, hg3.cell (cl_alloc z3 _) hne⟩
              have HS3 := Lib.hid hS3
              have hz3 : w.heap.size < w3.heap.size := by
                have := hg3.size
                simp at this; omega
              have HJ3 := Lib.hid hJ3
              clear hJ3 hg3 hS3 hJA
              go_wp2_with fail
              go_roundw
              case rel => exact ⟨i + 1, v', hlast, rfl, by rw [HT.out, pnCs_append]; exact HJ3.out, HS3.out, hz3, HB3.out⟩
              case measure =>
                obtain ⟨a3, c3, e3⟩ := own_slice7 HJ3.out
                rw [e3]
                show H.length - (i + 1 + 1) < H.length - (i + 1)
                omega
            · rw [if_neg hlast, HHZ.out] at hs
              have f3 : (nx.a == z.a && (nx.b == z.b && (nx.c == z.c && nx.d == z.d))) = true := by rw [pn_eq]; exact decide_eq_true hs.symm
              have hle : i + 1 = H.length := by omega
              have hE : H.take (i + 1) = H := List.take_of_length_le (by omega)
              rw [hE] at ow
              have HO := Lib.hid ow
              have HBw := Lib.hid hB
              clear hs ow hB
              go_wp2_with fail
              go_ret
              exact ⟨_, rfl, by rw [← hle]; exact HO.out, HBw.out⟩

set_option maxRecDepth 100000 in
/-- The corners of the hull, in the model. -/
theorem spHullOf (g n cap : Nat) (l : List Pn) (hn : l.length = n) (hb : n ≤ 1048576) (w : World) (hg : g < w.heap.size) (h1 : RowP w g l) :
    Calls Try.prog 40 #[.slice (some ⟨g, 0, none⟩) n cap] w fun e w' => ∃ v, e = .returned (.tuple #[v, .bool (plsB l)]) ∧ (plsB l = false → v = .slice none 0 0) ∧ (plsB l = true → w'.ownsRow w.heap.size 26 4 v (hlL l).length (pnCs (hlL l))) ∧ Below w.heap.size w w' := by
  have AP := arPointsP g n cap l hn hb w hg h1
  cases hp : plsB l <;> rw [hp] at AP
  · have HAP := Lib.hid AP
    clear h1 AP hn
    go_enter Try.func40, Try.ntmps40
    go_wp2_with fail
    refine HAP.out.mono ?_
    rintro e w1 ⟨rfl, h1⟩
    go_wp2_with fail
    go_returns
    exact ⟨_, rfl, fun _ => rfl, fun h => (by cases h), h1⟩
  · obtain ⟨⟨n1, n20⟩, hbd⟩ := plsB_n hn hp
    have hne : l ≠ [] := fun e => by rw [e] at hn; simp at hn; omega
    have AH := fun (W : World) (hW : g < W.heap.size) (hr : RowP W g l) => arHullP g n cap l (hlL l) hn (by omega) (by omega) hbd (hlL_is hbd hne) (fun x hx => hbd x (hlL_mem hbd hne hx)) (by have := hlL_length hbd hne; omega) W hW hr
    have HAP := Lib.hid AP
    have HAH := Lib.hid AH
    have H1 := Lib.hid h1
    clear h1 AP hn AH hp
    go_enter Try.func40, Try.ntmps40
    go_wp2_with fail
    refine HAP.out.mono ?_
    rintro e w1 ⟨rfl, h1⟩
    have hz1 := h1.size
    have HB1 := Lib.hid h1
    clear h1
    go_wp2_with fail
    refine (HAH.out w1 (by omega) (H1.out.below hg HB1.out)).mono ?_
    rintro e w2 ⟨v, rfl, hO, h2⟩
    have HO := Lib.hid (own_less7 hO (show w.heap.size ≤ w1.heap.size + 1 by omega))
    have HB2 := Lib.hid (ba HB1.out h2)
    clear hO h2
    go_wp2_with fail
    go_returns
    exact ⟨_, rfl, fun h => (by cases h), fun _ => HO.out, HB2.out⟩

end Go.Proofs.Ytppbbcckijcckaa

/- Contract: borderOf in the program: the corners of one half of a hull. -/
namespace Go.Proofs.Ytppbbcckijcckaa
open Go.ChangeShapes Go.WideShapes Go.ChangeAt Go.RowKit Go.Sort

set_option linter.unusedVariables false
set_option linter.unusedSimpArgs false

set_option maxRecDepth 100000 in
set_option maxHeartbeats 3200000 in
theorem borderP (g n cap : Nat) (l : List Pn) (hn : l.length = n) (hb : n ≤ 1000) (hbd : ∀ x ∈ l, Bd 100000 x) (w : World) (hg : g < w.heap.size) (h1 : RowP w g l) :
    Calls Try.prog 92 #[.slice (some ⟨g, 0, none⟩) n cap] w fun e w' => ∃ v, e = .returned v ∧ w'.ownsRow w.heap.size 26 4 v (Pn.bord l).length (pnCs (Pn.bord l)) ∧ Below w.heap.size w w' := by
  have HN := Lib.hid hn
  have H1 := Lib.hid h1
  have HM := Lib.hid hbd
  obtain ⟨i0, hi, iz0, iz1, iz2⟩ := info_parts ptInfo
  clear hn h1 hbd
  go_enter Try.func92, Try.ntmps92
  go_wp2_with fail
  go_loopw [3, 9] (fun t i wr => ∃ (k : Nat) (st : List Pn) (v : Value), k ≤ n ∧ (l.take k).foldl Pn.pushW [] = st ∧ st.length ≤ k ∧ (∀ x ∈ st, Bd 100000 x) ∧ i = .int .i64 k ∧ t = v ∧ wr.ownsRow w.heap.size 26 4 v st.length (pnCs st.reverse) ∧ Below w.heap.size w wr) (fun _ i _ => n - (intOf i).toNat)
  case atStart => exact ⟨0, [], _, Nat.zero_le _, rfl, Nat.le_refl _, by simp, rfl, rfl, World.ownsRow_nil _ _ _ _, Below.refl _ _⟩
  case round =>
    obtain ⟨k, st, v, hk, hst, hsl, hsb, rfl, rfl, hJ, hB⟩ := hrel
    have hz : w.heap.size ≤ wr.heap.size := hB.size
    by_cases hlt : k < n
    · obtain ⟨p, hp⟩ : ∃ p, l[k]? = some p := ⟨_, List.getElem?_eq_getElem (by rw [HN.out]; exact hlt)⟩
      obtain ⟨c0, c1, c2, c3⟩ := (H1.out.below hg hB) k p hp
      have hmp := HM.out p (List.mem_of_getElem? hp)
      have HT := Lib.hid (show (l.take (k + 1)).foldl Pn.pushW [] = p :: Pn.popW p st by
        rw [List.take_add_one, hp, List.foldl_append, hst]; rfl)
      have HPL := Lib.hid (Pn.popW_length (n := p) (st := st))
      have HPM := Lib.hid (fun x (hx : x ∈ Pn.popW p st) => hsb x (Pn.popW_mem hx))
      have HSB := Lib.hid hsb
      have HJ0 := Lib.hid (hJ.alloc (.cells #[.int .i64 p.a, .int .i64 p.b, .int .i64 p.c, .int .i64 p.d] 26))
      have HB0 := Lib.hid (hB.alloc hz (.cells #[.int .i64 p.a, .int .i64 p.b, .int .i64 p.c, .int .i64 p.d] 26))
      have j1 : (0 : Int) ≤ (k : Int) := by omega
      have j2 : (k : Int) < (n : Int) := by omega
      obtain ⟨av, cv, rfl⟩ := own_slice7 hJ
      clear hJ hB hp hst hsb
      -- inner
      go_wp2_with fail
      refine absW (F := fun W => W.ownsRow w.heap.size 26 4 (.slice av st.length cv) st.length (pnCs st.reverse) ∧ (W.cell? ⟨wr.heap.size, 0, none⟩ = some (.int .i64 (p).a) ∧ W.cell? ⟨wr.heap.size, 1, none⟩ = some (.int .i64 (p).b) ∧ W.cell? ⟨wr.heap.size, 2, none⟩ = some (.int .i64 (p).c) ∧ W.cell? ⟨wr.heap.size, 3, none⟩ = some (.int .i64 (p).d)) ∧ wr.heap.size < W.heap.size ∧ Below w.heap.size w W) ⟨HJ0.out, ⟨by go_simp, by go_simp, by go_simp, by go_simp⟩, by simp, HB0.out⟩ ?_
      rintro W ⟨hJW, ⟨p0, p1, p2, p3⟩, zW, hBW⟩
      have HBW := Lib.hid hBW
      have HJW := Lib.hid hJW
      clear c0 c1 c2 c3 HJ0 HB0 hBW hJW
      obtain ⟨wo, rfl⟩ : ∃ wo, wo = wr := ⟨_, rfl⟩
      go_loopw [3, 6] (fun t i wi => ∃ (s' : List Pn) (L : Nat), s'.length = L ∧ Pn.popW p s' = Pn.popW p st ∧ L ≤ st.length ∧ (∀ x ∈ s', x ∈ st) ∧ i = .int .i64 (L : Int) ∧ wi.ownsRow w.heap.size 26 4 t L (pnCs s'.reverse) ∧ (wi.cell? ⟨wo.heap.size, 0, none⟩ = some (.int .i64 (p).a) ∧ wi.cell? ⟨wo.heap.size, 1, none⟩ = some (.int .i64 (p).b) ∧ wi.cell? ⟨wo.heap.size, 2, none⟩ = some (.int .i64 (p).c) ∧ wi.cell? ⟨wo.heap.size, 3, none⟩ = some (.int .i64 (p).d)) ∧ wo.heap.size < wi.heap.size ∧ Below w.heap.size w wi) (fun _ i _ => (intOf i).toNat)
      case atStart => exact ⟨st, st.length, rfl, rfl, Nat.le_refl _, fun _ h => h, rfl, HJW.out, ⟨p0, p1, p2, p3⟩, zW, HBW.out⟩
      case round =>
        obtain ⟨s', L, hL, hpop, hLs, hsm, rfl, hJi, ⟨q0, q1, q2, q3⟩, zi, HB⟩ := hrel
        have k0 := fun d os => cell_regrown q0 d os
        have k1 := fun d os => cell_regrown q1 d os
        have k2 := fun d os => cell_regrown q2 d os
        have k3 := fun d os => cell_regrown q3 d os
        have HMB := Lib.hid (show ∀ x ∈ p :: s', Bd 100000 x from fun x hx => by
          rcases List.mem_cons.1 hx with h | h
          · rw [h]; exact hmp
          · exact HSB.out x (hsm x h))
        obtain ⟨ai, ci, rfl⟩ := own_slice7 hJi
        by_cases h2 : L < 2
        · have HPOP := Lib.hid (show s' = Pn.popW p st by
            rw [← hpop]
            match s', hL with
            | [], _ => rfl
            | [_], _ => rfl
            | _ :: _ :: _, h => simp at h; omega)
          have f1 : decide ((1 : Int) < (L : Int)) = false := decide_eq_false (by omega)
          have i1 : ¬ (1 : Int) < (L : Int) := by omega
          have HJI := Lib.hid hJi
          clear p0 p1 p2 p3 hJi
          go_wp2_with fail
          refine wq_region (by kernel_rfl) (by kernel_rfl) ?_
          repeat ((refine WQ.step (fun K hK => ?_)); go_simp; (first | (refine hK _ ?_; clear hK K) | (apply Exists.intro; refine ⟨fun _ => ?_, hK _ ?_⟩; (first | fail); clear hK K)))
          refine WQ.nil ?_
          rintro _ ⟨⟨dq, osq⟩, rfl⟩
          have hbw5 := below_regrown wr dq osq
          generalize grow (redrawn wr dq) osq = w5 at hbw5 ⊢
          obtain ⟨hcw5, hfw5⟩ := bcell hbw5
          have hlw5 := hbw5.size
          replace HB := ba HB hbw5
          have HJ5 := Lib.hid (own_below7 HJI.out hbw5)
          have HB5 := Lib.hid HB
          have hz5 : w.heap.size ≤ w5.heap.size := HB.size
          clear HJI HB
          go_wp2_with (at_builtin; refine wpList_append_own _ rfl _ _ 47 rfl w.heap.size 26 i0 (.agg #[.int .i64 0, .int .i64 0, .int .i64 0, .int .i64 0]) 4 32 Try.underlying47 hi iz0 iz1 iz2 rfl (by decide) _ _ _ rfl (HJ5.out.alloc _) ⟨w5.heap.size, 0, none⟩ 1 1 [.int .i64 p.a, .int .i64 p.b, .int .i64 p.c, .int .i64 p.d] rfl rfl (newc7 rfl) (by intro u hu; simp at hu; rcases hu with rfl | rfl | rfl | rfl <;> rfl) (by unfold maxLen; omega) (by omega) (by simp; omega) ?_)
          intro v' w3 hJ3 hg3 _
          have HJA := Lib.hid (HJ5.out.alloc (.cells #[.int .i64 p.a, .int .i64 p.b, .int .i64 p.c, .int .i64 p.d] 26))
          have HB3 := Lib.hid ((HB5.out.alloc (by omega) (.cells #[.int .i64 p.a, .int .i64 p.b, .int .i64 p.c, .int .i64 p.d] 26)).grown hg3 (by simp; omega) (fun k hk => (HJA.out.lt k hk).1))
          have HJ3 := Lib.hid hJ3
          clear hJ3 hg3
          go_wp2_with fail
          go_roundw
          case rel => exact ⟨k + 1, p :: s', v', by omega, by rw [HT.out, ← HPOP.out], by simp only [List.length_cons]; omega, HMB.out, by go_num, rfl, by rw [List.length_cons, hL, List.reverse_cons, pnCs_append]; exact HJ3.out, HB3.out⟩
          case measure => simp [intOf]; omega
        · obtain ⟨m, rfl⟩ : ∃ m, L = m + 2 := ⟨L - 2, by omega⟩
          obtain ⟨b, a, rest, rfl⟩ : ∃ b a rest, s' = b :: a :: rest := by
            match s', hL with
            | [], h => simp at h
            | [_], h => simp at h
            | b :: a :: rest, _ => exact ⟨b, a, rest, rfl⟩
          have hrl : rest.length = m := by simp at hL; omega
          obtain ⟨g2, c2, he, hg2, hg2'⟩ := hJi.form (by omega)
          injection he with he1 _ he2
          subst he1; subst he2
          have hci := own_cap8 hJi
          have RR := RowP.of_own hJi (by rw [List.length_reverse, hL])
          obtain ⟨a0, a1, a2, a3⟩ := RR m a (by rw [List.reverse_cons, List.reverse_cons, List.append_assoc, List.getElem?_append_right (by simp [hrl]), List.length_reverse, hrl, Nat.sub_self]; rfl)
          obtain ⟨b0, b1, b2, b3⟩ := RR (m + 1) b (by rw [List.reverse_cons, List.reverse_cons, List.append_assoc, List.getElem?_append_right (by simp [hrl]), List.length_reverse, hrl, show m + 1 - m = 1 by omega]; rfl)
          have SD := sideP a b p (HSB.out a (hsm a (by simp))) (HSB.out b (hsm b (by simp))) hmp
          have HPW := Lib.hid (show Pn.popW p (b :: a :: rest) = if Pn.sd a b p ≤ 0 then Pn.popW p (a :: rest) else b :: a :: rest by rw [Pn.popW])
          generalize Pn.sd a b p = v at *
          have l0 := fun d os => cell_regrown a0 d os
          have l1 := fun d os => cell_regrown a1 d os
          have l2 := fun d os => cell_regrown a2 d os
          have l3 := fun d os => cell_regrown a3 d os
          have l4 := fun d os => cell_regrown b0 d os
          have l5 := fun d os => cell_regrown b1 d os
          have l6 := fun d os => cell_regrown b2 d os
          have l7 := fun d os => cell_regrown b3 d os
          have f1 : decide ((1 : Int) < ((m + 2 : Nat) : Int)) = true := decide_eq_true (by omega)
          have f2 : decide ((1 : Int) < (m : Int) + 2) = true := decide_eq_true (by omega)
          have i2 : (m : Int) < (m : Int) + 2 := by omega
          have i3 : (m : Int) + 1 < (m : Int) + 2 := by omega
          have i4 : (0 : Int) ≤ (m : Int) := by omega
          have i5 : (0 : Int) ≤ (m : Int) + 1 := by omega
          have i6 : ((m : Int) + 1).toNat = m + 1 := by omega
          have i7 : IntKind.i64.wrap ((m : Int) + 2 - 2) = (m : Int) := by rw [show (m : Int) + 2 - 2 = m by omega]; exact IntWalk.i64_in _ ⟨by omega, by omega⟩
          have i8 : IntKind.i64.wrap ((m : Int) + 2 - 1) = (m : Int) + 1 := by rw [show (m : Int) + 2 - 1 = (m : Int) + 1 by omega]; exact IntWalk.i64_in _ ⟨by omega, by omega⟩
          have i9 : IntKind.i64.wrap (m : Int) = (m : Int) := IntWalk.i64_in _ ⟨by omega, by omega⟩
          have i10 : IntKind.i64.wrap ((m : Int) + 1) = (m : Int) + 1 := IntWalk.i64_in _ ⟨by omega, by omega⟩
          have HJI := Lib.hid hJi
          clear p0 p1 p2 p3 hJi RR
          by_cases hv : v ≤ 0
          · have f3 : decide (v ≤ 0) = true := decide_eq_true hv
            go_wp2_with fail
            refine wq_region (by kernel_rfl) (by kernel_rfl) ?_
            repeat ((refine WQ.step (fun K hK => ?_)); go_simp; (first | (refine hK _ ?_; clear hK K) | (apply Exists.intro; refine ⟨fun _ => ?_, hK _ ?_⟩; (first | (go_at_call 56; with_reducible exact Calls.regrown_of (SD _))); clear hK K)))
            refine WQ.nil ?_
            rintro _ ⟨⟨dq, osq⟩, rfl⟩
            have hbw5 := below_regrown wr dq osq
            generalize grow (redrawn wr dq) osq = w5 at hbw5 ⊢
            obtain ⟨hcw5, hfw5⟩ := bcell hbw5
            have hlw5 := hbw5.size
            replace HB := ba HB hbw5
            have HJ5 := Lib.hid (own_cut7 (m := m + 1) (ys := pnCs (a :: rest).reverse) (own_below7 HJI.out hbw5) (by omega) (by
              rw [pnCs_take, List.reverse_cons (a := b)]
              rw [List.take_append_of_le_length (by simp [hrl]), List.take_of_length_le (by simp [hrl])]))
            have HP := Lib.hid (show Pn.popW p (a :: rest) = Pn.popW p st by rw [← hpop, HPW.out, if_pos hv])
            have HB5 := Lib.hid HB
            have zi5 : wo.heap.size < w5.heap.size := by omega
            have i11 : (m : Int) + 1 ≤ (ci : Int) := by omega
            clear HB HPW f3 hv
            go_wp2_with fail
            go_roundw
            case rel => exact ⟨a :: rest, m + 1, by simp [hrl], HP.out, by omega, fun x hx => hsm x (List.mem_cons_of_mem _ hx), by go_num, HJ5.out, ⟨by go_simp, by go_simp, by go_simp, by go_simp⟩, zi5, HB5.out⟩
            case measure => first | (simp [intOf]; done) | (simp [intOf]; omega)
          · have f3 : decide (v ≤ 0) = false := decide_eq_false hv
            have HPOP := Lib.hid (show b :: a :: rest = Pn.popW p st by rw [← hpop, HPW.out, if_neg hv])
            generalize b :: a :: rest = s' at *
            go_wp2_with fail
            refine wq_region (by kernel_rfl) (by kernel_rfl) ?_
            repeat ((refine WQ.step (fun K hK => ?_)); go_simp; (first | (refine hK _ ?_; clear hK K) | (apply Exists.intro; refine ⟨fun _ => ?_, hK _ ?_⟩; (first | (go_at_call 56; with_reducible exact Calls.regrown_of (SD _))); clear hK K)))
            refine WQ.nil ?_
            rintro _ ⟨⟨dq, osq⟩, rfl⟩
            have hbw5 := below_regrown wr dq osq
            generalize grow (redrawn wr dq) osq = w5 at hbw5 ⊢
            obtain ⟨hcw5, hfw5⟩ := bcell hbw5
            have hlw5 := hbw5.size
            replace HB := ba HB hbw5
            clear a0 a1 a2 a3 b0 b1 b2 b3 l0 l1 l2 l3 l4 l5 l6 l7
            have HJ5 := Lib.hid (own_below7 HJI.out hbw5)
            have HB5 := Lib.hid HB
            have hz5 : w.heap.size ≤ w5.heap.size := HB.size
            clear HJI HB
            go_wp2_with (at_builtin; refine wpList_append_own _ rfl _ _ 47 rfl w.heap.size 26 i0 (.agg #[.int .i64 0, .int .i64 0, .int .i64 0, .int .i64 0]) 4 32 Try.underlying47 hi iz0 iz1 iz2 rfl (by decide) _ _ _ rfl (HJ5.out.alloc _) ⟨w5.heap.size, 0, none⟩ 1 1 [.int .i64 p.a, .int .i64 p.b, .int .i64 p.c, .int .i64 p.d] rfl rfl (newc7 rfl) (by intro u hu; simp at hu; rcases hu with rfl | rfl | rfl | rfl <;> rfl) (by unfold maxLen; omega) (by omega) (by simp; omega) ?_)
            intro v' w3 hJ3 hg3 _
            have HJA := Lib.hid (HJ5.out.alloc (.cells #[.int .i64 p.a, .int .i64 p.b, .int .i64 p.c, .int .i64 p.d] 26))
            have HB3 := Lib.hid ((HB5.out.alloc (by omega) (.cells #[.int .i64 p.a, .int .i64 p.b, .int .i64 p.c, .int .i64 p.d] 26)).grown hg3 (by simp; omega) (fun k hk => (HJA.out.lt k hk).1))
            have HJ3 := Lib.hid hJ3
            clear hJ3 hg3
            go_wp2_with fail
            go_roundw
            case rel => exact ⟨k + 1, p :: s', v', by omega, by rw [HT.out, ← HPOP.out], by simp only [List.length_cons]; omega, HMB.out, by go_num, rfl, by rw [List.length_cons, hL, List.reverse_cons, pnCs_append]; exact HJ3.out, HB3.out⟩
            case measure => simp [intOf]; omega
    · obtain rfl : k = n := by omega
      rw [List.take_of_length_le (by rw [HN.out]; exact Nat.le_refl _)] at hst
      have e : Pn.bord l = st.reverse := by unfold Pn.bord; rw [hst]
      have HE := Lib.hid e
      have HJ := Lib.hid hJ
      have HB := Lib.hid hB
      clear hJ hB
      go_wp2_with fail
      go_ret
      exact ⟨_, rfl, by rw [HE.out, List.length_reverse]; exact HJ.out, HB.out⟩

end Go.Proofs.Ytppbbcckijcckaa
