/- Contracts: lists of runs compared, marked and held. -/
import Derived.Test.YtoaccnpkobbaaaaYBi
import Derived.Test.YtoaccnpkobbaaaaYZr
import Derived.Test.YtoaccnpkobbaaaaYLd
import Derived.Test.YtoaccnpkobbaaaaClR
import Derived.Deep.RegionHeld3
namespace Go.Proofs.Ytoaccnpkobbaaaa
open Go.ChangeShapes Go.WideShapes Go.ChangeAt Go.RowKit
open Yd

set_option linter.unusedVariables false

/-- Block g holds N runs, p j the row (and its room) of the j-th, f j its number and its states; all rows and g lie from lo to hi. -/
structure RwAt (W : World) (lo hi g N n : Nat) (p : Nat → Nat × Nat) (f : Nat → Int × List Int) : Prop where
  gl : lo ≤ g
  gh : g < hi
  hs : hi ≤ W.heap.size
  at0 : ∀ j, j < N → W.cell? ⟨g, 2 * j, none⟩ = some (.int .i64 (f j).1)
  fr0 : ∀ j, j < N → W.frozen? ⟨g, 2 * j, none⟩ = false
  at1 : ∀ j, j < N → W.cell? ⟨g, 2 * j + 1, none⟩ = some (.slice (some ⟨(p j).1, 0, none⟩) n (p j).2)
  row : ∀ j, j < N → RL W (p j).1 n (f j).2
  far : ∀ j, j < N → (p j).1 ≠ g
  pl : ∀ j, j < N → lo ≤ (p j).1 ∧ (p j).1 < hi

/-- The rows differ. -/
def InjP (N : Nat) (p : Nat → Nat × Nat) : Prop := ∀ i j, i < N → j < N → i ≠ j → (p i).1 ≠ (p j).1

/-- The world grew, and of what was there the blocks from lo to hi alone may have turned. -/
structure ApartR (lo hi : Nat) (w w' : World) : Prop where
  os : w'.os = w.os
  tape : w'.tape = w.tape
  output : w'.output = w.output
  size : w.heap.size ≤ w'.heap.size
  block : ∀ b, b < w.heap.size → b < lo ∨ hi ≤ b → w'.heap[b]? = w.heap[b]?

theorem ApartR.of {g lo hi : Nat} {w w' : World} (h : w.grownBy w' (some g)) (h1 : lo ≤ g) (h2 : g < hi) : ApartR lo hi w w' := ⟨h.os, h.tape, h.output, h.size, fun b hb ho => h.block b hb (by intro e; injection e with e; omega)⟩

theorem ApartR.of2 {g k lo hi : Nat} {w w' : World} (h : Apart2 g k w w') (h1 : lo ≤ g ∧ lo ≤ k) (h2 : g < hi ∧ k < hi) : ApartR lo hi w w' := ⟨h.os, h.tape, h.output, h.size, fun b hb ho => h.block b hb (by omega) (by omega)⟩

theorem ApartR.refl (lo hi : Nat) (w : World) : ApartR lo hi w w := ⟨rfl, rfl, rfl, Nat.le_refl _, fun _ _ _ => rfl⟩

theorem ApartR.trans {lo hi : Nat} {a b c : World} (x : ApartR lo hi a b) (y : ApartR lo hi b c) : ApartR lo hi a c :=
  ⟨y.os.trans x.os, y.tape.trans x.tape, y.output.trans x.output, Nat.le_trans x.size y.size, fun k hk h1 => (y.block k (Nat.lt_of_lt_of_le hk x.size) h1).trans (x.block k hk h1)⟩

theorem ApartR.ofB {w w' : World} (h : Below w.heap.size w w') (lo hi : Nat) : ApartR lo hi w w' := ⟨h.os, h.tape, h.output, h.size, fun b hb _ => h.block b hb⟩

theorem ApartR.below {lo hi N : Nat} {w w' : World} (x : ApartR lo hi w w') (hN : N ≤ w.heap.size) (hg : N ≤ lo) : Below N w w' :=
  ⟨x.os, x.tape, x.output, x.size, fun b hb => x.block b (by omega) (by omega)⟩

theorem ApartR.cell {lo hi : Nat} {w w' : World} {a : Addr} (x : ApartR lo hi w w') (ha : a.block < w.heap.size) (h : a.block < lo ∨ hi ≤ a.block) : w'.cell? a = w.cell? a := World.cell?_of_block (w := w) (x.block a.block ha h)

theorem grown_set' (w : World) (a : Addr) (v : Value) : w.grownBy (w.setCell a v) (some a.block) :=
  ⟨rfl, rfl, rfl, by simp, fun k _ hk => heap_setCell_other w a k v (fun e => hk (by rw [e]))⟩

theorem RwAt.same {W W' : World} {lo hi g N n : Nat} {p : Nat → Nat × Nat} {f : Nat → Int × List Int} (r : RwAt W lo hi g N n p f) (hz : W.heap.size ≤ W'.heap.size) (e : ∀ b, lo ≤ b → b < hi → W'.heap[b]? = W.heap[b]?) : RwAt W' lo hi g N n p f :=
  ⟨r.gl, r.gh, Nat.le_trans r.hs hz, fun j hj => (World.cell?_of_block (w := W) (e g r.gl r.gh)).trans (r.at0 j hj), fun j hj => (World.frozen?_of_block (w := W) (e g r.gl r.gh)).trans (r.fr0 j hj),
    fun j hj => (World.cell?_of_block (w := W) (e g r.gl r.gh)).trans (r.at1 j hj), fun j hj => (r.row j hj).of_block hz (e _ (r.pl j hj).1 (r.pl j hj).2), r.far, r.pl⟩

theorem RwAt.keep {W W' : World} {lo hi g N n : Nat} {p : Nat → Nat × Nat} {f : Nat → Int × List Int} (r : RwAt W lo hi g N n p f) (k : Below W.heap.size W W') : RwAt W' lo hi g N n p f :=
  r.same k.size fun b _ h2 => k.block b (Nat.lt_of_lt_of_le h2 r.hs)

theorem RwAt.apart {W W' : World} {lo hi g N n lo' hi' : Nat} {p : Nat → Nat × Nat} {f : Nat → Int × List Int} (r : RwAt W lo hi g N n p f) (k : ApartR lo' hi' W W') (h : hi ≤ lo' ∨ hi' ≤ lo) : RwAt W' lo hi g N n p f :=
  r.same k.size fun b h1 h2 => k.block b (Nat.lt_of_lt_of_le h2 r.hs) (by omega)

/-- The j-th of a list of runs. -/
def rwF (l : List (Nat × List Int)) (j : Nat) : Int × List Int := (((l.getD j (0, [])).1 : Int), (l.getD j (0, [])).2)

/-- A list of runs that is not empty, read. -/
theorem rw_of {W : World} {lo hi n : Nat} {v : Value} {l : List (Nat × List Int)} {xs : List Value} (ho : W.ownsRow lo 36 2 v l.length xs) (hC : RunsC W lo v.ownBlock l xs) (hl : l ≠ []) (hn : ∀ x ∈ l, x.2.length = n) (hh : hi = W.heap.size) :
    ∃ g c p, v = .slice (some ⟨g, 0, none⟩) l.length c ∧ RwAt W lo hi g l.length n p (rwF l) ∧ (IncX xs → InjP l.length p) := by
  obtain ⟨g, c, rfl, hg1, hg2⟩ := ho.form (List.length_pos_iff.2 hl)
  have hall : ∀ j : Nat, ∃ q : Nat × Nat, j < l.length → xs[2 * j]? = some (.int .i64 (rwF l j).1) ∧ xs[2 * j + 1]? = some (.slice (some ⟨q.1, 0, none⟩) n q.2) ∧ q.1 ≠ g ∧ lo ≤ q.1 ∧ RL W q.1 n (rwF l j).2 := fun j => by
    by_cases hj : j < l.length
    · have hx := List.getElem?_eq_getElem hj
      obtain ⟨b, cap, e1, e2, e3, e4, e5⟩ := hC.2 j _ hx
      have hlen := hn _ (List.getElem_mem hj)
      have hf : rwF l j = (((l[j]).1 : Int), (l[j]).2) := by rw [rwF, List.getD, hx]; rfl
      rw [hlen] at e2 e5
      refine ⟨(b, cap), fun _ => ⟨by rw [hf]; exact e1, e2, fun e => e3 (by rw [show b = g from e]; rfl), e4, by rw [hf]; exact e5⟩⟩
    · exact ⟨(0, 0), fun h => absurd h hj⟩
  obtain ⟨p, hp⟩ := Classical.axiomOfChoice hall
  refine ⟨g, c, p, rfl, ⟨hg1, by omega, by omega, fun j hj => (ho.cellAt (2 * j) (by omega)).trans (hp j hj).1, fun j hj => ho.frozenAt _, fun j hj => (ho.cellAt (2 * j + 1) (by omega)).trans (hp j hj).2.1, fun j hj => (hp j hj).2.2.2.2, fun j hj => (hp j hj).2.2.1,
    fun j hj => ⟨(hp j hj).2.2.2.1, by have := (hp j hj).2.2.2.2.lt; omega⟩⟩, fun hI i j hi' hj hij => ?_⟩
  rcases Nat.lt_or_gt_of_ne hij with h | h
  · exact hI i j _ _ _ _ _ _ h (hp i hi').2.1 (hp j hj).2.1
  · exact fun e => hI j i _ _ _ _ _ _ h (hp j hj).2.1 (hp i hi').2.1 e.symm

set_option maxRecDepth 100000 in
set_option maxHeartbeats 1600000 in
theorem eqRunS_all (lo hi g c lo' hi' g' c' N n : Nat) (p p' : Nat → Nat × Nat) (f : Nat → Int × List Int) (hf : ∀ j, j < N → (f j).2.length = n) (hN : N ≤ 6) (hn : n ≤ 6) (w : World) (h1 : RwAt w lo hi g N n p f) (h2 : RwAt w lo' hi' g' N n p' f) :
    Calls Try.prog 48 #[.slice (some ⟨g, 0, none⟩) N c, .slice (some ⟨g', 0, none⟩) N c'] w fun e w' => e = .returned (.bool true) ∧ Below w.heap.size w w' := by
  have H1 := Lib.hid h1
  have H2 := Lib.hid h2
  have HF := Lib.hid hf
  clear h1 h2 hf
  go_enter Try.func48, Try.ntmps48
  go_wp2_with fail
  go_loopw [5] (fun i wr => ∃ k : Nat, k ≤ N ∧ i = .int .i64 k ∧ Below w.heap.size w wr) (fun i _ => N - (intOf i).toNat)
  case atStart => exact ⟨0, Nat.zero_le _, rfl, Below.refl _ _⟩
  case round =>
    obtain ⟨k, hk, rfl, hB⟩ := hrel
    by_cases hlt : k < N
    · have i1 : (0 : Int) ≤ (k : Int) := by omega
      have i2 : (k : Int) < (N : Int) := by omega
      have R1 := H1.out.keep hB
      have R2 := H2.out.keep hB
      have a0 := R1.at0 k hlt
      have a1 := R1.at1 k hlt
      have b0 := R2.at0 k hlt
      have b1 := R2.at1 k hlt
      rw [Nat.mul_comm] at a0 a1 b0 b1
      have ER := Lib.hid (fun w' (hw : Below wr.heap.size wr w') => eqRun_same (f k).1 (p k).1 (p k).2 (p' k).1 (p' k).2 n (f k).2 (HF.out k hlt) (by omega) w' ((R1.row k hlt).keep hw) ((R2.row k hlt).keep hw))
      have HB := Lib.hid hB
      have hgl : g < wr.heap.size := by have := R1.gh; have := R1.hs; omega
      have hgl' : g' < wr.heap.size := by have := R2.gh; have := R2.hs; omega
      have hS0 := And.intro a0 (And.intro a1 (And.intro b0 b1))
      clear R1 R2 hB
      generalize (f k).1 = x at *
      generalize (f k).2 = ss at *
      generalize (p k).1 = q at *
      generalize (p k).2 = qc at *
      generalize (p' k).1 = q' at *
      generalize (p' k).2 = qc' at *
      go_wp2_with fail
      go_region_held3 (fun w' => w'.cell? ⟨g, k * 2, none⟩ = some (.int .i64 x) ∧ w'.cell? ⟨g, k * 2 + 1, none⟩ = some (.slice (some ⟨q, 0, none⟩) n qc) ∧ w'.cell? ⟨g', k * 2, none⟩ = some (.int .i64 x) ∧ w'.cell? ⟨g', k * 2 + 1, none⟩ = some (.slice (some ⟨q', 0, none⟩) n qc'))
        (first | (with_reducible assumption) | (with_reducible exact rr_drew hS0) | (with_reducible exact rr_drew (rr_alloc hS0 _)) | (with_reducible exact rr_alloc (rr_drew hS0) _) | (with_reducible refine rr_drew ?_; with_reducible assumption) | (with_reducible refine rr_alloc ?_ _; with_reducible assumption) | (with_reducible refine rr_re (by with_reducible assumption) ?_ ?_ _; (focus first | (with_reducible assumption) | omega | (simp; done) | (simp; omega)); (focus first | (with_reducible assumption) | omega | (simp; done) | (simp; omega))) | (with_reducible refine rr_below ?_ ?_ ?_ h1; (focus first | (with_reducible assumption) | (with_reducible refine rr_undrew ?_; with_reducible assumption)); (focus first | (with_reducible assumption) | omega | (simp; done) | (simp; omega)); (focus first | (with_reducible assumption) | omega | (simp; done) | (simp; omega))) | ((repeat (with_reducible refine rr_set ?_ _ _ ?_ ?_; rotate_left 1; (focus first | (with_reducible assumption) | omega | (simp; done) | (simp; omega)); (focus first | (with_reducible assumption) | omega | (simp; done) | (simp; omega)))); with_reducible assumption))
        ((go_at_call 25; (with_reducible refine Calls.mono (ER.out _ ?_) ?_); (focus (go_grown; done)); rintro e wA ⟨rfl, h1⟩; (try with_reducible replace h1 := undrew h1); have HBA := Lib.hid (HB.out.trans ((ba (by go_grown) h1 : Below wr.heap.size wr wA).mono HB.out.size)); obtain ⟨hcA, hfA⟩ := bcell h1; have hqA := h1.size; (try simp at hqA); have hy0 : g < wA.heap.size := (by omega); have hy1 : g' < wA.heap.size := (by omega)))
      all_goals
        go_wp2_with fail
        go_roundw
        case rel => exact ⟨k + 1, by omega, by go_num, HBA.out⟩
        case measure => simp [intOf]; omega
    · obtain rfl : k = N := by omega
      go_wp2_with fail
      go_ret
      exact ⟨rfl, hB⟩

/-- The marks. -/
def mkQ (n j : Nat) : Nat := 1 + j * (n + 1)

def mkF (n j : Nat) : Int × List Int := ((mkQ n j : Nat), mkL ((mkQ n j : Nat) + 1) n)

theorem mkQ_le {n j N : Nat} (hn : n ≤ 6) (hj : j ≤ N) (hN : N ≤ 6) : mkQ n j ≤ 43 := by
  rw [mkQ]
  have : j * (n + 1) ≤ 6 * 7 := Nat.mul_le_mul (by omega) (by omega)
  omega

theorem mkQ_succ (n j : Nat) : mkQ n (j + 1) = mkQ n j + 1 + n := by rw [mkQ, mkQ, Nat.succ_mul]; omega

def upTo (n i : Nat) (f : Nat → Int × List Int) (j : Nat) : Int × List Int := if j < i then mkF n j else f j

theorem RwAt.mark {W W2 : World} {lo hi g N n i : Nat} {p : Nat → Nat × Nat} {f : Nat → Int × List Int} (r : RwAt W lo hi g N n p (upTo n i f)) (hI : InjP N p) (hi' : i < N)
    (hr : RL W2 (p i).1 n (mkL ((mkQ n i : Nat) + 1) n)) (k : (W.setCell ⟨g, 2 * i, none⟩ (.int .i64 (mkQ n i : Nat))).grownBy W2 (some (p i).1)) : RwAt W2 lo hi g N n p (upTo n (i + 1) f) ∧ ApartR lo hi W W2 := by
  have hA := (ApartR.of (lo := lo) (hi := hi) (grown_set' W ⟨g, 2 * i, none⟩ (.int .i64 (mkQ n i : Nat))) r.gl r.gh).trans (ApartR.of k (r.pl i hi').1 (r.pl i hi').2)
  have hgz : g < (W.setCell ⟨g, 2 * i, none⟩ (.int .i64 (mkQ n i : Nat))).heap.size := by have := r.gh; have := r.hs; simp; omega
  have hgb := k.block g hgz (by intro e; injection e with e; exact r.far i hi' e.symm)
  refine ⟨⟨r.gl, r.gh, Nat.le_trans r.hs hA.size, fun j hj => ?_, fun j hj => ?_, fun j hj => ?_, fun j hj => ?_, r.far, r.pl⟩, hA⟩
  · rw [World.cell?_of_block (w := W.setCell ⟨g, 2 * i, none⟩ (.int .i64 (mkQ n i : Nat))) (a := ⟨g, 2 * j, none⟩) hgb]
    by_cases e : i = j
    · subst e
      rw [World.cell?_setCell_same (h := r.at0 i hi'), upTo, if_pos (by omega)]; rfl
    · rw [World.cell?_setCell_other (h := fun h => e (by injection h with _ h; omega)), r.at0 j hj]
      have : (j < i + 1) = (j < i) := by rw [eq_iff_iff]; omega
      simp only [upTo, this]
  · rw [World.frozen?_of_block (w := W.setCell ⟨g, 2 * i, none⟩ (.int .i64 (mkQ n i : Nat))) (a := ⟨g, 2 * j, none⟩) hgb, World.frozen?_setCell]
    exact r.fr0 j hj
  · rw [World.cell?_of_block (w := W.setCell ⟨g, 2 * i, none⟩ (.int .i64 (mkQ n i : Nat))) (a := ⟨g, 2 * j + 1, none⟩) hgb, World.cell?_setCell_other (h := fun h => by injection h with _ h; omega)]
    exact r.at1 j hj
  · by_cases e : i = j
    · subst e
      rw [upTo, if_pos (by omega)]; exact hr
    · have : (j < i + 1) = (j < i) := by rw [eq_iff_iff]; omega
      have hrow := (r.row j hj).other (a := ⟨g, 2 * i, none⟩) (r.far j hj) (.int .i64 (mkQ n i : Nat))
      have h2 := hrow.of_block k.size (k.block (p j).1 hrow.lt (by intro h; injection h with h; exact hI i j hi' hj e h.symm))
      simp only [upTo, this]
      exact h2

theorem upTo_zero (n : Nat) (f : Nat → Int × List Int) : upTo n 0 f = f := by funext j; simp [upTo]

theorem RwAt.congr {W : World} {lo hi g N n : Nat} {p : Nat → Nat × Nat} {f f' : Nat → Int × List Int} (r : RwAt W lo hi g N n p f) (h : ∀ j, j < N → f' j = f j) : RwAt W lo hi g N n p f' :=
  ⟨r.gl, r.gh, r.hs, fun j hj => by rw [h j hj]; exact r.at0 j hj, r.fr0, r.at1, fun j hj => by rw [h j hj]; exact r.row j hj, r.far, r.pl⟩

set_option maxRecDepth 100000 in
set_option maxHeartbeats 1600000 in
theorem markRunS_at (lo hi g c N n : Nat) (p : Nat → Nat × Nat) (f : Nat → Int × List Int) (hf : ∀ j, j < N → (f j).2.length = n) (hN : N ≤ 6) (hn : n ≤ 6) (hI : InjP N p) (w : World) (h1 : RwAt w lo hi g N n p f) :
    Calls Try.prog 49 #[.slice (some ⟨g, 0, none⟩) N c, .int .i64 1] w fun e w' => e = .returned (.int .i64 (mkQ n N : Nat)) ∧ RwAt w' lo hi g N n p (mkF n) ∧ ApartR lo hi w w' := by
  have H1 := Lib.hid (show RwAt w lo hi g N n p (upTo n 0 f) by rw [upTo_zero]; exact h1)
  have HF := Lib.hid hf
  have HI := Lib.hid hI
  clear h1 hf hI
  go_enter Try.func49, Try.ntmps49
  go_wp2_with fail
  go_loopw [1, 5] (fun t i wr => ∃ k : Nat, k ≤ N ∧ i = .int .i64 k ∧ t = .int .i64 (mkQ n k : Nat) ∧ RwAt wr lo hi g N n p (upTo n k f) ∧ ApartR lo hi w wr) (fun _ i _ => N - (intOf i).toNat)
  case atStart => exact ⟨0, Nat.zero_le _, rfl, by simp [mkQ], H1.out, ApartR.refl _ _ _⟩
  case round =>
    obtain ⟨k, hk, rfl, rfl, hR, hA⟩ := hrel
    by_cases hlt : k < N
    · have i1 : (0 : Int) ≤ (k : Int) := by omega
      have i2 : (k : Int) < (N : Int) := by omega
      have a0 := hR.at0 k hlt
      have a1 := hR.at1 k hlt
      have f0 := hR.fr0 k hlt
      have hfar := hR.far k hlt
      have hrow := hR.row k hlt
      rw [show upTo n k f k = f k by simp [upTo]] at hrow
      have MK := Lib.hid (fun t w' hr (b0 : (0 : Int) ≤ t) (b1 : t ≤ 100000000) => markIntS_at (p k).1 (p k).2 n t (f k).2 (HF.out k hlt) (by omega) b0 b1 w' hr)
      have HRW := Lib.hid (hrow.other (a := ⟨g, k * 2, none⟩) hfar (.int .i64 (mkQ n k : Nat)))
      have HR := Lib.hid hR
      have HA := Lib.hid hA
      have hq := mkQ_le (n := n) (j := k) hn hk hN
      have HQ := Lib.hid (mkQ_succ n k)
      have e2 : 2 * k = k * 2 := Nat.mul_comm _ _
      have hgl : g < wr.heap.size := by have := hR.gh; have := hR.hs; omega
      rw [e2] at a0 a1 f0
      clear hR hA hrow
      generalize hu : (upTo n k f k).1 = u at *
      generalize hqq : mkQ n k = q at *
      have i3 : (0 : Int) ≤ (q : Int) := by omega
      have i4 : (q : Int) ≤ 43 := by omega
      have HQQ := Lib.hid hqq
      clear e2 hu hqq
      go_wp2_with fail
      refine (MK.out _ _ HRW.out (by omega) (by omega)).mono ?_
      rintro e w2 ⟨rfl, r1, g1⟩
      have hM := HR.out.mark HI.out hlt (W2 := w2) (by rw [HQQ.out]; exact r1) (by rw [Nat.mul_comm 2 k, HQQ.out]; exact g1)
      have HM1 := Lib.hid hM.1
      have HM2 := Lib.hid (HA.out.trans hM.2)
      clear hM r1 g1
      go_wp2_with fail
      go_roundw
      case rel => exact ⟨k + 1, by omega, by go_num, by rw [HQ.out]; congr 1, HM1.out, HM2.out⟩
      case measure => simp [intOf]; omega
    · obtain rfl : k = N := by omega
      have HR := Lib.hid (hR.congr (f' := mkF n) (fun j hj => by rw [upTo, if_pos hj]))
      have HA := Lib.hid hA
      clear hR hA
      generalize hq : mkQ n k = q at *
      have HQN := Lib.hid hq
      clear hq
      go_wp2_with fail
      go_ret
      exact ⟨by rw [HQN.out]; rfl, HR.out, HA.out⟩

set_option maxRecDepth 100000 in
set_option maxHeartbeats 1600000 in
theorem heldRunS_at (lo hi g c N n : Nat) (p : Nat → Nat × Nat) (hN : N ≤ 6) (hn : n ≤ 6) (w : World) (h1 : RwAt w lo hi g N n p (mkF n)) :
    Calls Try.prog 50 #[.slice (some ⟨g, 0, none⟩) N c, .int .i64 1] w fun e w' => e = .returned (.int .i64 (mkQ n N : Nat)) ∧ w = w' := by
  have H1 := Lib.hid h1
  clear h1
  go_enter Try.func50, Try.ntmps50
  go_wp2_with fail
  go_loop [1, 5] (fun t i => ∃ k : Nat, k ≤ N ∧ i = .int .i64 k ∧ t = .int .i64 (mkQ n k : Nat)) (fun _ i => N - (intOf i).toNat)
  case atStart => exact ⟨0, Nat.zero_le _, rfl, by simp [mkQ]⟩
  case round =>
    obtain ⟨k, hk, rfl, rfl⟩ := hrel
    by_cases hlt : k < N
    · have i1 : (0 : Int) ≤ (k : Int) := by omega
      have i2 : (k : Int) < (N : Int) := by omega
      have a0 := H1.out.at0 k hlt
      have a1 := H1.out.at1 k hlt
      have HW := Lib.hid (H1.out.row k hlt)
      have hq := mkQ_le (n := n) (j := k) hn hk hN
      have HQ := Lib.hid (mkQ_succ n k)
      rw [show mkF n k = (((mkQ n k : Nat) : Int), mkL (((mkQ n k : Nat) : Int) + 1) n) from rfl] at a0 HW
      simp only at a0 HW
      rw [Nat.mul_comm] at a0 a1
      generalize mkQ n k = q at *
      have i3 : (0 : Int) ≤ (q : Int) := by omega
      have i4 : (q : Int) ≤ 43 := by omega
      have i5 : ¬ (q : Int) + 1 + (n : Int) < 0 := by omega
      have i6 : (n : Int) ≤ 6 := by omega
      go_wp2_with fail
      refine (heldIntS_at (p k).1 (p k).2 n _ (by omega) (by omega) (by omega) _ HW.out).mono ?_
      rintro e w2 ⟨rfl, rfl⟩
      go_wp2_with fail
      go_round
      case rel => exact ⟨k + 1, by omega, by go_num, by rw [HQ.out]; congr 1⟩
      case measure => simp [intOf]; omega
    · obtain rfl : k = N := by omega
      generalize hq : mkQ n k = q at *
      have HQN := Lib.hid hq
      clear hq
      go_wp2_with fail
      go_ret
      exact ⟨by rw [HQN.out]; rfl, rfl⟩

theorem eqRunS_zero (w : World) : Calls Try.prog 48 #[.slice none 0 0, .slice none 0 0] w fun e w' => e = .returned (.bool true) ∧ w = w' := by
  go_enter Try.func48, Try.ntmps48
  go_wp2_with fail
  refine wp_loop_rounds 1 ?_
  rw [rounds_succ]
  go_wp2_with fail
  go_ret
  exact ⟨rfl, rfl⟩

theorem markRunS_zero (w : World) : Calls Try.prog 49 #[.slice none 0 0, .int .i64 1] w fun e w' => e = .returned (.int .i64 1) ∧ w = w' := by
  go_enter Try.func49, Try.ntmps49
  go_wp2_with fail
  refine wp_loop_rounds 1 ?_
  rw [rounds_succ]
  go_wp2_with fail
  go_ret
  exact ⟨rfl, rfl⟩

theorem heldRunS_zero (w : World) : Calls Try.prog 50 #[.slice none 0 0, .int .i64 1] w fun e w' => e = .returned (.int .i64 1) ∧ w = w' := by
  go_enter Try.func50, Try.ntmps50
  go_wp2_with fail
  refine wp_loop_rounds 1 ?_
  rw [rounds_succ]
  go_wp2_with fail
  go_ret
  exact ⟨rfl, rfl⟩

/-- A list of runs that is not empty, as a result, .. -/
def BsPost (N n : Nat) (f : Nat → Int × List Int) (w : World) (e : Ending) (w' : World) : Prop :=
  ∃ g c lo hi p, e = .returned (.tuple #[.slice (some ⟨g, 0, none⟩) N c, .bool true]) ∧ w.heap.size ≤ lo ∧ RwAt w' lo hi g N n p f ∧ Below w.heap.size w w'

/-- .. with rows that differ. -/
def BiPost (N n : Nat) (f : Nat → Int × List Int) (w : World) (e : Ending) (w' : World) : Prop :=
  ∃ g c lo hi p, e = .returned (.tuple #[.slice (some ⟨g, 0, none⟩) N c, .bool true]) ∧ w.heap.size ≤ lo ∧ RwAt w' lo hi g N n p f ∧ InjP N p ∧ Below w.heap.size w w'

theorem bk_lens {ks rs : List Int} {a n : Nat} {ss : List Int} (hl : ss.length = n) : ∀ x ∈ bk6 ks rs a ss, x.2.length = n := by
  intro x hx
  rw [bk6, List.mem_filter] at hx
  have := hx.1
  simp only [sixL, List.mem_cons, List.not_mem_nil, or_false] at this
  rcases this with rfl | rfl | rfl | rfl | rfl | rfl <;> simp [hl]

theorem bk_len6 (ks rs : List Int) (a : Nat) (ss : List Int) : (bk6 ks rs a ss).length ≤ 6 := by
  rw [bk6]; exact Nat.le_trans (List.length_filter_le _ _) (Nat.le_refl _)

theorem rw_lens {l : List (Nat × List Int)} {n : Nat} (h : ∀ x ∈ l, x.2.length = n) : ∀ j, j < l.length → (rwF l j).2.length = n := fun j hj => by
  rw [rwF, List.getD, List.getElem?_eq_getElem hj]
  exact h _ (List.getElem_mem hj)

theorem spBack_rw {a : Nat} {g c h d p u n m l : Nat} {ks rs ss : List Int} (hn : ks.length = n) (hm : rs.length = m) (hl : ss.length = l) (hg : YdOk ks rs) (ho : RnOk ks a ss) (hne : bk6 ks rs a ss ≠ []) (w : World) (h1 : RL w g n ks) (h2 : RL w h m rs) (h3 : RL w p l ss) :
    Calls Try.prog 46 #[.agg #[.slice (some ⟨g, 0, none⟩) n c, .slice (some ⟨h, 0, none⟩) m d], .agg #[.int .i64 (a:Nat), .slice (some ⟨p, 0, none⟩) l u]] w (BsPost (bk6 ks rs a ss).length l (rwF (bk6 ks rs a ss)) w) :=
  (spBack_yes a g c h d p u n m l ks rs ss hn hm hl hg ho w h1 h2 h3).mono fun e w' ⟨v, he, hB, hb⟩ => by
    rw [bk_eq hg ho] at hB
    obtain ⟨_, xs, ho1, ho2⟩ := hB
    obtain ⟨g', c', p', rfl, hr, _⟩ := rw_of ho1 ho2 hne (bk_lens hl) rfl
    exact ⟨g', c', _, _, p', he, Nat.le_refl _, hr, hb⟩

theorem imBack_rw {a : Nat} {g c h d p u n m l : Nat} {ks rs ss : List Int} (hn : ks.length = n) (hm : rs.length = m) (hl : ss.length = l) (hg : YdOk ks rs) (ho : RnOk ks a ss) (hne : bk6 ks rs a ss ≠ []) (w : World) (h1 : RL w g n ks) (h2 : RL w h m rs) (h3 : RL w p l ss) :
    Calls Try.prog 47 #[.agg #[.slice (some ⟨g, 0, none⟩) n c, .slice (some ⟨h, 0, none⟩) m d], .agg #[.int .i64 (a:Nat), .slice (some ⟨p, 0, none⟩) l u]] w (BiPost (bk6 ks rs a ss).length l (rwF (bk6 ks rs a ss)) w) :=
  (imBack_yes a g c h d p u n m l ks rs ss hn hm hl hg ho w h1 h2 h3).mono fun e w' ⟨v, he, hB, hb⟩ => by
    obtain ⟨_, xs, ho1, ho2, ho3⟩ := hB
    obtain ⟨g', c', p', rfl, hr, hi⟩ := rw_of ho1 ho2 hne (bk_lens hl) rfl
    exact ⟨g', c', _, _, p', he, Nat.le_refl _, hr, hi ho3, hb⟩

theorem spBack_nil {a : Nat} {g c h d p u n m l : Nat} {ks rs ss : List Int} (hn : ks.length = n) (hm : rs.length = m) (hl : ss.length = l) (hg : YdOk ks rs) (ho : RnOk ks a ss) (hne : bk6 ks rs a ss = []) (w : World) (h1 : RL w g n ks) (h2 : RL w h m rs) (h3 : RL w p l ss) :
    Calls Try.prog 46 #[.agg #[.slice (some ⟨g, 0, none⟩) n c, .slice (some ⟨h, 0, none⟩) m d], .agg #[.int .i64 (a:Nat), .slice (some ⟨p, 0, none⟩) l u]] w fun e w' => e = .returned (.tuple #[.slice none 0 0, .bool true]) ∧ Below w.heap.size w w' :=
  (spBack_yes a g c h d p u n m l ks rs ss hn hm hl hg ho w h1 h2 h3).mono fun e w' ⟨v, he, hB, hb⟩ => by
    rw [bk_eq hg ho] at hB
    rw [hB.1 hne] at he
    exact ⟨he, hb⟩

theorem imBack_nil {a : Nat} {g c h d p u n m l : Nat} {ks rs ss : List Int} (hn : ks.length = n) (hm : rs.length = m) (hl : ss.length = l) (hg : YdOk ks rs) (ho : RnOk ks a ss) (hne : bk6 ks rs a ss = []) (w : World) (h1 : RL w g n ks) (h2 : RL w h m rs) (h3 : RL w p l ss) :
    Calls Try.prog 47 #[.agg #[.slice (some ⟨g, 0, none⟩) n c, .slice (some ⟨h, 0, none⟩) m d], .agg #[.int .i64 (a:Nat), .slice (some ⟨p, 0, none⟩) l u]] w fun e w' => e = .returned (.tuple #[.slice none 0 0, .bool true]) ∧ Below w.heap.size w w' :=
  (imBack_yes a g c h d p u n m l ks rs ss hn hm hl hg ho w h1 h2 h3).mono fun e w' ⟨v, he, hB, hb⟩ => by
    rw [hB.1 hne] at he
    exact ⟨he, hb⟩

end Go.Proofs.Ytoaccnpkobbaaaa
