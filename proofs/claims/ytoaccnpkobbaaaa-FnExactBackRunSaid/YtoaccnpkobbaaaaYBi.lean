/- Contract: the runs of which a step makes one, in the program. -/
import Derived.Test.YtoaccnpkobbaaaaYBs
import Derived.Test.YtoaccnpkobbaaaaYRa
import Derived.Test.YtoaccnpkobbaaaaYIx
import Derived.Test.YtoaccnpkobbaaaaYNz
import Derived.Test.YtoaccnpkobbaaaaClB
import Derived.Deep.DeepCutAuto
namespace Go.Proofs.Ytoaccnpkobbaaaa
open Go.ChangeShapes Go.WideShapes Go.ChangeAt Go.RowKit
open Yd

set_option linter.unusedVariables false

/-- The rows that a list of runs names differ. -/
def IncX (xs : List Value) : Prop := ∀ (i j gi ci ni gj cj nj : Nat), i < j → xs[2 * i + 1]? = some (.slice (some ⟨gi, 0, none⟩) ni ci) → xs[2 * j + 1]? = some (.slice (some ⟨gj, 0, none⟩) nj cj) → gi ≠ gj

theorem IncX.snoc {W : World} {B : Nat} {q : Option Nat} {L : List (Nat × List Int)} {xs : List Value} (h : IncX xs) (hC : RunsC W B q L xs) (u : Value) (g n c : Nat) (hg : W.heap.size ≤ g) : IncX (xs ++ [u, .slice (some ⟨g, 0, none⟩) n c]) := by
  intro i j gi ci ni gj cj nj hij h1 h2
  have hjl : 2 * j + 1 < xs.length + 2 := by
    have := (List.getElem?_eq_some_iff.1 h2).1
    simpa using this
  have hi : 2 * i + 1 < xs.length := by have := hC.1; omega
  rw [List.getElem?_append_left hi] at h1
  by_cases hj : 2 * j + 1 < xs.length
  · rw [List.getElem?_append_left hj] at h2
    exact h i j gi ci ni gj cj nj hij h1 h2
  · rw [List.getElem?_append_right (by omega)] at h2
    have : 2 * j + 1 - xs.length = 1 := by have := hC.1; omega
    rw [this] at h2
    simp at h2
    have hiL : i < L.length := by have := hC.1; omega
    obtain ⟨g', cap', e1, e2, _, _, e5⟩ := hC.2 i _ (List.getElem?_eq_getElem hiL)
    rw [h1] at e2
    simp at e2
    have := e5.lt
    omega

/-- A list of runs at v, each with a row of its own. -/
def BkI (W : World) (B C : Nat) (v : Value) (l : List (Nat × List Int)) : Prop :=
  (l = [] → v = .slice none 0 0) ∧ ∃ xs, W.ownsRow C 36 2 v l.length xs ∧ RunsC W B v.ownBlock l xs ∧ IncX xs

theorem BkI.keep {W W' : World} {B C : Nat} {v : Value} {l : List (Nat × List Int)} (h : BkI W B C v l) (k : Below W.heap.size W W') : BkI W' B C v l :=
  let ⟨h0, xs, h1, h2, h3⟩ := h
  ⟨h0, xs, own_belowS h1 k, h2.keep k, h3⟩

/-- Of the first k of six. -/
def b6K (ks rs : List Int) (b : Nat) (tt : List Int) (e k : Nat) : List (Nat × List Int) := ((sixL e tt).take k).filter fun x => decide (stepN ks rs x = (b, tt))

theorem six_get (e : Nat) (tt : List Int) {s t : Nat} (hs : s < 3) (ht : t < 2) : (sixL e tt)[2 * s + t]? = some (3 * e + s, tt.set e (t : Int)) := by
  have : (s = 0 ∨ s = 1 ∨ s = 2) ∧ (t = 0 ∨ t = 1) := by omega
  rcases this with ⟨rfl | rfl | rfl, rfl | rfl⟩ <;> rfl

theorem b6K_succ (ks rs : List Int) (b : Nat) (tt : List Int) (e : Nat) {s t : Nat} (hs : s < 3) (ht : t < 2) : b6K ks rs b tt e (2 * s + t + 1) = b6K ks rs b tt e (2 * s + t) ++ (if stepN ks rs (3 * e + s, tt.set e (t : Int)) = (b, tt) then [(3 * e + s, tt.set e (t : Int))] else []) := by
  rw [b6K, List.take_add_one, six_get e tt hs ht, List.filter_append, b6K]
  congr 1
  by_cases h : stepN ks rs (3 * e + s, tt.set e (t : Int)) = (b, tt) <;> simp [h]

theorem b6K_len (ks rs : List Int) (b : Nat) (tt : List Int) (e k : Nat) : (b6K ks rs b tt e k).length ≤ 6 := by
  rw [b6K]
  refine Nat.le_trans (List.length_filter_le _ _) ?_
  rw [List.length_take]
  exact Nat.min_le_right _ _

theorem sp_new (w : World) (v0 v1 v2 v3 v4 v5 v6 : Value) (T : TypeId) : (w.alloc (.cells #[v0, v1, v2, v3, v4, v5, v6] T)).cell? ⟨w.heap.size, 0, none⟩ = some v0 ∧ (w.alloc (.cells #[v0, v1, v2, v3, v4, v5, v6] T)).cell? ⟨w.heap.size, 1, none⟩ = some v1 ∧ (w.alloc (.cells #[v0, v1, v2, v3, v4, v5, v6] T)).cell? ⟨w.heap.size, 2, none⟩ = some v2 ∧ (w.alloc (.cells #[v0, v1, v2, v3, v4, v5, v6] T)).cell? ⟨w.heap.size, 3, none⟩ = some v3 ∧
    (w.alloc (.cells #[v0, v1, v2, v3, v4, v5, v6] T)).cell? ⟨w.heap.size, 4, none⟩ = some v4 ∧ (w.alloc (.cells #[v0, v1, v2, v3, v4, v5, v6] T)).cell? ⟨w.heap.size, 5, none⟩ = some v5 ∧ (w.alloc (.cells #[v0, v1, v2, v3, v4, v5, v6] T)).cell? ⟨w.heap.size, 6, none⟩ = some v6 := by simp [go_sem]

theorem sp_cell (w : World) (v0 : Value) (y0 y1 y2 y3 y4 y5 : Int) (T : TypeId) (k : Nat) (s : Int) (h : [y0, y1, y2, y3, y4, y5][k]? = some s) :
    (w.alloc (.cells #[v0, .int .i64 y0, .int .i64 y1, .int .i64 y2, .int .i64 y3, .int .i64 y4, .int .i64 y5] T)).cell? ⟨w.heap.size, 1 + k, none⟩ = some (.int .i64 s) := by
  match k, h with
  | 0, e => simp at e; simp [go_sem, e]
  | 1, e => simp at e; simp [go_sem, e]
  | 2, e => simp at e; simp [go_sem, e]
  | 3, e => simp at e; simp [go_sem, e]
  | 4, e => simp at e; simp [go_sem, e]
  | 5, e => simp at e; simp [go_sem, e]
  | k + 6, e => simp at e

set_option maxRecDepth 100000 in
set_option maxHeartbeats 3200000 in
theorem imBack_no (x : Int) (g c h d p q n m l : Nat) (ks rs ss : List Int) (hn : ks.length = n) (hm : rs.length = m) (hl : ss.length = l) (hb : n ≤ 2000000) (hb' : m ≤ 2000000) (hb2 : l ≤ 2000000) (hno : rnB ks rs x ss = false) (w : World) (h1 : RL w g n ks) (h2 : RL w h m rs) (h3 : RL w p l ss) :
    Calls Try.prog 47 #[.agg #[.slice (some ⟨g, 0, none⟩) n c, .slice (some ⟨h, 0, none⟩) m d], .agg #[.int .i64 x, .slice (some ⟨p, 0, none⟩) l q]] w fun e w' => e = .returned (.tuple #[.slice none 0 0, .bool false]) ∧ Below w.heap.size w w' := by
  have R := Lib.hid (fun w' (hw : Below w.heap.size w w') => isRunOn_any x g c h d p q n m l ks rs ss hn hm hl hb hb' hb2 w' (h1.keep hw) (h2.keep hw) (h3.keep hw))
  have HS := Lib.hid hno
  clear hn hm hl h1 h2 h3 hno
  go_enter Try.func47, Try.ntmps47
  go_wp2_with fail
  refine (R.out _ (by go_grown)).mono ?_
  rintro e w1 ⟨rfl, k1⟩
  rw [HS.out]
  have hB : Below w.heap.size w w1 := ba (by go_grown) k1
  clear k1
  go_wp2_with fail
  go_ret2
  exact ⟨rfl, hB⟩

set_option maxRecDepth 100000 in
set_option maxHeartbeats 3200000 in
theorem imBack_yes (a : Nat) (g c h d p u n m l : Nat) (ks rs ss : List Int) (hn : ks.length = n) (hm : rs.length = m) (hl : ss.length = l) (hg : YdOk ks rs) (ho : RnOk ks a ss) (w : World) (h1 : RL w g n ks) (h2 : RL w h m rs) (h3 : RL w p l ss) :
    Calls Try.prog 47 #[.agg #[.slice (some ⟨g, 0, none⟩) n c, .slice (some ⟨h, 0, none⟩) m d], .agg #[.int .i64 (a:Nat), .slice (some ⟨p, 0, none⟩) l u]] w fun e w' => ∃ v, e = .returned (.tuple #[v, .bool true]) ∧ BkI w' w.heap.size w.heap.size v (bk6 ks rs a ss) ∧ Below w.heap.size w w' := by
  obtain ⟨j0, ji, jz0, jz1, jz2⟩ := info_of runInfo
  have n1 : 1 ≤ n := by rw [← hn]; exact hg.n1
  have n6 : n ≤ 6 := by rw [← hn]; exact hg.n6
  have hln : l = n := by rw [← hl, ho.len]; exact hn
  subst hln
  have hnr : m = 3 * l := by rw [← hm, ← hn]; exact hg.nr
  have ham : a < m := by have := ho.at'; omega
  obtain ⟨E, hE⟩ : ∃ E, rs[a]? = some E := ⟨_, List.getElem?_eq_getElem (by rw [hm]; exact ham)⟩
  obtain ⟨hE0, hE1⟩ := hg.rl a E hE
  obtain ⟨e0, rfl⟩ : ∃ e0 : Nat, E = (e0 : Int) := ⟨E.toNat, by omega⟩
  obtain ⟨L, hL⟩ : ∃ L, e0 / 3 = L := ⟨_, rfl⟩
  have hLl : L < l := by omega
  have hbk : bk6 ks rs a ss = b6K ks rs a ss L 6 := by
    rw [bk6, b6K, getD_of hE, Int.toNat_natCast, hL]; rfl
  rw [hbk]
  have R := Lib.hid (fun w' (hw : Below w.heap.size w w') => isRunOn_any (a : Nat) g c h d p u l m l ks rs ss hn hm hl (by omega) (by omega) (by omega) w' (h1.keep hw) (h2.keep hw) (h3.keep hw))
  have HR := Lib.hid ((run_iff ks rs _ ss).2 ⟨hg, a, rfl, ho⟩)
  have SF := Lib.hid (fun w' (hw : Below w.heap.size w w') => spotFrom_any a p l u ss hl n6 w' (h3.keep hw))
  have NX := Lib.hid (fun (x : Nat) tt (hx : RnOk ks x tt) w' (hw : Below w.heap.size w w') => next_any x g c h d l m ks rs tt hn hm hg hx w' (h1.keep hw) (h2.keep hw))
  have RA := Lib.hid (fun (x : Nat) tt (hx : tt.length = l) w' => runAt_any x g c h d l m tt hx n6 w')
  have HRS := Lib.hid (fun s t (hs : s < 3) (ht : t < 2) => show RnOk ks (3 * L + s) (ss.set L ((t : Nat) : Int)) from ho.set (by omega) (by omega) (by omega))
  have HST := Lib.hid (fun x tt (hx : RnOk ks x tt) => hx.step hg)
  have H2 := Lib.hid (fun w' (hw : Below w.heap.size w w') => (h2.keep hw).get ham hE)
  have SL := Lib.hid (show ∀ x : Int, (ss.set L x).length = l from fun x => by rw [List.length_set]; exact hl)
  have HL := Lib.hid hl
  have HN := Lib.hid hn
  have HO := Lib.hid ho
  have hq : (e0 : Int) / 3 = (L : Int) := by omega
  have he18 : (e0 : Int) ≤ 18 := by omega
  have i1 : (0 : Int) ≤ (a : Int) := by omega
  have i2 : (a : Int) < (m : Int) := by omega
  have i3 : (0 : Int) ≤ (e0 : Int) := by omega
  have i4 : (0 : Int) ≤ (L : Int) := by omega
  have i5 : (L : Int) < 6 := by omega
  have hz2 := h2.lt
  obtain ⟨y0, y1, y2, y3, y4, y5, hy⟩ := six_of (pad6_len (ss := ss) (by omega))
  have hsp : spV a ss = .agg #[.int .i64 (a : Int), .int .i64 y0, .int .i64 y1, .int .i64 y2, .int .i64 y3, .int .i64 y4, .int .i64 y5] := by rw [spV, hy]; rfl
  rw [hsp] at SF
  have HY := Lib.hid hy
  have HSP := Lib.hid hsp
  clear hn hm hl h1 h2 h3 hg ho hnr hE hE0 hE1 hL hbk hy hsp
  go_enter Try.func47, Try.ntmps47
  go_wp2_with fail
  refine (R.out _ (by go_grown)).mono ?_
  rintro e w1 ⟨rfl, k1⟩
  rw [HR.out]
  have hB : Below w.heap.size w w1 := ba (by go_grown) k1
  have hs := k1.size
  simp at hs
  have z0 : w.heap.size < w1.heap.size := by omega
  have z1 : w.heap.size + 1 < w1.heap.size := by omega
  have c0 := cl_below (b := w.heap.size) (o := 0) (v := .slice (some ⟨g, 0, none⟩) _ c) (by simp [go_sem]; rfl) (by simp <;> omega) k1
  have c1 := cl_below (b := w.heap.size) (o := 1) (v := .slice (some ⟨h, 0, none⟩) _ d) (by simp [go_sem]; rfl) (by simp <;> omega) k1
  have c2 := cl_below (b := w.heap.size + 1) (o := 0) (v := .int .i64 (a : Nat)) (by simp [go_sem]) (by simp <;> omega) k1
  have c3 := cl_below (b := w.heap.size + 1) (o := 1) (v := .slice (some ⟨p, 0, none⟩) l u) (by simp [go_sem]) (by simp <;> omega) k1
  clear k1
  go_wp2_with fail
  refine (SF.out _ hB).mono ?_
  rintro e w2 ⟨rfl, k2⟩
  have hs2 := k2.size
  have B2 := Lib.hid (hB.trans (k2.mono hB.size))
  have d0 := cl_below c0 z0 k2
  have d1 := cl_below c1 z0 k2
  have d2 := cl_below c2 z1 k2
  have d3 := cl_below c3 z1 k2
  have hc := H2.out w2 B2.out
  have z2 : w.heap.size < w2.heap.size := by omega
  have z3 : w.heap.size + 1 < w2.heap.size := by omega
  have z4 : h < w2.heap.size := by omega
  clear c0 c1 c2 c3 k2 hB
  go_wp2_with fail
  have BA0 := Lib.hid (by go_grown : Below w2.heap.size w2 (w2.alloc (.cells #[.int .i64 (a : Int), .int .i64 y0, .int .i64 y1, .int .i64 y2, .int .i64 y3, .int .i64 y4, .int .i64 y5] 80)))
  have SA := Lib.hid (sp_new w2 (.int .i64 (a : Int)) (.int .i64 y0) (.int .i64 y1) (.int .i64 y2) (.int .i64 y3) (.int .i64 y4) (.int .i64 y5) 80)
  have d0' := cl_alloc d0 (.cells #[.int .i64 (a : Int), .int .i64 y0, .int .i64 y1, .int .i64 y2, .int .i64 y3, .int .i64 y4, .int .i64 y5] 80)
  have d1' := cl_alloc d1 (.cells #[.int .i64 (a : Int), .int .i64 y0, .int .i64 y1, .int .i64 y2, .int .i64 y3, .int .i64 y4, .int .i64 y5] 80)
  have hz9 : (w2.alloc (.cells #[.int .i64 (a : Int), .int .i64 y0, .int .i64 y1, .int .i64 y2, .int .i64 y3, .int .i64 y4, .int .i64 y5] 80)).heap.size = w2.heap.size + 1 := by simp
  generalize hW : w2.alloc (.cells #[.int .i64 (a : Int), .int .i64 y0, .int .i64 y1, .int .i64 y2, .int .i64 y3, .int .i64 y4, .int .i64 y5] 80) = W2 at *
  have D := Lib.hid (And.intro d0' d1')
  have hz10 : w2.heap.size < W2.heap.size := by omega
  have HZ := Lib.hid hz9
  have BW := Lib.hid (B2.out.trans (BA0.out.mono B2.out.size))
  clear hW hz9 d0 d1 d2 d3 d0' d1' hc
  go_loopw [8, 25] (fun v i wr => ∃ s : Nat, s ≤ 3 ∧ i = .int .i64 s ∧ BkI wr W2.heap.size W2.heap.size v (b6K ks rs a ss L (2 * s)) ∧ Below W2.heap.size W2 wr) (fun _ i _ => 3 - (intOf i).toNat)
  case atStart => exact ⟨0, Nat.zero_le _, rfl, ⟨fun _ => rfl, [], World.ownsRow_nil _ _ _ _, RunsC.nil _ _ _, fun i j gi ci ni gj cj nj _ hh => by simp at hh⟩, Below.refl _ _⟩
  case round =>
    obtain ⟨s, hs, rfl, hV, hB⟩ := hrel
    by_cases hlt : s < 3
    · have j1 : (0 : Int) ≤ (s : Int) := by omega
      have j2 : (s : Int) < 3 := by omega
      have HV := Lib.hid hV
      have HB := Lib.hid hB
      clear hV hB
      go_wp2_with fail
      go_loopw [8, 28] (fun v i wr => ∃ t : Nat, t ≤ 2 ∧ i = .int .i64 t ∧ BkI wr W2.heap.size W2.heap.size v (b6K ks rs a ss L (2 * s + t)) ∧ Below W2.heap.size W2 wr) (fun _ i _ => 2 - (intOf i).toNat)
      case atStart => exact ⟨0, Nat.zero_le _, rfl, HV.out, HB.out⟩
      case round =>
        obtain ⟨t, ht, rfl, hV, hB⟩ := hrel
        by_cases hlt2 : t < 2
        · have k1 : (0 : Int) ≤ (t : Int) := by omega
          have k2 : (t : Int) < 2 := by omega
          have hsr := hB.size
          obtain ⟨q0, q1, q2, q3, q4, q5, q6⟩ := SA.out
          have b0 := cl_below q0 hz10 hB
          have b1 := cl_below q1 hz10 hB
          have b2 := cl_below q2 hz10 hB
          have b3 := cl_below q3 hz10 hB
          have b4 := cl_below q4 hz10 hB
          have b5 := cl_below q5 hz10 hB
          have b6 := cl_below q6 hz10 hB
          have HV := Lib.hid hV
          have HB := Lib.hid hB
          obtain ⟨yL, hyL⟩ : ∃ yL, [y0, y1, y2, y3, y4, y5][L]? = some yL := ⟨_, List.getElem?_eq_getElem (by simp; omega)⟩
          have hcs := fun v0 => sp_cell wr v0 y0 y1 y2 y3 y4 y5 80 L yL hyL
          obtain ⟨X, hX⟩ : ∃ X, 3 * L + s = X := ⟨_, rfl⟩
          obtain ⟨tt, htt⟩ : ∃ tt, ss.set L ((t : Nat) : Int) = tt := ⟨_, rfl⟩
          have hRX := HRS.out s t hlt hlt2
          have hBS := b6K_succ ks rs a ss L hlt hlt2
          have hSL := SL.out ((t : Nat) : Int)
          rw [hX, htt] at hRX hBS
          rw [htt] at hSL
          obtain ⟨x0, x1, x2, x3, x4, x5, hx⟩ := six_of (pad6_len (ss := tt) (by omega))
          have hset : [Value.int .i64 (X : Int), .int .i64 y0, .int .i64 y1, .int .i64 y2, .int .i64 y3, .int .i64 y4, .int .i64 y5].set (1 + L) (.int .i64 (t : Int)) = [Value.int .i64 (X : Int), .int .i64 x0, .int .i64 x1, .int .i64 x2, .int .i64 x3, .int .i64 x4, .int .i64 x5] := by
            have h1 : ([y0, y1, y2, y3, y4, y5].set L (t : Int)) = [x0, x1, x2, x3, x4, x5] := by
              rw [← HY.out, pad6_set (by rw [HL.out]; exact hLl), htt, hx]
            have h2 := congrArg (List.map (Value.int .i64)) h1
            rw [List.map_set] at h2
            rw [Nat.add_comm, List.set_cons_succ]
            exact congrArg (Value.int .i64 (X : Int) :: ·) h2
          have hv1 : spV X tt = .agg #[.int .i64 (X : Int), .int .i64 x0, .int .i64 x1, .int .i64 x2, .int .i64 x3, .int .i64 x4, .int .i64 x5] := by rw [spV, hx]; rfl
          have hok1 := spOk_run (HST.out X tt hRX) (by rw [HN.out]; exact n6)
          have hok2 := spOk_run HO.out (by rw [HN.out]; exact n6)
          obtain ⟨z0, z1, z2', z3', z4', z5, hz1', hz2', hz3''⟩ := spN_seven hok1
          have hyN : spN (a, ss) = [(a : Int), y0, y1, y2, y3, y4, y5] := by rw [spN, HY.out]
          have hlen1 : ((stA rs X tt, stS ks X tt) : Nat × List Int).2.length = ((a, ss) : Nat × List Int).2.length := by
            show (stS ks X tt).length = ss.length
            rw [(HST.out X tt hRX).len, HO.out.len]
          have HEQ : ∀ w : World, (binOp .eql 80 (.agg #[.int .i64 ((stA rs X tt : Nat) : Int), .int .i64 z0, .int .i64 z1, .int .i64 z2', .int .i64 z3', .int .i64 z4', .int .i64 z5]) (.agg #[.int .i64 (a : Int), .int .i64 y0, .int .i64 y1, .int .i64 y2, .int .i64 y3, .int .i64 y4, .int .i64 y5])).run Try.prog w = .ok (.bool (decide (stepN ks rs (X, tt) = (a, ss)))) w := fun w => by
            have := eqSpot ((stA rs X tt : Nat) : Int) z0 z1 z2' z3' z4' z5 (a : Int) y0 y1 y2 y3 y4 y5 (by have h := hok1.2; rw [hz1'] at h; exact h) (by have h := hok2.2; rw [hyN] at h; exact h) w
            rw [this]
            congr 3
            rw [eq_iff_iff, ← hyN]
            have e1 : [((stA rs X tt : Nat) : Int), z0, z1, z2', z3', z4', z5] = spN (stA rs X tt, stS ks X tt) := hz1'.symm
            rw [e1]
            exact ⟨fun e => spN_inj hlen1 e, fun e => by rw [show ((stA rs X tt, stS ks X tt) : Nat × List Int) = (a, ss) from e]⟩
          have N1 := NX.out X tt hRX
          rw [hv1, hz3''] at N1
          have HNX := Lib.hid N1
          have RA1 := RA.out X tt hSL
          rw [hv1] at RA1
          have HRA := Lib.hid RA1
          have HBS := Lib.hid hBS
          have HSL := Lib.hid hSL
          have eX : 3 * (L : Int) + (s : Int) = (X : Int) := by omega
          have hX18 : X ≤ 18 := by omega
          have eX0 : (0 : Int) ≤ (X : Int) := by omega
          have eX1 : (X : Int) ≤ 18 := by omega
          clear hV hB q0 q1 q2 q3 q4 q5 q6 hyL hRX hBS hSL hx hv1 hok1 hok2 hz1' hz2' hz3'' hyN hlen1 N1 RA1 htt hX
          go_upto_region 14 with fail
          obtain ⟨p0, p1, p2, p3, p4, p5, p6⟩ := sp_new wr (.int .i64 (X : Int)) (.int .i64 x0) (.int .i64 x1) (.int .i64 x2) (.int .i64 x3) (.int .i64 x4) (.int .i64 x5) 80
          have hB1 := Lib.hid (by go_grown : Below wr.heap.size wr (wr.alloc (.cells #[.int .i64 (X : Int), .int .i64 x0, .int .i64 x1, .int .i64 x2, .int .i64 x3, .int .i64 x4, .int .i64 x5] 80)))
          have v0 := cl_alloc (cl_below D.out.1 (by omega : w.heap.size < W2.heap.size) HB.out) (.cells #[.int .i64 (X : Int), .int .i64 x0, .int .i64 x1, .int .i64 x2, .int .i64 x3, .int .i64 x4, .int .i64 x5] 80)
          have v1 := cl_alloc (cl_below D.out.2 (by omega : w.heap.size < W2.heap.size) HB.out) (.cells #[.int .i64 (X : Int), .int .i64 x0, .int .i64 x1, .int .i64 x2, .int .i64 x3, .int .i64 x4, .int .i64 x5] 80)
          have r0 := cl_alloc b0 (.cells #[.int .i64 (X : Int), .int .i64 x0, .int .i64 x1, .int .i64 x2, .int .i64 x3, .int .i64 x4, .int .i64 x5] 80)
          have r1 := cl_alloc b1 (.cells #[.int .i64 (X : Int), .int .i64 x0, .int .i64 x1, .int .i64 x2, .int .i64 x3, .int .i64 x4, .int .i64 x5] 80)
          have r2 := cl_alloc b2 (.cells #[.int .i64 (X : Int), .int .i64 x0, .int .i64 x1, .int .i64 x2, .int .i64 x3, .int .i64 x4, .int .i64 x5] 80)
          have r3 := cl_alloc b3 (.cells #[.int .i64 (X : Int), .int .i64 x0, .int .i64 x1, .int .i64 x2, .int .i64 x3, .int .i64 x4, .int .i64 x5] 80)
          have r4 := cl_alloc b4 (.cells #[.int .i64 (X : Int), .int .i64 x0, .int .i64 x1, .int .i64 x2, .int .i64 x3, .int .i64 x4, .int .i64 x5] 80)
          have r5 := cl_alloc b5 (.cells #[.int .i64 (X : Int), .int .i64 x0, .int .i64 x1, .int .i64 x2, .int .i64 x3, .int .i64 x4, .int .i64 x5] 80)
          have r6 := cl_alloc b6 (.cells #[.int .i64 (X : Int), .int .i64 x0, .int .i64 x1, .int .i64 x2, .int .i64 x3, .int .i64 x4, .int .i64 x5] 80)
          have hz11 : (wr.alloc (.cells #[.int .i64 (X : Int), .int .i64 x0, .int .i64 x1, .int .i64 x2, .int .i64 x3, .int .i64 x4, .int .i64 x5] 80)).heap.size = wr.heap.size + 1 := by simp
          generalize hW : wr.alloc (.cells #[.int .i64 (X : Int), .int .i64 x0, .int .i64 x1, .int .i64 x2, .int .i64 x3, .int .i64 x4, .int .i64 x5] 80) = W3 at *
          have HZ3 := Lib.hid hz11
          have m0 : w.heap.size < W3.heap.size := by omega
          have m1 : wr.heap.size < W3.heap.size := by omega
          have m2 : w2.heap.size < W3.heap.size := by omega
          have hS0 := And.intro v0 (And.intro v1 (And.intro p0 (And.intro p1 (And.intro p2 (And.intro p3 (And.intro p4 (And.intro p5 (And.intro p6 (And.intro r0 (And.intro r1 (And.intro r2 (And.intro r3 (And.intro r4 (And.intro r5 r6))))))))))))))
          have BW3 := Lib.hid (BW.out.trans ((HB.out.trans (hB1.out.mono HB.out.size)).mono BW.out.size))
          clear hW hz11 hset hcs b0 b1 b2 b3 b4 b5 b6 v0 v1 p0 p1 p2 p3 p4 p5 p6 r0 r1 r2 r3 r4 r5 r6
          go_cut [45] (fun s45 wx => s45 = .bool (decide (stepN ks rs (X, tt) = (a, ss))) ∧ (wx.cell? ⟨w.heap.size, 0, none⟩ = some (.slice (some ⟨g, 0, none⟩) l c) ∧ wx.cell? ⟨w.heap.size, 1, none⟩ = some (.slice (some ⟨h, 0, none⟩) m d) ∧ wx.cell? ⟨wr.heap.size, 0, none⟩ = some (.int .i64 (X : Int)) ∧ wx.cell? ⟨wr.heap.size, 1, none⟩ = some (.int .i64 x0) ∧ wx.cell? ⟨wr.heap.size, 2, none⟩ = some (.int .i64 x1) ∧ wx.cell? ⟨wr.heap.size, 3, none⟩ = some (.int .i64 x2) ∧ wx.cell? ⟨wr.heap.size, 4, none⟩ = some (.int .i64 x3) ∧ wx.cell? ⟨wr.heap.size, 5, none⟩ = some (.int .i64 x4) ∧ wx.cell? ⟨wr.heap.size, 6, none⟩ = some (.int .i64 x5) ∧ wx.cell? ⟨w2.heap.size, 0, none⟩ = some (.int .i64 (a : Int)) ∧ wx.cell? ⟨w2.heap.size, 1, none⟩ = some (.int .i64 y0) ∧ wx.cell? ⟨w2.heap.size, 2, none⟩ = some (.int .i64 y1) ∧ wx.cell? ⟨w2.heap.size, 3, none⟩ = some (.int .i64 y2) ∧ wx.cell? ⟨w2.heap.size, 4, none⟩ = some (.int .i64 y3) ∧ wx.cell? ⟨w2.heap.size, 5, none⟩ = some (.int .i64 y4) ∧ wx.cell? ⟨w2.heap.size, 6, none⟩ = some (.int .i64 y5)) ∧ Below W3.heap.size W3 wx)
          case first =>
            go_region_held3 (fun w' => w'.cell? ⟨w.heap.size, 0, none⟩ = some (.slice (some ⟨g, 0, none⟩) l c) ∧ w'.cell? ⟨w.heap.size, 1, none⟩ = some (.slice (some ⟨h, 0, none⟩) m d) ∧ w'.cell? ⟨wr.heap.size, 0, none⟩ = some (.int .i64 (X : Int)) ∧ w'.cell? ⟨wr.heap.size, 1, none⟩ = some (.int .i64 x0) ∧ w'.cell? ⟨wr.heap.size, 2, none⟩ = some (.int .i64 x1) ∧ w'.cell? ⟨wr.heap.size, 3, none⟩ = some (.int .i64 x2) ∧ w'.cell? ⟨wr.heap.size, 4, none⟩ = some (.int .i64 x3) ∧ w'.cell? ⟨wr.heap.size, 5, none⟩ = some (.int .i64 x4) ∧ w'.cell? ⟨wr.heap.size, 6, none⟩ = some (.int .i64 x5) ∧ w'.cell? ⟨w2.heap.size, 0, none⟩ = some (.int .i64 (a : Int)) ∧ w'.cell? ⟨w2.heap.size, 1, none⟩ = some (.int .i64 y0) ∧ w'.cell? ⟨w2.heap.size, 2, none⟩ = some (.int .i64 y1) ∧ w'.cell? ⟨w2.heap.size, 3, none⟩ = some (.int .i64 y2) ∧ w'.cell? ⟨w2.heap.size, 4, none⟩ = some (.int .i64 y3) ∧ w'.cell? ⟨w2.heap.size, 5, none⟩ = some (.int .i64 y4) ∧ w'.cell? ⟨w2.heap.size, 6, none⟩ = some (.int .i64 y5))
              (first | (with_reducible assumption) | (with_reducible exact y77_drew hS0) | (with_reducible exact y77_drew (y77_alloc hS0 _)) | (with_reducible exact y77_alloc (y77_drew hS0) _) | (with_reducible refine y77_drew ?_; with_reducible assumption) | (with_reducible refine y77_alloc ?_ _; with_reducible assumption) | (with_reducible refine y77_re (by with_reducible assumption) ?_ ?_ ?_ _; (focus first | (with_reducible assumption) | omega | (simp; done) | (simp; omega)); (focus first | (with_reducible assumption) | omega | (simp; done) | (simp; omega)); (focus first | (with_reducible assumption) | omega | (simp; done) | (simp; omega))) | (with_reducible refine y77_below ?_ ?_ ?_ ?_ h1; (focus first | (with_reducible assumption) | (with_reducible refine y77_undrew ?_; with_reducible assumption)); (focus first | (with_reducible assumption) | omega | (simp; done) | (simp; omega)); (focus first | (with_reducible assumption) | omega | (simp; done) | (simp; omega)); (focus first | (with_reducible assumption) | omega | (simp; done) | (simp; omega))) | ((repeat (with_reducible refine y77_set ?_ _ _ ?_ ?_ ?_; rotate_left 1; (focus first | (with_reducible assumption) | omega | (simp; done) | (simp; omega)); (focus first | (with_reducible assumption) | omega | (simp; done) | (simp; omega)); (focus first | (with_reducible assumption) | omega | (simp; done) | (simp; omega)))); with_reducible assumption))
              ((go_at_call 75; (with_reducible refine Calls.mono (HNX.out _ (BW3.out.trans (Below.mono ?_ BW3.out.size))) ?_); (focus (go_grown; done)); rintro e wA ⟨rfl, h1⟩; (try with_reducible replace h1 := undrew h1); have hBA : Below W3.heap.size W3 wA := ba (by go_grown) h1; obtain ⟨hcA, hfA⟩ := bcell h1; have hqA := h1.size; (try simp at hqA); have hy0 : w.heap.size < wA.heap.size := (by omega); have hy1 : wr.heap.size < wA.heap.size := (by omega); have hy2 : w2.heap.size < wA.heap.size := (by omega)))
            all_goals
              go_wp2_with fail
              go_meet
              exact ⟨rfl, by with_reducible assumption, by go_grown⟩
          case rest =>
            obtain ⟨rfl, ⟨v0, v1, p0, p1, p2, p3, p4, p5, p6, _, _, _, _, _, _, _⟩, hcb⟩ := hcut
            have hsc := hcb.size
            have BC := Lib.hid (hB1.out.trans (hcb.mono hB1.out.size))
            have BC2 := Lib.hid (HB.out.trans (BC.out.mono HB.out.size))
            have LC := Lib.hid (HV.out.keep BC.out)
            clear hcb hS0
            by_cases hst : stepN ks rs (X, tt) = (a, ss)
            · have hMM := Lib.hid (show b6K ks rs a ss L (2 * s + t + 1) = b6K ks rs a ss L (2 * s + t) ++ [(X, tt)] by rw [HBS.out, if_pos hst])
              rw [decide_eq_true hst]
              clear hst
              go_wp2_with fail
              refine (HRA.out _).mono ?_
              rintro e wA ⟨g1, k1, rfl, hg1, r1, kA⟩
              have hsA := kA.size
              have BA := Lib.hid (BC2.out.trans (kA.mono BC2.out.size))
              have R1 := Lib.hid r1
              obtain ⟨_, xr, hoc, ho2c, ho3⟩ := LC.out
              have hlw := Lib.hid (fun bb ee => hoc.lt bb ee)
              have HX1 := Lib.hid (own_belowS hoc kA)
              have HX2 := Lib.hid (ho2c.keep kA)
              have HX3 := Lib.hid ho3
              have H2C := Lib.hid ho2c
              have h1l := r1.lt
              have hll := Lib.hid (b6K_len ks rs a ss L (2 * s + t))
              clear ho2c ho3 hoc kA r1 v0 v1 p0 p1 p2 p3 p4 p5 p6
              generalize hlen : (b6K ks rs a ss L (2 * s + t)).length = Q at *
              have hQ2 : Q ≤ 6 := hll.out
              go_wp2_with (at_builtin; refine wpList_append_lies _ rfl _ _ 56 rfl W2.heap.size 36 j0 (.agg #[.int .i64 0, .slice none 0 0]) 2 32 Try.underlying56 ji jz0 jz1 jz2 rfl (by decide) _ Q xr rfl (HX1.out.alloc _) ⟨wA.heap.size, 0, none⟩ 1 1 [.int .i64 (X : Nat), .slice (some ⟨g1, 0, none⟩) l k1] rfl rfl ?c1 ?c2 (by decide) ?c3 ?c4 ?c5 (wA.heap.size + 1) ?c6 ?_; rotate_right 1; intro g2 cap2 w3 hown hgrow hat hlt9)
              case c1 => exact World.news_of_block (cs := #[.int .i64 (X : Nat), .slice (some ⟨g1, 0, none⟩) l k1]) (heap_alloc_new _ _)
              case c2 => intro u hu; simp at hu; rcases hu with rfl | rfl <;> rfl
              case c3 => unfold maxLen; omega
              case c4 => omega
              case c5 => simp; omega
              case c6 => simp
              have hne1 : some g1 ≠ u8.ownBlock := fun ee => by have := (hlw.out g1 ee.symm).2; omega
              have hne2 : g1 ≠ g2 := fun ee => by
                rcases hat with hat | hat
                · have := (hlw.out g2 hat).2; omega
                · omega
              have hC := (HX2.out.keep (by go_grown : Below wA.heap.size wA (wA.alloc (.cells #[.int .i64 (X : Nat), .slice (some ⟨g1, 0, none⟩) l k1] 36)))).grown hgrow (g' := g2) (by
                rcases hat with hat | hat
                · exact Or.inl hat
                · right; simp; omega)
              have hC2 := hC.snoc (X, tt) g1 l k1 HSL.out (by intro ee; injection ee with ee; exact hne2 ee) (by omega) ((R1.out.keep (by go_grown)).of_block hgrow.size (hgrow.block g1 (by simp; omega) hne1))
              have hI := HX3.out.snoc H2C.out (.int .i64 (X : Nat)) g1 l k1 hg1
              refine ⟨⟨t + 1, by omega, by simp, ⟨fun ee => ?_, xr ++ [.int .i64 (X : Nat), .slice (some ⟨g1, 0, none⟩) l k1], ?_, ?_, hI⟩, ?_⟩, by simp [intOf]; omega⟩
              · rw [← Nat.add_assoc, hMM.out] at ee; simp at ee
              · rw [← Nat.add_assoc, hMM.out, List.length_append, hlen]; exact hown
              · rw [← Nat.add_assoc, hMM.out]; exact hC2
              · exact Below.grown (BA.out.trans (Below.mono (by go_grown : Below wA.heap.size wA _) BA.out.size)) hgrow (by simp; omega) (fun bb ee => (HX1.out.lt bb ee).1)
            · have hMM := Lib.hid (show b6K ks rs a ss L (2 * s + t + 1) = b6K ks rs a ss L (2 * s + t) by rw [HBS.out, if_neg hst, List.append_nil])
              rw [decide_eq_false hst]
              clear hst
              go_wp2_with fail
              go_roundw
              case rel => exact ⟨t + 1, by omega, by go_num, by rw [← Nat.add_assoc, hMM.out]; exact LC.out, BC2.out⟩
              case measure => simp [intOf]; omega
        · obtain rfl : t = 2 := by omega
          have HV := Lib.hid hV
          have HB := Lib.hid hB
          clear hV hB
          go_wp2_with fail
          go_roundw
          case rel => exact ⟨s + 1, by omega, by go_num, by rw [show 2 * (s + 1) = 2 * s + 2 by omega]; exact HV.out, HB.out⟩
          case measure => simp [intOf]; omega
    · obtain rfl : s = 3 := by omega
      have HV := Lib.hid hV
      have HB := Lib.hid (BW.out.trans (hB.mono BW.out.size))
      clear hV hB
      go_wp2_with fail
      go_ret2
      obtain ⟨h0, xr, ho1, ho2, ho3⟩ := HV.out
      exact ⟨u8, rfl, ⟨h0, xr, ho1.mono (by omega), ⟨ho2.1, fun j x hx => let ⟨gg, cap, e1, e2, e3, e4, e5⟩ := ho2.2 j x hx; ⟨gg, cap, e1, e2, e3, by omega, e5⟩⟩, ho3⟩, HB.out⟩

end Go.Proofs.Ytoaccnpkobbaaaa
