/- Contracts and facts, put together (part 3). Conditions: each says its own. -/
import Derived.Test.YtppbbcckijcckaaQ2
import Derived.Laws.AppendOwn
import Derived.Laws.OwnMore
import Derived.Deep.AppendLies
import Derived.Deep.RegionLaw
import Derived.Shelf.SlSortCmp.QuietGrown
import Derived.Test.YtppbbcckijcckaaShelfG
import Derived.Shelf.SlSortCmp.NoneTotal
import Derived.ChangeKeysEq

/- Contracts: areas of polygons: chords in a row of memory, and the sum over them; the model's sum over points. -/
namespace Go.Proofs.Ytppbbcckijcckaa
open Go.ChangeShapes Go.WideShapes Go.ChangeAt Go.RowKit Go.Sort

set_option linter.unusedVariables false
set_option linter.unusedSimpArgs false

theorem own_below7 {W w1 : World} {B : Nat} {e : TypeId} {size n : Nat} {v : Value} {xs : List Value} (h : W.ownsRow B e size v n xs) (hb : Below W.heap.size W w1) : w1.ownsRow B e size v n xs :=
  h.kept (row := none) ⟨hb.os, hb.tape, hb.output, hb.size, fun k hk _ => hb.block k hk⟩ (by cases v.ownBlock <;> simp)

theorem below_dw7 (w : World) (m : Nat) : Below m w w.drew := ⟨rfl, rfl, rfl, Nat.le_refl _, fun _ _ => rfl⟩

theorem newc7 {W : World} {cs : Array Value} {e : TypeId} {n : Nat} (hn : W.heap.size = n) : ∀ (j : Nat) u, cs.toList[j]? = some u → (W.alloc (.cells cs e)).cell? ((⟨n, 0, none⟩ : Addr).add j) = some u := by
  subst hn
  intro j u hu
  have h := Lib.cell_of_heap (heap_alloc_new W (.cells cs e)) j
  have ha : ((⟨W.heap.size, 0, none⟩ : Addr).add j) = ⟨W.heap.size, j, none⟩ := by by_cases e : j = 0 <;> simp [Addr.add, e]
  rw [ha, h, ← hu]
  simp

theorem chInfo : (Try.prog.info? 66).map (fun i => (i.zero, i.size, i.bytes)) = some (some (.agg #[.int .i64 0, .int .i64 0, .int .i64 0, .int .i64 0, .int .i64 0, .int .i64 0, .int .i64 0, .int .i64 0]), 8, 64) := by kernel_rfl

def pnC (p : Pn) : List Value := [.int .i64 p.a, .int .i64 p.b, .int .i64 p.c, .int .i64 p.d]

/-- The chords that lead from each point to the next one. -/
def chds : List Pn → List (Pn × Pn)
  | a :: b :: l => (a, b) :: chds (b :: l)
  | _ => []

def chC (l : List (Pn × Pn)) : List Value := l.flatMap fun x => pnC x.1 ++ pnC x.2

theorem chds_length : ∀ l : List Pn, (chds l).length = l.length - 1
  | [] => rfl
  | [_] => rfl
  | _ :: b :: l => by simp [chds, chds_length (b :: l)]

theorem chds_get : ∀ (l : List Pn) (k : Nat) (a b : Pn), l[k]? = some a → l[k + 1]? = some b → (chds l)[k]? = some (a, b)
  | [], _, _, _, h, _ => by simp at h
  | [_], k, _, _, _, h => by simp at h
  | x :: y :: l, 0, a, b, h, h2 => by simp at h h2; subst h; subst h2; rfl
  | x :: y :: l, k + 1, a, b, h, h2 => by
    have := chds_get (y :: l) k a b (by simpa using h) (by simpa using h2)
    simpa [chds] using this

theorem chC_append (l m : List (Pn × Pn)) : chC (l ++ m) = chC l ++ chC m := by simp [chC]

theorem chC_length (l : List (Pn × Pn)) : (chC l).length = l.length * 8 := by
  induction l with
  | nil => rfl
  | cons x l ih => simp [chC, pnC] at ih ⊢; omega

set_option maxRecDepth 100000 in
set_option maxHeartbeats 1600000 in
theorem chordsAlongP (g n cap : Nat) (l : List Pn) (hn : l.length = n) (hb : n ≤ 1000000) (w : World) (hg : g < w.heap.size) (h1 : RowP w g l) :
    Calls Try.prog 101 #[.slice (some ⟨g, 0, none⟩) n cap] w fun e w' => ∃ v, e = .returned v ∧ w'.ownsRow w.heap.size 66 8 v (n - 1) (chC (chds l)) ∧ Below w.heap.size w w' := by
  have HN := Lib.hid hn
  have H1 := Lib.hid h1
  obtain ⟨i0, hi, iz0, iz1, iz2⟩ := info_parts chInfo
  clear hn h1
  go_enter Try.func101, Try.ntmps101
  go_wp2_with fail
  go_loopw [3, 4] (fun t i wr => ∃ (j : Nat) (v : Value), (j < n ∨ j = 0) ∧ i = .int .i64 ((j : Int) + 1) ∧ t = v ∧ wr.ownsRow w.heap.size 66 8 v j (chC ((chds l).take j)) ∧ Below w.heap.size w wr) (fun _ i _ => n - (intOf i).toNat)
  case atStart => exact ⟨0, _, .inr rfl, rfl, rfl, World.ownsRow_nil _ _ _ _, Below.refl _ _⟩
  case round =>
    obtain ⟨j, v, hk1, rfl, rfl, hJ, hB⟩ := hrel
    have hz : w.heap.size ≤ wr.heap.size := hB.size
    by_cases hlt : j + 1 < n
    · obtain ⟨p, hp⟩ : ∃ p, l[j]? = some p := ⟨_, List.getElem?_eq_getElem (by rw [HN.out]; omega)⟩
      obtain ⟨q, hq⟩ : ∃ q, l[j + 1]? = some q := ⟨_, List.getElem?_eq_getElem (by rw [HN.out]; exact hlt)⟩
      have R := H1.out.below hg hB
      obtain ⟨c0, c1, c2, c3⟩ := R j p hp
      obtain ⟨d0, d1, d2, d3⟩ := R (j + 1) q hq
      have hx := chds_get l j p q hp hq
      have HT := Lib.hid (show (chds l).take (j + 1) = (chds l).take j ++ [(p, q)] by
        have := List.take_add_one (l := chds l) (i := j)
        rw [hx] at this
        simpa using this)
      have HJ := Lib.hid hJ
      have k0 := fun d os => cell_regrown c0 d os
      have k1 := fun d os => cell_regrown c1 d os
      have k2 := fun d os => cell_regrown c2 d os
      have k3 := fun d os => cell_regrown c3 d os
      have l0 := fun d os => cell_regrown d0 d os
      have l1 := fun d os => cell_regrown d1 d os
      have l2 := fun d os => cell_regrown d2 d os
      have l3 := fun d os => cell_regrown d3 d os
      clear hp hq hx R hJ
      have j1 : (0 : Int) ≤ (j : Int) := by omega
      have j2 : (j : Int) + 1 < (n : Int) := by omega
      have j3 : (j : Int) < (n : Int) := by omega
      have j5 : (0 : Int) ≤ (j : Int) + 1 := by omega
      have j6 : ((j : Int) + 1).toNat = j + 1 := by omega
      have j4 : IntKind.i64.wrap (j : Int) = (j : Int) := IntWalk.i64_in _ ⟨by omega, by omega⟩
      have HB := Lib.hid hB
      clear hB k0 k1 k2 k3 l0 l1 l2 l3
      go_wp2_with fail
      go_region_law ((refine step_append_lies _ (by rfl) _ _ _ (by rfl) w.heap.size 66 i0 _ 8 64 Try.underlying73 hi iz0 iz1 iz2 (by rfl) (by decide) u3 j (chC ((chds l).take j)) ?hs ?hown ⟨wr.heap.size, 0, none⟩ 1 1 [.int .i64 p.a, .int .i64 p.b, .int .i64 p.c, .int .i64 p.d, .int .i64 q.a, .int .i64 q.b, .int .i64 q.c, .int .i64 q.d] ?hx (by rfl) ?hnews (by intro u hu; simp at hu; rcases hu with rfl | rfl | rfl | rfl | rfl | rfl | rfl | rfl <;> rfl) (by decide) (by unfold maxLen; omega) (by omega) ?hbase (wr.heap.size + 1) ?hH ?_); (case hs => first | rfl | simp [Act.eval]); (case hx => first | rfl | simp [Act.eval]); (case hown => first | exact (HJ.out.alloc _) | exact ((HJ.out.alloc _).drew)); (case hnews => exact newc7 (by simp)); (case hbase => (simp; omega)); (case hH => simp); intro g2 cap2 w3 hJ3 hg3 hat hlt3)
      all_goals
        have HJA := Lib.hid (HJ.out.alloc (.cells #[.int .i64 p.a, .int .i64 p.b, .int .i64 p.c, .int .i64 p.d, .int .i64 q.a, .int .i64 q.b, .int .i64 q.c, .int .i64 q.d] 66))
        have hBD := (show Below w.heap.size w (wr.alloc (.cells #[.int .i64 p.a, .int .i64 p.b, .int .i64 p.c, .int .i64 p.d, .int .i64 q.a, .int .i64 q.b, .int .i64 q.c, .int .i64 q.d] 66)).drew from (HB.out.alloc hz _).trans (below_dw7 _ _))
        have HB3 := Lib.hid (hBD.grown hg3 (by simp; omega) (fun k hk => (HJA.out.lt k hk).1))
        have HJ3 := Lib.hid hJ3
        clear hJ3 hg3 hBD hat hlt3 c0 c1 c2 c3 d0 d1 d2 d3
        have j7 : IntKind.i64.wrap ((j : Int) + 1 + 1) = (j : Int) + 1 + 1 := IntWalk.i64_in _ ⟨by omega, by omega⟩
        go_wp2_with fail
        go_roundw
        case rel => exact ⟨j + 1, _, by omega, by go_num, rfl, by rw [HT.out, chC_append]; exact HJ3.out, HB3.out⟩
        case measure => simp [intOf]; omega
    · have hjn : j = n - 1 := by omega
      have hE : (chds l).take j = chds l := List.take_of_length_le (by rw [chds_length, HN.out]; omega)
      rw [hE] at hJ
      have j1 : ¬ (j : Int) + 1 < (n : Int) := by omega
      have HJ := Lib.hid hJ
      have HB1 := Lib.hid hB
      clear hJ hB hE
      go_wp2_with fail
      go_ret
      exact ⟨_, rfl, by rw [← hjn]; exact HJ.out, HB1.out⟩

end Go.Proofs.Ytppbbcckijcckaa

/- Contracts: four times an area, summed over chords, in the program; over points, in the model. -/
namespace Go.Proofs.Ytppbbcckijcckaa
open Go.ChangeShapes Go.WideShapes Go.ChangeAt Go.RowKit Go.Sort

set_option linter.unusedVariables false
set_option linter.unusedSimpArgs false

def RowC (w : World) (g : Nat) (l : List (Pn × Pn)) : Prop :=
  ∀ (k : Nat) (a b : Pn), l[k]? = some (a, b) → (w.cell? ⟨g, k * 8, none⟩ = some (.int .i64 a.a) ∧ w.cell? ⟨g, k * 8 + 1, none⟩ = some (.int .i64 a.b) ∧ w.cell? ⟨g, k * 8 + 2, none⟩ = some (.int .i64 a.c) ∧ w.cell? ⟨g, k * 8 + 3, none⟩ = some (.int .i64 a.d)) ∧ w.cell? ⟨g, k * 8 + 4, none⟩ = some (.int .i64 b.a) ∧ w.cell? ⟨g, k * 8 + 5, none⟩ = some (.int .i64 b.b) ∧ w.cell? ⟨g, k * 8 + 6, none⟩ = some (.int .i64 b.c) ∧ w.cell? ⟨g, k * 8 + 7, none⟩ = some (.int .i64 b.d)

theorem RowC.below {w w' : World} {g n : Nat} {l : List (Pn × Pn)} (h : RowC w g l) (hg : g < n) (hb : Below n w w') : RowC w' g l := fun k a b hp => by
  obtain ⟨⟨c0, c1, c2, c3⟩, c4, c5, c6, c7⟩ := h k a b hp
  exact ⟨⟨by rw [hb.cell (p := ⟨g, k * 8, none⟩) hg]; exact c0, by rw [hb.cell (p := ⟨g, k * 8 + 1, none⟩) hg]; exact c1, by rw [hb.cell (p := ⟨g, k * 8 + 2, none⟩) hg]; exact c2, by rw [hb.cell (p := ⟨g, k * 8 + 3, none⟩) hg]; exact c3⟩,
    by rw [hb.cell (p := ⟨g, k * 8 + 4, none⟩) hg]; exact c4, by rw [hb.cell (p := ⟨g, k * 8 + 5, none⟩) hg]; exact c5, by rw [hb.cell (p := ⟨g, k * 8 + 6, none⟩) hg]; exact c6, by rw [hb.cell (p := ⟨g, k * 8 + 7, none⟩) hg]; exact c7⟩

theorem chC_get : ∀ (l : List (Pn × Pn)) (k : Nat) (x : Pn × Pn) (i : Nat) (v : Value), l[k]? = some x → (pnC x.1 ++ pnC x.2)[i]? = some v → (chC l)[k * 8 + i]? = some v
  | [], _, _, _, _, h, _ => by simp at h
  | y :: l, 0, x, i, v, h, hv => by
    simp at h; subst h
    have hi : i < 8 := by have := (List.getElem?_eq_some_iff.1 hv).1; simpa [pnC] using this
    simp only [chC, List.flatMap_cons, Nat.zero_mul, Nat.zero_add]
    rw [List.getElem?_append_left (by simp [pnC]; omega)]; exact hv
  | y :: l, k + 1, x, i, v, h, hv => by
    have ih := chC_get l k x i v (by simpa using h) hv
    simp only [chC, List.flatMap_cons] at ih ⊢
    rw [List.getElem?_append_right (by simp [pnC]; omega)]
    rw [← ih]; congr 1; simp [pnC]; omega

theorem RowC.own {W : World} {B n g cap : Nat} {e : TypeId} {l : List (Pn × Pn)} (h : W.ownsRow B e 8 (.slice (some ⟨g, 0, none⟩) n cap) n (chC l)) (hn : l.length = n) : RowC W g l := fun k a b hp => by
  have hk : k < n := by rw [← hn]; exact (List.getElem?_eq_some_iff.1 hp).1
  have c : ∀ (i : Nat) (v : Value), (pnC a ++ pnC b)[i]? = some v → W.cell? ⟨g, k * 8 + i, none⟩ = some v := fun i v hv => by
    have hi : i < 8 := by have := (List.getElem?_eq_some_iff.1 hv).1; simpa [pnC] using this
    rw [h.cellAt (k * 8 + i) (by omega)]
    exact chC_get l k (a, b) i v hp hv
  exact ⟨⟨c 0 _ rfl, c 1 _ rfl, c 2 _ rfl, c 3 _ rfl⟩, c 4 _ rfl, c 5 _ rfl, c 6 _ rfl, c 7 _ rfl⟩

theorem imSPlusQ (s t : Su) (h : Bs 4000000000000000000 s) (k : Bs 4000000000000000000 t) (w : World) : Calls Try.prog 119 #[sv s, sv t] w fun e w' => e = .returned (sv (s + t)) ∧ Below w.heap.size w w' := by
  have e1 : wrap64 (s.x + t.x) = (s + t).x := by unfold Bs at h k; exact w64p _ (by omega) (by omega)
  have e2 : wrap64 (s.r + t.r) = (s + t).r := by unfold Bs at h k; exact w64p _ (by omega) (by omega)
  go_enter Try.func119, Try.ntmps119
  go_wp2
  go_returns
  exact ⟨by simp [*], by go_grown⟩

theorem spSumQ (s t : Su) (h : Bs 4000000000000000000 s) (k : Bs 4000000000000000000 t) (w : World) : Calls Try.prog 69 #[sv s, sv t] w fun e w' => e = .returned (sv (s + t)) ∧ Below w.heap.size w w' := by
  have e1 : wrap64 (s.x + t.x) = (s + t).x := by unfold Bs at h k; exact w64p _ (by omega) (by omega)
  have e2 : wrap64 (s.r + t.r) = (s + t).r := by unfold Bs at h k; exact w64p _ (by omega) (by omega)
  go_enter Try.func69, Try.ntmps69
  go_wp2
  go_returns
  exact ⟨by simp [*], by go_grown⟩

/-- The sum over chords. -/
def sumC (l : List (Pn × Pn)) : Su := l.foldl (fun s x => s + x.1.cx x.2) 0

theorem sumC_snoc (l : List (Pn × Pn)) (x : Pn × Pn) : sumC (l ++ [x]) = sumC l + x.1.cx x.2 := by simp [sumC]

theorem Bs.add_bd {n m : Int} {s t : Su} (h : Bs n s) (k : Bs m t) : Bs (n + m) (s + t) := by
  unfold Bs at *
  rw [Su.add_x, Su.add_r]; omega

theorem sumC_bd (l : List (Pn × Pn)) (h : ∀ x ∈ l, Bd 100000 x.1 ∧ Bd 100000 x.2) : ∀ k, k ≤ l.length → Bs (k * 320000000000) (sumC (l.take k))
  | 0, _ => by simp [sumC, Bs, Su.zero_x, Su.zero_r]
  | k + 1, hk => by
    have hx : l[k]? = some l[k] := List.getElem?_eq_getElem (by omega)
    have e : l.take (k + 1) = l.take k ++ [l[k]] := by
      rw [List.take_add_one, hx]; rfl
    have hm := h l[k] (List.getElem_mem _)
    rw [e, sumC_snoc]
    have := (sumC_bd l h k (by omega)).add_bd (cx_bd (hm.1.mono (by omega)) (hm.2.mono (by omega)))
    exact this.mono (by push_cast; omega)

set_option maxRecDepth 100000 in
set_option maxHeartbeats 1600000 in
theorem fourAreaP (g n cap : Nat) (l : List (Pn × Pn)) (hn : l.length = n) (hb : n ≤ 1000) (hbd : ∀ x ∈ l, Bd 100000 x.1 ∧ Bd 100000 x.2) (w : World) (hg : g < w.heap.size) (h1 : RowC w g l) :
    Calls Try.prog 66 #[.slice (some ⟨g, 0, none⟩) n cap] w fun e w' => e = .returned (sv (sumC l)) ∧ Below w.heap.size w w' := by
  have HN := Lib.hid hn
  have H1 := Lib.hid h1
  have HBD := Lib.hid hbd
  clear hn h1 hbd
  go_enter Try.func66, Try.ntmps66
  go_wp2_with fail
  go_loopw [8] (fun i wr => ∃ k : Nat, k ≤ n ∧ i = .int .i64 k ∧ (wr.cell? ⟨w.heap.size + 1, 0, none⟩ = some (.int .i64 (sumC (l.take k)).x) ∧ wr.cell? ⟨w.heap.size + 1, 1, none⟩ = some (.int .i64 (sumC (l.take k)).r)) ∧ (∀ i, wr.frozen? ⟨w.heap.size + 1, i, none⟩ = false) ∧ (∀ i, wr.frozen? ⟨w.heap.size, i, none⟩ = false) ∧ (wr.cell? ⟨w.heap.size, 0, none⟩ = some (.int .i64 ((⟨0, 0⟩ : Su)).x) ∧ wr.cell? ⟨w.heap.size, 1, none⟩ = some (.int .i64 ((⟨0, 0⟩ : Su)).r)) ∧ w.heap.size + 2 ≤ wr.heap.size ∧ Below w.heap.size w wr) (fun i _ => n - (intOf i).toNat)
  case atStart => exact ⟨0, Nat.zero_le _, rfl, ⟨by rw [show (sumC (List.take 0 l)).x = 0 by simp [sumC, Su.zero_x]]; go_simp, by rw [show (sumC (List.take 0 l)).r = 0 by simp [sumC, Su.zero_r]]; go_simp⟩, fun i => by go_simp, fun i => by go_simp, ⟨by go_simp, by go_simp⟩, by simp, by go_grown⟩
  case round =>
    obtain ⟨k, hk, rfl, ⟨s0, s1⟩, fs, fr, ⟨r0, r1⟩, hz, hB⟩ := hrel
    have z0 : w.heap.size < wr.heap.size := by omega
    have z1 : w.heap.size + 1 < wr.heap.size := by omega
    have zg : g < wr.heap.size := by omega
    by_cases hlt : k < n
    · obtain ⟨⟨p, q⟩, hp⟩ : ∃ x, l[k]? = some x := ⟨_, List.getElem?_eq_getElem (by rw [HN.out]; exact hlt)⟩
      obtain ⟨⟨c0, c1, c2, c3⟩, c4, c5, c6, c7⟩ := (H1.out.below hg hB) k p q hp
      have hm := HBD.out (p, q) (List.mem_of_getElem? hp)
      have hS := Lib.hid (show sumC (l.take (k + 1)) = sumC (l.take k) + p.cx q by
        rw [List.take_add_one, hp]; exact sumC_snoc _ _)
      have hb1 := (sumC_bd l HBD.out k (by rw [HN.out]; omega)).mono (m := 1000000000000000) (by omega)
      generalize sumC (l.take k) = S at *
      have TC := twiceCrossP p q (hm.1.mono (by omega)) (hm.2.mono (by omega))
      have PL := imSPlusQ S (p.cx q) (hb1.mono (by omega)) ((cx_bd (hm.1.mono (by omega)) (hm.2.mono (by omega))).mono (by omega))
      have j1 : (0 : Int) ≤ (k : Int) := by omega
      have j2 : (k : Int) < (n : Int) := by omega
      clear hp hm hb1
      go_wp2_with fail
      refine absW (F := fun W => (W.cell? ⟨w.heap.size + 1, 0, none⟩ = some (.int .i64 (S).x) ∧ W.cell? ⟨w.heap.size + 1, 1, none⟩ = some (.int .i64 (S).r)) ∧ (W.cell? ⟨wr.heap.size, 0, none⟩ = some (.int .i64 (p).a) ∧ W.cell? ⟨wr.heap.size, 1, none⟩ = some (.int .i64 (p).b) ∧ W.cell? ⟨wr.heap.size, 2, none⟩ = some (.int .i64 (p).c) ∧ W.cell? ⟨wr.heap.size, 3, none⟩ = some (.int .i64 (p).d)) ∧ (W.cell? ⟨wr.heap.size, 4, none⟩ = some (.int .i64 (q).a) ∧ W.cell? ⟨wr.heap.size, 5, none⟩ = some (.int .i64 (q).b) ∧ W.cell? ⟨wr.heap.size, 6, none⟩ = some (.int .i64 (q).c) ∧ W.cell? ⟨wr.heap.size, 7, none⟩ = some (.int .i64 (q).d)) ∧ (∀ i, W.frozen? ⟨w.heap.size + 1, i, none⟩ = false) ∧ (∀ i, W.frozen? ⟨w.heap.size, i, none⟩ = false) ∧ (W.cell? ⟨w.heap.size, 0, none⟩ = some (.int .i64 ((⟨0, 0⟩ : Su)).x) ∧ W.cell? ⟨w.heap.size, 1, none⟩ = some (.int .i64 ((⟨0, 0⟩ : Su)).r)) ∧ (wr.heap.size < W.heap.size) ∧ Below w.heap.size w W) ⟨⟨by go_simp, by go_simp⟩, ⟨by go_simp, by go_simp, by go_simp, by go_simp⟩, ⟨by go_simp, by go_simp, by go_simp, by go_simp⟩, fun i => by go_simp, fun i => by go_simp, ⟨by go_simp, by go_simp⟩, by simp, by go_grown⟩ ?_
      rintro W ⟨⟨cS_0, cS_1⟩, ⟨cC_0, cC_1, cC_2, cC_3⟩, ⟨cC_4, cC_5, cC_6, cC_7⟩, frS, frR, ⟨cR_0, cR_1⟩, hzW, HB⟩
      have kS_0 := fun d os => cell_regrown cS_0 d os
      have kS_1 := fun d os => cell_regrown cS_1 d os
      have kC_0 := fun d os => cell_regrown cC_0 d os
      have kC_1 := fun d os => cell_regrown cC_1 d os
      have kC_2 := fun d os => cell_regrown cC_2 d os
      have kC_3 := fun d os => cell_regrown cC_3 d os
      have kC_4 := fun d os => cell_regrown cC_4 d os
      have kC_5 := fun d os => cell_regrown cC_5 d os
      have kC_6 := fun d os => cell_regrown cC_6 d os
      have kC_7 := fun d os => cell_regrown cC_7 d os
      have kR_0 := fun d os => cell_regrown cR_0 d os
      have kR_1 := fun d os => cell_regrown cR_1 d os
      have y0 : w.heap.size < W.heap.size := by omega
      have y1 : w.heap.size + 1 < W.heap.size := by omega
      refine region_below_tail 7 (by kernel_rfl) (by kernel_rfl) ?_
      simp only [List.take_succ_cons, List.take_zero, List.drop_succ_cons, List.drop_zero]
      repeat (quiet_step (first | (go_at_call 109; with_reducible exact Calls.regrown_of (TC _)) | (go_at_call 119; with_reducible exact Calls.regrown_of (PL _))))
      refine wpQuiet_nil ?_
      rintro _ ⟨⟨dq, osq⟩, rfl⟩
      have hbw1 := below_regrown W dq osq
      generalize grow (redrawn W dq) osq = w1 at hbw1 ⊢
      obtain ⟨hcw1, hfw1⟩ := bcell hbw1
      have hlw1 := hbw1.size
      replace HB := ba HB hbw1
      have y0' : w.heap.size < w1.heap.size := by omega
      have y1' : w.heap.size + 1 < w1.heap.size := by omega
      go_wp2_with fail
      go_roundw
      case rel => exact ⟨k + 1, by omega, by go_num, by rw [hS.out]; exact ⟨by go_simp, by go_simp⟩, fun i => by go_simp, fun i => by go_simp, ⟨by go_simp, by go_simp⟩, by simp; omega, by go_grown⟩
      case measure => simp [intOf]; omega
    · have hkn : k = n := by omega
      have hr : l.take k = l := List.take_of_length_le (by rw [HN.out]; omega)
      rw [hr] at s0 s1
      go_wp2_with fail
      refine bodyPost_ret (by simp [results, Try.results66, go_sem, *]; try rfl) rfl ?_
      exact ⟨rfl, by go_grown⟩

/-- The sum over points, each with the one behind it, the last one with the first. -/
def ring (l : List Pn) : List (Pn × Pn) := (List.range l.length).map fun i => (l[i]!, l[(i + 1) % l.length]!)

set_option maxRecDepth 100000 in
set_option maxHeartbeats 1600000 in
theorem arPolygonP (g n cap : Nat) (l : List Pn) (hn : l.length = n) (hb : n ≤ 1000) (hbd : ∀ x ∈ l, Bd 100000 x) (w : World) (hg : g < w.heap.size) (h1 : RowP w g l) :
    Calls Try.prog 62 #[.slice (some ⟨g, 0, none⟩) n cap] w fun e w' => e = .returned (sv (sumC (ring l))) ∧ Below w.heap.size w w' := by
  have HN := Lib.hid hn
  have H1 := Lib.hid h1
  have HBD := Lib.hid hbd
  have HRL : (ring l).length = l.length := by simp [ring]
  have HRB : ∀ x ∈ ring l, Bd 100000 x.1 ∧ Bd 100000 x.2 := by
    intro x hx
    simp only [ring, List.mem_map, List.mem_range] at hx
    obtain ⟨i, hi, rfl⟩ := hx
    have hm : (i + 1) % l.length < l.length := Nat.mod_lt _ (by omega)
    exact ⟨hbd _ (by rw [getElem!_pos l i hi]; exact List.getElem_mem _), hbd _ (by rw [getElem!_pos l ((i + 1) % l.length) hm]; exact List.getElem_mem _)⟩
  clear hn h1 hbd
  go_enter Try.func62, Try.ntmps62
  go_wp2_with fail
  go_loopw [9] (fun i wr => ∃ k : Nat, k ≤ n ∧ i = .int .i64 k ∧ (wr.cell? ⟨w.heap.size + 1, 0, none⟩ = some (.int .i64 (sumC ((ring l).take k)).x) ∧ wr.cell? ⟨w.heap.size + 1, 1, none⟩ = some (.int .i64 (sumC ((ring l).take k)).r)) ∧ (∀ i, wr.frozen? ⟨w.heap.size + 1, i, none⟩ = false) ∧ (∀ i, wr.frozen? ⟨w.heap.size, i, none⟩ = false) ∧ (wr.cell? ⟨w.heap.size, 0, none⟩ = some (.int .i64 ((⟨0, 0⟩ : Su)).x) ∧ wr.cell? ⟨w.heap.size, 1, none⟩ = some (.int .i64 ((⟨0, 0⟩ : Su)).r)) ∧ w.heap.size + 2 ≤ wr.heap.size ∧ Below w.heap.size w wr) (fun i _ => n - (intOf i).toNat)
  case atStart => exact ⟨0, Nat.zero_le _, rfl, ⟨by rw [show (sumC (List.take 0 (ring l))).x = 0 by simp [sumC, Su.zero_x]]; go_simp, by rw [show (sumC (List.take 0 (ring l))).r = 0 by simp [sumC, Su.zero_r]]; go_simp⟩, fun i => by go_simp, fun i => by go_simp, ⟨by go_simp, by go_simp⟩, by simp, by go_grown⟩
  case round =>
    obtain ⟨k, hk, rfl, ⟨s0, s1⟩, fs, fr, ⟨r0, r1⟩, hz, hB⟩ := hrel
    have z0 : w.heap.size < wr.heap.size := by omega
    have z1 : w.heap.size + 1 < wr.heap.size := by omega
    have zg : g < wr.heap.size := by omega
    by_cases hlt : k < n
    · have hmod : (k + 1) % n < n := Nat.mod_lt _ (by omega)
      obtain ⟨p, hp⟩ : ∃ x, l[k]? = some x := ⟨_, List.getElem?_eq_getElem (by rw [HN.out]; exact hlt)⟩
      obtain ⟨q, hq⟩ : ∃ x, l[(k + 1) % n]? = some x := ⟨_, List.getElem?_eq_getElem (by rw [HN.out]; exact hmod)⟩
      have R := H1.out.below hg hB
      obtain ⟨c0, c1, c2, c3⟩ := R k p hp
      obtain ⟨d0, d1, d2, d3⟩ := R ((k + 1) % n) q hq
      have hrk : (ring l)[k]? = some (p, q) := by
        have e1 : l[k]! = p := by rw [getElem!_pos l k (by rw [HN.out]; exact hlt)]; exact (List.getElem?_eq_some_iff.1 hp).2
        have e2 : l[(k + 1) % l.length]! = q := by
          rw [HN.out, getElem!_pos l ((k + 1) % n) (by rw [HN.out]; exact hmod)]; exact (List.getElem?_eq_some_iff.1 hq).2
        simp only [ring, List.getElem?_map, List.getElem?_range (show k < l.length by rw [HN.out]; exact hlt), Option.map_some, e1, e2]
      have hm := HRB (p, q) (List.mem_of_getElem? hrk)
      have hS := Lib.hid (show sumC ((ring l).take (k + 1)) = sumC ((ring l).take k) + p.cx q by
        rw [List.take_add_one, hrk]; exact sumC_snoc _ _)
      have hb1 := (sumC_bd (ring l) HRB k (by rw [HRL, HN.out]; omega)).mono (m := 1000000000000000) (by omega)
      generalize sumC ((ring l).take k) = S at *
      have TC := arCrossP p q (hm.1.mono (by omega)) (hm.2.mono (by omega))
      have PL := spSumQ S (p.cx q) (hb1.mono (by omega)) ((cx_bd (hm.1.mono (by omega)) (hm.2.mono (by omega))).mono (by omega))
      have j1 : (0 : Int) ≤ (k : Int) := by omega
      have j2 : (k : Int) < (n : Int) := by omega
      have j3 : IntKind.i64.wrap ((k : Int) + 1) = (k : Int) + 1 := IntWalk.i64_in _ ⟨by omega, by omega⟩
      obtain ⟨m, hM⟩ : ∃ m, (k + 1) % n = m := ⟨_, rfl⟩
      have j4 : ((k : Int) + 1).tmod (n : Int) = (m : Int) := by rw [← hM, Int.tmod_eq_emod_of_nonneg (by omega)]; push_cast; rfl
      have j4' : ((k : Int) + 1) % (n : Int) = (m : Int) := by rw [← hM]; push_cast; rfl
      have j5 : IntKind.i64.wrap (m : Int) = (m : Int) := IntWalk.i64_in _ ⟨by omega, by omega⟩
      have j6 : (0 : Int) ≤ (m : Int) := by omega
      have j7 : (m : Int) < (n : Int) := by omega
      have j8 : ¬ (n : Int) = 0 := by omega
      have j9 : ¬ n = 0 := by omega
      rw [hM] at d0 d1 d2 d3
      clear hp hq hm hb1 R hrk hM
      have k0 := c0
      go_wp2_with fail
      refine absW (F := fun W => (W.cell? ⟨w.heap.size + 1, 0, none⟩ = some (.int .i64 (S).x) ∧ W.cell? ⟨w.heap.size + 1, 1, none⟩ = some (.int .i64 (S).r)) ∧ (W.cell? ⟨wr.heap.size, 0, none⟩ = some (.int .i64 (p).a) ∧ W.cell? ⟨wr.heap.size, 1, none⟩ = some (.int .i64 (p).b) ∧ W.cell? ⟨wr.heap.size, 2, none⟩ = some (.int .i64 (p).c) ∧ W.cell? ⟨wr.heap.size, 3, none⟩ = some (.int .i64 (p).d)) ∧ (∀ i, W.frozen? ⟨w.heap.size + 1, i, none⟩ = false) ∧ (∀ i, W.frozen? ⟨w.heap.size, i, none⟩ = false) ∧ (W.cell? ⟨w.heap.size, 0, none⟩ = some (.int .i64 ((⟨0, 0⟩ : Su)).x) ∧ W.cell? ⟨w.heap.size, 1, none⟩ = some (.int .i64 ((⟨0, 0⟩ : Su)).r)) ∧ (wr.heap.size < W.heap.size) ∧ (W.cell? ⟨g, m * 4, none⟩ = some (.int .i64 q.a)) ∧ (W.cell? ⟨g, m * 4 + 1, none⟩ = some (.int .i64 q.b)) ∧ (W.cell? ⟨g, m * 4 + 2, none⟩ = some (.int .i64 q.c)) ∧ (W.cell? ⟨g, m * 4 + 3, none⟩ = some (.int .i64 q.d)) ∧ Below w.heap.size w W) ⟨⟨by go_simp, by go_simp⟩, ⟨by go_simp, by go_simp, by go_simp, by go_simp⟩, fun i => by go_simp, fun i => by go_simp, ⟨by go_simp, by go_simp⟩, by simp, by go_simp, by go_simp, by go_simp, by go_simp, by go_grown⟩ ?_
      rintro W ⟨⟨cS_0, cS_1⟩, ⟨cC_0, cC_1, cC_2, cC_3⟩, frS, frR, ⟨cR_0, cR_1⟩, hzW, e0, e1, e2, e3, HB⟩
      have kS_0 := fun d os => cell_regrown cS_0 d os
      have kS_1 := fun d os => cell_regrown cS_1 d os
      have kC_0 := fun d os => cell_regrown cC_0 d os
      have kC_1 := fun d os => cell_regrown cC_1 d os
      have kC_2 := fun d os => cell_regrown cC_2 d os
      have kC_3 := fun d os => cell_regrown cC_3 d os
      have kR_0 := fun d os => cell_regrown cR_0 d os
      have kR_1 := fun d os => cell_regrown cR_1 d os
      have E0 := fun d os => cell_regrown e0 d os
      have E1 := fun d os => cell_regrown e1 d os
      have E2 := fun d os => cell_regrown e2 d os
      have E3 := fun d os => cell_regrown e3 d os
      have y0 : w.heap.size < W.heap.size := by omega
      have y1 : w.heap.size + 1 < W.heap.size := by omega
      refine region_below_tail 12 (by kernel_rfl) (by kernel_rfl) ?_
      simp only [List.take_succ_cons, List.take_zero, List.drop_succ_cons, List.drop_zero]
      repeat (quiet_step (first | (go_at_call 107; with_reducible exact Calls.regrown_of (TC _)) | (go_at_call 69; with_reducible exact Calls.regrown_of (PL _))))
      refine wpQuiet_nil ?_
      rintro _ ⟨⟨dq, osq⟩, rfl⟩
      have hbw1 := below_regrown W dq osq
      generalize grow (redrawn W dq) osq = w1 at hbw1 ⊢
      obtain ⟨hcw1, hfw1⟩ := bcell hbw1
      have hlw1 := hbw1.size
      replace HB := ba HB hbw1
      have y0' : w.heap.size < w1.heap.size := by omega
      have y1' : w.heap.size + 1 < w1.heap.size := by omega
      go_wp2_with fail
      go_roundw
      case rel => exact ⟨k + 1, by omega, by go_num, by rw [hS.out]; exact ⟨by go_simp, by go_simp⟩, fun i => by go_simp, fun i => by go_simp, ⟨by go_simp, by go_simp⟩, by simp; omega, by go_grown⟩
      case measure => simp [intOf]; omega
    · have hkn : k = n := by omega
      have hr : (ring l).take k = ring l := List.take_of_length_le (by rw [HRL, HN.out]; omega)
      rw [hr] at s0 s1
      go_wp2_with fail
      refine bodyPost_ret (by simp [results, Try.results62, go_sem, *]; try rfl) rfl ?_
      exact ⟨rfl, by go_grown⟩

end Go.Proofs.Ytppbbcckijcckaa

/- Contracts: the sign of a surd in the program, and that its draws add up; the program's order of surds and of places. -/
namespace Go.Proofs.Ytppbbcckijcckaa
open Go.ChangeShapes Go.WideShapes Go.ChangeAt Go.RowKit

set_option maxRecDepth 100000 in
set_option maxHeartbeats 3200000 in
theorem imSign_gr (s0 s1 : Int) (b0 : -4000000000000000 ≤ s0) (c0 : s0 ≤ 4000000000000000) (b1 : -4000000000000000 ≤ s1) (c1 : s1 ≤ 4000000000000000) (w : World) :
    Calls Try.prog 111 #[.agg #[.int .i64 s0, .int .i64 s1]] w fun e w' => e = .returned (.int .i64 (sgn2 s0 s1)) ∧ Below w.heap.size w w' ∧ w.drawn ≤ w'.drawn := by
  have L := lex (s0.natAbs * s0.natAbs) (2 * s1.natAbs * s1.natAbs)
  have hG := G1_abs s0 s1
  by_cases k1 : mh (2 * s1.natAbs) s1.natAbs < mh s0.natAbs s0.natAbs
  · have hg : G1 s0 s1 = true := by rw [hG]; exact decide_eq_true (L.1 (.inl k1))
    clear L hG
    go_enter Try.func111, Try.ntmps111
    go_wp2_with fail
    go_quiet ((go_at_call 144; exact Calls.quiet_of_same (turned (sizeOf_any _ (by omega) (by omega) _))))
    go_wp2_with (first | (go_at_call 145; (with_reducible refine (mul64_any s0.natAbs s0.natAbs (by omega) (by omega) _).mono ?_); rintro e w' ⟨rfl, rfl⟩) | (go_at_call 145; (with_reducible refine (mul64_two s1.natAbs (by omega) _).mono ?_); rintro e w' ⟨rfl, rfl⟩) | (go_at_call 146; (refine (compare_any _ _).mono ?_); rintro e w' ⟨rfl, rfl⟩))
    all_goals go_returns
    all_goals first | (exfalso; simp_all; done) | exact ⟨by simp [sgn2, hg], by ((repeat refine below_drewN ?_ _); go_grown; done), by first | exact Nat.le_add_right _ _ | (simp [World.drewN, World.alloc]; done)⟩
  by_cases k2 : mh s0.natAbs s0.natAbs = mh (2 * s1.natAbs) s1.natAbs
  · by_cases k3 : ml (2 * s1.natAbs) s1.natAbs < ml s0.natAbs s0.natAbs
    · have hg : G1 s0 s1 = true := by rw [hG]; exact decide_eq_true (L.1 (.inr ⟨k2, k3⟩))
      clear L hG
      go_enter Try.func111, Try.ntmps111
      go_wp2_with fail
      go_quiet ((go_at_call 144; exact Calls.quiet_of_same (turned (sizeOf_any _ (by omega) (by omega) _))))
      go_wp2_with (first | (go_at_call 145; (with_reducible refine (mul64_any s0.natAbs s0.natAbs (by omega) (by omega) _).mono ?_); rintro e w' ⟨rfl, rfl⟩) | (go_at_call 145; (with_reducible refine (mul64_two s1.natAbs (by omega) _).mono ?_); rintro e w' ⟨rfl, rfl⟩) | (go_at_call 146; (refine (compare_any _ _).mono ?_); rintro e w' ⟨rfl, rfl⟩))
      all_goals go_returns
      all_goals first | (exfalso; simp_all; done) | exact ⟨by simp [sgn2, hg], by ((repeat refine below_drewN ?_ _); go_grown; done), by first | exact Nat.le_add_right _ _ | (simp [World.drewN, World.alloc]; done)⟩
    · have hg : G1 s0 s1 = false := by rw [hG]; exact decide_eq_false (fun h => (L.2 h).elim k1 (fun h => k3 h.2))
      clear L hG
      go_enter Try.func111, Try.ntmps111
      go_wp2_with fail
      go_quiet ((go_at_call 144; exact Calls.quiet_of_same (turned (sizeOf_any _ (by omega) (by omega) _))))
      go_wp2_with (first | (go_at_call 145; (with_reducible refine (mul64_any s0.natAbs s0.natAbs (by omega) (by omega) _).mono ?_); rintro e w' ⟨rfl, rfl⟩) | (go_at_call 145; (with_reducible refine (mul64_two s1.natAbs (by omega) _).mono ?_); rintro e w' ⟨rfl, rfl⟩) | (go_at_call 146; (refine (compare_any _ _).mono ?_); rintro e w' ⟨rfl, rfl⟩))
      all_goals go_returns
      all_goals first | (exfalso; simp_all; done) | exact ⟨by simp [sgn2, hg], by ((repeat refine below_drewN ?_ _); go_grown; done), by first | exact Nat.le_add_right _ _ | (simp [World.drewN, World.alloc]; done)⟩
  · have hg : G1 s0 s1 = false := by rw [hG]; exact decide_eq_false (fun h => (L.2 h).elim k1 (fun h => k2 h.1))
    clear L hG
    go_enter Try.func111, Try.ntmps111
    go_wp2_with fail
    go_quiet ((go_at_call 144; exact Calls.quiet_of_same (turned (sizeOf_any _ (by omega) (by omega) _))))
    go_wp2_with (first | (go_at_call 145; (with_reducible refine (mul64_any s0.natAbs s0.natAbs (by omega) (by omega) _).mono ?_); rintro e w' ⟨rfl, rfl⟩) | (go_at_call 145; (with_reducible refine (mul64_two s1.natAbs (by omega) _).mono ?_); rintro e w' ⟨rfl, rfl⟩) | (go_at_call 146; (refine (compare_any _ _).mono ?_); rintro e w' ⟨rfl, rfl⟩))
    all_goals go_returns
    all_goals first | (exfalso; simp_all; done) | exact ⟨by simp [sgn2, hg], by ((repeat refine below_drewN ?_ _); go_grown; done), by first | exact Nat.le_add_right _ _ | (simp [World.drewN, World.alloc]; done)⟩

end Go.Proofs.Ytppbbcckijcckaa

/- Contracts: the program's order of surds and of places, and that their draws add up. -/
namespace Go.Proofs.Ytppbbcckijcckaa
open Go.ChangeShapes Go.WideShapes Go.ChangeAt Go.RowKit Go.Sort

set_option linter.unusedVariables false
set_option linter.unusedSimpArgs false

/-- w' is w with some draws and some blocks laid behind. -/
theorem gr_of {w w' : World} (h : Below w.heap.size w w') (k : w.drawn ≤ w'.drawn) : ∃ q os, w' = grow (w.drewN q) os := by
  obtain ⟨⟨d, os⟩, hp⟩ := regrown_of_below h
  have hd : w'.drawn = d := by rw [hp]; rfl
  refine ⟨d - w.drawn, os, ?_⟩
  rw [hp]
  have : d = w.drawn + (d - w.drawn) := by omega
  show grow (redrawn w d) os = grow (redrawn w (w.drawn + (d - w.drawn))) os
  rw [← this]

theorem below_gr' {w : World} (n : Nat) (os : Array Obj) : Below w.heap.size w (grow (w.drewN n) os) := below_regrown w (w.drawn + n) os

/-- A callee's contract, met in a world of the class. -/
theorem grown_of' {P : Program} {f : FuncId} {args : Array Value} {w : World} {n : Nat} {os : Array Obj} {v : Value}
    (h : Calls P f args (grow (w.drewN n) os) fun e w' => e = .returned v ∧ Below (grow (w.drewN n) os).heap.size (grow (w.drewN n) os) w' ∧ (grow (w.drewN n) os).drawn ≤ w'.drawn) : Calls P f args (grow (w.drewN n) os) fun e w'' => e = .returned v ∧ ∃ p : GrownBy, w'' = grow (w.drewN p.n) p.os :=
  Calls.grown_of (h.mono fun _ _ ⟨he, hb, hd⟩ => ⟨he, gr_of hb hd⟩)

theorem cell_grownc {w : World} {a : Addr} {v : Value} (h : w.cell? a = some v) (n : Nat) (os : Array Obj) : (grow (w.drewN n) os).cell? a = some v := cell_grown (block_lt_of_cell h) h n os

theorem region_grown_tail {P : Program} {id : Nat} {Q : Exit → Act → World → Prop} {a : Act} {w : World} {l : List Oper} (n : Nat) (hm : P.follows .mixedOrders = true) (hB : Region.lexTailB .any l.toArray n = true)
    (h : wpQuiet P l.toArray (fun w' => ∃ p : GrownBy, w' = grow (w.drewN p.n) p.os) (fun a' => ∀ w', (∃ p : GrownBy, w' = grow (w.drewN p.n) p.os) → wpList P l.toArray Q (l.drop n) a' w') (l.take n) a) : (Code.region id l.toArray true).wp P Q a w :=
  region_quiet_tail n hm hB ⟨⟨1, #[]⟩, by rw [grow_empty]; rfl⟩ h

set_option maxRecDepth 100000 in
theorem imXG (p : Pn) (h : Bd 1000000000000000000 p) (w : World) : Calls Try.prog 76 #[pv p] w fun e w' => e = .returned (sv p.tx) ∧ Below w.heap.size w w' ∧ w.drawn ≤ w'.drawn := by
  have e1 := (w64X h).1; have e2 := (w64X h).2
  go_enter Try.func76, Try.ntmps76
  go_wp2
  go_returns
  exact ⟨by simp [Pn.tx, *], by go_grown, Nat.le_refl _⟩

set_option maxRecDepth 100000 in
theorem imYG (p : Pn) (h : Bd 1000000000000000000 p) (w : World) : Calls Try.prog 78 #[pv p] w fun e w' => e = .returned (sv p.ty) ∧ Below w.heap.size w w' ∧ w.drawn ≤ w'.drawn := by
  have e1 := (w64Y h).1; have e2 := (w64Y h).2
  go_enter Try.func78, Try.ntmps78
  go_wp2
  go_returns
  exact ⟨by simp [Pn.ty, *], by go_grown, Nat.le_refl _⟩

theorem sub_w64 {n : Int} {s t : Su} (h : Bs n s) (k : Bs n t) (hn : n ≤ 4000000000000000000) : wrap64 (s.x - t.x) = (s - t).x ∧ wrap64 (s.r - t.r) = (s - t).r := by
  unfold Bs at h k
  exact ⟨w64p _ (by omega) (by omega), w64p _ (by omega) (by omega)⟩

set_option maxRecDepth 100000 in
theorem imSuLess (s t : Su) (h : Bs 4000000000000000000 s) (k : Bs 4000000000000000000 t) (w : World) : Calls Try.prog 71 #[sv s, sv t] w fun e w' => e = .returned (sv (s - t)) ∧ Below w.heap.size w w' ∧ w.drawn ≤ w'.drawn := by
  obtain ⟨e1, e2⟩ := sub_w64 h k (by omega)
  go_enter Try.func71, Try.ntmps71
  go_wp2
  go_returns
  exact ⟨by simp [*], by go_grown, Nat.le_refl _⟩

theorem Bs.sub_bd {n : Int} {s t : Su} (h : Bs n s) (k : Bs n t) : Bs (2 * n) (s - t) := by
  unfold Bs at *
  rw [Su.sub_x, Su.sub_r]; omega

set_option maxRecDepth 100000 in
theorem imCmpG (s t : Su) (h : Bs 2000000000000000 s) (k : Bs 2000000000000000 t) (w : World) : Calls Try.prog 99 #[sv s, sv t] w fun e w' => e = .returned (.int .i64 (s - t).sn) ∧ Below w.heap.size w w' ∧ w.drawn ≤ w'.drawn := by
  have hb : (-4000000000000000 ≤ (s - t).x ∧ (s - t).x ≤ 4000000000000000) ∧ (-4000000000000000 ≤ (s - t).r ∧ (s - t).r ≤ 4000000000000000) := h.sub_bd k
  go_enter Try.func99, Try.ntmps99
  go_wp2_with fail
  (go_at_call 71; (with_reducible refine (imSuLess s t (h.mono (by omega)) (k.mono (by omega)) _).mono ?_); rintro e wA ⟨rfl, h1, d1⟩; have hB : Below w.heap.size w wA := ba (by go_grown) h1; have hdA : w.drawn ≤ wA.drawn := d1)
  go_wp2_with fail
  (go_at_call 111; (with_reducible refine (imSign_gr (s - t).x (s - t).r hb.1.1 hb.1.2 hb.2.1 hb.2.2 _).mono ?_); rintro e wB ⟨rfl, h2, d2⟩; have hB2 : Below w.heap.size w wB := ba hB h2; have hdB : w.drawn ≤ wB.drawn := Nat.le_trans hdA d2)
  go_wp2_with fail
  go_returns
  exact ⟨rfl, hB2, hdB⟩

def orI (x y : Int) : Int := if x = 0 then y else x

set_option maxRecDepth 100000 in
theorem orP (x y : Int) (g : Nat) (w : World) (h0 : w.cell? ⟨g, 0, none⟩ = some (.int .i64 x)) (h1 : w.cell? ⟨g, 1, none⟩ = some (.int .i64 y)) :
    Calls Try.prog 131 #[.slice (some ⟨g, 0, none⟩) 2 2] w fun e w' => e = .returned (.int .i64 (orI x y)) ∧ w = w' := by
  by_cases hx : x = 0
  · subst hx
    by_cases hy : y = 0
    · subst hy
      go_enter Try.func131, Try.ntmps131
      go_wp2_with fail
      refine wp_loop_rounds 3 ?_
      repeat any_goals (rw [rounds_succ]; go_wp2_with fail)
      all_goals go_ret
      all_goals exact ⟨rfl, rfl⟩
    · go_enter Try.func131, Try.ntmps131
      go_wp2_with fail
      refine wp_loop_rounds 3 ?_
      repeat any_goals (rw [rounds_succ]; go_wp2_with fail)
      all_goals go_ret
      all_goals exact ⟨by simp [orI, hy], rfl⟩
  · go_enter Try.func131, Try.ntmps131
    go_wp2_with fail
    refine wp_loop_rounds 3 ?_
    repeat any_goals (rw [rounds_succ]; go_wp2_with fail)
    all_goals go_ret
    all_goals exact ⟨by simp [orI, hx], rfl⟩

/-- The program's order of places. -/
def cmpP (p q : Pn) : Int := orI (p.tx - q.tx).sn (p.ty - q.ty).sn

set_option maxRecDepth 100000 in
set_option maxHeartbeats 800000 in
theorem placesG (p q : Pn) (hp : Bd 100000 p) (hq : Bd 100000 q) (w : World) : Calls Try.prog 90 #[pv p, pv q] w fun e w' => e = .returned (.int .i64 (cmpP p q)) ∧ Below w.heap.size w w' ∧ w.drawn ≤ w'.drawn := by
  have HX := imCmpG p.tx q.tx (hp.tx_bd.mono (by omega)) (hq.tx_bd.mono (by omega))
  have HY := imCmpG p.ty q.ty (hp.ty_bd.mono (by omega)) (hq.ty_bd.mono (by omega))
  unfold cmpP
  generalize (p.tx - q.tx).sn = x at *
  generalize (p.ty - q.ty).sn = y at *
  go_enter Try.func90, Try.ntmps90
  go_wp2_with fail
  refine absW (F := fun W => (W.cell? ⟨w.heap.size, 0, none⟩ = some (.int .i64 (p).a) ∧ W.cell? ⟨w.heap.size, 1, none⟩ = some (.int .i64 (p).b) ∧ W.cell? ⟨w.heap.size, 2, none⟩ = some (.int .i64 (p).c) ∧ W.cell? ⟨w.heap.size, 3, none⟩ = some (.int .i64 (p).d)) ∧ (W.cell? ⟨w.heap.size + 1, 0, none⟩ = some (.int .i64 (q).a) ∧ W.cell? ⟨w.heap.size + 1, 1, none⟩ = some (.int .i64 (q).b) ∧ W.cell? ⟨w.heap.size + 1, 2, none⟩ = some (.int .i64 (q).c) ∧ W.cell? ⟨w.heap.size + 1, 3, none⟩ = some (.int .i64 (q).d)) ∧ Below w.heap.size w W ∧ W.heap.size = w.heap.size + 1 + 1 ∧ w.drawn ≤ W.drawn) ⟨⟨by go_simp, by go_simp, by go_simp, by go_simp⟩, ⟨by go_simp, by go_simp, by go_simp, by go_simp⟩, by go_grown, by first | (simp; done) | (simp; omega), by first | exact Nat.le_refl _ | (simp [World.drewN]; done) | omega⟩ ?_
  rintro W ⟨⟨c0_0, c0_1, c0_2, c0_3⟩, ⟨c1_0, c1_1, c1_2, c1_3⟩, HB, hz, HD⟩
  have k0_0 := fun d os => cell_grownc c0_0 d os
  have k0_1 := fun d os => cell_grownc c0_1 d os
  have k0_2 := fun d os => cell_grownc c0_2 d os
  have k0_3 := fun d os => cell_grownc c0_3 d os
  have k1_0 := fun d os => cell_grownc c1_0 d os
  have k1_1 := fun d os => cell_grownc c1_1 d os
  have k1_2 := fun d os => cell_grownc c1_2 d os
  have k1_3 := fun d os => cell_grownc c1_3 d os
  refine region_grown_tail 10 (by kernel_rfl) (by kernel_rfl) ?_
  simp only [List.take_succ_cons, List.take_zero, List.drop_succ_cons, List.drop_zero]
  repeat (quiet_step (first | (go_at_call 76; with_reducible exact grown_of' (imXG p (hp.mono (by omega)) _)) | (go_at_call 76; with_reducible exact grown_of' (imXG q (hq.mono (by omega)) _)) | (go_at_call 78; with_reducible exact grown_of' (imYG p (hp.mono (by omega)) _)) | (go_at_call 78; with_reducible exact grown_of' (imYG q (hq.mono (by omega)) _)) | (go_at_call 99; with_reducible exact grown_of' (HX _)) | (go_at_call 99; with_reducible exact grown_of' (HY _))))
  refine wpQuiet_nil ?_
  rintro _ ⟨⟨nq, osq⟩, rfl⟩
  have hbw1 := below_gr' (w := W) nq osq
  have hdw1 : W.drawn ≤ (grow (W.drewN nq) osq).drawn := Nat.le_add_right _ _
  generalize grow (W.drewN nq) osq = w1 at hbw1 hdw1 ⊢
  obtain ⟨hcw1, hfw1⟩ := bcell hbw1
  have hlw1 := hbw1.size
  replace HB := ba HB hbw1
  replace HD := Nat.le_trans HD hdw1
  go_wp2_with (go_at_call 131; (with_reducible refine (orP x y _ _ (by go_simp) (by go_simp)).mono ?_); rintro e w2 ⟨rfl, rfl⟩)
  go_returns
  exact ⟨rfl, by go_grown, by first | exact HD | (simp; done)⟩

/-- The order: p comes before q. -/
theorem cmpP_lt (p q : Pn) : cmpP p q < 0 ↔ Pn.ltd true p q := by
  have ex : p.tx - q.tx = -(Pn.vec p q).X := by apply Su.ext' <;> simp only [Pn.vec, Pn.tx, Su.sub_x, Su.sub_r, Su.neg_x, Su.neg_r] <;> omega
  have ey : p.ty - q.ty = -(Pn.vec p q).Y := by apply Su.ext' <;> simp only [Pn.vec, Pn.ty, Su.sub_x, Su.sub_r, Su.neg_x, Su.neg_r] <;> omega
  unfold cmpP orI Pn.ltd Pn.vd Ve.lx
  rw [ex, ey, cond_true, Su.sn_of_neg, Su.sn_of_neg, ← Su.sn_pos, ← Su.sn_pos, ← Su.sn_zero]
  split <;> omega

end Go.Proofs.Ytppbbcckijcckaa

/- Contracts: how often a chord passes a point, in the program. -/
namespace Go.Proofs.Ytppbbcckijcckaa
open Go.ChangeShapes Go.WideShapes Go.ChangeAt Go.RowKit Go.Sort

set_option linter.unusedVariables false
set_option linter.unusedSimpArgs false

theorem tfP (p : Prop) : p = True ∨ p = False := by
  by_cases h : p
  · exact .inl (eq_true h)
  · exact .inr (eq_false h)

/-- a is no farther to the north than p. -/
def lowB (a p : Pn) : Bool := decide ((a.ty - p.ty).sn ≤ 0)

def passI (a b p : Pn) : Int := cond (lowB a p && !lowB b p) (max (Pn.sd a b p) 0) (cond (!lowB a p && lowB b p) (min (Pn.sd a b p) 0) 0)

theorem imCmpQ (s t : Su) (h : Bs 2000000000000000 s) (k : Bs 2000000000000000 t) (w : World) : Calls Try.prog 99 #[sv s, sv t] w fun e w' => e = .returned (.int .i64 (s - t).sn) ∧ Below w.heap.size w w' :=
  (imCmpG s t h k w).mono fun _ _ ⟨h1, h2, _⟩ => ⟨h1, h2⟩

set_option maxRecDepth 100000 in
set_option maxHeartbeats 1600000 in
theorem passingP (a b p : Pn) (ha : Bd 100000 a) (hb : Bd 100000 b) (hp : Bd 100000 p) (w : World) :
    Calls Try.prog 84 #[cv a b, pv p] w fun e w' => e = .returned (.int .i64 (passI a b p)) ∧ Below w.heap.size w w' := by
  have YA := imYP a (ha.mono (by omega))
  have YB := imYP b (hb.mono (by omega))
  have YP := imYP p (hp.mono (by omega))
  have CA := imCmpQ a.ty p.ty (ha.ty_bd.mono (by omega)) (hp.ty_bd.mono (by omega))
  have CB := imCmpQ b.ty p.ty (hb.ty_bd.mono (by omega)) (hp.ty_bd.mono (by omega))
  have SD := sideP a b p ha hb hp
  have e0 : passI a b p = cond (lowB a p && !lowB b p) (max (Pn.sd a b p) 0) (cond (!lowB a p && lowB b p) (min (Pn.sd a b p) 0) 0) := rfl
  have E0 := Lib.hid e0
  have l1 : lowB a p = decide ((a.ty - p.ty).sn ≤ 0) := rfl
  have l2 : lowB b p = decide ((b.ty - p.ty).sn ≤ 0) := rfl
  have s3 := sd_three a b p
  generalize passI a b p = R at *
  generalize (a.ty - p.ty).sn = x at *
  generalize (b.ty - p.ty).sn = y at *
  generalize Pn.sd a b p = z at *
  clear e0
  go_enter Try.func84, Try.ntmps84
  go_wp2_with fail
  (go_at_call 78; (with_reducible refine (YP _).mono ?_); rintro e wA ⟨rfl, h1⟩; (try with_reducible replace h1 := undrew h1); have hB : Below w.heap.size w wA := ba (by go_grown) h1; obtain ⟨hcwA, hfwA⟩ := bcell h1; have hqwA := h1.size; (try simp at hqwA); (try have hz0wA : w.heap.size < wA.heap.size := (by omega)); (try have he0wA : w.heap.size ≤ wA.heap.size := (by omega)); (try have hz1wA : w.heap.size + 1 < wA.heap.size := (by omega)); (try have he1wA : w.heap.size + 1 ≤ wA.heap.size := (by omega)))
  go_wp2_with fail
  refine absW (F := fun W => (W.cell? ⟨w.heap.size, 0, none⟩ = some (.int .i64 (a).a) ∧ W.cell? ⟨w.heap.size, 1, none⟩ = some (.int .i64 (a).b) ∧ W.cell? ⟨w.heap.size, 2, none⟩ = some (.int .i64 (a).c) ∧ W.cell? ⟨w.heap.size, 3, none⟩ = some (.int .i64 (a).d)) ∧ (W.cell? ⟨w.heap.size, 4, none⟩ = some (.int .i64 (b).a) ∧ W.cell? ⟨w.heap.size, 5, none⟩ = some (.int .i64 (b).b) ∧ W.cell? ⟨w.heap.size, 6, none⟩ = some (.int .i64 (b).c) ∧ W.cell? ⟨w.heap.size, 7, none⟩ = some (.int .i64 (b).d)) ∧ (W.cell? ⟨w.heap.size + 1, 0, none⟩ = some (.int .i64 (p).a) ∧ W.cell? ⟨w.heap.size + 1, 1, none⟩ = some (.int .i64 (p).b) ∧ W.cell? ⟨w.heap.size + 1, 2, none⟩ = some (.int .i64 (p).c) ∧ W.cell? ⟨w.heap.size + 1, 3, none⟩ = some (.int .i64 (p).d)) ∧ (W.cell? ⟨wA.heap.size, 0, none⟩ = some (.int .i64 (p.ty).x) ∧ W.cell? ⟨wA.heap.size, 1, none⟩ = some (.int .i64 (p.ty).r)) ∧ (wA.heap.size < W.heap.size) ∧ Below w.heap.size w W) ⟨⟨by go_simp, by go_simp, by go_simp, by go_simp⟩, ⟨by go_simp, by go_simp, by go_simp, by go_simp⟩, ⟨by go_simp, by go_simp, by go_simp, by go_simp⟩, ⟨by go_simp, by go_simp⟩, by simp, by go_grown⟩ ?_
  rintro W ⟨⟨c0_0, c0_1, c0_2, c0_3⟩, ⟨c0_4, c0_5, c0_6, c0_7⟩, ⟨c1_0, c1_1, c1_2, c1_3⟩, ⟨cH_0, cH_1⟩, hzW, HB⟩
  have k0_0 := fun d os => cell_regrown c0_0 d os
  have k0_1 := fun d os => cell_regrown c0_1 d os
  have k0_2 := fun d os => cell_regrown c0_2 d os
  have k0_3 := fun d os => cell_regrown c0_3 d os
  have k0_4 := fun d os => cell_regrown c0_4 d os
  have k0_5 := fun d os => cell_regrown c0_5 d os
  have k0_6 := fun d os => cell_regrown c0_6 d os
  have k0_7 := fun d os => cell_regrown c0_7 d os
  have k1_0 := fun d os => cell_regrown c1_0 d os
  have k1_1 := fun d os => cell_regrown c1_1 d os
  have k1_2 := fun d os => cell_regrown c1_2 d os
  have k1_3 := fun d os => cell_regrown c1_3 d os
  have kH_0 := fun d os => cell_regrown cH_0 d os
  have kH_1 := fun d os => cell_regrown cH_1 d os
  have v0 : w.heap.size < W.heap.size := by omega
  have v1 : w.heap.size + 1 < W.heap.size := by omega
  refine wp_region_quiet_below (by kernel_rfl) (by kernel_rfl) ?_
  repeat (quiet_step (first | (go_at_call 78; with_reducible exact Calls.regrown_of (YA _)) | (go_at_call 99; with_reducible exact Calls.regrown_of (CA _))))
  refine wpQuiet_nil ?_
  rintro _ ⟨⟨dq, osq⟩, rfl⟩
  have hbw1 := below_regrown W dq osq
  generalize grow (redrawn W dq) osq = w1 at hbw1 ⊢
  obtain ⟨hcw1, hfw1⟩ := bcell hbw1
  have hlw1 := hbw1.size
  replace HB := ba HB hbw1
  go_wp2_with fail
  refine absW (F := fun X => (X.cell? ⟨w.heap.size, 0, none⟩ = some (.int .i64 (a).a) ∧ X.cell? ⟨w.heap.size, 1, none⟩ = some (.int .i64 (a).b) ∧ X.cell? ⟨w.heap.size, 2, none⟩ = some (.int .i64 (a).c) ∧ X.cell? ⟨w.heap.size, 3, none⟩ = some (.int .i64 (a).d)) ∧ (X.cell? ⟨w.heap.size, 4, none⟩ = some (.int .i64 (b).a) ∧ X.cell? ⟨w.heap.size, 5, none⟩ = some (.int .i64 (b).b) ∧ X.cell? ⟨w.heap.size, 6, none⟩ = some (.int .i64 (b).c) ∧ X.cell? ⟨w.heap.size, 7, none⟩ = some (.int .i64 (b).d)) ∧ (X.cell? ⟨w.heap.size + 1, 0, none⟩ = some (.int .i64 (p).a) ∧ X.cell? ⟨w.heap.size + 1, 1, none⟩ = some (.int .i64 (p).b) ∧ X.cell? ⟨w.heap.size + 1, 2, none⟩ = some (.int .i64 (p).c) ∧ X.cell? ⟨w.heap.size + 1, 3, none⟩ = some (.int .i64 (p).d)) ∧ (X.cell? ⟨wA.heap.size, 0, none⟩ = some (.int .i64 (p.ty).x) ∧ X.cell? ⟨wA.heap.size, 1, none⟩ = some (.int .i64 (p.ty).r)) ∧ (wA.heap.size < X.heap.size) ∧ Below w.heap.size w X) ⟨⟨by go_simp, by go_simp, by go_simp, by go_simp⟩, ⟨by go_simp, by go_simp, by go_simp, by go_simp⟩, ⟨by go_simp, by go_simp, by go_simp, by go_simp⟩, ⟨by go_simp, by go_simp⟩, by omega, by go_grown⟩ ?_
  rintro X ⟨⟨c0_0, c0_1, c0_2, c0_3⟩, ⟨c0_4, c0_5, c0_6, c0_7⟩, ⟨c1_0, c1_1, c1_2, c1_3⟩, ⟨cH_0, cH_1⟩, hzX, HB⟩
  have k0_0 := fun d os => cell_regrown c0_0 d os
  have k0_1 := fun d os => cell_regrown c0_1 d os
  have k0_2 := fun d os => cell_regrown c0_2 d os
  have k0_3 := fun d os => cell_regrown c0_3 d os
  have k0_4 := fun d os => cell_regrown c0_4 d os
  have k0_5 := fun d os => cell_regrown c0_5 d os
  have k0_6 := fun d os => cell_regrown c0_6 d os
  have k0_7 := fun d os => cell_regrown c0_7 d os
  have k1_0 := fun d os => cell_regrown c1_0 d os
  have k1_1 := fun d os => cell_regrown c1_1 d os
  have k1_2 := fun d os => cell_regrown c1_2 d os
  have k1_3 := fun d os => cell_regrown c1_3 d os
  have kH_0 := fun d os => cell_regrown cH_0 d os
  have kH_1 := fun d os => cell_regrown cH_1 d os
  have y0 : w.heap.size < X.heap.size := by omega
  have y1 : w.heap.size + 1 < X.heap.size := by omega
  refine wp_region_quiet_below (by kernel_rfl) (by kernel_rfl) ?_
  repeat (quiet_step (first | (go_at_call 78; with_reducible exact Calls.regrown_of (YB _)) | (go_at_call 99; with_reducible exact Calls.regrown_of (CB _))))
  refine wpQuiet_nil ?_
  rintro _ ⟨⟨dq, osq⟩, rfl⟩
  have hbw2 := below_regrown X dq osq
  generalize grow (redrawn X dq) osq = w2 at hbw2 ⊢
  obtain ⟨hcw2, hfw2⟩ := bcell hbw2
  have hlw2 := hbw2.size
  replace HB := ba HB hbw2
  have u0 : w.heap.size < w2.heap.size := by omega
  have u1 : w.heap.size + 1 < w2.heap.size := by omega
  go_wp2_with fail
  (go_at_call 56; (with_reducible refine (SD _).mono ?_); rintro e wC ⟨rfl, h1⟩; (try with_reducible replace h1 := undrew h1); have hB : Below w.heap.size w wC := ba (by go_grown) h1; obtain ⟨hcwC, hfwC⟩ := bcell h1; have hqwC := h1.size; (try simp at hqwC); (try have hz0wC : w.heap.size < wC.heap.size := (by omega)); (try have he0wC : w.heap.size ≤ wC.heap.size := (by omega)); (try have hz1wC : w.heap.size + 1 < wC.heap.size := (by omega)); (try have he1wC : w.heap.size + 1 ≤ wC.heap.size := (by omega)))
  clear hcwA hfwA hcwC hfwC
  have ex := tfP (x ≤ 0)
  have ey := tfP (y ≤ 0)
  rcases ex with hx | hx <;> rcases ey with hy | hy
  all_goals
    go_wp2_with fail
    go_returns
    exact ⟨by rw [E0.out, l1, l2]; simp only [hx, hy, decide_true, decide_false, Bool.not_true, Bool.not_false, Bool.and_true, Bool.and_false, Bool.true_and, Bool.false_and, cond_true, cond_false]; rfl, by go_grown⟩

end Go.Proofs.Ytppbbcckijcckaa

/- Contract: the library's slices.SortFunc at places; what is sorted. -/
namespace Go.Proofs.Ytppbbcckijcckaa
open Go.ChangeShapes Go.WideShapes Go.ChangeAt Go.RowKit Go.Lib

set_option linter.unusedVariables false
set_option linter.unusedSimpArgs false

set_option linter.unusedVariables false

/-- A place: a point whose numbers are not too great. -/
def Pl : Type := { p : Pn // Bd 100000 p }

instance : Inhabited Pl := ⟨⟨⟨0, 0, 0, 0⟩, by unfold Bd; simp⟩⟩

def encP (x : Pl) : List Value := [.int .i64 x.1.a, .int .i64 x.1.b, .int .i64 x.1.c, .int .i64 x.1.d]

theorem encP_len (x : Pl) : (encP x).length = 4 := rfl

theorem encP_one (x : Pl) : ∀ v ∈ encP x, v.oneCell' = true := by
  intro v hv
  simp only [encP, List.mem_cons, List.not_mem_nil, or_false] at hv
  rcases hv with rfl | rfl | rfl | rfl <;> rfl

def cfP (x y : Pl) : Int := cmpP x.1 y.1
noncomputable def ltdB (p q : Pn) : Bool := open Classical in decide (Pn.ltd true p q)

theorem ltP (x y : Pl) : ltOf cfP x y = true ↔ Pn.ltd true x.1 y.1 := by
  rw [← cmpP_lt]
  unfold ltOf cfP
  exact decide_eq_true_iff

theorem ltP_no (x y : Pl) : ltOf cfP x y = false ↔ ¬ Pn.ltd true x.1 y.1 := by
  rw [← ltP, Bool.not_eq_true]

theorem swoP : Sort.SWO (ltOf cfP) where
  irrefl x := (ltP_no x x).2 fun h => Pn.ltd_ne h rfl
  trans x y z h1 h2 := (ltP x z).2 (Pn.ltd_trans ((ltP x y).1 h1) ((ltP y z).1 h2))
  ntrans x y z h1 h2 := (ltP_no x z).2 fun h => by
    have a := (ltP_no x y).1 h1
    have b := (ltP_no y z).1 h2
    rcases Pn.ltd_tri true x.1 y.1 with g | g | g
    · exact a g
    · rw [g] at h; exact b h
    · exact b (Pn.ltd_trans g h)

theorem totP (x y : Pl) (h1 : ltOf cfP x y = false) (h2 : ltOf cfP y x = false) : x = y := by
  have a := (ltP_no x y).1 h1
  have b := (ltP_no y x).1 h2
  rcases Pn.ltd_tri true x.1 y.1 with g | g | g
  · exact absurd g a
  · exact Subtype.ext g
  · exact absurd g b

/-- y does not come before x. -/
def leP (x y : Pl) : Prop := ¬ Pn.ltd true y.1 x.1

def srtP (l : List Pl) : List Pl := l.mergeSort fun x y => !(ltOf cfP) y x

theorem srtP_perm (l : List Pl) : (srtP l).Perm l := List.mergeSort_perm _ _

theorem srtP_sorted (l : List Pl) : (srtP l).Pairwise leP := by
  have hS := swoP
  have := List.pairwise_mergeSort (le := fun x y => !(ltOf cfP) y x) (fun a b c h1 h2 => by
    simp only [Bool.not_eq_true'] at h1 h2 ⊢
    exact hS.ntrans _ _ _ h2 h1) (fun a b => by
      cases h1 : ltOf cfP b a with
      | false => simp
      | true =>
        have : ltOf cfP a b = false := by
          cases h2 : ltOf cfP a b with
          | false => rfl
          | true => have := hS.trans _ _ _ h1 h2; rw [hS.irrefl] at this; cases this
        simp [this]) l
  exact this.imp fun h => (ltP_no _ _).1 (by simpa using h)

/-- A sorted arrangement is the sorted one. -/
theorem srtP_eq {l m : List Pl} (hp : m.Perm l) : m = srtP l ↔ m.Pairwise leP := by
  constructor
  · intro h; rw [h]; exact srtP_sorted l
  · intro h
    have anti : ∀ a b : Pl, a ∈ m → b ∈ srtP l → leP a b → leP b a → a = b := fun a b _ _ h1 h2 => totP a b ((ltP_no a b).2 h2) ((ltP_no b a).2 h1)
    exact List.Perm.eq_of_pairwise anti h (srtP_sorted l) (hp.trans (srtP_perm l).symm)

def HoldsP (W : World) (g : Nat) (l : List Pl) : Prop := Sort.HoldsK encP 4 W g 0 l.toArray

theorem HoldsP.rowP {W : World} {g : Nat} {l : List Pl} (h : HoldsP W g l) : RowP W g (l.map (·.1)) := fun k p hp => by
  rw [List.getElem?_map] at hp
  obtain ⟨x, hx, rfl⟩ := Option.map_eq_some_iff.1 hp
  have hk : k < l.toArray.size := by simpa using (List.getElem?_eq_some_iff.1 hx).1
  have e : l.toArray[k]! = x := by
    rw [getElem!_pos l.toArray k hk]
    have := (List.getElem?_eq_some_iff.1 hx).2
    simpa using this
  have c : ∀ (i : Nat) (v : Value), (encP x)[i]? = some v → W.cell? ⟨g, k * 4 + i, none⟩ = some v := fun i v hv => by
    have hv' : (encP l.toArray[k]!)[i]? = some v := by rw [e]; exact hv
    have h' : Sort.HoldsK encP 4 W g 0 l.toArray := h
    have := HoldsK.cells (enc := encP) (k := 4) (d := l.toArray) (i := k) h' encP_len hk i v hv'
    rw [Addr.add_lit, Nat.zero_add] at this
    exact this
  exact ⟨c 0 (.int .i64 x.1.a) rfl, c 1 (.int .i64 x.1.b) rfl, c 2 (.int .i64 x.1.c) rfl, c 3 (.int .i64 x.1.d) rfl⟩

theorem HoldsP.frozen {W : World} {g : Nat} {l : List Pl} (h : HoldsP W g l) (j : Nat) (hj : j < l.length * 4) : W.frozen? ⟨g, j, none⟩ = false := by
  have := (h j (by rw [Sort.size_flatK]; simpa using hj)).2
  rwa [Nat.zero_add] at this

theorem HoldsP.of {W : World} {g : Nat} {l : List Pl} (h : RowP W g (l.map (·.1))) (hf : ∀ j, j < l.length * 4 → W.frozen? ⟨g, j, none⟩ = false) : HoldsP W g l := fun j hj => by
  rw [Sort.size_flatK] at hj
  have hj' : j < l.length * 4 := by simpa using hj
  have hq : j / 4 < l.toArray.size := by simp; omega
  have hr : j % 4 < 4 := Nat.mod_lt _ (by decide)
  rw [Nat.zero_add]
  refine ⟨?_, hf j hj'⟩
  rw [Sort.get_flatK _ _ _ _ hj]
  have hx : l[j / 4]? = some l.toArray[j / 4]! := by
    rw [getElem!_pos l.toArray _ hq, List.getElem?_eq_getElem (by simpa using hq)]; simp
  obtain ⟨c0, c1, c2, c3⟩ := h (j / 4) l.toArray[j / 4]!.1 (by rw [List.getElem?_map, hx]; rfl)
  have e : j = j / 4 * 4 + j % 4 := by omega
  generalize l.toArray[j / 4]! = x at *
  have h4 : j % 4 = 0 ∨ j % 4 = 1 ∨ j % 4 = 2 ∨ j % 4 = 3 := by omega
  rcases h4 with h4 | h4 | h4 | h4
  · rw [h4] at e ⊢; rw [show (⟨g, j, none⟩ : Addr) = ⟨g, j / 4 * 4, none⟩ by rw [show j / 4 * 4 = j by omega]]; exact c0
  · rw [h4] at e ⊢; rw [show (⟨g, j, none⟩ : Addr) = ⟨g, j / 4 * 4 + 1, none⟩ by rw [show j / 4 * 4 + 1 = j by omega]]; exact c1
  · rw [h4] at e ⊢; rw [show (⟨g, j, none⟩ : Addr) = ⟨g, j / 4 * 4 + 2, none⟩ by rw [show j / 4 * 4 + 2 = j by omega]]; exact c2
  · rw [h4] at e ⊢; rw [show (⟨g, j, none⟩ : Addr) = ⟨g, j / 4 * 4 + 3, none⟩ by rw [show j / 4 * 4 + 3 = j by omega]]; exact c3

/-- Of what was there, nothing has turned but block g. -/
structure Only (g : Nat) (w w' : World) : Prop where
  os : w'.os = w.os
  tape : w'.tape = w.tape
  output : w'.output = w.output
  size : w.heap.size ≤ w'.heap.size
  block : ∀ k, k < w.heap.size → k ≠ g → w'.heap[k]? = w.heap[k]?

theorem Only.below {g m : Nat} {w w' : World} (h : Only g w w') (hm : m ≤ g) (hg : g < w.heap.size) : Below m w w' :=
  ⟨h.os, h.tape, h.output, h.size, fun k hk => h.block k (by omega) (by omega)⟩

theorem Only.cell {g : Nat} {w w' : World} (h : Only g w w') {b o : Nat} {v : Value} (hb : b ≠ g) (hc : w.cell? ⟨b, o, none⟩ = some v) : w'.cell? ⟨b, o, none⟩ = some v := by
  have hlt := block_lt_of_cell hc
  have e := h.block b hlt hb
  rw [← hc]
  simp only [World.cell?, e]

theorem only_sortP {w : World} {g n : Nat} {d : Array Pl} (os : Array Obj) (hl : g < w.heap.size) : Only g w (sortWorldK encP 4 w g 0 n d os) := by
  unfold sortWorldK
  refine ⟨rfl, rfl, rfl, ?_, fun k hk hne => ?_⟩
  · rw [Sort.size_grow, Sort.size_putRowK]; exact Nat.le_add_right _ _
  · rw [Sort.heap_grow_old _ os (by rw [Sort.size_putRowK]; exact hk)]
    show (w.heap.modify g _)[k]? = _
    rw [Array.getElem?_modify, if_neg (by omega)]

set_option maxRecDepth 100000 in
theorem sortP_any (l : List Pl) (n : Nat) (hn : l.length = n) (hb5 : n ≤ 5000) (g cap : Nat) (w : World) (hH : HoldsP w g l) (hg : g < w.heap.size) :
    Calls Try.prog 89 #[.slice (some ⟨g, 0, none⟩) n cap, .func (.func 90) #[] #[]] w fun e w' => e = .returned (.tuple #[]) ∧ HoldsP w' g (srtP l) ∧ Only g w w' := by
  subst hn
  have h := AnyQ.slices_SortFunc_total Try.sortPt 4 Try.isAgg26 Try.sizeOf26 encP encP_len encP_one cfP swoP 90 #[] g 0 cap l.toArray w
    (enters_of Try.func90 (by kernel_rfl) rfl) (fun m os dk _ x y => (placesG x.1 y.1 x.2 y.2 _).mono fun e w' ⟨h1, h2, h3⟩ => ⟨h1, gr_of h2 h3⟩) hH hg (by simp; omega) totP
  refine h.mono fun e w' ⟨h1, q, os, h2⟩ => ⟨h1, ?_, ?_⟩
  · rw [h2]
    exact holdsK_sortWorldK encP 4 w g 0 q l.toArray (srtP l).toArray os hg hH (by simp [srtP, List.length_mergeSort])
  · rw [h2]
    exact only_sortP os hg

end Go.Proofs.Ytppbbcckijcckaa

/- '==' on three points one behind the other. -/
namespace Go.Proofs.Ytppbbcckijcckaa
open Go.ChangeShapes Go.WideShapes Go.ChangeAt Go.RowKit

theorem triCells : Try.prog.cellsOf 26 = 4 := by kernel_rfl

theorem triUnder : Try.prog.underlying 62 = some (.array 3 26) := by kernel_rfl

/-- The kernel's own reading of one comparison of points at any depth. -/
theorem eqPtAt (d : Nat) (p q : Pn) (w : World) : (Op.equalIn (d + 1 + 1) 26 (pv p) (pv q)).run Try.prog w = .ok (decide (p = q)) w := by
  have hS : Try.prog.underlying 26 = some (.struct (Try.prog.fieldsOf 26)) := by kernel_rfl
  have hp : Try.prog.stoodInHeld 26 = false := by kernel_rfl
  rw [run_equalIn_agg w (d + 1) 26 _ _ hS hp]
  simp only [Program.fieldsOf, Try.underlying26]
  go_simp
  have e : decide (p = q) = (p.a == q.a && (p.b == q.b && (p.c == q.c && p.d == q.d))) := by
    rw [Bool.eq_iff_iff, decide_eq_true_eq]
    simp only [Bool.and_eq_true, beq_iff_eq]
    exact ⟨fun h => by subst h; simp, fun h => Pn.ext' h.1 h.2.1 h.2.2.1 h.2.2.2⟩
  rw [e]
  by_cases h0 : p.a = q.a <;> by_cases h1 : p.b = q.b <;> by_cases h2 : p.c = q.c <;> by_cases h3 : p.d = q.d <;> simp [h0, h1, h2, h3]

theorem eqTriAt (d : Nat) (p q r s t u : Pn) (w : World) : (Op.equalIn (d + 1 + 1 + 1) 62 (tv p q r) (tv s t u)).run Try.prog w = .ok (decide (p = s) && (decide (q = t) && decide (r = u))) w := by
  cases hq : Try.prog.info? 26 with
  | none =>
    have h : (Try.prog.info? 26).isSome = true := by kernel_rfl
    rw [hq] at h
    cases h
  | some i =>
    have e0 := eqPtAt d p s w
    have e1 := eqPtAt d q t w
    have e2 := eqPtAt d r u w
    rw [run_equalIn_array w (d + 1 + 1) _ _ triUnder hq, triCells]
    simp only [List.range, List.range.loop, Op.eqItems, Sem.run_bind]
    have p0 : ∀ (x y z : Pn), (part 26 #[.int .i64 x.a, .int .i64 x.b, .int .i64 x.c, .int .i64 x.d, .int .i64 y.a, .int .i64 y.b, .int .i64 y.c, .int .i64 y.d, .int .i64 z.a, .int .i64 z.b, .int .i64 z.c, .int .i64 z.d] (0 * 4)).run Try.prog w = .ok (pv x) w := fun x y z => by simp [go_sem]
    have p1 : ∀ (x y z : Pn), (part 26 #[.int .i64 x.a, .int .i64 x.b, .int .i64 x.c, .int .i64 x.d, .int .i64 y.a, .int .i64 y.b, .int .i64 y.c, .int .i64 y.d, .int .i64 z.a, .int .i64 z.b, .int .i64 z.c, .int .i64 z.d] (1 * 4)).run Try.prog w = .ok (pv y) w := fun x y z => by simp [go_sem]
    have p2 : ∀ (x y z : Pn), (part 26 #[.int .i64 x.a, .int .i64 x.b, .int .i64 x.c, .int .i64 x.d, .int .i64 y.a, .int .i64 y.b, .int .i64 y.c, .int .i64 y.d, .int .i64 z.a, .int .i64 z.b, .int .i64 z.c, .int .i64 z.d] (2 * 4)).run Try.prog w = .ok (pv z) w := fun x y z => by simp [go_sem]
    rw [p0 p q r, Result.andThen_ok, p0 s t u, Result.andThen_ok, e0, Result.andThen_ok]
    by_cases h0 : p = s
    · subst h0
      simp only [decide_true, Bool.not_true, Bool.false_eq_true, if_false, Bool.true_and, Sem.run_bind]
      rw [p1 p q r, Result.andThen_ok, p1 p t u, Result.andThen_ok, e1, Result.andThen_ok]
      by_cases h1 : q = t
      · subst h1
        simp only [decide_true, Bool.not_true, Bool.false_eq_true, if_false, Bool.true_and, Sem.run_bind]
        rw [p2 p q r, Result.andThen_ok, p2 p q u, Result.andThen_ok, e2, Result.andThen_ok]
        by_cases h2 : r = u
        · simp [h2]
        · simp [h2]
      · simp [h1]
    · simp [h0]

/-- '==' on three points one behind the other. -/
@[go_sem high] theorem eqTri (p q r s t u : Pn) (w : World) : (binOp .eql 62 (tv p q r) (tv s t u)).run Try.prog w = .ok (.bool (decide (p = s) && (decide (q = t) && decide (r = u)))) w := by
  rw [run_eql_struct, show (10000 : Nat) = 9997 + 1 + 1 + 1 from rfl, eqTriAt]
  rfl

end Go.Proofs.Ytppbbcckijcckaa

/- Contract: the program's isStraight. -/
namespace Go.Proofs.Ytppbbcckijcckaa
open Go.ChangeShapes Go.WideShapes Go.ChangeAt Go.RowKit Go.Sort

set_option linter.unusedVariables false
set_option linter.unusedSimpArgs false

theorem three_len {l : List Pl} (h : l.length = 3) : ∃ a b c, l = [a, b, c] := by
  rcases l with _ | ⟨a, _ | ⟨b, _ | ⟨c, _ | ⟨d, l⟩⟩⟩⟩ <;> simp at h
  exact ⟨a, b, c, rfl⟩

theorem le_leP {x y : Pl} : leP x y ↔ Pn.led true x.1 y.1 := by
  unfold leP Pn.led
  rcases Pn.ltd_tri true x.1 y.1 with h | h | h
  · simp [h, Pn.ltd_asymm h]
  · rw [h]; simp; exact fun k => Pn.ltd_ne k rfl
  · have n1 := Pn.ltd_asymm h
    have n2 : x.1 ≠ y.1 := fun e => Pn.ltd_ne h e.symm
    simp [h, n1, n2]

/-- Three places sorted: in their order or backwards, if the middle one lies between. -/
theorem three_sorted {x y z s0 s1 s2 : Pl} (h : srtP [x, y, z] = [s0, s1, s2]) :
    (decide (Pn.sd x.1 y.1 z.1 = 0) && ((decide (x.1 = s0.1) && (decide (y.1 = s1.1) && decide (z.1 = s2.1))) || (decide (z.1 = s0.1) && (decide (y.1 = s1.1) && decide (x.1 = s2.1))))) = Pn.btw x.1 z.1 y.1 := by
  have a := srtP_eq (l := [x, y, z]) (m := [x, y, z]) (List.Perm.refl _)
  have b := srtP_eq (l := [x, y, z]) (m := [z, y, x]) (by
    have := List.reverse_perm [x, y, z]
    simpa using this)
  rw [h] at a b
  have e : ∀ u v t : Pl, [u, v, t] = [s0, s1, s2] ↔ u.1 = s0.1 ∧ v.1 = s1.1 ∧ t.1 = s2.1 := fun u v t => by
    simp only [List.cons.injEq, and_true]
    exact ⟨fun ⟨h1, h2, h3⟩ => ⟨by rw [h1], by rw [h2], by rw [h3]⟩, fun ⟨h1, h2, h3⟩ => ⟨Subtype.ext h1, Subtype.ext h2, Subtype.ext h3⟩⟩
  rw [e] at a b
  simp only [List.pairwise_cons, List.mem_cons, List.not_mem_nil, or_false, forall_eq_or_imp, forall_eq, List.Pairwise.nil, and_true, false_implies, implies_true, le_leP] at a b
  have sw := Pn.sd_swap x.1 z.1 y.1
  rw [Bool.eq_iff_iff, Pn.btw_iff]
  simp only [Bool.and_eq_true, Bool.or_eq_true, decide_eq_true_eq]
  rw [a, b]
  unfold Pn.lexbt
  constructor
  · rintro ⟨h0, ⟨⟨h1, h2⟩, h3⟩ | ⟨⟨h1, h2⟩, h3⟩⟩
    · exact ⟨by omega, .inl ⟨h1, h3⟩⟩
    · exact ⟨by omega, .inr ⟨h3, h1⟩⟩
  · rintro ⟨h0, ⟨h1, h2⟩ | ⟨h1, h2⟩⟩
    · exact ⟨by omega, .inl ⟨⟨h1, Pn.led_trans h1 h2⟩, h2⟩⟩
    · exact ⟨by omega, .inr ⟨⟨h2, Pn.led_trans h2 h1⟩, h1⟩⟩

set_option maxRecDepth 100000 in
set_option maxHeartbeats 3200000 in
theorem isStraightP (x y z : Pn) (hx : Bd 100000 x) (hy : Bd 100000 y) (bz : Bd 100000 z) (w : World) :
    Calls Try.prog 113 #[tv x y z] w fun e w' => e = .returned (.bool (Pn.btw x z y)) ∧ Below w.heap.size w w' := by
  obtain ⟨s0, s1, s2, hsrt⟩ : ∃ s0 s1 s2, srtP [⟨x, hx⟩, ⟨y, hy⟩, ⟨z, bz⟩] = [s0, s1, s2] := by
    have hl := (srtP_perm [⟨x, hx⟩, ⟨y, hy⟩, ⟨z, bz⟩]).length_eq
    generalize srtP [⟨x, hx⟩, ⟨y, hy⟩, ⟨z, bz⟩] = l at hl
    exact three_len hl
  have hbt := three_sorted hsrt
  simp only at hbt
  go_enter Try.func113, Try.ntmps113
  go_wp2_with fail
  refine absW (F := fun W => (W.cell? ⟨w.heap.size, 0, none⟩ = some (.int .i64 (x).a) ∧ W.cell? ⟨w.heap.size, 1, none⟩ = some (.int .i64 (x).b) ∧ W.cell? ⟨w.heap.size, 2, none⟩ = some (.int .i64 (x).c) ∧ W.cell? ⟨w.heap.size, 3, none⟩ = some (.int .i64 (x).d)) ∧ (W.cell? ⟨w.heap.size, 4, none⟩ = some (.int .i64 (y).a) ∧ W.cell? ⟨w.heap.size, 5, none⟩ = some (.int .i64 (y).b) ∧ W.cell? ⟨w.heap.size, 6, none⟩ = some (.int .i64 (y).c) ∧ W.cell? ⟨w.heap.size, 7, none⟩ = some (.int .i64 (y).d)) ∧ (W.cell? ⟨w.heap.size, 8, none⟩ = some (.int .i64 (z).a) ∧ W.cell? ⟨w.heap.size, 9, none⟩ = some (.int .i64 (z).b) ∧ W.cell? ⟨w.heap.size, 10, none⟩ = some (.int .i64 (z).c) ∧ W.cell? ⟨w.heap.size, 11, none⟩ = some (.int .i64 (z).d)) ∧ Below w.heap.size w W ∧ W.heap.size = w.heap.size + 1) ⟨⟨by go_simp, by go_simp, by go_simp, by go_simp⟩, ⟨by go_simp, by go_simp, by go_simp, by go_simp⟩, ⟨by go_simp, by go_simp, by go_simp, by go_simp⟩, by go_grown, by first | (simp; done) | (simp; omega)⟩ ?_
  rintro W ⟨⟨cI_0, cI_1, cI_2, cI_3⟩, ⟨cI_4, cI_5, cI_6, cI_7⟩, ⟨cI_8, cI_9, cI_10, cI_11⟩, HB, hz⟩
  have kI_0 := fun d os => cell_regrown cI_0 d os
  have kI_1 := fun d os => cell_regrown cI_1 d os
  have kI_2 := fun d os => cell_regrown cI_2 d os
  have kI_3 := fun d os => cell_regrown cI_3 d os
  have kI_4 := fun d os => cell_regrown cI_4 d os
  have kI_5 := fun d os => cell_regrown cI_5 d os
  have kI_6 := fun d os => cell_regrown cI_6 d os
  have kI_7 := fun d os => cell_regrown cI_7 d os
  have kI_8 := fun d os => cell_regrown cI_8 d os
  have kI_9 := fun d os => cell_regrown cI_9 d os
  have kI_10 := fun d os => cell_regrown cI_10 d os
  have kI_11 := fun d os => cell_regrown cI_11 d os
  have ne0 : ¬ W.heap.size = w.heap.size := by omega
  have ne1 : ¬ W.heap.size + 1 = w.heap.size := by omega
  go_region_held3 (fun w' => (w'.cell? ⟨w.heap.size, 0, none⟩ = some (.int .i64 (x).a) ∧ w'.cell? ⟨w.heap.size, 1, none⟩ = some (.int .i64 (x).b) ∧ w'.cell? ⟨w.heap.size, 2, none⟩ = some (.int .i64 (x).c) ∧ w'.cell? ⟨w.heap.size, 3, none⟩ = some (.int .i64 (x).d)) ∧ (w'.cell? ⟨w.heap.size, 4, none⟩ = some (.int .i64 (y).a) ∧ w'.cell? ⟨w.heap.size, 5, none⟩ = some (.int .i64 (y).b) ∧ w'.cell? ⟨w.heap.size, 6, none⟩ = some (.int .i64 (y).c) ∧ w'.cell? ⟨w.heap.size, 7, none⟩ = some (.int .i64 (y).d)) ∧ (w'.cell? ⟨w.heap.size, 8, none⟩ = some (.int .i64 (z).a) ∧ w'.cell? ⟨w.heap.size, 9, none⟩ = some (.int .i64 (z).b) ∧ w'.cell? ⟨w.heap.size, 10, none⟩ = some (.int .i64 (z).c) ∧ w'.cell? ⟨w.heap.size, 11, none⟩ = some (.int .i64 (z).d))) (go_keep) (fail)
  · skip
    refine absE (F := fun X => (X.cell? ⟨w.heap.size, 0, none⟩ = some (.int .i64 (x).a) ∧ X.cell? ⟨w.heap.size, 1, none⟩ = some (.int .i64 (x).b) ∧ X.cell? ⟨w.heap.size, 2, none⟩ = some (.int .i64 (x).c) ∧ X.cell? ⟨w.heap.size, 3, none⟩ = some (.int .i64 (x).d)) ∧ (X.cell? ⟨w.heap.size, 4, none⟩ = some (.int .i64 (y).a) ∧ X.cell? ⟨w.heap.size, 5, none⟩ = some (.int .i64 (y).b) ∧ X.cell? ⟨w.heap.size, 6, none⟩ = some (.int .i64 (y).c) ∧ X.cell? ⟨w.heap.size, 7, none⟩ = some (.int .i64 (y).d)) ∧ (X.cell? ⟨w.heap.size, 8, none⟩ = some (.int .i64 (z).a) ∧ X.cell? ⟨w.heap.size, 9, none⟩ = some (.int .i64 (z).b) ∧ X.cell? ⟨w.heap.size, 10, none⟩ = some (.int .i64 (z).c) ∧ X.cell? ⟨w.heap.size, 11, none⟩ = some (.int .i64 (z).d)) ∧ (X.cell? ⟨w.heap.size + 1, 0, none⟩ = some (.int .i64 (x).a) ∧ X.cell? ⟨w.heap.size + 1, 1, none⟩ = some (.int .i64 (x).b) ∧ X.cell? ⟨w.heap.size + 1, 2, none⟩ = some (.int .i64 (x).c) ∧ X.cell? ⟨w.heap.size + 1, 3, none⟩ = some (.int .i64 (x).d)) ∧ (X.cell? ⟨w.heap.size + 1, 4, none⟩ = some (.int .i64 (y).a) ∧ X.cell? ⟨w.heap.size + 1, 5, none⟩ = some (.int .i64 (y).b) ∧ X.cell? ⟨w.heap.size + 1, 6, none⟩ = some (.int .i64 (y).c) ∧ X.cell? ⟨w.heap.size + 1, 7, none⟩ = some (.int .i64 (y).d)) ∧ (X.cell? ⟨w.heap.size + 1, 8, none⟩ = some (.int .i64 (z).a) ∧ X.cell? ⟨w.heap.size + 1, 9, none⟩ = some (.int .i64 (z).b) ∧ X.cell? ⟨w.heap.size + 1, 10, none⟩ = some (.int .i64 (z).c) ∧ X.cell? ⟨w.heap.size + 1, 11, none⟩ = some (.int .i64 (z).d)) ∧ (∀ i, X.frozen? ⟨w.heap.size + 1, i, none⟩ = false) ∧ (X.cell? ⟨w.heap.size + 1 + 1, 0, none⟩ = some (.int .i64 (z).a) ∧ X.cell? ⟨w.heap.size + 1 + 1, 1, none⟩ = some (.int .i64 (z).b) ∧ X.cell? ⟨w.heap.size + 1 + 1, 2, none⟩ = some (.int .i64 (z).c) ∧ X.cell? ⟨w.heap.size + 1 + 1, 3, none⟩ = some (.int .i64 (z).d)) ∧ (X.cell? ⟨w.heap.size + 1 + 1, 4, none⟩ = some (.int .i64 (y).a) ∧ X.cell? ⟨w.heap.size + 1 + 1, 5, none⟩ = some (.int .i64 (y).b) ∧ X.cell? ⟨w.heap.size + 1 + 1, 6, none⟩ = some (.int .i64 (y).c) ∧ X.cell? ⟨w.heap.size + 1 + 1, 7, none⟩ = some (.int .i64 (y).d)) ∧ (X.cell? ⟨w.heap.size + 1 + 1, 8, none⟩ = some (.int .i64 (x).a) ∧ X.cell? ⟨w.heap.size + 1 + 1, 9, none⟩ = some (.int .i64 (x).b) ∧ X.cell? ⟨w.heap.size + 1 + 1, 10, none⟩ = some (.int .i64 (x).c) ∧ X.cell? ⟨w.heap.size + 1 + 1, 11, none⟩ = some (.int .i64 (x).d)) ∧ Below w.heap.size w X ∧ X.heap.size = w.heap.size + 1 + 1 + 1) ⟨⟨by go_simp, by go_simp, by go_simp, by go_simp⟩, ⟨by go_simp, by go_simp, by go_simp, by go_simp⟩, ⟨by go_simp, by go_simp, by go_simp, by go_simp⟩, ⟨by go_simp, by go_simp, by go_simp, by go_simp⟩, ⟨by go_simp, by go_simp, by go_simp, by go_simp⟩, ⟨by go_simp, by go_simp, by go_simp, by go_simp⟩, fun i => by go_simp, ⟨by go_simp, by go_simp, by go_simp, by go_simp⟩, ⟨by go_simp, by go_simp, by go_simp, by go_simp⟩, ⟨by go_simp, by go_simp, by go_simp, by go_simp⟩, by go_grown, by first | (simp; done) | (simp; omega)⟩ ?_
    rintro X ⟨⟨c0_0, c0_1, c0_2, c0_3⟩, ⟨c0_4, c0_5, c0_6, c0_7⟩, ⟨c0_8, c0_9, c0_10, c0_11⟩, ⟨c1_0, c1_1, c1_2, c1_3⟩, ⟨c1_4, c1_5, c1_6, c1_7⟩, ⟨c1_8, c1_9, c1_10, c1_11⟩, fr1, ⟨c2_0, c2_1, c2_2, c2_3⟩, ⟨c2_4, c2_5, c2_6, c2_7⟩, ⟨c2_8, c2_9, c2_10, c2_11⟩, HB, hz⟩
    have k0_0 := fun d os => cell_regrown c0_0 d os
    have k0_1 := fun d os => cell_regrown c0_1 d os
    have k0_2 := fun d os => cell_regrown c0_2 d os
    have k0_3 := fun d os => cell_regrown c0_3 d os
    have k0_4 := fun d os => cell_regrown c0_4 d os
    have k0_5 := fun d os => cell_regrown c0_5 d os
    have k0_6 := fun d os => cell_regrown c0_6 d os
    have k0_7 := fun d os => cell_regrown c0_7 d os
    have k0_8 := fun d os => cell_regrown c0_8 d os
    have k0_9 := fun d os => cell_regrown c0_9 d os
    have k0_10 := fun d os => cell_regrown c0_10 d os
    have k0_11 := fun d os => cell_regrown c0_11 d os
    have k1_0 := fun d os => cell_regrown c1_0 d os
    have k1_1 := fun d os => cell_regrown c1_1 d os
    have k1_2 := fun d os => cell_regrown c1_2 d os
    have k1_3 := fun d os => cell_regrown c1_3 d os
    have k1_4 := fun d os => cell_regrown c1_4 d os
    have k1_5 := fun d os => cell_regrown c1_5 d os
    have k1_6 := fun d os => cell_regrown c1_6 d os
    have k1_7 := fun d os => cell_regrown c1_7 d os
    have k1_8 := fun d os => cell_regrown c1_8 d os
    have k1_9 := fun d os => cell_regrown c1_9 d os
    have k1_10 := fun d os => cell_regrown c1_10 d os
    have k1_11 := fun d os => cell_regrown c1_11 d os
    have k2_0 := fun d os => cell_regrown c2_0 d os
    have k2_1 := fun d os => cell_regrown c2_1 d os
    have k2_2 := fun d os => cell_regrown c2_2 d os
    have k2_3 := fun d os => cell_regrown c2_3 d os
    have k2_4 := fun d os => cell_regrown c2_4 d os
    have k2_5 := fun d os => cell_regrown c2_5 d os
    have k2_6 := fun d os => cell_regrown c2_6 d os
    have k2_7 := fun d os => cell_regrown c2_7 d os
    have k2_8 := fun d os => cell_regrown c2_8 d os
    have k2_9 := fun d os => cell_regrown c2_9 d os
    have k2_10 := fun d os => cell_regrown c2_10 d os
    have k2_11 := fun d os => cell_regrown c2_11 d os
    clear ne0 ne1 cI_0 kI_0 cI_1 kI_1 cI_2 kI_2 cI_3 kI_3 cI_4 kI_4 cI_5 kI_5 cI_6 kI_6 cI_7 kI_7 cI_8 kI_8 cI_9 kI_9 cI_10 kI_10 cI_11 kI_11
    go_wp2_with fail
    (go_at_call 89; (refine (sortP_any [⟨x, hx⟩, ⟨y, hy⟩, ⟨z, bz⟩] 3 rfl (by omega) (w.heap.size + 1) 3 _ (HoldsP.of (rowP3 c1_0 c1_1 c1_2 c1_3 c1_4 c1_5 c1_6 c1_7 c1_8 c1_9 c1_10 c1_11) (fun j _ => fr1 j)) (by omega)).mono ?_); rintro e w2 ⟨rfl, hH, hO⟩)
    rw [hsrt] at hH
    obtain ⟨d0, d1, d2, d3⟩ := hH.rowP 0 s0.1 rfl
    obtain ⟨d4, d5, d6, d7⟩ := hH.rowP 1 s1.1 rfl
    obtain ⟨d8, d9, d10, d11⟩ := hH.rowP 2 s2.1 rfl
    simp only [Nat.zero_mul, Nat.one_mul, Nat.reduceMul, Nat.reduceAdd, Nat.zero_add] at d0 d1 d2 d3 d4 d5 d6 d7 d8 d9 d10 d11
    have f0_0 := hO.cell (by omega) c0_0
    have f0_1 := hO.cell (by omega) c0_1
    have f0_2 := hO.cell (by omega) c0_2
    have f0_3 := hO.cell (by omega) c0_3
    have f0_4 := hO.cell (by omega) c0_4
    have f0_5 := hO.cell (by omega) c0_5
    have f0_6 := hO.cell (by omega) c0_6
    have f0_7 := hO.cell (by omega) c0_7
    have f0_8 := hO.cell (by omega) c0_8
    have f0_9 := hO.cell (by omega) c0_9
    have f0_10 := hO.cell (by omega) c0_10
    have f0_11 := hO.cell (by omega) c0_11
    have f2_0 := hO.cell (by omega) c2_0
    have f2_1 := hO.cell (by omega) c2_1
    have f2_2 := hO.cell (by omega) c2_2
    have f2_3 := hO.cell (by omega) c2_3
    have f2_4 := hO.cell (by omega) c2_4
    have f2_5 := hO.cell (by omega) c2_5
    have f2_6 := hO.cell (by omega) c2_6
    have f2_7 := hO.cell (by omega) c2_7
    have f2_8 := hO.cell (by omega) c2_8
    have f2_9 := hO.cell (by omega) c2_9
    have f2_10 := hO.cell (by omega) c2_10
    have f2_11 := hO.cell (by omega) c2_11
    have hBO : Below w.heap.size w w2 := HB.trans (hO.below (by omega) (by omega))
    have hz2 := hO.size
    have y0 : w.heap.size < w2.heap.size := by omega
    have y1 : w.heap.size + 1 < w2.heap.size := by omega
    have y2 : w.heap.size + 1 + 1 < w2.heap.size := by omega
    clear hH hO c0_0 k0_0 c0_1 k0_1 c0_2 k0_2 c0_3 k0_3 c0_4 k0_4 c0_5 k0_5 c0_6 k0_6 c0_7 k0_7 c0_8 k0_8 c0_9 k0_9 c0_10 k0_10 c0_11 k0_11 c1_0 k1_0 c1_1 k1_1 c1_2 k1_2 c1_3 k1_3 c1_4 k1_4 c1_5 k1_5 c1_6 k1_6 c1_7 k1_7 c1_8 k1_8 c1_9 k1_9 c1_10 k1_10 c1_11 k1_11 c2_0 k2_0 c2_1 k2_1 c2_2 k2_2 c2_3 k2_3 c2_4 k2_4 c2_5 k2_5 c2_6 k2_6 c2_7 k2_7 c2_8 k2_8 c2_9 k2_9 c2_10 k2_10 c2_11 k2_11 fr1 HB
    by_cases h0 : Pn.sd x y z = 0
    · cases hA1 : (decide (x = s0.1) && (decide (y = s1.1) && decide (z = s2.1))) <;> cases hA2 : (decide (z = s0.1) && (decide (y = s1.1) && decide (x = s2.1)))
      all_goals
        go_wp2_with (go_at_call 56; (with_reducible refine (sideP x y z hx hy bz _).mono ?_); rintro e w3 ⟨rfl, h1⟩; (try with_reducible replace h1 := undrew h1); have hB : Below w.heap.size w w3 := ba (by go_grown) h1; obtain ⟨hcw3, hfw3⟩ := bcell h1; have hqw3 := h1.size; (try simp at hqw3); (try have hz0w3 : w.heap.size < w3.heap.size := (by omega)); (try have he0w3 : w.heap.size ≤ w3.heap.size := (by omega)); (try have hz1w3 : w.heap.size + 1 < w3.heap.size := (by omega)); (try have he1w3 : w.heap.size + 1 ≤ w3.heap.size := (by omega)); (try have hz2w3 : w.heap.size + 1 + 1 < w3.heap.size := (by omega)); (try have he2w3 : w.heap.size + 1 + 1 ≤ w3.heap.size := (by omega)))
        go_returns
        exact ⟨by rw [← hbt, hA1, hA2]; simp [h0], by go_grown⟩
    · go_wp2_with (go_at_call 56; (with_reducible refine (sideP x y z hx hy bz _).mono ?_); rintro e w3 ⟨rfl, h1⟩; (try with_reducible replace h1 := undrew h1); have hB : Below w.heap.size w w3 := ba (by go_grown) h1; obtain ⟨hcw3, hfw3⟩ := bcell h1; have hqw3 := h1.size; (try simp at hqw3); (try have hz0w3 : w.heap.size < w3.heap.size := (by omega)); (try have he0w3 : w.heap.size ≤ w3.heap.size := (by omega)); (try have hz1w3 : w.heap.size + 1 < w3.heap.size := (by omega)); (try have he1w3 : w.heap.size + 1 ≤ w3.heap.size := (by omega)); (try have hz2w3 : w.heap.size + 1 + 1 < w3.heap.size := (by omega)); (try have he2w3 : w.heap.size + 1 + 1 ≤ w3.heap.size := (by omega)))
      go_returns
      exact ⟨by rw [← hbt]; simp [h0], by go_grown⟩
  · skip
    refine absE (F := fun X => (X.cell? ⟨w.heap.size, 0, none⟩ = some (.int .i64 (x).a) ∧ X.cell? ⟨w.heap.size, 1, none⟩ = some (.int .i64 (x).b) ∧ X.cell? ⟨w.heap.size, 2, none⟩ = some (.int .i64 (x).c) ∧ X.cell? ⟨w.heap.size, 3, none⟩ = some (.int .i64 (x).d)) ∧ (X.cell? ⟨w.heap.size, 4, none⟩ = some (.int .i64 (y).a) ∧ X.cell? ⟨w.heap.size, 5, none⟩ = some (.int .i64 (y).b) ∧ X.cell? ⟨w.heap.size, 6, none⟩ = some (.int .i64 (y).c) ∧ X.cell? ⟨w.heap.size, 7, none⟩ = some (.int .i64 (y).d)) ∧ (X.cell? ⟨w.heap.size, 8, none⟩ = some (.int .i64 (z).a) ∧ X.cell? ⟨w.heap.size, 9, none⟩ = some (.int .i64 (z).b) ∧ X.cell? ⟨w.heap.size, 10, none⟩ = some (.int .i64 (z).c) ∧ X.cell? ⟨w.heap.size, 11, none⟩ = some (.int .i64 (z).d)) ∧ (X.cell? ⟨w.heap.size + 1 + 1, 0, none⟩ = some (.int .i64 (x).a) ∧ X.cell? ⟨w.heap.size + 1 + 1, 1, none⟩ = some (.int .i64 (x).b) ∧ X.cell? ⟨w.heap.size + 1 + 1, 2, none⟩ = some (.int .i64 (x).c) ∧ X.cell? ⟨w.heap.size + 1 + 1, 3, none⟩ = some (.int .i64 (x).d)) ∧ (X.cell? ⟨w.heap.size + 1 + 1, 4, none⟩ = some (.int .i64 (y).a) ∧ X.cell? ⟨w.heap.size + 1 + 1, 5, none⟩ = some (.int .i64 (y).b) ∧ X.cell? ⟨w.heap.size + 1 + 1, 6, none⟩ = some (.int .i64 (y).c) ∧ X.cell? ⟨w.heap.size + 1 + 1, 7, none⟩ = some (.int .i64 (y).d)) ∧ (X.cell? ⟨w.heap.size + 1 + 1, 8, none⟩ = some (.int .i64 (z).a) ∧ X.cell? ⟨w.heap.size + 1 + 1, 9, none⟩ = some (.int .i64 (z).b) ∧ X.cell? ⟨w.heap.size + 1 + 1, 10, none⟩ = some (.int .i64 (z).c) ∧ X.cell? ⟨w.heap.size + 1 + 1, 11, none⟩ = some (.int .i64 (z).d)) ∧ (∀ i, X.frozen? ⟨w.heap.size + 1 + 1, i, none⟩ = false) ∧ (X.cell? ⟨w.heap.size + 1, 0, none⟩ = some (.int .i64 (z).a) ∧ X.cell? ⟨w.heap.size + 1, 1, none⟩ = some (.int .i64 (z).b) ∧ X.cell? ⟨w.heap.size + 1, 2, none⟩ = some (.int .i64 (z).c) ∧ X.cell? ⟨w.heap.size + 1, 3, none⟩ = some (.int .i64 (z).d)) ∧ (X.cell? ⟨w.heap.size + 1, 4, none⟩ = some (.int .i64 (y).a) ∧ X.cell? ⟨w.heap.size + 1, 5, none⟩ = some (.int .i64 (y).b) ∧ X.cell? ⟨w.heap.size + 1, 6, none⟩ = some (.int .i64 (y).c) ∧ X.cell? ⟨w.heap.size + 1, 7, none⟩ = some (.int .i64 (y).d)) ∧ (X.cell? ⟨w.heap.size + 1, 8, none⟩ = some (.int .i64 (x).a) ∧ X.cell? ⟨w.heap.size + 1, 9, none⟩ = some (.int .i64 (x).b) ∧ X.cell? ⟨w.heap.size + 1, 10, none⟩ = some (.int .i64 (x).c) ∧ X.cell? ⟨w.heap.size + 1, 11, none⟩ = some (.int .i64 (x).d)) ∧ Below w.heap.size w X ∧ X.heap.size = w.heap.size + 1 + 1 + 1) ⟨⟨by go_simp, by go_simp, by go_simp, by go_simp⟩, ⟨by go_simp, by go_simp, by go_simp, by go_simp⟩, ⟨by go_simp, by go_simp, by go_simp, by go_simp⟩, ⟨by go_simp, by go_simp, by go_simp, by go_simp⟩, ⟨by go_simp, by go_simp, by go_simp, by go_simp⟩, ⟨by go_simp, by go_simp, by go_simp, by go_simp⟩, fun i => by go_simp, ⟨by go_simp, by go_simp, by go_simp, by go_simp⟩, ⟨by go_simp, by go_simp, by go_simp, by go_simp⟩, ⟨by go_simp, by go_simp, by go_simp, by go_simp⟩, by go_grown, by first | (simp; done) | (simp; omega)⟩ ?_
    rintro X ⟨⟨c0_0, c0_1, c0_2, c0_3⟩, ⟨c0_4, c0_5, c0_6, c0_7⟩, ⟨c0_8, c0_9, c0_10, c0_11⟩, ⟨c2_0, c2_1, c2_2, c2_3⟩, ⟨c2_4, c2_5, c2_6, c2_7⟩, ⟨c2_8, c2_9, c2_10, c2_11⟩, fr2, ⟨c1_0, c1_1, c1_2, c1_3⟩, ⟨c1_4, c1_5, c1_6, c1_7⟩, ⟨c1_8, c1_9, c1_10, c1_11⟩, HB, hz⟩
    have k0_0 := fun d os => cell_regrown c0_0 d os
    have k0_1 := fun d os => cell_regrown c0_1 d os
    have k0_2 := fun d os => cell_regrown c0_2 d os
    have k0_3 := fun d os => cell_regrown c0_3 d os
    have k0_4 := fun d os => cell_regrown c0_4 d os
    have k0_5 := fun d os => cell_regrown c0_5 d os
    have k0_6 := fun d os => cell_regrown c0_6 d os
    have k0_7 := fun d os => cell_regrown c0_7 d os
    have k0_8 := fun d os => cell_regrown c0_8 d os
    have k0_9 := fun d os => cell_regrown c0_9 d os
    have k0_10 := fun d os => cell_regrown c0_10 d os
    have k0_11 := fun d os => cell_regrown c0_11 d os
    have k2_0 := fun d os => cell_regrown c2_0 d os
    have k2_1 := fun d os => cell_regrown c2_1 d os
    have k2_2 := fun d os => cell_regrown c2_2 d os
    have k2_3 := fun d os => cell_regrown c2_3 d os
    have k2_4 := fun d os => cell_regrown c2_4 d os
    have k2_5 := fun d os => cell_regrown c2_5 d os
    have k2_6 := fun d os => cell_regrown c2_6 d os
    have k2_7 := fun d os => cell_regrown c2_7 d os
    have k2_8 := fun d os => cell_regrown c2_8 d os
    have k2_9 := fun d os => cell_regrown c2_9 d os
    have k2_10 := fun d os => cell_regrown c2_10 d os
    have k2_11 := fun d os => cell_regrown c2_11 d os
    have k1_0 := fun d os => cell_regrown c1_0 d os
    have k1_1 := fun d os => cell_regrown c1_1 d os
    have k1_2 := fun d os => cell_regrown c1_2 d os
    have k1_3 := fun d os => cell_regrown c1_3 d os
    have k1_4 := fun d os => cell_regrown c1_4 d os
    have k1_5 := fun d os => cell_regrown c1_5 d os
    have k1_6 := fun d os => cell_regrown c1_6 d os
    have k1_7 := fun d os => cell_regrown c1_7 d os
    have k1_8 := fun d os => cell_regrown c1_8 d os
    have k1_9 := fun d os => cell_regrown c1_9 d os
    have k1_10 := fun d os => cell_regrown c1_10 d os
    have k1_11 := fun d os => cell_regrown c1_11 d os
    clear ne0 ne1 cI_0 kI_0 cI_1 kI_1 cI_2 kI_2 cI_3 kI_3 cI_4 kI_4 cI_5 kI_5 cI_6 kI_6 cI_7 kI_7 cI_8 kI_8 cI_9 kI_9 cI_10 kI_10 cI_11 kI_11
    go_wp2_with fail
    (go_at_call 89; (refine (sortP_any [⟨x, hx⟩, ⟨y, hy⟩, ⟨z, bz⟩] 3 rfl (by omega) (w.heap.size + 1 + 1) 3 _ (HoldsP.of (rowP3 c2_0 c2_1 c2_2 c2_3 c2_4 c2_5 c2_6 c2_7 c2_8 c2_9 c2_10 c2_11) (fun j _ => fr2 j)) (by omega)).mono ?_); rintro e w2 ⟨rfl, hH, hO⟩)
    rw [hsrt] at hH
    obtain ⟨d0, d1, d2, d3⟩ := hH.rowP 0 s0.1 rfl
    obtain ⟨d4, d5, d6, d7⟩ := hH.rowP 1 s1.1 rfl
    obtain ⟨d8, d9, d10, d11⟩ := hH.rowP 2 s2.1 rfl
    simp only [Nat.zero_mul, Nat.one_mul, Nat.reduceMul, Nat.reduceAdd, Nat.zero_add] at d0 d1 d2 d3 d4 d5 d6 d7 d8 d9 d10 d11
    have f0_0 := hO.cell (by omega) c0_0
    have f0_1 := hO.cell (by omega) c0_1
    have f0_2 := hO.cell (by omega) c0_2
    have f0_3 := hO.cell (by omega) c0_3
    have f0_4 := hO.cell (by omega) c0_4
    have f0_5 := hO.cell (by omega) c0_5
    have f0_6 := hO.cell (by omega) c0_6
    have f0_7 := hO.cell (by omega) c0_7
    have f0_8 := hO.cell (by omega) c0_8
    have f0_9 := hO.cell (by omega) c0_9
    have f0_10 := hO.cell (by omega) c0_10
    have f0_11 := hO.cell (by omega) c0_11
    have f1_0 := hO.cell (by omega) c1_0
    have f1_1 := hO.cell (by omega) c1_1
    have f1_2 := hO.cell (by omega) c1_2
    have f1_3 := hO.cell (by omega) c1_3
    have f1_4 := hO.cell (by omega) c1_4
    have f1_5 := hO.cell (by omega) c1_5
    have f1_6 := hO.cell (by omega) c1_6
    have f1_7 := hO.cell (by omega) c1_7
    have f1_8 := hO.cell (by omega) c1_8
    have f1_9 := hO.cell (by omega) c1_9
    have f1_10 := hO.cell (by omega) c1_10
    have f1_11 := hO.cell (by omega) c1_11
    have hBO : Below w.heap.size w w2 := HB.trans (hO.below (by omega) (by omega))
    have hz2 := hO.size
    have y0 : w.heap.size < w2.heap.size := by omega
    have y1 : w.heap.size + 1 < w2.heap.size := by omega
    have y2 : w.heap.size + 1 + 1 < w2.heap.size := by omega
    clear hH hO c0_0 k0_0 c0_1 k0_1 c0_2 k0_2 c0_3 k0_3 c0_4 k0_4 c0_5 k0_5 c0_6 k0_6 c0_7 k0_7 c0_8 k0_8 c0_9 k0_9 c0_10 k0_10 c0_11 k0_11 c2_0 k2_0 c2_1 k2_1 c2_2 k2_2 c2_3 k2_3 c2_4 k2_4 c2_5 k2_5 c2_6 k2_6 c2_7 k2_7 c2_8 k2_8 c2_9 k2_9 c2_10 k2_10 c2_11 k2_11 c1_0 k1_0 c1_1 k1_1 c1_2 k1_2 c1_3 k1_3 c1_4 k1_4 c1_5 k1_5 c1_6 k1_6 c1_7 k1_7 c1_8 k1_8 c1_9 k1_9 c1_10 k1_10 c1_11 k1_11 fr2 HB
    by_cases h0 : Pn.sd x y z = 0
    · cases hA1 : (decide (x = s0.1) && (decide (y = s1.1) && decide (z = s2.1))) <;> cases hA2 : (decide (z = s0.1) && (decide (y = s1.1) && decide (x = s2.1)))
      all_goals
        go_wp2_with (go_at_call 56; (with_reducible refine (sideP x y z hx hy bz _).mono ?_); rintro e w3 ⟨rfl, h1⟩; (try with_reducible replace h1 := undrew h1); have hB : Below w.heap.size w w3 := ba (by go_grown) h1; obtain ⟨hcw3, hfw3⟩ := bcell h1; have hqw3 := h1.size; (try simp at hqw3); (try have hz0w3 : w.heap.size < w3.heap.size := (by omega)); (try have he0w3 : w.heap.size ≤ w3.heap.size := (by omega)); (try have hz1w3 : w.heap.size + 1 < w3.heap.size := (by omega)); (try have he1w3 : w.heap.size + 1 ≤ w3.heap.size := (by omega)); (try have hz2w3 : w.heap.size + 1 + 1 < w3.heap.size := (by omega)); (try have he2w3 : w.heap.size + 1 + 1 ≤ w3.heap.size := (by omega)))
        go_returns
        exact ⟨by rw [← hbt, hA1, hA2]; simp [h0], by go_grown⟩
    · go_wp2_with (go_at_call 56; (with_reducible refine (sideP x y z hx hy bz _).mono ?_); rintro e w3 ⟨rfl, h1⟩; (try with_reducible replace h1 := undrew h1); have hB : Below w.heap.size w w3 := ba (by go_grown) h1; obtain ⟨hcw3, hfw3⟩ := bcell h1; have hqw3 := h1.size; (try simp at hqw3); (try have hz0w3 : w.heap.size < w3.heap.size := (by omega)); (try have he0w3 : w.heap.size ≤ w3.heap.size := (by omega)); (try have hz1w3 : w.heap.size + 1 < w3.heap.size := (by omega)); (try have he1w3 : w.heap.size + 1 ≤ w3.heap.size := (by omega)); (try have hz2w3 : w.heap.size + 1 + 1 < w3.heap.size := (by omega)); (try have he2w3 : w.heap.size + 1 + 1 ≤ w3.heap.size := (by omega)))
      go_returns
      exact ⟨by rw [← hbt]; simp [h0], by go_grown⟩

end Go.Proofs.Ytppbbcckijcckaa
