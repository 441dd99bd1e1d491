/- Contracts: areas of polygons: chords in a row of memory, and the sum over them; the model's sum over points. -/
import Derived.Test.YtppbbcckijcckaaMb
import Derived.Test.YtppbbcckijcckaaWq
import Derived.Laws.AppendOwn
import Derived.Laws.OwnMore
import Derived.Deep.AppendLies
import Derived.Deep.RegionLaw
namespace Go.Proofs.Ytppbbcckijcckaa
open Go.ChangeShapes Go.WideShapes Go.ChangeAt Go.RowKit Go.Sort

set_option linter.unusedVariables false
set_option linter.unusedSimpArgs false

theorem own_below7 {W w1 : World} {B : Nat} {e : TypeId} {size n : Nat} {v : Value} {xs : List Value} (h : W.ownsRow B e size v n xs) (hb : Below W.heap.size W w1) : w1.ownsRow B e size v n xs :=
  h.kept (row := none) ⟨hb.os, hb.tape, hb.output, hb.size, fun k hk _ => hb.block k hk⟩ (by cases v.ownBlock <;> simp)

theorem below_dw7 (w : World) (m : Nat) : Below m w w.drew := ⟨rfl, rfl, rfl, Nat.le_refl _, fun _ _ => rfl⟩

theorem newc7 {W : World} {cs : Array Value} {e : TypeId} {n : Nat} (hn : W.heap.size = n) : ∀ (j : Nat) u, cs.toList[j]? = some u → (W.alloc (.cells cs e)).cell? ((⟨n, 0, none⟩ : Addr).add j) = some u := by
  subst hn
  intro j u hu
  have h := Lib.cell_of_heap (heap_alloc_new W (.cells cs e)) j
  have ha : ((⟨W.heap.size, 0, none⟩ : Addr).add j) = ⟨W.heap.size, j, none⟩ := by by_cases e : j = 0 <;> simp [Addr.add, e]
  rw [ha, h, ← hu]
  simp

theorem chInfo : (Try.prog.info? 66).map (fun i => (i.zero, i.size, i.bytes)) = some (some (.agg #[.int .i64 0, .int .i64 0, .int .i64 0, .int .i64 0, .int .i64 0, .int .i64 0, .int .i64 0, .int .i64 0]), 8, 64) := by kernel_rfl

def pnC (p : Pn) : List Value := [.int .i64 p.a, .int .i64 p.b, .int .i64 p.c, .int .i64 p.d]

/-- The chords that lead from each point to the next one. -/
def chds : List Pn → List (Pn × Pn)
  | a :: b :: l => (a, b) :: chds (b :: l)
  | _ => []

def chC (l : List (Pn × Pn)) : List Value := l.flatMap fun x => pnC x.1 ++ pnC x.2

theorem chds_length : ∀ l : List Pn, (chds l).length = l.length - 1
  | [] => rfl
  | [_] => rfl
  | _ :: b :: l => by simp [chds, chds_length (b :: l)]

theorem chds_get : ∀ (l : List Pn) (k : Nat) (a b : Pn), l[k]? = some a → l[k + 1]? = some b → (chds l)[k]? = some (a, b)
  | [], _, _, _, h, _ => by simp at h
  | [_], k, _, _, _, h => by simp at h
  | x :: y :: l, 0, a, b, h, h2 => by simp at h h2; subst h; subst h2; rfl
  | x :: y :: l, k + 1, a, b, h, h2 => by
    have := chds_get (y :: l) k a b (by simpa using h) (by simpa using h2)
    simpa [chds] using this

theorem chC_append (l m : List (Pn × Pn)) : chC (l ++ m) = chC l ++ chC m := by simp [chC]

theorem chC_length (l : List (Pn × Pn)) : (chC l).length = l.length * 8 := by
  induction l with
  | nil => rfl
  | cons x l ih => simp [chC, pnC] at ih ⊢; omega

set_option maxRecDepth 100000 in
set_option maxHeartbeats 1600000 in
theorem chordsAlongP (g n cap : Nat) (l : List Pn) (hn : l.length = n) (hb : n ≤ 1000000) (w : World) (hg : g < w.heap.size) (h1 : RowP w g l) :
    Calls Try.prog 101 #[.slice (some ⟨g, 0, none⟩) n cap] w fun e w' => ∃ v, e = .returned v ∧ w'.ownsRow w.heap.size 66 8 v (n - 1) (chC (chds l)) ∧ Below w.heap.size w w' := by
  have HN := Lib.hid hn
  have H1 := Lib.hid h1
  obtain ⟨i0, hi, iz0, iz1, iz2⟩ := info_parts chInfo
  clear hn h1
  go_enter Try.func101, Try.ntmps101
  go_wp2_with fail
  go_loopw [3, 4] (fun t i wr => ∃ (j : Nat) (v : Value), (j < n ∨ j = 0) ∧ i = .int .i64 ((j : Int) + 1) ∧ t = v ∧ wr.ownsRow w.heap.size 66 8 v j (chC ((chds l).take j)) ∧ Below w.heap.size w wr) (fun _ i _ => n - (intOf i).toNat)
  case atStart => exact ⟨0, _, .inr rfl, rfl, rfl, World.ownsRow_nil _ _ _ _, Below.refl _ _⟩
  case round =>
    obtain ⟨j, v, hk1, rfl, rfl, hJ, hB⟩ := hrel
    have hz : w.heap.size ≤ wr.heap.size := hB.size
    by_cases hlt : j + 1 < n
    · obtain ⟨p, hp⟩ : ∃ p, l[j]? = some p := ⟨_, List.getElem?_eq_getElem (by rw [HN.out]; omega)⟩
      obtain ⟨q, hq⟩ : ∃ q, l[j + 1]? = some q := ⟨_, List.getElem?_eq_getElem (by rw [HN.out]; exact hlt)⟩
      have R := H1.out.below hg hB
      obtain ⟨c0, c1, c2, c3⟩ := R j p hp
      obtain ⟨d0, d1, d2, d3⟩ := R (j + 1) q hq
      have hx := chds_get l j p q hp hq
      have HT := Lib.hid (show (chds l).take (j + 1) = (chds l).take j ++ [(p, q)] by
        have := List.take_add_one (l := chds l) (i := j)
        rw [hx] at this
        simpa using this)
      have HJ := Lib.hid hJ
      have k0 := fun d os => cell_regrown c0 d os
      have k1 := fun d os => cell_regrown c1 d os
      have k2 := fun d os => cell_regrown c2 d os
      have k3 := fun d os => cell_regrown c3 d os
      have l0 := fun d os => cell_regrown d0 d os
      have l1 := fun d os => cell_regrown d1 d os
      have l2 := fun d os => cell_regrown d2 d os
      have l3 := fun d os => cell_regrown d3 d os
      clear hp hq hx R hJ
      have j1 : (0 : Int) ≤ (j : Int) := by omega
      have j2 : (j : Int) + 1 < (n : Int) := by omega
      have j3 : (j : Int) < (n : Int) := by omega
      have j5 : (0 : Int) ≤ (j : Int) + 1 := by omega
      have j6 : ((j : Int) + 1).toNat = j + 1 := by omega
      have j4 : IntKind.i64.wrap (j : Int) = (j : Int) := IntWalk.i64_in _ ⟨by omega, by omega⟩
      have HB := Lib.hid hB
      clear hB k0 k1 k2 k3 l0 l1 l2 l3
      go_wp2_with fail
      go_region_law ((refine step_append_lies _ (by rfl) _ _ _ (by rfl) w.heap.size 66 i0 _ 8 64 Try.underlying73 hi iz0 iz1 iz2 (by rfl) (by decide) u3 j (chC ((chds l).take j)) ?hs ?hown ⟨wr.heap.size, 0, none⟩ 1 1 [.int .i64 p.a, .int .i64 p.b, .int .i64 p.c, .int .i64 p.d, .int .i64 q.a, .int .i64 q.b, .int .i64 q.c, .int .i64 q.d] ?hx (by rfl) ?hnews (by intro u hu; simp at hu; rcases hu with rfl | rfl | rfl | rfl | rfl | rfl | rfl | rfl <;> rfl) (by decide) (by unfold maxLen; omega) (by omega) ?hbase (wr.heap.size + 1) ?hH ?_); (case hs => first | rfl | simp [Act.eval]); (case hx => first | rfl | simp [Act.eval]); (case hown => first | exact (HJ.out.alloc _) | exact ((HJ.out.alloc _).drew)); (case hnews => exact newc7 (by simp)); (case hbase => (simp; omega)); (case hH => simp); intro g2 cap2 w3 hJ3 hg3 hat hlt3)
      all_goals
        have HJA := Lib.hid (HJ.out.alloc (.cells #[.int .i64 p.a, .int .i64 p.b, .int .i64 p.c, .int .i64 p.d, .int .i64 q.a, .int .i64 q.b, .int .i64 q.c, .int .i64 q.d] 66))
        have hBD := (show Below w.heap.size w (wr.alloc (.cells #[.int .i64 p.a, .int .i64 p.b, .int .i64 p.c, .int .i64 p.d, .int .i64 q.a, .int .i64 q.b, .int .i64 q.c, .int .i64 q.d] 66)).drew from (HB.out.alloc hz _).trans (below_dw7 _ _))
        have HB3 := Lib.hid (hBD.grown hg3 (by simp; omega) (fun k hk => (HJA.out.lt k hk).1))
        have HJ3 := Lib.hid hJ3
        clear hJ3 hg3 hBD hat hlt3 c0 c1 c2 c3 d0 d1 d2 d3
        have j7 : IntKind.i64.wrap ((j : Int) + 1 + 1) = (j : Int) + 1 + 1 := IntWalk.i64_in _ ⟨by omega, by omega⟩
        go_wp2_with fail
        go_roundw
        case rel => exact ⟨j + 1, _, by omega, by go_num, rfl, by rw [HT.out, chC_append]; exact HJ3.out, HB3.out⟩
        case measure => simp [intOf]; omega
    · have hjn : j = n - 1 := by omega
      have hE : (chds l).take j = chds l := List.take_of_length_le (by rw [chds_length, HN.out]; omega)
      rw [hE] at hJ
      have j1 : ¬ (j : Int) + 1 < (n : Int) := by omega
      have HJ := Lib.hid hJ
      have HB1 := Lib.hid hB
      clear hJ hB hE
      go_wp2_with fail
      go_ret
      exact ⟨_, rfl, by rw [← hjn]; exact HJ.out, HB1.out⟩

end Go.Proofs.Ytppbbcckijcckaa
