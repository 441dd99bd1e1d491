/- Contract: a step, in the program: every spot of a run on a yard. -/
import Derived.Test.YtoaccnpkobbaaaaYNS0
import Derived.Test.YtoaccnpkobbaaaaYNS1
import Derived.Test.YtoaccnpkobbaaaaYNS2
import Derived.Test.YtoaccnpkobbaaaaYNB0
import Derived.Test.YtoaccnpkobbaaaaYNB1
import Derived.Test.YtoaccnpkobbaaaaYNB2
import Derived.Test.YtoaccnpkobbaaaaYSp
namespace Go.Proofs.Ytoaccnpkobbaaaa
open Go.ChangeShapes Go.WideShapes Go.ChangeAt Go.RowKit
open Yd

set_option linter.unusedVariables false

theorem next_any (a : Nat) (g c g' d n m : Nat) (ks rs ss : List Int) (hn : ks.length = n) (hm : rs.length = m) (hg : YdOk ks rs) (hr : RnOk ks a ss) (w : World) (h1 : RL w g n ks) (h2 : RL w g' m rs) :
    Calls Try.prog 75 #[.agg #[.slice (some ⟨g, 0, none⟩) n c, .slice (some ⟨g', 0, none⟩) m d], spV a ss] w fun e w' => e = .returned (spV (stA rs a ss) (stS ks a ss)) ∧ Below w.heap.size w w' := by
  obtain ⟨k, sd, q, b, s, kd, hk, hsd, hkn, hs3, hqm, hs, hkd, hs2, hb, hq, e1, e2⟩ := st_facts hg hr
  have hkd3 := hg.kd _ _ hkd
  have hsl : ss.length ≤ 6 := by rw [hr.len]; exact hg.n6
  have hkl : k < ss.length := (List.getElem?_eq_some_iff.1 hs).1
  have htl : (stS ks a ss).length ≤ 6 := by rw [stS, List.length_set]; exact hsl
  obtain ⟨x0, x1, x2, x3, x4, x5, hx⟩ := six_of (pad6_len hsl)
  obtain ⟨y0, y1, y2, y3, y4, y5, hy⟩ := six_of (pad6_len htl)
  have hget := pad6_get hs
  rw [hx] at hget
  have hset : ∀ v, stS ks a ss = ss.set k v → [x0, x1, x2, x3, x4, x5].set k v = [y0, y1, y2, y3, y4, y5] := fun v hv => by rw [← hx, ← hy, hv, pad6_set hkl]
  have H1 := h1.get (by rw [← hn]; exact hkn) hkd
  have H2 := h2.get (by rw [← hm]; exact hqm) hb
  have n6 := hg.n6
  rw [spV, spV, hx, hy, e1]
  have j1 : (0 : Int) ≤ (k : Int) := by omega
  have j2 : (k : Int) < (n : Int) := by omega
  have j4 : (0 : Int) ≤ (q : Int) := by omega
  have j5 : (q : Int) < (m : Int) := by omega
  have j6 : (k : Int) ≤ 5 := by omega
  have j6' : (k : Int) < 6 := by omega
  have j7 : (0 : Int) ≤ (a : Int) := by omega
  have j8 : (0 : Int) ≤ (b : Int) := by omega
  have j9 : 0 ≤ s := by omega
  have j10 : s ≤ 1 := by omega
  rcases (by omega : sd = 0 ∨ ¬ sd = 0) with rfl | hsd0
  · rw [if_pos rfl] at hq e2
    have hq' : 3 * (k : Int) + (1 + s) = (q : Int) := by omega
    rcases (by omega : kd = 0 ∨ kd = 1 ∨ kd = 2) with rfl | rfl | rfl
    · exact nextS0 a k q b s x0 x1 x2 x3 x4 x5 y0 y1 y2 y3 y4 y5 g c g' d n m w hk j1 j2 j4 j5 j6 j6' j7 j8 j9 j10 (by simpa using hsd) hq' hget (hset _ (by rw [e2]; rfl)) H1 H2 h1.lt h2.lt
    · exact nextS1 a k q b s x0 x1 x2 x3 x4 x5 y0 y1 y2 y3 y4 y5 g c g' d n m w hk j1 j2 j4 j5 j6 j6' j7 j8 j9 j10 (by simpa using hsd) hq' hget (hset _ (by rw [e2]; rfl)) H1 H2 h1.lt h2.lt
    · exact nextS2 a k q b s x0 x1 x2 x3 x4 x5 y0 y1 y2 y3 y4 y5 g c g' d n m w hk j1 j2 j4 j5 j6 j6' j7 j8 j9 j10 (by simpa using hsd) hq' hget (hset _ (by rw [e2]; rfl)) H1 H2 h1.lt h2.lt
  · rw [if_neg hsd0] at hq e2
    have hn0 : ¬ (sd : Int) = 0 := by omega
    rcases (by omega : kd = 0 ∨ kd = 1 ∨ kd = 2) with rfl | rfl | rfl
    · exact nextB0 a k q b s x0 x1 x2 x3 x4 x5 y0 y1 y2 y3 y4 y5 g c g' d n m w hk j1 j2 j4 j5 j6 j6' j7 j8 j9 j10 sd hsd hn0 (by omega) hq.symm hget (hset _ (by rw [e2]; rfl)) H1 H2 h1.lt h2.lt
    · exact nextB1 a k q b s x0 x1 x2 x3 x4 x5 y0 y1 y2 y3 y4 y5 g c g' d n m w hk j1 j2 j4 j5 j6 j6' j7 j8 j9 j10 sd hsd hn0 (by omega) hq.symm hget (hset _ (by rw [e2]; rfl)) H1 H2 h1.lt h2.lt
    · exact nextB2 a k q b s x0 x1 x2 x3 x4 x5 y0 y1 y2 y3 y4 y5 g c g' d n m w hk j1 j2 j4 j5 j6 j6' j7 j8 j9 j10 sd hsd hn0 (by omega) hq.symm hget (hset _ (by rw [e2]; rfl)) H1 H2 h1.lt h2.lt

end Go.Proofs.Ytoaccnpkobbaaaa
