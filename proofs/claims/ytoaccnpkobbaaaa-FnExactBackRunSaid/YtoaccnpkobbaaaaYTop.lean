/- Contracts: what is a yard, what is a run on it. -/
import Derived.Test.YtoaccnpkobbaaaaYGd
import Derived.Test.YtoaccnpkobbaaaaClY
namespace Go.Proofs.Ytoaccnpkobbaaaa
open Go.ChangeShapes Go.WideShapes Go.ChangeAt Go.RowKit
open Yd

set_option linter.unusedVariables false

theorem spIsYard (g c h d n m : Nat) (ks rs : List Int) (hn : ks.length = n) (hm : rs.length = m) (hb : n ≤ 2000000) (hb' : m ≤ 2000000) (w : World) (h1 : RL w g n ks) (h2 : RL w h m rs) :
    Calls Try.prog 17 #[.agg #[.slice (some ⟨g, 0, none⟩) n c, .slice (some ⟨h, 0, none⟩) m d]] w fun e w' => e = .returned (.bool (ydB ks rs)) ∧ Below w.heap.size w w' := by
  have P := Lib.hid (fun w h1 h2 => ydGood_any g n c h m d ks rs hn hm hb hb' w h1 h2)
  have H1 := Lib.hid h1
  have H2 := Lib.hid h2
  clear hn hm h1 h2
  go_enter Try.func17, Try.ntmps17
  go_wp2_with fail
  refine (P.out _ (H1.out.keep (by go_grown)) (H2.out.keep (by go_grown))).mono ?_
  rintro e w1 ⟨rfl, k1⟩
  have hB : Below w.heap.size w w1 := ba (by go_grown) k1
  clear k1
  go_wp2_with fail
  go_ret
  exact ⟨rfl, hB⟩

/-- A run asked for: in the model and in the program. -/
theorem rnB_no {ks rs ss : List Int} {a : Int} (h : ydB ks rs = false) : rnB ks rs a ss = false := by simp [rnB, h]

set_option maxRecDepth 100000 in
set_option maxHeartbeats 1600000 in
theorem ydRun_any (x : Int) (g c h d p q n m l : Nat) (ks rs ss : List Int) (hn : ks.length = n) (hm : rs.length = m) (hl : ss.length = l) (hb : n ≤ 2000000) (hb' : m ≤ 2000000) (hb2 : l ≤ 2000000) (w : World) (h1 : RL w g n ks) (h2 : RL w h m rs) (h3 : RL w p l ss) :
    Calls Try.prog 64 #[.agg #[.slice (some ⟨g, 0, none⟩) n c, .slice (some ⟨h, 0, none⟩) m d], .agg #[.int .i64 x, .slice (some ⟨p, 0, none⟩) l q]] w fun e w' => e = .returned (.bool (rnB ks rs x ss)) ∧ Below w.heap.size w w' := by
  have HN := Lib.hid hn
  have HM := Lib.hid hm
  have HL := Lib.hid hl
  have H1 := Lib.hid h1
  have H2 := Lib.hid h2
  have H3 := Lib.hid h3
  have i0 : (0 : Int) ≤ (m : Int) := by omega
  have hR : rnB ks rs x ss = (ydB ks rs && inB x 0 ((m : Int) - 1) && decide (l = n) && allB ss 0 1) := by
    rw [rnB, st_all, hm, hn, hl]; rfl
  rw [hR]
  clear hn hm hl h1 h2 h3
  go_enter Try.func64, Try.ntmps64
  go_wp2_with fail
  refine (ydGood_any g n c h m d ks rs HN.out HM.out hb hb' _ (H1.out.keep (by go_grown)) (H2.out.keep (by go_grown))).mono ?_
  rintro e w1 ⟨rfl, k1⟩
  have hB : Below w.heap.size w w1 := ba (by go_grown) k1
  have H4 := Lib.hid (H3.out.keep hB)
  obtain ⟨hc1, hf1⟩ := bcell k1
  have hq := k1.size
  simp at hq
  have z0 : w.heap.size < w1.heap.size := by omega
  have z1 : w.heap.size + 1 < w1.heap.size := by omega
  clear k1
  cases hy : ydB ks rs
  · go_wp2_with fail
    go_ret
    exact ⟨by simp [hy], hB⟩
  cases hi : inB x 0 ((m : Int) - 1)
  · go_wp2_with (go_at_call 72; refine (l1In_any _ _ _ _).mono ?_; rintro e w' ⟨rfl, rfl⟩)
    go_ret
    exact ⟨by simp [hi], hB⟩
  by_cases hln : l = n
  · have hl2 : (n : Int) = (l : Int) := by omega
    have HD := Lib.hid (show decide (l = n) = true by simpa using hln)
    have HA := Lib.hid (fun w h => l1All_any p l q 0 1 ss HL.out hb2 w h)
    clear hln
    go_wp2_with (first | (go_at_call 72; refine (l1In_any _ _ _ _).mono ?_; rintro e w' ⟨rfl, rfl⟩) | (go_at_call 79; refine (HA.out _ H4.out).mono ?_; rintro e w' ⟨rfl, rfl⟩))
    go_ret
    exact ⟨by simp [HD.out, hy, hi], hB⟩
  · have hl2 : ¬ (l : Int) = (n : Int) := by omega
    have HD := Lib.hid (show decide (l = n) = false by simpa using hln)
    clear hln
    go_wp2_with (go_at_call 72; refine (l1In_any _ _ _ _).mono ?_; rintro e w' ⟨rfl, rfl⟩)
    go_ret
    exact ⟨by simp [HD.out, hy, hi], hB⟩

theorem spIsRun (x : Int) (g c h d p q n m l : Nat) (ks rs ss : List Int) (hn : ks.length = n) (hm : rs.length = m) (hl : ss.length = l) (hb : n ≤ 2000000) (hb' : m ≤ 2000000) (hb2 : l ≤ 2000000) (w : World) (h1 : RL w g n ks) (h2 : RL w h m rs) (h3 : RL w p l ss) :
    Calls Try.prog 22 #[.agg #[.slice (some ⟨g, 0, none⟩) n c, .slice (some ⟨h, 0, none⟩) m d], .agg #[.int .i64 x, .slice (some ⟨p, 0, none⟩) l q]] w fun e w' => e = .returned (.tuple #[.bool (rnB ks rs x ss), .bool (ydB ks rs)]) ∧ Below w.heap.size w w' := by
  have P := Lib.hid (fun w h1 h2 => ydGood_any g n c h m d ks rs hn hm hb hb' w h1 h2)
  have R := Lib.hid (fun w h1 h2 h3 => ydRun_any x g c h d p q n m l ks rs ss hn hm hl hb hb' hb2 w h1 h2 h3)
  have H1 := Lib.hid h1
  have H2 := Lib.hid h2
  have H3 := Lib.hid h3
  clear hn hm hl h1 h2 h3
  go_enter Try.func22, Try.ntmps22
  go_wp2_with fail
  refine (P.out _ (H1.out.keep (by go_grown)) (H2.out.keep (by go_grown))).mono ?_
  rintro e w1 ⟨rfl, k1⟩
  have hB : Below w.heap.size w w1 := ba (by go_grown) k1
  obtain ⟨hc1, hf1⟩ := bcell k1
  have hq := k1.size
  simp at hq
  have z0 : w.heap.size < w1.heap.size := by omega
  have z1 : w.heap.size + 1 < w1.heap.size := by omega
  clear k1
  cases hy : ydB ks rs
  · have HY := Lib.hid hy
    go_wp2_with fail
    go_ret2
    exact ⟨by rw [rnB_no HY.out, HY.out]; rfl, hB⟩
  go_wp2_with fail
  refine (R.out _ (H1.out.keep hB) (H2.out.keep hB) (H3.out.keep hB)).mono ?_
  rintro e w2 ⟨rfl, k2⟩
  have hB2 : Below w.heap.size w w2 := hB.trans (k2.mono hB.size)
  clear k2
  have HY := Lib.hid hy
  go_wp2_with fail
  go_ret2
  exact ⟨by rw [HY.out]; rfl, hB2⟩

set_option maxRecDepth 100000 in
set_option maxHeartbeats 1600000 in
theorem isRunOn_any (x : Int) (g c h d p q n m l : Nat) (ks rs ss : List Int) (hn : ks.length = n) (hm : rs.length = m) (hl : ss.length = l) (hb : n ≤ 2000000) (hb' : m ≤ 2000000) (hb2 : l ≤ 2000000) (w : World) (h1 : RL w g n ks) (h2 : RL w h m rs) (h3 : RL w p l ss) :
    Calls Try.prog 65 #[.agg #[.slice (some ⟨g, 0, none⟩) n c, .slice (some ⟨h, 0, none⟩) m d], .agg #[.int .i64 x, .slice (some ⟨p, 0, none⟩) l q]] w fun e w' => e = .returned (.bool (rnB ks rs x ss)) ∧ Below w.heap.size w w' := by
  have HN := Lib.hid hn
  have HM := Lib.hid hm
  have HL := Lib.hid hl
  have H1 := Lib.hid h1
  have H2 := Lib.hid h2
  have H3 := Lib.hid h3
  have i0 : (0 : Int) ≤ (m : Int) := by omega
  have hR : rnB ks rs x ss = (ydB ks rs && inB x 0 ((m : Int) - 1) && decide (l = n) && allB ss 0 1) := by
    rw [rnB, st_all, hm, hn, hl]; rfl
  rw [hR]
  clear hn hm hl h1 h2 h3
  go_enter Try.func65, Try.ntmps65
  go_wp2_with fail
  refine (imIsYard_any g n c h m d ks rs HN.out HM.out hb hb' _ (H1.out.keep (by go_grown)) (H2.out.keep (by go_grown))).mono ?_
  rintro e w1 ⟨rfl, k1⟩
  have hB : Below w.heap.size w w1 := ba (by go_grown) k1
  have hq := k1.size
  simp at hq
  have z0 : w.heap.size < w1.heap.size := by omega
  have z1 : w.heap.size + 1 < w1.heap.size := by omega
  have c0 := cl_below (b := w.heap.size) (o := 0) (v := .slice (some ⟨g, 0, none⟩) n c) (by simp [go_sem]) (by simp <;> omega) k1
  have c1 := cl_below (b := w.heap.size) (o := 1) (v := .slice (some ⟨h, 0, none⟩) m d) (by simp [go_sem]) (by simp <;> omega) k1
  have c2 := cl_below (b := w.heap.size + 1) (o := 0) (v := .int .i64 x) (by simp [go_sem]) (by simp <;> omega) k1
  have c3 := cl_below (b := w.heap.size + 1) (o := 1) (v := .slice (some ⟨p, 0, none⟩) l q) (by simp [go_sem]) (by simp <;> omega) k1
  clear k1
  cases hy : ydB ks rs
  · go_wp2_with fail
    go_ret
    exact ⟨by simp [hy], hB⟩
  go_wp2_with fail
  refine (hasEnd_any _ h m d hb' x _).mono ?_
  rintro e w2 ⟨rfl, k2⟩
  have hB2 : Below w.heap.size w w2 := hB.trans (k2.mono hB.size)
  have H4 := Lib.hid (H3.out.keep hB2)
  have d0 := cl_below c0 z0 k2
  have d1 := cl_below c1 z0 k2
  have d2 := cl_below c2 z1 k2
  have d3 := cl_below c3 z1 k2
  clear k2 c0 c1 c2 c3
  cases hi : inB x 0 ((m : Int) - 1)
  · go_wp2_with fail
    go_ret
    exact ⟨by simp [hi], hB2⟩
  by_cases hln : l = n
  case neg =>
    have hl2 : ¬ (l : Int) = (n : Int) := by omega
    have HD := Lib.hid (show decide (l = n) = false by simpa using hln)
    have hl4 : ((l : Int) != (n : Int)) = true := by simpa using hl2
    clear hln
    go_wp2_with fail
    go_ret
    exact ⟨by simp [HD.out], hB2⟩
  have hl2 : (n : Int) = (l : Int) := by omega
  have HD := Lib.hid (show decide (l = n) = true by simpa using hln)
  clear hln
  go_wp2_with fail
  go_loop [29] (fun i => ∃ k : Nat, k ≤ l ∧ i = .int .i64 k ∧ ∀ (j : Nat) x, j < k → ss[j]? = some x → inB x 0 1 = true) (fun i => l - (intOf i).toNat)
  case atStart => exact ⟨0, Nat.zero_le _, rfl, fun j x hj => absurd hj (by omega)⟩
  case round =>
    obtain ⟨k, hk, rfl, hall⟩ := hrel
    have HA := Lib.hid hall
    clear hall
    by_cases hlt : k < l
    · obtain ⟨y, hx⟩ : ∃ x, ss[k]? = some x := ⟨_, List.getElem?_eq_getElem (by rw [HL.out]; exact hlt)⟩
      have c0 := H4.out.get hlt hx
      have i1 : (0 : Int) ≤ (k : Int) := by omega
      have i2 : (k : Int) < (l : Int) := by omega
      have HX := Lib.hid hx
      clear hx
      cases hp : inB y 0 1
      · have HP := Lib.hid hp
        go_wp2_with (go_at_call 61; refine (isInRange_any _ _ _ _).mono ?_; rintro e w' ⟨rfl, rfl⟩)
        go_ret
        exact ⟨by rw [allB_no HX.out HP.out]; simp, hB2⟩
      · have HP := Lib.hid hp
        go_wp2_with (go_at_call 61; refine (isInRange_any _ _ _ _).mono ?_; rintro e w' ⟨rfl, rfl⟩)
        go_round
        case rel =>
          refine ⟨k + 1, by omega, by go_num, fun j z hj hz => ?_⟩
          by_cases e : j = k
          · subst e
            have := HX.out.symm.trans hz
            injection this with this
            rw [← this]; exact HP.out
          · exact HA.out j z (by omega) hz
        case measure => simp [intOf]; omega
    · obtain rfl : k = l := by omega
      have HY := Lib.hid hy
      have HI := Lib.hid hi
      go_wp2_with fail
      go_ret
      have HF := (allB_iff ss 0 1).2 fun i x hx => HA.out i x (by rw [← HL.out]; exact (List.getElem?_eq_some_iff.1 hx).1) hx
      exact ⟨by simp [HD.out, HF], hB2⟩

end Go.Proofs.Ytoaccnpkobbaaaa
