/- Contract: the ends that a train passes, in the program. -/
import Derived.Test.YtoaccnpkobbaaaaYEt
import Derived.Test.YtoaccnpkobbaaaaYCi
namespace Go.Proofs.Ytoaccnpkobbaaaa
open Go.ChangeShapes Go.WideShapes Go.ChangeAt Go.RowKit
open Yd

set_option linter.unusedVariables false

theorem imEnds_no (x N : Int) (g c h d p q n m l : Nat) (ks rs ss : List Int) (hn : ks.length = n) (hm : rs.length = m) (hl : ss.length = l) (hb : n ≤ 2000000) (hb' : m ≤ 2000000) (hb2 : l ≤ 2000000) (hno : (rnB ks rs x ss && inB N 0 200) = false) (w : World) (h1 : RL w g n ks) (h2 : RL w h m rs) (h3 : RL w p l ss) :
    Calls Try.prog 34 #[.agg #[.slice (some ⟨g, 0, none⟩) n c, .slice (some ⟨h, 0, none⟩) m d], .agg #[.int .i64 x, .slice (some ⟨p, 0, none⟩) l q], .int .i64 N] w fun e w' => e = .returned (.tuple #[.slice none 0 0, .bool false]) ∧ Below w.heap.size w w' := by
  have R := Lib.hid (fun w' (hw : Below w.heap.size w w') => spotsOf_no x g c h d p q n m l N 200 ks rs ss hn hm hl hb hb' hb2 w' (h1.keep hw) (h2.keep hw) (h3.keep hw) (by
    cases hr : rnB ks rs x ss
    · exact Or.inl rfl
    · rw [hr, Bool.true_and] at hno; exact Or.inr hno))
  clear hn hm hl h1 h2 h3 hno
  go_enter Try.func34, Try.ntmps34
  go_wp2_with fail
  refine (R.out _ (by go_grown)).mono ?_
  rintro e w1 ⟨rfl, k1⟩
  have hB : Below w.heap.size w w1 := ba (by go_grown) k1
  clear k1
  go_wp2_with fail
  refine wp_loop_rounds 1 ?_
  rw [rounds_succ]
  go_wp2_with fail
  go_ret2
  exact ⟨rfl, hB⟩

set_option maxRecDepth 100000 in
set_option maxHeartbeats 3200000 in
theorem imEnds_yes (a N : Nat) (g c h d p u n m l : Nat) (ks rs ss : List Int) (hn : ks.length = n) (hm : rs.length = m) (hl : ss.length = l) (hg : YdOk ks rs) (ho : RnOk ks a ss) (hN : N ≤ 200) (w : World) (h1 : RL w g n ks) (h2 : RL w h m rs) (h3 : RL w p l ss) :
    Calls Try.prog 34 #[.agg #[.slice (some ⟨g, 0, none⟩) n c, .slice (some ⟨h, 0, none⟩) m d], .agg #[.int .i64 (a:Nat), .slice (some ⟨p, 0, none⟩) l u], .int .i64 (N : Nat)] w (LsPost (N + 1) (enL ks rs a ss (N + 1)) true w) := by
  obtain ⟨i0, hi, iz0, iz1, iz2⟩ := info_of numInfo
  have P := Lib.hid (fun w' (hw : Below w.heap.size w w') => spotsOf_yes a N g c h d p u n m l 200 ks rs ss hn hm hl hg ho (by omega) (by decide) w' (h1.keep hw) (h2.keep hw) (h3.keep hw))
  have CE := Lib.hid (fun k g' cap (w1 : World) (hO : w1.ownsRow w.heap.size 80 7 (.slice (some ⟨g', 0, none⟩) (N + 1) cap) (N + 1) (spsC (orL ks rs a ss (N + 1)))) (hk : k < N + 1) i v hv => so_cell (j := k) (i := i) (v := v) hg ho hO hk hv)
  have S6 := Lib.hid (fun k => spC_six (x := orb ks rs a ss k) (orb_len6 hg ho k))
  have EL := Lib.hid (fun n => enL_succM ks rs a ss n)
  have ELn := Lib.hid (enL_len ks rs a ss (N + 1))
  clear hn hm hl h1 h2 h3 hg ho
  go_enter Try.func34, Try.ntmps34
  go_wp2_with fail
  refine (P.out _ (by go_grown)).mono ?_
  rintro e w1 ⟨g', cap, rfl, hg', hO, k1⟩
  have B1 : Below w.heap.size w w1 := ba (by go_grown) k1
  rw [orL_len] at hO ⊢
  have HO := Lib.hid (own_lessS hO (by simp; omega : w.heap.size ≤ _))
  have hgl := (hO.lt g' rfl).2
  clear k1 hO hg'
  go_wp2_with fail
  go_loopw [10, 22] (fun t i wr => ∃ (k : Nat) (v : Value), k ≤ N + 1 ∧ i = .int .i64 k ∧ v = t ∧ wr.ownsRow w1.heap.size 3 1 v k ((enL ks rs a ss k).map (Value.int .i64)) ∧ wr.ownsRow w.heap.size 80 7 (.slice (some ⟨g', 0, none⟩) (N + 1) cap) (N + 1) (spsC (orL ks rs a ss (N + 1))) ∧ w1.heap.size ≤ wr.heap.size ∧ Below w.heap.size w wr) (fun _ i _ => N + 1 - (intOf i).toNat)
  case atStart => exact ⟨0, _, Nat.zero_le _, rfl, rfl, World.ownsRow_nil _ _ _ _, HO.out, Nat.le_refl _, B1⟩
  case round =>
    obtain ⟨k, v, hk, rfl, rfl, hV, hS, hsz, hB⟩ := hrel
    have HV := Lib.hid hV
    have HS := Lib.hid hS
    have HB := Lib.hid hB
    by_cases hlt : k < N + 1
    · obtain ⟨z0, z1, z2, z3, z4, z5, hz, _⟩ := S6.out k
      have ce := fun i v hv => CE.out k g' cap wr hS hlt i v hv
      rw [hz] at ce
      have c0 : wr.cell? ⟨g', k * 7, none⟩ = some (.int .i64 ((orb ks rs a ss k).1 : Int)) := ce 0 _ rfl
      have c1 := ce 1 _ rfl
      have c2 := ce 2 _ rfl
      have c3 := ce 3 _ rfl
      have c4 := ce 4 _ rfl
      have c5 := ce 5 _ rfl
      have c6 := ce 6 _ rfl
      have j1 : (0 : Int) ≤ (k : Int) := by omega
      have j2 : (k : Int) < ((N + 1 : Nat) : Int) := by omega
      have j3 : (k : Int) < (N : Int) + 1 := by omega
      have hwp : IntKind.i64.wrap ((k : Int) + 1) = (k : Int) + 1 := by rw [IntKind.wrap_i64]; omega
      have EK := Lib.hid (EL.out k)
      generalize (orb ks rs a ss k).1 = y at *
      have HV2 := Lib.hid ((hV.alloc (.cells #[.int .i64 (y : Int), .int .i64 z0, .int .i64 z1, .int .i64 z2, .int .i64 z3, .int .i64 z4, .int .i64 z5] 80)).alloc (.cells #[.int .i64 (y : Int)] 3))
      have HS2 := Lib.hid ((hS.alloc (.cells #[.int .i64 (y : Int), .int .i64 z0, .int .i64 z1, .int .i64 z2, .int .i64 z3, .int .i64 z4, .int .i64 z5] 80)).alloc (.cells #[.int .i64 (y : Int)] 3))
      have hnw := cell_one_new (wr.alloc (.cells #[.int .i64 (y : Int), .int .i64 z0, .int .i64 z1, .int .i64 z2, .int .i64 z3, .int .i64 z4, .int .i64 z5] 80)) (.int .i64 (y : Int)) 3
      rw [World.size_alloc] at hnw
      have NW := Lib.hid hnw
      have hj := hV.lt
      clear ce hz hV hS hB hnw
      go_wp2_with (at_builtin; refine wpList_append_own_at _ rfl _ _ 22 rfl w1.heap.size 3 i0 (.int .i64 0) 1 8 Try.underlying22 hi iz0 iz1 iz2 rfl (by decide) v _ _ rfl HV2.out ⟨wr.heap.size + 1, 0, none⟩ 1 1 [.int .i64 (y : Int)] rfl rfl NW.out (by intro u hu; simp at hu; subst hu; rfl) (by unfold maxLen; omega) (by omega) (by simp; omega) ?_; intro v' w4 hown' hgrow hnil hloc)
      have HS4 := Lib.hid (HS2.out.kept hgrow (by
        cases hvb : v.ownBlock with
        | none => exact Or.inr (by simp [Value.ownBlock])
        | some j => exact Or.inr (by have := (hj j hvb).1; simp [Value.ownBlock]; omega)))
      have HB4 := Lib.hid (((HB.out.alloc HB.out.size (.cells #[.int .i64 (y : Int), .int .i64 z0, .int .i64 z1, .int .i64 z2, .int .i64 z3, .int .i64 z4, .int .i64 z5] 80)).alloc (by simp; have := HB.out.size; omega) (.cells #[.int .i64 (y : Int)] 3)).grown hgrow (by simp; have := HB.out.size; omega) (fun j hjv => by have := (hj j hjv).1; have := B1.size; omega))
      have HW := Lib.hid hown'
      have hs4 := hgrow.size
      simp at hs4
      clear hown' hgrow hnil hloc hj c0 c1 c2 c3 c4 c5 c6
      go_wp2_with fail
      go_roundw
      case rel => exact ⟨k + 1, v', by omega, by go_num, rfl, by rw [EK.out]; exact HW.out, HS4.out, by omega, HB4.out⟩
      case measure => simp [intOf]; omega
    · obtain rfl : k = N + 1 := by omega
      obtain ⟨g1, cc, rfl, hg1, hR1⟩ := own_RL hV ELn.out (fun e => by
        rcases hV.2 with ⟨_, h0⟩ | ⟨g'', cap'', cur, e2, _⟩
        · omega
        · rw [e] at e2; cases e2)
      have HRL := Lib.hid hR1
      clear hV hS hB hR1
      go_wp2_with fail
      go_ret2
      exact ⟨g1, cc, rfl, by have := B1.size; omega, HRL.out, HB.out⟩

end Go.Proofs.Ytoaccnpkobbaaaa
