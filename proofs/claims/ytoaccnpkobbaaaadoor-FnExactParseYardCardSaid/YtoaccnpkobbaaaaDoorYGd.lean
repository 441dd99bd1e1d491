/- Contracts: what is a yard, in the model and in the program. -/
import Derived.Test.YtoaccnpkobbaaaaDoorYLa
import Derived.Test.YtoaccnpkobbaaaaDoorYdM
import Derived.Test.YtoaccnpkobbaaaaDoorIn
import Derived.Test.YtoaccnpkobbaaaaDoorRn
namespace Go.Proofs.YtoaccnpkobbaaaaDoor
open Go.ChangeShapes Go.WideShapes Go.ChangeAt Go.RowKit
open Yd

set_option linter.unusedVariables false

def allB (xs : List Int) (lo hi : Int) : Bool := xs.all fun x => inB x lo hi

theorem allB_iff (xs : List Int) (lo hi : Int) : allB xs lo hi = true ↔ ∀ (i : Nat) x, xs[i]? = some x → inB x lo hi = true := by
  simp only [allB, List.all_eq_true]
  constructor
  · intro h i x hx; exact h x (List.mem_of_getElem? hx)
  · intro h x hx; obtain ⟨i, hi⟩ := List.getElem?_of_mem hx; exact h i x hi

theorem allB_no {xs : List Int} {lo hi : Int} {i : Nat} {x : Int} (hx : xs[i]? = some x) (h : inB x lo hi = false) : allB xs lo hi = false := by
  refine Bool.eq_false_iff.2 fun e => ?_
  have := (allB_iff xs lo hi).1 e i x hx
  rw [h] at this; cases this

set_option maxRecDepth 100000 in
set_option maxHeartbeats 800000 in
theorem l1All_any (g n c : Nat) (lo hi : Int) (xs : List Int) (hn : xs.length = n) (hb : n ≤ 2000000) (w : World) (h : RL w g n xs) :
    Calls Tryd.prog 33 #[.slice (some ⟨g, 0, none⟩) n c, .int .i64 lo, .int .i64 hi] w fun e w' => e = .returned (.bool (allB xs lo hi)) ∧ w = w' := by
  have HN := Lib.hid hn
  have H1 := Lib.hid h
  clear hn h
  go_enter Tryd.func33, Tryd.ntmps33
  go_wp2_with fail
  go_loop [11] (fun i => ∃ k : Nat, k ≤ n ∧ i = .int .i64 k ∧ ∀ (j : Nat) x, j < k → xs[j]? = some x → inB x lo hi = true) (fun i => n - (intOf i).toNat)
  case atStart => exact ⟨0, Nat.zero_le _, rfl, fun j x hj => absurd hj (by omega)⟩
  case round =>
    obtain ⟨k, hk, rfl, hall⟩ := hrel
    have HA := Lib.hid hall
    clear hall
    by_cases hlt : k < n
    · obtain ⟨x, hx⟩ : ∃ x, xs[k]? = some x := ⟨_, List.getElem?_eq_getElem (by rw [HN.out]; exact hlt)⟩
      have c0 := H1.out.get hlt hx
      have i1 : (0 : Int) ≤ (k : Int) := by omega
      have i2 : (k : Int) < (n : Int) := by omega
      have HX := Lib.hid hx
      clear hx
      cases hp : inB x lo hi
      · go_wp2_with (go_at_call 32; refine (l1In_any _ _ _ _).mono ?_; rintro e w' ⟨rfl, rfl⟩)
        go_ret
        exact ⟨by rw [allB_no HX.out hp]; rfl, rfl⟩
      · go_wp2_with (go_at_call 32; refine (l1In_any _ _ _ _).mono ?_; rintro e w' ⟨rfl, rfl⟩)
        go_round
        case rel =>
          refine ⟨k + 1, by omega, by go_num, fun j y hj hy => ?_⟩
          by_cases e : j = k
          · subst e
            have := HX.out.symm.trans hy
            injection this with this
            rw [← this]; exact hp
          · exact HA.out j y (by omega) hy
        case measure => simp [intOf]; omega
    · obtain rfl : k = n := by omega
      go_wp2_with fail
      go_ret
      exact ⟨by rw [(allB_iff xs lo hi).2 fun i x hx => HA.out i x (by rw [← HN.out]; exact (List.getElem?_eq_some_iff.1 hx).1) hx]; rfl, rfl⟩

theorem ydKind_any (k : Int) (w : World) : Calls Tryd.prog 34 #[.int .i64 k] w fun e w' => e = .returned (.bool (inB k 0 2)) ∧ w = w' := by
  go_enter Tryd.func34, Tryd.ntmps34
  go_wp2_with (go_at_call 32; refine (l1In_any _ _ _ _).mono ?_; rintro e w' ⟨rfl, rfl⟩)
  go_ret
  exact ⟨rfl, rfl⟩

theorem kd_all (ks : List Int) : kdB ks = allB ks 0 2 := rfl

theorem rl_all (rs : List Int) : rlB rs = allB rs 0 ((rs.length : Int) - 1) := rfl

theorem st_all (ss : List Int) : stB ss = allB ss 0 1 := rfl

theorem ydB_no {ks rs : List Int} (h : ¬ YdOk ks rs) : ydB ks rs = false := Bool.eq_false_iff.2 fun e => h ((good_iff ks rs).1 e)

theorem ydB_yes {ks rs : List Int} (h : YdOk ks rs) : ydB ks rs = true := (good_iff ks rs).2 h

/-- What is known of a yard's numbers before its rails are followed. -/
structure YdA (ks rs : List Int) : Prop where
  n1 : 1 ≤ ks.length
  n6 : ks.length ≤ 6
  nr : rs.length = 3 * ks.length

theorem ydA_of {ks rs : List Int} (h : YdOk ks rs) : YdA ks rs := ⟨h.n1, h.n6, h.nr⟩

/-- The rails up to k lead back. -/
def jnTo (rs : List Int) (k : Nat) : Prop := ∀ (i : Nat) j, i < k → rs[i]? = some j → j ≠ (i : Int) ∧ rs[j.toNat]? = some (i : Int)

theorem jnTo_zero (rs : List Int) : jnTo rs 0 := fun i j h => absurd h (by omega)

theorem jnTo_succ {rs : List Int} {k : Nat} {x : Int} (h : jnTo rs k) (hx : rs[k]? = some x) (h1 : x ≠ (k : Int)) (h2 : rs[x.toNat]? = some (k : Int)) : jnTo rs (k + 1) := fun i j hi hj => by
  by_cases e : i = k
  · subst e
    rw [hx] at hj
    injection hj with hj
    subst hj
    exact ⟨h1, h2⟩
  · exact h i j (by omega) hj

theorem ydOk_mk {ks rs : List Int} (h : YdA ks rs) (hk : allB ks 0 2 = true) (hr : allB rs 0 ((rs.length : Int) - 1) = true) (hj : jnTo rs rs.length) : YdOk ks rs := by
  refine ⟨h.n1, h.n6, h.nr, fun i k hi => ?_, fun i j hi => ?_, fun i j hi => ?_, fun i j hi => ?_⟩
  · simpa [inB] using (allB_iff _ _ _).1 hk i k hi
  · have := (allB_iff _ _ _).1 hr i j hi
    have h3 := h.nr
    simp [inB] at this
    omega
  · exact (hj i j (List.getElem?_eq_some_iff.1 hi).1 hi).1
  · exact (hj i j (List.getElem?_eq_some_iff.1 hi).1 hi).2

theorem ydOk_kd {ks rs : List Int} (h : YdOk ks rs) : allB ks 0 2 = true := (kdB_iff ks).2 h.kd

theorem ydOk_rl {ks rs : List Int} (h : YdOk ks rs) : allB rs 0 ((rs.length : Int) - 1) = true := (rlB_iff rs).2 fun i j hj => by
  have := h.rl i j hj
  have := h.nr
  omega

set_option maxRecDepth 100000 in
set_option maxHeartbeats 1600000 in
theorem ydGood_any (g n c h m d : Nat) (ks rs : List Int) (hn : ks.length = n) (hm : rs.length = m) (hb : n ≤ 2000000) (hb' : m ≤ 2000000) (w : World) (h1 : RL w g n ks) (h2 : RL w h m rs) :
    Calls Tryd.prog 15 #[.agg #[.slice (some ⟨g, 0, none⟩) n c, .slice (some ⟨h, 0, none⟩) m d]] w fun e w' => e = .returned (.bool (ydB ks rs)) ∧ Below w.heap.size w w' := by
  have hq1 := h1.lt
  have hq2 := h2.lt
  have HN := Lib.hid hn
  have HM := Lib.hid hm
  by_cases hnn : inB (n : Int) 1 6 = true
  case neg =>
    have hnn' : inB (n : Int) 1 6 = false := by simpa using hnn
    rw [ydB_no fun q => hnn (by have := q.n1; have := q.n6; simp [inB]; omega)]
    clear hnn hn hm
    go_enter Tryd.func15, Tryd.ntmps15
    go_wp2_with (go_at_call 32; refine (l1In_any _ _ _ _).mono ?_; rintro e w' ⟨rfl, rfl⟩)
    go_ret
    exact ⟨rfl, by go_grown⟩
  by_cases hmm : 3 * (n : Int) = (m : Int)
  case neg =>
    rw [ydB_no fun q => hmm (by have := q.nr; omega)]
    have hmm' : ¬ (m : Int) = 3 * (n : Int) := fun e => hmm e.symm
    clear hn hm hmm
    go_enter Tryd.func15, Tryd.ntmps15
    go_wp2_with (go_at_call 32; refine (l1In_any _ _ _ _).mono ?_; rintro e w' ⟨rfl, rfl⟩)
    go_ret
    exact ⟨rfl, by go_grown⟩
  have hn6 : 1 ≤ n ∧ n ≤ 6 := by simp [inB] at hnn; omega
  have hA : YdA ks rs := ⟨by omega, by omega, by omega⟩
  have H1 := Lib.hid (h1.below hq1 ((Below.refl w.heap.size w).alloc (Nat.le_refl _) (.cells #[.slice (some ⟨g, 0, none⟩) n c, .slice (some ⟨h, 0, none⟩) m d] 28)))
  have H2 := Lib.hid (h2.below hq2 ((Below.refl w.heap.size w).alloc (Nat.le_refl _) (.cells #[.slice (some ⟨g, 0, none⟩) n c, .slice (some ⟨h, 0, none⟩) m d] 28)))
  have hm1 : (m : Int) - 1 = (rs.length : Int) - 1 := by omega
  have HA := Lib.hid hA
  cases hr : allB rs 0 ((m : Int) - 1)
  · rw [ydB_no fun q => by have := ydOk_rl q; rw [← hm1, hr] at this; cases this]
    clear hn hm hm1 h1 h2
    go_enter Tryd.func15, Tryd.ntmps15
    go_wp2_with (first | (go_at_call 32; refine (l1In_any _ _ _ _).mono ?_; rintro e w' ⟨rfl, rfl⟩) | (go_at_call 33; refine (l1All_any h m d _ _ rs HM.out hb' _ H2.out).mono ?_; rintro e w' ⟨rfl, rfl⟩))
    go_ret
    exact ⟨rfl, by go_grown⟩
  have HR := Lib.hid hr
  clear hn hm hm1 h1 h2
  go_enter Tryd.func15, Tryd.ntmps15
  go_wp2_with (first | (go_at_call 32; refine (l1In_any _ _ _ _).mono ?_; rintro e w' ⟨rfl, rfl⟩) | (go_at_call 33; refine (l1All_any h m d _ _ rs HM.out hb' _ H2.out).mono ?_; rintro e w' ⟨rfl, rfl⟩))
  go_loop [35] (fun i => ∃ k : Nat, k ≤ n ∧ i = .int .i64 k ∧ ∀ (j : Nat) x, j < k → ks[j]? = some x → inB x 0 2 = true) (fun i => n - (intOf i).toNat)
  case atStart => exact ⟨0, Nat.zero_le _, rfl, fun j x hj => absurd hj (by omega)⟩
  case round =>
    obtain ⟨k, hk, rfl, hall⟩ := hrel
    have HL := Lib.hid hall
    clear hall
    by_cases hlt : k < n
    · obtain ⟨x, hx⟩ : ∃ x, ks[k]? = some x := ⟨_, List.getElem?_eq_getElem (by rw [HN.out]; exact hlt)⟩
      have c0 := H1.out.get hlt hx
      have i1 : (0 : Int) ≤ (k : Int) := by omega
      have i2 : (k : Int) < (n : Int) := by omega
      have HX := Lib.hid hx
      clear hx
      cases hp : inB x 0 2
      · go_wp2_with (go_at_call 34; refine (ydKind_any _ _).mono ?_; rintro e w' ⟨rfl, rfl⟩)
        go_ret
        exact ⟨by rw [ydB_no fun q => by have := (allB_no HX.out hp).symm.trans (ydOk_kd q); cases this]; rfl, by go_grown⟩
      · go_wp2_with (go_at_call 34; refine (ydKind_any _ _).mono ?_; rintro e w' ⟨rfl, rfl⟩)
        go_round
        case rel =>
          refine ⟨k + 1, by omega, by go_num, fun j y hj hy => ?_⟩
          by_cases e : j = k
          · subst e
            have := HX.out.symm.trans hy
            injection this with this
            rw [← this]; exact hp
          · exact HL.out j y (by omega) hy
        case measure => simp [intOf]; omega
    · obtain rfl : k = n := by omega
      have HKD := Lib.hid ((allB_iff ks 0 2).2 fun i x hx => HL.out i x (by rw [← HN.out]; exact (List.getElem?_eq_some_iff.1 hx).1) hx)
      clear HL
      go_wp2_with fail
      go_loop [46] (fun i => ∃ k : Nat, k ≤ m ∧ i = .int .i64 k ∧ jnTo rs k) (fun i => m - (intOf i).toNat)
      case atStart => exact ⟨0, Nat.zero_le _, rfl, jnTo_zero _⟩
      case round =>
        obtain ⟨j, hj, rfl, hall⟩ := hrel
        have HL := Lib.hid hall
        clear hall
        by_cases hlt : j < m
        · obtain ⟨x, hx⟩ : ∃ x, rs[j]? = some x := ⟨_, List.getElem?_eq_getElem (by rw [HM.out]; exact hlt)⟩
          have hxr : 0 ≤ x ∧ x ≤ (m : Int) - 1 := by simpa [inB] using (allB_iff _ _ _).1 HR.out j x hx
          obtain ⟨q, rfl⟩ : ∃ q : Nat, x = (q : Int) := ⟨x.toNat, by omega⟩
          have hql : q < m := by omega
          obtain ⟨z, hz⟩ : ∃ z, rs[q]? = some z := ⟨_, List.getElem?_eq_getElem (by rw [HM.out]; exact hql)⟩
          have c0 := H2.out.get hlt hx
          have c1 := H2.out.get hql hz
          have i1 : (0 : Int) ≤ (j : Int) := by omega
          have i2 : (j : Int) < (m : Int) := by omega
          have i3 : (0 : Int) ≤ (q : Int) := by omega
          have i4 : (q : Int) < (m : Int) := by omega
          have HX := Lib.hid hx
          have HZ := Lib.hid hz
          clear hx hz hxr
          by_cases e1 : j = q
          · subst e1
            clear c1
            go_wp2_with fail
            go_ret
            exact ⟨by rw [ydB_no fun y => y.ne _ _ HX.out rfl]; rfl, by go_grown⟩
          have e2 : ¬ (j : Int) = (q : Int) := by omega
          by_cases e3 : z = (j : Int)
          · have HE := Lib.hid e3
            have HNE := Lib.hid e1
            subst e3
            clear e1
            go_wp2_with fail
            go_round
            case rel => exact ⟨j + 1, by omega, by go_num, jnTo_succ HL.out HX.out (by have := HNE.out; omega) (by simpa using HZ.out)⟩
            case measure => simp [intOf]; omega
          · have e4 : (z != (j : Int)) = true := by simpa using e3
            have e5 : ((j : Int) == (q : Int)) = false := by simpa using e2
            clear e1
            go_wp2_with fail
            go_ret
            exact ⟨by rw [ydB_no fun y => by have := y.bk _ _ HX.out; rw [Int.toNat_natCast, HZ.out] at this; exact e3 (Option.some.inj this)]; rfl, by go_grown⟩
        · obtain rfl : j = m := by omega
          go_wp2_with fail
          go_ret
          exact ⟨by rw [ydB_yes (ydOk_mk HA.out HKD.out (by rw [HM.out]; exact HR.out) (by rw [HM.out]; exact HL.out))]; rfl, by go_grown⟩

/-! ### The program's -/

theorem nil91 (w : World) : (binOp .eql 42 (.iface 61 (.agg #[])) .nilIface).run Tryd.prog w = .ok (.bool false) w := by kernel_rfl

theorem nil92 (w : World) : (binOp .eql 42 (.iface 62 (.agg #[])) .nilIface).run Tryd.prog w = .ok (.bool false) w := by kernel_rfl

theorem nil93 (w : World) : (binOp .eql 42 (.iface 63 (.agg #[])) .nilIface).run Tryd.prog w = .ok (.bool false) w := by kernel_rfl

theorem grd91 (a b : Operand) (w : World) : (eqGuard .eql 42 a b (.iface 61 (.agg #[])) .nilIface).run Tryd.prog w = .ok () w := by kernel_rfl

theorem grd92 (a b : Operand) (w : World) : (eqGuard .eql 42 a b (.iface 62 (.agg #[])) .nilIface).run Tryd.prog w = .ok () w := by kernel_rfl

theorem grd93 (a b : Operand) (w : World) : (eqGuard .eql 42 a b (.iface 63 (.agg #[])) .nilIface).run Tryd.prog w = .ok () w := by kernel_rfl

/-- The switch of a kind. -/
def swV (k : Int) : Value := if k = 0 then .iface 61 (.agg #[]) else if k = 1 then .iface 62 (.agg #[]) else if k = 2 then .iface 63 (.agg #[]) else .nilIface

set_option maxRecDepth 100000 in
theorem switchOf_any (k : Int) (w : World) : Calls Tryd.prog 20 #[.int .i64 k] w fun e w' => e = .returned (swV k) ∧ w = w' := by
  by_cases h0 : k = 0
  · subst h0
    go_enter Tryd.func20, Tryd.ntmps20
    go_wp2_with fail
    go_ret
    exact ⟨rfl, rfl⟩
  by_cases h1 : k = 1
  · subst h1
    go_enter Tryd.func20, Tryd.ntmps20
    go_wp2_with fail
    go_ret
    exact ⟨rfl, rfl⟩
  by_cases h2 : k = 2
  · subst h2
    go_enter Tryd.func20, Tryd.ntmps20
    go_wp2_with fail
    go_ret
    exact ⟨rfl, rfl⟩
  rw [swV, if_neg h0, if_neg h1, if_neg h2]
  go_enter Tryd.func20, Tryd.ntmps20
  go_wp2_with fail
  go_ret
  exact ⟨rfl, rfl⟩

theorem swV_nil {k : Int} (h : inB k 0 2 = false) : swV k = .nilIface := by
  simp [inB] at h
  rw [swV, if_neg (by omega), if_neg (by omega), if_neg (by omega)]

set_option maxRecDepth 100000 in
theorem hasEnd_any (v : Value) (h m d : Nat) (hm : m ≤ 2000000) (x : Int) (w : World) : Calls Tryd.prog 37 #[.agg #[v, .slice (some ⟨h, 0, none⟩) m d], .int .i64 x] w fun e w' => e = .returned (.bool (inB x 0 ((m : Int) - 1))) ∧ Below w.heap.size w w' := by
  have h1 : (0 : Int) ≤ (m : Int) := by omega
  go_enter Tryd.func37, Tryd.ntmps37
  go_wp2_with (go_at_call 36; refine (isInRange_any _ _ _ _).mono ?_; rintro e w' ⟨rfl, rfl⟩)
  go_ret
  exact ⟨rfl, by go_grown⟩

theorem swV_cases {k : Int} (h : inB k 0 2 = true) : k = 0 ∨ k = 1 ∨ k = 2 := by
  simp [inB] at h
  omega

set_option maxRecDepth 100000 in
set_option maxHeartbeats 1600000 in
theorem imIsYard_any (g n c h m d : Nat) (ks rs : List Int) (hn : ks.length = n) (hm : rs.length = m) (hb : n ≤ 2000000) (hb' : m ≤ 2000000) (w : World) (h1 : RL w g n ks) (h2 : RL w h m rs) :
    Calls Tryd.prog 18 #[.agg #[.slice (some ⟨g, 0, none⟩) n c, .slice (some ⟨h, 0, none⟩) m d]] w fun e w' => e = .returned (.bool (ydB ks rs)) ∧ Below w.heap.size w w' := by
  have hq1 := h1.lt
  have hq2 := h2.lt
  have HN := Lib.hid hn
  have HM := Lib.hid hm
  by_cases hnn : inB (n : Int) 1 6 = true
  case neg =>
    have hnn' : inB (n : Int) 1 6 = false := by simpa using hnn
    rw [ydB_no fun q => hnn (by have := q.n1; have := q.n6; simp [inB]; omega)]
    clear hnn hn hm
    go_enter Tryd.func18, Tryd.ntmps18
    go_wp2_with (go_at_call 36; refine (isInRange_any _ _ _ _).mono ?_; rintro e w' ⟨rfl, rfl⟩)
    go_ret
    exact ⟨rfl, by go_grown⟩
  by_cases hmm : 3 * (n : Int) = (m : Int)
  case neg =>
    rw [ydB_no fun q => hmm (by have := q.nr; omega)]
    have hmm' : ¬ (m : Int) = 3 * (n : Int) := fun e => hmm e.symm
    clear hn hm hmm
    go_enter Tryd.func18, Tryd.ntmps18
    go_wp2_with (go_at_call 36; refine (isInRange_any _ _ _ _).mono ?_; rintro e w' ⟨rfl, rfl⟩)
    go_ret
    exact ⟨rfl, by go_grown⟩
  have hn6 : 1 ≤ n ∧ n ≤ 6 := by simp [inB] at hnn; omega
  have hA : YdA ks rs := ⟨by omega, by omega, by omega⟩
  have HA := Lib.hid hA
  have H1 := Lib.hid (h1.below hq1 ((Below.refl w.heap.size w).alloc (Nat.le_refl _) (.cells #[.slice (some ⟨g, 0, none⟩) n c, .slice (some ⟨h, 0, none⟩) m d] 28)))
  have H2 := Lib.hid (h2.below hq2 ((Below.refl w.heap.size w).alloc (Nat.le_refl _) (.cells #[.slice (some ⟨g, 0, none⟩) n c, .slice (some ⟨h, 0, none⟩) m d] 28)))
  clear hn hm h1 h2
  go_enter Tryd.func18, Tryd.ntmps18
  go_wp2_with (go_at_call 36; refine (isInRange_any _ _ _ _).mono ?_; rintro e w' ⟨rfl, rfl⟩)
  go_loop [25] (fun i => ∃ k : Nat, k ≤ n ∧ i = .int .i64 k ∧ ∀ (j : Nat) x, j < k → ks[j]? = some x → inB x 0 2 = true) (fun i => n - (intOf i).toNat)
  case atStart => exact ⟨0, Nat.zero_le _, rfl, fun j x hj => absurd hj (by omega)⟩
  case round =>
    obtain ⟨k, hk, rfl, hall⟩ := hrel
    have HL := Lib.hid hall
    clear hall
    by_cases hlt : k < n
    · obtain ⟨x, hx⟩ : ∃ x, ks[k]? = some x := ⟨_, List.getElem?_eq_getElem (by rw [HN.out]; exact hlt)⟩
      have c0 := H1.out.get hlt hx
      have i1 : (0 : Int) ≤ (k : Int) := by omega
      have i2 : (k : Int) < (n : Int) := by omega
      have HX := Lib.hid hx
      clear hx
      cases hp : inB x 0 2
      · have hsw := swV_nil hp
        go_wp2_with (go_at_call 20; refine (switchOf_any _ _).mono ?_; rintro e w' ⟨rfl, rfl⟩)
        go_ret
        exact ⟨by rw [ydB_no fun q => by have := (allB_no HX.out hp).symm.trans (ydOk_kd q); cases this]; rfl, by go_grown⟩
      · have HP := Lib.hid hp
        have hsw : (∀ w, (binOp .eql 42 (swV x) .nilIface).run Tryd.prog w = .ok (.bool false) w) := by
          rcases swV_cases hp with rfl | rfl | rfl
          · exact nil91
          · exact nil92
          · exact nil93
        have hsg : (∀ a b w, (eqGuard .eql 42 a b (swV x) .nilIface).run Tryd.prog w = .ok () w) := by
          rcases swV_cases hp with rfl | rfl | rfl
          · exact grd91
          · exact grd92
          · exact grd93
        clear hp
        generalize hsv : swV x = sv at hsw hsg
        have HS := Lib.hid hsv
        clear hsv
        go_wp2_with (go_at_call 20; refine (switchOf_any _ _).mono ?_; rintro e w' ⟨rfl, rfl⟩; rw [HS.out])
        go_round
        case rel =>
          refine ⟨k + 1, by omega, by go_num, fun j y hj hy => ?_⟩
          by_cases e : j = k
          · subst e
            have := HX.out.symm.trans hy
            injection this with this
            rw [← this]; exact HP.out
          · exact HL.out j y (by omega) hy
        case measure => simp [intOf]; omega
    · obtain rfl : k = n := by omega
      have HKD := Lib.hid ((allB_iff ks 0 2).2 fun i x hx => HL.out i x (by rw [← HN.out]; exact (List.getElem?_eq_some_iff.1 hx).1) hx)
      clear HL
      go_wp2_with fail
      go_loopw [36] (fun i wr => ∃ p : Nat, p ≤ m ∧ i = .int .i64 p ∧ jnTo rs p ∧ (∀ (j : Nat) x, j < p → rs[j]? = some x → inB x 0 ((m : Int) - 1) = true) ∧ Below (w.heap.size + 1) (w.alloc (.cells #[.slice (some ⟨g, 0, none⟩) k c, .slice (some ⟨h, 0, none⟩) m d] 28)) wr) (fun i _ => m - (intOf i).toNat)
      case atStart => exact ⟨0, Nat.zero_le _, rfl, jnTo_zero _, fun j x hj => absurd hj (by omega), Below.refl _ _⟩
      case round =>
        obtain ⟨j, hj, rfl, hall, hrg, hbw⟩ := hrel
        have HL := Lib.hid hall
        have HG := Lib.hid hrg
        have HB := Lib.hid hbw
        have H3 := Lib.hid (H2.out.below (by omega) hbw)
        have hB : Below w.heap.size w wr := ((Below.refl w.heap.size w).alloc (Nat.le_refl _) _).trans (hbw.mono (Nat.le_succ _))
        have y0 := hbw.cell (p := ⟨w.heap.size, 0, none⟩) (Nat.lt_succ_self _)
        have y1 := hbw.cell (p := ⟨w.heap.size, 1, none⟩) (Nat.lt_succ_self _)
        have yz := hbw.size
        simp at y0 y1 yz
        have yy : w.heap.size < wr.heap.size := by omega
        clear hall hrg hbw
        by_cases hlt : j < m
        · obtain ⟨x, hx⟩ : ∃ x, rs[j]? = some x := ⟨_, List.getElem?_eq_getElem (by rw [HM.out]; exact hlt)⟩
          have c0 := H3.out.get hlt hx
          have i1 : (0 : Int) ≤ (j : Int) := by omega
          have i2 : (j : Int) < (m : Int) := by omega
          have HX := Lib.hid hx
          clear hx
          cases hp : inB x 0 ((m : Int) - 1)
          · go_wp2_with (go_at_call 37; refine (hasEnd_any _ _ _ _ hb' _ _).mono ?_; rintro e w1 ⟨rfl, h1⟩; have hB : Below w.heap.size w w1 := ba (by go_grown) h1; obtain ⟨hc1, hf1⟩ := bcell h1; have hq := h1.size; (try simp at hq); have hz0 : w.heap.size < w1.heap.size := (by omega); have HK1 := Lib.hid h1; clear h1 hq)
            go_ret
            exact ⟨by rw [ydB_no fun y => by have := ydOk_rl y; rw [HM.out, allB_no HX.out hp] at this; cases this]; rfl, by go_grown⟩
          · have hxr : 0 ≤ x ∧ x ≤ (m : Int) - 1 := by simpa [inB] using hp
            obtain ⟨q, rfl⟩ : ∃ q : Nat, x = (q : Int) := ⟨x.toNat, by omega⟩
            have hql : q < m := by omega
            obtain ⟨z, hz⟩ : ∃ z, rs[q]? = some z := ⟨_, List.getElem?_eq_getElem (by rw [HM.out]; exact hql)⟩
            have c1 := H3.out.get hql hz
            have i3 : (0 : Int) ≤ (q : Int) := by omega
            have i4 : (q : Int) < (m : Int) := by omega
            have hq3 := H3.out.lt
            have HZ := Lib.hid hz
            have HP := Lib.hid hp
            clear hz hxr
            by_cases e1 : j = q
            · subst e1
              clear c1
              go_wp2_with (go_at_call 37; refine (hasEnd_any _ _ _ _ hb' _ _).mono ?_; rintro e w1 ⟨rfl, h1⟩; have hB : Below w.heap.size w w1 := ba (by go_grown) h1; obtain ⟨hc1, hf1⟩ := bcell h1; have hq := h1.size; (try simp at hq); have hz0 : w.heap.size < w1.heap.size := (by omega); have HK1 := Lib.hid h1; clear h1 hq)
              go_ret
              exact ⟨by rw [ydB_no fun y => y.ne _ _ HX.out rfl]; rfl, by go_grown⟩
            have e2 : ¬ (q : Int) = (j : Int) := by omega
            have e5 : ((q : Int) == (j : Int)) = false := by simpa using e2
            by_cases e3 : z = (j : Int)
            · have HNE := Lib.hid e1
              subst e3
              clear e1
              go_wp2_with (go_at_call 37; refine (hasEnd_any _ _ _ _ hb' _ _).mono ?_; rintro e w1 ⟨rfl, h1⟩; have hB : Below w.heap.size w w1 := ba (by go_grown) h1; obtain ⟨hc1, hf1⟩ := bcell h1; have hq := h1.size; (try simp at hq); have hz0 : w.heap.size < w1.heap.size := (by omega); have HK1 := Lib.hid h1; clear h1 hq)
              go_roundw
              case rel =>
                refine ⟨j + 1, by omega, by go_num, jnTo_succ HL.out HX.out (by have := HNE.out; omega) (by simpa using HZ.out), fun i y hi hy => ?_, ?_⟩
                · by_cases e : i = j
                  · subst e
                    have := HX.out.symm.trans hy
                    injection this with this
                    rw [← this]; exact HP.out
                  · exact HG.out i y (by omega) hy
                · exact HB.out.trans (HK1.out.mono (by omega))
              case measure => simp [intOf]; omega
            · have e4 : (z != (j : Int)) = true := by simpa using e3
              clear e1
              go_wp2_with (go_at_call 37; refine (hasEnd_any _ _ _ _ hb' _ _).mono ?_; rintro e w1 ⟨rfl, h1⟩; have hB : Below w.heap.size w w1 := ba (by go_grown) h1; obtain ⟨hc1, hf1⟩ := bcell h1; have hq := h1.size; (try simp at hq); have hz0 : w.heap.size < w1.heap.size := (by omega); have HK1 := Lib.hid h1; clear h1 hq)
              go_ret
              exact ⟨by rw [ydB_no fun y => by have := y.bk _ _ HX.out; rw [Int.toNat_natCast, HZ.out] at this; exact e3 (Option.some.inj this)]; rfl, by go_grown⟩
        · obtain rfl : j = m := by omega
          go_wp2_with fail
          go_ret
          exact ⟨by rw [ydB_yes (ydOk_mk HA.out HKD.out (by rw [HM.out]; exact (allB_iff _ _ _).2 fun i x hx => HG.out i x (by rw [← HM.out]; exact (List.getElem?_eq_some_iff.1 hx).1) hx) (by rw [HM.out]; exact HL.out))]; rfl, hB⟩

end Go.Proofs.YtoaccnpkobbaaaaDoor
