/- Contract: a yard read back from its text, in the program. -/
import Derived.Test.YtoaccnpkobbaaaaDoorYpA
import Derived.Test.YtoaccnpkobbaaaaDoorYxB
import Derived.Test.YtoaccnpkobbaaaaDoorShelf
import Derived.Shelf.Strconv.ErrVarAll
import Derived.Lib.SmallJoins
namespace Go.Proofs.YtoaccnpkobbaaaaDoor
open Go.ChangeShapes Go.WideShapes Go.ChangeAt Go.RowKit
open Yd

set_option linter.unusedVariables false

theorem atoi_okY (D : ByteArray) (hd : D.size ≤ 1048576) (v : Int) (h : Lib.atoiAll D.data.toList = .ok v) (w : World) :
    Calls Tryd.prog 29 #[.string D] w fun e w' => e = .returned (.tuple #[.int .i64 v, .nilIface]) ∧ Below w.heap.size w w' :=
  (Tryd.strconv_Atoi_ok D (by omega) v h w).mono fun e w' ⟨he, hw⟩ => ⟨he, by
    rcases hw with rfl | ⟨t, rfl⟩
    · exact Below.refl _ _
    · exact Lib.bytesWorld_below _ _ _⟩

theorem atoi_noY {w0 : World} {tp1 tp2 : TypeId} {p1 p2 : Value} (hv1 : w0.var? Tryd.prog "strconv.ErrSyntax" = some #[.iface tp1 p1]) (hv2 : w0.var? Tryd.prog "strconv.ErrRange" = some #[.iface tp2 p2])
    (D : ByteArray) (hd : D.size ≤ 1048576) (h : ∀ v, Lib.atoiAll D.data.toList ≠ .ok v) (w : World) (hb : Below w0.heap.size w0 w) :
    Calls Tryd.prog 29 #[.string D] w fun e w' => (∃ (n : Int) (t : TypeId) (N : Nat), e = .returned (.tuple #[.int .i64 n, .iface t (.pointer (some ⟨N, 0, none⟩))])) ∧ Below w.heap.size w w' := by
  cases hA : Lib.atoiAll D.data.toList
  · rename_i v
    exact absurd hA (h v)
  · exact (Any.strconv_Atoi_syntax_var Tryd.laysC172 D (by omega) hA tp1 p1 w (Go.Joins.var_stays (g := 1) (by kernel_rfl) hv1 hb (Nat.le_refl _))).mono fun e w' ⟨N, he, _, _, hB⟩ => ⟨⟨_, _, N, he⟩, hB⟩
  · exact (Tryd.strconv_Atoi_range_var D (by omega) hA tp2 p2 w (Go.Joins.var_stays (g := 2) (by kernel_rfl) hv2 hb (Nat.le_refl _))).mono fun e w' ⟨N, he, _, _, hB⟩ => ⟨⟨_, _, N, he⟩, hB⟩

theorem splitN_19 (s : ByteArray) (hs : s.size ≤ 1048576) (m : Int) (w : World) (hm : w.cell? ⟨0, 0, none⟩ = some (.int .i64 m)) :
    Calls Tryd.prog 28 #[.string s, .string ⟨#[44]⟩, .int .i64 19] w fun e w' => ∃ g cap, e = .returned (.slice (some ⟨g, 0, none⟩) (wrds s.data.toList).length cap) ∧ w.heap.size ≤ g ∧ g < w'.heap.size ∧ (∀ (j : Nat) x, (wrds s.data.toList)[j]? = some x → w'.cell? ⟨g, j, none⟩ = some (.string (ofL x))) ∧ Below w.heap.size w w' := by
  refine (Tryd.strings_SplitN s ⟨#[44]⟩ 19 m w (by omega) hm (by decide) (by decide) (by decide)).mono ?_
  rintro e w' ⟨rfl, rfl⟩
  have hd : (Lib.splitB ⟨#[44]⟩ 0 (min 19 (s.size + 1) - 1) s).map (·.data.toList) = wrds s.data.toList := by
    rw [wrds, size_list]
    exact Lib.splitB_data _ _ _ _
  refine ⟨w.heap.size, min 19 (s.size + 1), by rw [← hd, List.length_map], Nat.le_refl _, by simp, ?_, (Below.refl _ _).alloc (Nat.le_refl _) _⟩
  intro j x hx
  rw [← hd, List.getElem?_map, Option.map_eq_some_iff] at hx
  obtain ⟨D, hD, hDx⟩ := hx
  have hc := Lib.cell_of_heap (heap_alloc_new w (.cells (Lib.cellsOf (Lib.splitB ⟨#[44]⟩ 0 (min 19 (s.size + 1) - 1) s) (min 19 (s.size + 1))) 9)) j
  rw [hc, ← hDx, ofL_self]
  obtain ⟨hj, _⟩ := List.getElem?_eq_some_iff.1 hD
  unfold Lib.cellsOf
  rw [List.getElem?_toArray, List.getElem?_append_left (by simpa using hj), List.getElem?_map, hD]
  rfl

theorem cut_any (s : ByteArray) (hs : s.size ≤ 1048576) (m : Int) (w : World) (hm : w.cell? ⟨0, 0, none⟩ = some (.int .i64 m)) :
    Calls Tryd.prog 26 #[.string s, .string ⟨#[58]⟩] w fun e w' => ∃ f, e = .returned (.tuple #[.string (ofL (cutA s)), .string (ofL (cutB s)), .bool f]) ∧ Below w.heap.size w w' :=
  (Tryd.strings_Cut s ⟨#[58]⟩ m w (by omega) hm).mono fun e w' ⟨he, n, hw⟩ => ⟨_, he, by rw [hw]; exact ⟨rfl, rfl, rfl, Nat.le_refl _, fun _ _ => rfl⟩⟩

theorem bq_dataY (a b : ByteArray) : (a.toList == b.toList) = decide (a = b) := by
  rw [Lib.toList_data, Lib.toList_data, Bool.eq_iff_iff, beq_iff_eq, decide_eq_true_eq]
  constructor
  · intro h
    rw [← ofL_self a, h, ofL_self]
  · intro h
    rw [h]

set_option maxRecDepth 100000 in
set_option maxHeartbeats 3200000 in
theorem kindOf_any (c : UInt8) (w : World) : Calls Tryd.prog 27 #[.string (ofL [c])] w fun e w' => e = .returned (.int .i64 (kdV c)) ∧ Below w.heap.size w w' := by
  have l0 := fun w' => letterOf_any 0 (by decide) (by decide) w'
  have l1 := fun w' => letterOf_any 1 (by decide) (by decide) w'
  have l2 := fun w' => letterOf_any 2 (by decide) (by decide) w'
  have s0 := fun w' => switchOf_any 0 w'
  have s1 := fun w' => switchOf_any 1 w'
  have s2 := fun w' => switchOf_any 2 w'
  have hq : ∀ d : UInt8, ((⟨#[d]⟩ : ByteArray) = ofL [c]) ↔ d = c := fun d => by
    constructor
    · intro h; have := congrArg (fun x => x.data.toList) h; simpa [ofL] using this
    · rintro rfl; rfl
  have hb : ∀ d : UInt8, ([d] == (ofL [c]).toList) = decide (d = c) := fun d => by
    have ht : (⟨#[d]⟩ : ByteArray).toList = [d] := by rw [Lib.toList_data]
    rw [← ht, bq_dataY]; exact decide_eq_decide.2 (hq d)
  have b0 := hb 108
  have b1 := hb 115
  have b2 := hb 116
  have e0 : letB 0 = 108 := rfl
  have e1 : letB 1 = 115 := rfl
  have e2 : letB 2 = 116 := rfl
  rw [e0] at l0
  rw [e1] at l1
  rw [e2] at l2
  clear hb
  generalize hy : ofL [c] = y at *
  have L0 := Lib.hid l0
  have L1 := Lib.hid l1
  have L2 := Lib.hid l2
  have S0 := Lib.hid s0
  have S1 := Lib.hid s1
  have S2 := Lib.hid s2
  clear l0 l1 l2 s0 s1 s2 hq hy e0 e1 e2
  by_cases h0 : c = 108
  · have K := Lib.hid (show kdV c = 0 by rw [h0]; rfl)
    rw [decide_eq_true h0.symm] at b0
    clear h0
    go_enter Tryd.func27, Tryd.ntmps27
    go_wp2_with fail
    refine wp_loop_rounds 4 ?_
    repeat any_goals (rw [rounds_succ]; go_wp2_with (first | (go_at_call 20; first | ((with_reducible refine Calls.mono (S0.out _) ?_); rintro e w' ⟨rfl, rfl⟩) | ((with_reducible refine Calls.mono (S1.out _) ?_); rintro e w' ⟨rfl, rfl⟩) | ((with_reducible refine Calls.mono (S2.out _) ?_); rintro e w' ⟨rfl, rfl⟩)) | (go_at_call 19; first | ((with_reducible refine Calls.mono (L0.out _) ?_); rintro e w' ⟨rfl, rfl⟩) | ((with_reducible refine Calls.mono (L1.out _) ?_); rintro e w' ⟨rfl, rfl⟩) | ((with_reducible refine Calls.mono (L2.out _) ?_); rintro e w' ⟨rfl, rfl⟩))))
    all_goals go_ret
    all_goals exact ⟨by rw [K.out]; rfl, by go_grown⟩
  by_cases h1 : c = 115
  · have K := Lib.hid (show kdV c = 1 by rw [h1]; rfl)
    rw [decide_eq_false (fun e => h0 e.symm)] at b0
    rw [decide_eq_true h1.symm] at b1
    clear h0 h1
    go_enter Tryd.func27, Tryd.ntmps27
    go_wp2_with fail
    refine wp_loop_rounds 4 ?_
    repeat any_goals (rw [rounds_succ]; go_wp2_with (first | (go_at_call 20; first | ((with_reducible refine Calls.mono (S0.out _) ?_); rintro e w' ⟨rfl, rfl⟩) | ((with_reducible refine Calls.mono (S1.out _) ?_); rintro e w' ⟨rfl, rfl⟩) | ((with_reducible refine Calls.mono (S2.out _) ?_); rintro e w' ⟨rfl, rfl⟩)) | (go_at_call 19; first | ((with_reducible refine Calls.mono (L0.out _) ?_); rintro e w' ⟨rfl, rfl⟩) | ((with_reducible refine Calls.mono (L1.out _) ?_); rintro e w' ⟨rfl, rfl⟩) | ((with_reducible refine Calls.mono (L2.out _) ?_); rintro e w' ⟨rfl, rfl⟩))))
    all_goals go_ret
    all_goals exact ⟨by rw [K.out]; rfl, by go_grown⟩
  by_cases h2 : c = 116
  · have K := Lib.hid (show kdV c = 2 by rw [h2]; rfl)
    rw [decide_eq_false (fun e => h0 e.symm)] at b0
    rw [decide_eq_false (fun e => h1 e.symm)] at b1
    rw [decide_eq_true h2.symm] at b2
    clear h0 h1 h2
    go_enter Tryd.func27, Tryd.ntmps27
    go_wp2_with fail
    refine wp_loop_rounds 4 ?_
    repeat any_goals (rw [rounds_succ]; go_wp2_with (first | (go_at_call 20; first | ((with_reducible refine Calls.mono (S0.out _) ?_); rintro e w' ⟨rfl, rfl⟩) | ((with_reducible refine Calls.mono (S1.out _) ?_); rintro e w' ⟨rfl, rfl⟩) | ((with_reducible refine Calls.mono (S2.out _) ?_); rintro e w' ⟨rfl, rfl⟩)) | (go_at_call 19; first | ((with_reducible refine Calls.mono (L0.out _) ?_); rintro e w' ⟨rfl, rfl⟩) | ((with_reducible refine Calls.mono (L1.out _) ?_); rintro e w' ⟨rfl, rfl⟩) | ((with_reducible refine Calls.mono (L2.out _) ?_); rintro e w' ⟨rfl, rfl⟩))))
    all_goals go_ret
    all_goals exact ⟨by rw [K.out]; rfl, by go_grown⟩
  have K := Lib.hid (kd_no h0 h1 h2)
  rw [decide_eq_false (fun e => h0 e.symm)] at b0
  rw [decide_eq_false (fun e => h1 e.symm)] at b1
  rw [decide_eq_false (fun e => h2 e.symm)] at b2
  clear h0 h1 h2
  go_enter Tryd.func27, Tryd.ntmps27
  go_wp2_with fail
  refine wp_loop_rounds 4 ?_
  repeat any_goals (rw [rounds_succ]; go_wp2_with (first | (go_at_call 20; first | ((with_reducible refine Calls.mono (S0.out _) ?_); rintro e w' ⟨rfl, rfl⟩) | ((with_reducible refine Calls.mono (S1.out _) ?_); rintro e w' ⟨rfl, rfl⟩) | ((with_reducible refine Calls.mono (S2.out _) ?_); rintro e w' ⟨rfl, rfl⟩)) | (go_at_call 19; first | ((with_reducible refine Calls.mono (L0.out _) ?_); rintro e w' ⟨rfl, rfl⟩) | ((with_reducible refine Calls.mono (L1.out _) ?_); rintro e w' ⟨rfl, rfl⟩) | ((with_reducible refine Calls.mono (L2.out _) ?_); rintro e w' ⟨rfl, rfl⟩))))
  all_goals go_ret
  all_goals exact ⟨by rw [K.out]; rfl, by go_grown⟩

theorem yardText_nil (a : Option Addr) (m d : Nat) (w : World) : Calls Tryd.prog 8 #[.agg #[.slice none 0 0, .slice a m d]] w fun e w' => e = .returned (.tuple #[.string ⟨#[]⟩, .bool false]) ∧ Below w.heap.size w w' := by
  have hi : inB 0 1 6 = false := by decide
  have hI : ∀ w : World, Calls Tryd.prog 18 #[.agg #[.slice none 0 0, .slice a m d]] w fun e w' => e = .returned (.bool false) ∧ Below w.heap.size w w' := fun w => by
    go_enter Tryd.func18, Tryd.ntmps18
    go_wp2_with (go_at_call 36; refine (isInRange_any _ _ _ _).mono ?_; rintro e w' ⟨rfl, rfl⟩)
    all_goals go_ret
    all_goals exact ⟨rfl, by go_grown⟩
  have HI := Lib.hid hI
  clear hI
  go_enter Tryd.func8, Tryd.ntmps8
  go_wp2_with fail
  refine (HI.out _).mono ?_
  rintro e w1 ⟨rfl, k1⟩
  have hB : Below w.heap.size w w1 := ba (by go_grown) k1
  clear k1
  go_wp2_with fail
  go_ret2
  exact ⟨rfl, hB⟩

theorem splitK_mem : ∀ (k : Nat) (l : List UInt8) (x : List UInt8), x ∈ Lib.splitK [44] 0 k l → x.length ≤ l.length
  | 0, l, x, h => by simp [Lib.splitK] at h; rw [h]; exact Nat.le_refl _
  | k + 1, l, x, h => by
    rw [Lib.splitK] at h
    split at h
    · simp at h; rw [h]; exact Nat.le_refl _
    · rcases List.mem_cons.1 h with rfl | h
      · rw [List.length_take]; exact Nat.min_le_right _ _
      · have := splitK_mem k _ x h
        rw [List.length_drop] at this
        omega

theorem splitK_ne (k : Nat) (l : List UInt8) : Lib.splitK [44] 0 k l ≠ [] := by
  cases k with
  | zero => simp [Lib.splitK]
  | succ k => rw [Lib.splitK]; split <;> simp

theorem splitK_len : ∀ (k : Nat) (l : List UInt8), (Lib.splitK [44] 0 k l).length ≤ k + 1
  | 0, l => by simp [Lib.splitK]
  | k + 1, l => by
    rw [Lib.splitK]
    split
    · simp
    · have := splitK_len k (l.drop ((Lib.index l [44]).toNat + [44].length))
      rw [List.length_cons]; omega

theorem mapM_fail {α β : Type} {f : α → Option β} {x : α} (h : f x = none) : ∀ (l : List α), x ∈ l → l.mapM f = none
  | [], hm => by simp at hm
  | y :: l, hm => by
    rw [List.mapM_cons]
    rcases List.mem_cons.1 hm with rfl | hm
    · rw [h]; rfl
    · rw [mapM_fail h l hm]
      cases f y <;> rfl

theorem mapM_snoc {α β : Type} {f : α → Option β} {x : α} {y : β} (h : f x = some y) : ∀ (l : List α) (r : List β), l.mapM f = some r → (l ++ [x]).mapM f = some (r ++ [y])
  | [], r, hr => by
    simp at hr
    subst hr
    rw [List.nil_append, List.mapM_cons, h]; rfl
  | z :: l, r, hr => by
    rw [List.mapM_cons] at hr
    cases hz : f z with
    | none => rw [hz] at hr; simp at hr
    | some u =>
      rw [hz] at hr
      cases hl : l.mapM f with
      | none => rw [hl] at hr; simp at hr
      | some r' =>
        rw [hl] at hr
        simp at hr
        subst hr
        rw [List.cons_append, List.mapM_cons, hz, mapM_snoc h l r' hl]; rfl

set_option maxRecDepth 100000 in
set_option maxHeartbeats 3200000 in
theorem imParseYard {m : Int} {tp1 tp2 : TypeId} {p1 p2 : Value} (s : ByteArray) (hs : s.size ≤ 1048576) (w : World) (hm : ∀ W, Below w.heap.size w W → W.cell? ⟨0, 0, none⟩ = some (.int .i64 m))
    (hv1 : w.var? Tryd.prog "strconv.ErrSyntax" = some #[.iface tp1 p1]) (hv2 : w.var? Tryd.prog "strconv.ErrRange" = some #[.iface tp2 p2]) :
    Calls Tryd.prog 11 #[.string s] w (YpPost (ypI s) w) := by
  obtain ⟨i0, hi, iz0, iz1, iz2⟩ := info_of numInfo
  have CT := Lib.hid (fun w' (hw : Below w.heap.size w w') => cut_any s hs m w' (hm w' hw))
  have hAl : (cutA s).length ≤ s.size := by
    rw [← size_list, cutA, Lib.cut]; split
    · rw [List.length_take]; exact Nat.min_le_right _ _
    · exact Nat.le_refl _
  have hBl : (cutB s).length ≤ s.size := by
    rw [← size_list, cutB, Lib.cut]; split
    · rw [List.length_drop]; omega
    · simp
  have SN := Lib.hid (fun w' (hw : Below w.heap.size w w') => splitN_19 (ofL (cutB s)) (by rw [ofL_size]; omega) m w' (hm w' hw))
  have hd1 : (ofL (cutB s)).data.toList = cutB s := by simp [ofL]
  rw [hd1] at SN
  have hszA : (ofL (cutA s)).size = (cutA s).length := ofL_size _
  by_cases h6 : 6 < (cutA s).length
  · have HRn := Lib.hid (show ypI s = none by rw [ypI, if_pos h6])
    have k0 : ((ofL (cutA s)).size : Int) > 6 := by omega
    generalize ofL (cutA s) = TA at *
    generalize ofL (cutB s) = TB at *
    clear hm hv1 hv2 SN hd1
    go_enter Tryd.func11, Tryd.ntmps11
    go_wp2_with fail
    refine (CT.out _ (by go_grown)).mono ?_
    rintro e w1 ⟨fl, rfl, h1⟩
    have hB : Below w.heap.size w w1 := ba (by go_grown) h1
    have hz1 := h1.size
    simp at hz1
    have q0 := cl_below (b := w.heap.size) (o := 0) (v := .slice none 0 0) (by simp [go_sem]) (by simp <;> omega) h1
    have q1 := cl_below (b := w.heap.size) (o := 1) (v := .slice none 0 0) (by simp [go_sem]) (by simp <;> omega) h1
    have f0 := h1.frozen (p := ⟨w.heap.size, 0, none⟩) (by simp <;> omega)
    have f1 := h1.frozen (p := ⟨w.heap.size, 1, none⟩) (by simp <;> omega)
    simp [go_sem] at f0 f1
    clear h1
    go_wp2_with fail
    refine bodyPost_ret (by simp [results, Tryd.results11, go_sem, *]; try rfl) rfl ?_
    rw [HRn.out]
    exact ⟨rfl, (hB.setCell (by simp <;> omega) _).setCell (by simp <;> omega) _⟩
  have k0 : ¬ ((ofL (cutA s)).size : Int) > 6 := by omega
  have hE : ypI s = ((wrds (cutB s)).mapM atw).bind fun rs => if ydB ((cutA s).map kdV) rs = true ∧ ofL (yxL ((cutA s).map kdV) rs) = s then some ((cutA s).map kdV, rs) else none := by rw [ypI, if_neg h6]
  have HE := Lib.hid hE
  obtain ⟨ws, hws⟩ : ∃ ws, wrds (cutB s) = ws := ⟨_, rfl⟩
  have hwl : ∀ x ∈ ws, x.length ≤ 1048576 := by
    intro x hx
    rw [← hws, wrds] at hx
    have := splitK_mem _ _ x hx
    omega
  have hwn : ws ≠ [] ∧ ws.length ≤ 19 := by
    rw [← hws, wrds]
    exact ⟨splitK_ne _ _, Nat.le_trans (splitK_len _ _) (by omega)⟩
  rw [hws] at SN HE
  have HWL := Lib.hid hwl
  have HWN := Lib.hid hwn
  have hA6 : (cutA s).length ≤ 6 := by omega
  clear hE h6 hd1 hwl hwn hws hAl hBl
  generalize cutA s = p0 at *
  generalize ofL (cutB s) = TB at *
  clear hszA
  have hszA : (ofL p0).size = p0.length := ofL_size _
  have hpl : p0.length ≤ 6 := hA6
  clear hm
  go_enter Tryd.func11, Tryd.ntmps11
  go_wp2_with fail
  refine (CT.out _ (by go_grown)).mono ?_
  rintro e w1 ⟨fl, rfl, h1⟩
  have hB := Lib.hid (ba (by go_grown) h1 : Below w.heap.size w w1)
  have hz1 := h1.size
  simp at hz1
  have q0 := cl_below (b := w.heap.size) (o := 0) (v := .slice none 0 0) (by simp [go_sem]) (by simp <;> omega) h1
  have q1 := cl_below (b := w.heap.size) (o := 1) (v := .slice none 0 0) (by simp [go_sem]) (by simp <;> omega) h1
  have f0 := h1.frozen (p := ⟨w.heap.size, 0, none⟩) (by simp <;> omega)
  have f1 := h1.frozen (p := ⟨w.heap.size, 1, none⟩) (by simp <;> omega)
  simp [go_sem] at f0 f1
  have Q := Lib.hid (And.intro q0 (And.intro q1 (And.intro f0 f1)))
  clear h1 q0 q1 f0 f1
  go_wp2_with fail
  have hz2 : (w1.alloc (.cells #[.slice none 0 0, .slice none 0 0] 28)).heap.size = w1.heap.size + 1 := by simp
  have F0 := Lib.hid (show FldAt (w1.alloc (.cells #[.slice none 0 0, .slice none 0 0] 28)) (w1.alloc (.cells #[.slice none 0 0, .slice none 0 0] 28)) w1.heap.size 0 (.slice none 0 0) (.slice none 0 0) [] from
    ⟨by simp [go_sem], by simp [go_sem], by simp [go_sem], by simp [go_sem], World.ownsRow_nil _ _ _ _, by simp, Apart2.ofB (Below.refl _ _) _ _⟩)
  have B1 := Lib.hid (by go_grown : Below w1.heap.size w1 (w1.alloc (.cells #[.slice none 0 0, .slice none 0 0] 28)))
  generalize hW : w1.alloc (.cells #[.slice none 0 0, .slice none 0 0] 28) = W1 at *
  have HZ2 := Lib.hid hz2
  have hz3 : w1.heap.size < W1.heap.size := by omega
  clear hW hz2
  go_loopw [27] (fun i wr => ∃ (k : Nat) (v : Value), k ≤ p0.length ∧ i = .int .i64 k ∧ FldAt W1 wr w1.heap.size 0 v (.slice none 0 0) ((p0.take k).map kdV) ∧ (k = 0 → v = .slice none 0 0)) (fun i _ => p0.length - (intOf i).toNat)
  case atStart => exact ⟨0, _, Nat.zero_le _, rfl, F0.out, fun _ => rfl⟩
  case round =>
    obtain ⟨k, v, hk, rfl, hF, hv0⟩ := hrel
    have HF := Lib.hid hF
    have hgsz := hF.ap.size
    have y0 := hF.q
    have hbr : w1.heap.size < wr.heap.size := by omega
    by_cases hlt : k < p0.length
    · obtain ⟨c, hc⟩ : ∃ c, p0[k]? = some c := ⟨_, List.getElem?_eq_getElem hlt⟩
      have X1 : (ofL p0).extract k (k + 1) = ofL [c] := by
        rw [ex_ofL, show (ofL p0).data.toList = p0 by simp [ofL], show k + 1 - k = 1 by omega]
        rw [List.drop_eq_getElem_cons hlt, List.take_succ_cons, List.take_zero]
        obtain ⟨_, h2⟩ := List.getElem?_eq_some_iff.1 hc
        rw [h2]
      have k1 : (0 : Int) ≤ (k : Int) := by omega
      have k2 : (k : Int) < ((ofL p0).size : Int) := by omega
      obtain ⟨K1, hK1⟩ : ∃ K1, k + 1 = K1 := ⟨_, rfl⟩
      have e5 : (k : Int) + 1 = (K1 : Int) := by omega
      have k5 : (K1 : Int) ≤ (p0.length : Int) := by omega
      have k6 : (k : Int) ≤ (K1 : Int) := by omega
      have k7 : (0 : Int) ≤ (K1 : Int) := by omega
      have w5 : IntKind.i64.wrap (K1 : Int) = (K1 : Int) := by rw [IntKind.wrap_i64]; omega
      rw [hK1] at X1
      clear hK1
      have hne : some w1.heap.size ≠ v.ownBlock := fun e => by have := (hF.own.lt _ e.symm).1; omega
      have HNE := Lib.hid hne
      have hll : ((p0.take k).map kdV).length = k := by rw [List.length_map, List.length_take]; omega
      have HLL := Lib.hid hll
      have HTK := Lib.hid (show (p0.take (k + 1)).map kdV = (p0.take k).map kdV ++ [kdV c] by rw [List.take_add_one, hc]; simp)
      have k3 : k ≤ 100 := by omega
      have KO := Lib.hid (fun w' => kindOf_any c w')
      generalize kdV c = x at *
      generalize ofL [c] = cs at *
      clear hF hne hll hc
      go_wp2_with fail
      go_region_law (first | (go_simp; go_at_call 27; (with_reducible refine Calls.mono (KO.out _) ?_); rintro e wA ⟨rfl, h1⟩; (try with_reducible replace h1 := undrew h1); have hBA : Below wr.heap.size wr wA := ba (by go_grown) h1; have hqA := hBA.size; have FA := HF.out.keep hBA; have HOA := Lib.hid (show wA.ownsRow W1.heap.size 3 1 v k (((p0.take k).map kdV).map (Value.int .i64)) by (have h := FA.own; rw [HLL.out] at h; exact h)); have c0A := FA.q; have f0A := FA.f; have hbA : w1.heap.size < wA.heap.size := (by omega); clear FA) | ((refine step_append_lies _ (by rfl) _ _ _ (by rfl) W1.heap.size 3 i0 _ 1 8 Tryd.underlying22 hi iz0 iz1 iz2 (by rfl) (by decide) v k (((p0.take k).map kdV).map (Value.int .i64)) ?hs ?hown ⟨wA.heap.size, 0, none⟩ 1 1 [.int .i64 x] ?hx (by rfl) ?hnews (by intro u hu; simp at hu; subst hu; rfl) (by decide) (by unfold maxLen; omega) (by omega) ?hbase (wA.heap.size + 1) ?hH ?_); (case hs => first | rfl | simp [Act.eval]); (case hx => first | rfl | simp [Act.eval]); (case hown => exact HOA.out.alloc _); (case hnews => exact cell_one_new _ _ _); (case hbase => (simp; omega)); (case hH => simp); intro g3 cap3 w3 hown3 hgrow hat hlt9; have s0 := hgrow.cell (cl_alloc c0A _) HNE.out; have sf := (hgrow.frozen_far ⟨w1.heap.size, 0, none⟩ (by simp; omega) HNE.out).trans ((World.frozen?_alloc_old _ _ ⟨w1.heap.size, 0, none⟩ (by show w1.heap.size ≠ wA.heap.size; omega)).trans f0A); have HP := Lib.hid (HF.out.push (by decide) HLL.out (hBA.alloc hqA _) hgrow hown3)))
      all_goals
        have HP2 := HP.out
        rw [← HTK.out] at HP2
        have HP3 := Lib.hid HP2
        clear HP2 HP s0 sf hown3 hgrow hat hlt9 c0A f0A h1 hBA y0 e5 X1 k5 k6 k7
        go_wp2_with fail
        go_roundw
        case rel => exact ⟨k + 1, _, by omega, by go_num, HP3.out, fun e => by omega⟩
        case measure => simp [intOf]; omega
    · obtain rfl : k = p0.length := by omega
      rw [List.take_of_length_le (Nat.le_refl _)] at hF HF
      have k4 : ¬ (p0.length : Int) < ((ofL p0).size : Int) := by omega
      have HB0 := Lib.hid (hB.out.trans ((B1.out.trans (hF.ap.below (N := w1.heap.size) (by omega) (Nat.le_refl _) (Nat.le_refl _))).mono hB.out.size))
      clear hF
      go_wp2_with fail
      refine (SN.out _ HB0.out).mono ?_
      rintro e W2 ⟨g2, cap2, rfl, hg2l, hg2, hcells, h2⟩
      have F2 := Lib.hid (HF.out.keep h2)
      have hz4 := h2.size
      have OW := Lib.hid hcells
      have FS := Lib.hid (show FldAt W2 W2 w1.heap.size 1 (.slice none 0 0) v [] from ⟨F2.out.q', F2.out.f', F2.out.q, F2.out.f, World.ownsRow_nil _ _ _ _, by omega, Apart2.ofB (Below.refl _ _) _ _⟩)
      have hw19 : ws.length ≤ 19 := HWN.out.2
      clear h2 hcells y0
      go_wp2_with fail
      go_loopw [45] (fun i wr => ∃ (j : Nat) (v1 : Value) (rs : List Int), j ≤ ws.length ∧ i = .int .i64 j ∧ FldAt W2 wr w1.heap.size 1 v1 v rs ∧ (ws.take j).mapM atw = some rs ∧ rs.length = j) (fun i _ => ws.length - (intOf i).toNat)
      case atStart => exact ⟨0, _, [], Nat.zero_le _, rfl, FS.out, rfl, rfl⟩
      case round =>
        obtain ⟨j, v1, rs, hj, rfl, hF2, hmm, hrl⟩ := hrel
        have HF2 := Lib.hid hF2
        have hsz := hF2.ap.size
        have y1 := hF2.q
        have y2 := hF2.q'
        have hbr2 : w1.heap.size < wr.heap.size := by omega
        have BF := Lib.hid (B1.out.trans ((F2.out.ap.below (N := w1.heap.size) (by omega) (Nat.le_refl _) (Nat.le_refl _)).trans (hF2.ap.below (N := w1.heap.size) (by omega) (Nat.le_refl _) (Nat.le_refl _))))
        have HBW := Lib.hid (hB.out.trans (BF.out.mono hB.out.size))
        by_cases hlt2 : j < ws.length
        · obtain ⟨wj, hwj⟩ : ∃ wj, ws[j]? = some wj := ⟨_, List.getElem?_eq_getElem hlt2⟩
          have t0 := (hF2.ap.cell (a := ⟨g2, j, none⟩) (by show g2 < _; omega) (by show g2 ≠ _; omega) (by show g2 ≠ _; omega)).trans (OW.out j wj hwj)
          have j1 : (0 : Int) ≤ (j : Int) := by omega
          have j2 : (j : Int) < (ws.length : Int) := by omega
          have hgr : g2 < wr.heap.size := by omega
          have hws := HWL.out wj (List.mem_of_getElem? hwj)
          have hd : (ofL wj).data.toList = wj := by simp [ofL]
          have htk : ∀ x, atw wj = some x → (ws.take (j + 1)).mapM atw = some (rs ++ [x]) := fun x hx => by
            rw [List.take_add_one, hwj]; exact mapM_snoc hx _ _ hmm
          by_cases hok : ∃ x, Lib.atoiAll wj = .ok x
          · obtain ⟨x, hx⟩ := hok
            have AT := Lib.hid (fun w' => atoi_okY (ofL wj) (by rw [ofL_size]; exact hws) x (by rw [hd]; exact hx) w')
            have HTK := Lib.hid (htk x (atw_ok hx))
            have hne : some w1.heap.size ≠ v1.ownBlock := fun e => by have := (hF2.own.lt _ e.symm).1; omega
            have HNE := Lib.hid hne
            have HRL := Lib.hid hrl
            have hj19 : j ≤ 19 := by omega
            clear hne htk hx hd hwj hF2 hmm hrl
            go_wp2_with fail
            refine (AT.out _).mono ?_
            rintro e wA ⟨rfl, k1⟩
            have hqA := k1.size
            have FA := HF2.out.keep k1
            have HOA := Lib.hid (show wA.ownsRow W2.heap.size 3 1 v1 j (rs.map (Value.int .i64)) by have h := FA.own; rw [HRL.out] at h; exact h)
            have c0A := FA.q
            have f0A := FA.f
            have hbA : w1.heap.size < wA.heap.size := by omega
            have K1 := Lib.hid k1
            clear k1 FA y1 y2 t0
            go_wp2_with (at_builtin; refine wpList_append_lies _ rfl _ _ 22 rfl W2.heap.size 3 i0 (.int .i64 0) 1 8 Tryd.underlying22 hi iz0 iz1 iz2 rfl (by decide) v1 j _ rfl (HOA.out.alloc _) ⟨wA.heap.size, 0, none⟩ 1 1 [.int .i64 x] rfl rfl (cell_one_new _ _ _) (by intro u hu; simp at hu; subst hu; rfl) (by decide) (by unfold maxLen; omega) (by omega) (by simp; omega) (wA.heap.size + 1) (by simp) ?_; intro g3 cap3 w3 hown3 hgrow hat hlt9; have s0 := hgrow.cell (cl_alloc c0A _) HNE.out; have sf := (hgrow.frozen_far ⟨w1.heap.size, 1, none⟩ (by simp; omega) HNE.out).trans ((World.frozen?_alloc_old _ _ ⟨w1.heap.size, 1, none⟩ (by show w1.heap.size ≠ wA.heap.size; omega)).trans f0A); have HP := Lib.hid (HF2.out.push (by decide) HRL.out (K1.out.alloc hqA _) hgrow hown3); clear hown3 hgrow hat hlt9)
            refine ⟨⟨j + 1, _, _, by omega, by simp, HP.out, HTK.out, by rw [List.length_append, HRL.out]; rfl⟩, by simp [intOf]; omega⟩
          · have hno : ∀ x, Lib.atoiAll wj ≠ .ok x := fun x hx => hok ⟨x, hx⟩
            have AT := Lib.hid (fun w' (hw : Below w.heap.size w w') => atoi_noY hv1 hv2 (ofL wj) (by rw [ofL_size]; exact hws) (by rw [hd]; exact hno) w' hw)
            have HRn := Lib.hid (show ypI s = none by rw [HE.out, mapM_fail (atw_no hno) ws (List.mem_of_getElem? hwj)]; rfl)
            clear hno hok htk hd hwj hF2 hmm hrl
            go_wp2_with fail
            refine (AT.out _ HBW.out).mono ?_
            rintro e w3 ⟨⟨nn, tt, NN, rfl⟩, k1⟩
            have BF2 := BF.out.trans (k1.mono BF.out.size)
            have r0 := cl_below Q.out.1 (by omega) BF2
            have r1 := cl_below Q.out.2.1 (by omega) BF2
            have r2 := (BF2.frozen (p := ⟨w.heap.size, 0, none⟩) (by show w.heap.size < _; omega)).trans Q.out.2.2.1
            have r3 := (BF2.frozen (p := ⟨w.heap.size, 1, none⟩) (by show w.heap.size < _; omega)).trans Q.out.2.2.2
            have HBR := Lib.hid (hB.out.trans (BF2.mono hB.out.size))
            have hzw := k1.size
            clear k1 BF2
            go_wp2_with fail
            refine bodyPost_ret (by simp [results, Tryd.results11, go_sem, *]; try rfl) rfl ?_
            rw [HRn.out]
            exact ⟨rfl, (HBR.out.setCell (by simp <;> omega) _).setCell (by simp <;> omega) _⟩
        · obtain rfl : j = ws.length := by omega
          rw [List.take_of_length_le (Nat.le_refl _)] at hmm
          have HR := Lib.hid (show ypI s = if ydB (p0.map kdV) rs = true ∧ ofL (yxL (p0.map kdV) rs) = s then some (p0.map kdV, rs) else none by rw [HE.out, hmm]; rfl)
          have hwpos : 0 < rs.length := by rw [hrl]; exact List.length_pos_iff.2 HWN.out.1
          obtain ⟨g3, c3, rfl, hg3, hg3'⟩ := hF2.own.form hwpos
          have RR := Lib.hid (RL.of_ownI hF2.own rfl)
          have hapk := Lib.hid hF2.ap
          have j5 : ¬ (ws.length : Int) < (ws.length : Int) := by omega
          have hrl2 : rs.length ≤ 2000000 := by omega
          clear hwpos hmm HF2
          by_cases hp0 : p0 = []
          · subst hp0
            obtain rfl := hv0 rfl
            have HRn := Lib.hid (show ypI s = none by rw [HR.out]; exact if_neg (fun h => by have := h.1; simp [ydB] at this))
            clear hF2 hrl
            go_wp2_with fail
            refine (yardText_nil _ _ _ _).mono ?_
            rintro e w3 ⟨rfl, k1⟩
            have BF2 := BF.out.trans (k1.mono BF.out.size)
            have r0 := cl_below Q.out.1 (by omega) BF2
            have r1 := cl_below Q.out.2.1 (by omega) BF2
            have r2 := (BF2.frozen (p := ⟨w.heap.size, 0, none⟩) (by show w.heap.size < _; omega)).trans Q.out.2.2.1
            have r3 := (BF2.frozen (p := ⟨w.heap.size, 1, none⟩) (by show w.heap.size < _; omega)).trans Q.out.2.2.2
            have HBR := Lib.hid (hB.out.trans (BF2.mono hB.out.size))
            have hzw := k1.size
            have y1' := cl_below y1 hbr2 k1
            have y2' := cl_below y2 hbr2 k1
            clear k1 BF2
            go_wp2_with fail
            refine bodyPost_ret (by simp [results, Tryd.results11, go_sem, *]; try rfl) rfl ?_
            rw [HRn.out]
            exact ⟨rfl, (HBR.out.setCell (by simp <;> omega) _).setCell (by simp <;> omega) _⟩
          · have hkpos : 0 < (p0.map kdV).length := by rw [List.length_map]; exact List.length_pos_iff.2 hp0
            obtain ⟨gk, ck, rfl, hgk, hgk'⟩ := F2.out.own.form hkpos
            have RK := Lib.hid ((RL.of_ownI F2.out.own rfl).apart hapk.out (by omega) (by omega))
            have hl1' : (p0.map kdV).length ≤ 2000000 := by rw [List.length_map]; omega
            clear hF2 hkpos hp0 hv0 HF F2 FS hapk hrl
            generalize hK : p0.map kdV = K at *
            clear hK
            go_wp2_with fail
            refine (imYardText gk ck g3 c3 K.length rs.length K rs rfl rfl hl1' hrl2 _ RK.out RR.out).mono ?_
            rintro e w3 ⟨rfl, k1⟩
            have BF2 := BF.out.trans (k1.mono BF.out.size)
            have r0 := cl_below Q.out.1 (by omega) BF2
            have r1 := cl_below Q.out.2.1 (by omega) BF2
            have r2 := (BF2.frozen (p := ⟨w.heap.size, 0, none⟩) (by show w.heap.size < _; omega)).trans Q.out.2.2.1
            have r3 := (BF2.frozen (p := ⟨w.heap.size, 1, none⟩) (by show w.heap.size < _; omega)).trans Q.out.2.2.2
            have HBR := Lib.hid (hB.out.trans (BF2.mono hB.out.size))
            have hzw := k1.size
            have y1' := cl_below y1 hbr2 k1
            have y2' := cl_below y2 hbr2 k1
            have RK2 := Lib.hid (RK.out.keep k1)
            have RR2 := Lib.hid (RR.out.keep k1)
            have hbr3 : w1.heap.size < w3.heap.size := by omega
            clear k1 BF2
            cases hy : ydB K rs
            · have HRn := Lib.hid (show ypI s = none by rw [HR.out, hy]; exact if_neg (fun h => by simp at h))
              generalize yxS K rs = T at *
              go_wp2_with fail
              all_goals
                refine bodyPost_ret (by simp [results, Tryd.results11, go_sem, *]; try rfl) rfl ?_
                rw [HRn.out]
                exact ⟨rfl, (HBR.out.setCell (by simp <;> omega) _).setCell (by simp <;> omega) _⟩
            · have hT : yxS K rs = ofL (yxL K rs) := by rw [yxS, hy]; rfl
              by_cases hTs : ofL (yxL K rs) = s
              · have HRn := Lib.hid (show ypI s = some (K, rs) by rw [HR.out, hy]; exact if_pos ⟨rfl, hTs⟩)
                have hE2 : ((yxS K rs).toList == s.toList) = true := (bq_dataY _ _).trans (decide_eq_true (hT.trans hTs))
                clear hT hTs
                generalize yxS K rs = T at *
                go_wp2_with fail
                refine bodyPost_ret (by simp [results, Tryd.results11, go_sem, *]; try rfl) rfl ?_
                rw [HRn.out]
                exact ⟨gk, ck, g3, c3, rfl, by omega, by omega, by omega, (RK2.out.other (by simp <;> omega) _).other (by simp <;> omega) _, (RR2.out.other (by simp <;> omega) _).other (by simp <;> omega) _, (HBR.out.setCell (by simp <;> omega) _).setCell (by simp <;> omega) _⟩
              · have HRn := Lib.hid (show ypI s = none by rw [HR.out]; exact if_neg (fun h => hTs h.2))
                have hE2 : ((yxS K rs).toList == s.toList) = false := (bq_dataY _ _).trans (decide_eq_false (fun h => hTs (hT.symm.trans h)))
                clear hT hTs
                generalize yxS K rs = T at *
                go_wp2_with fail
                refine bodyPost_ret (by simp [results, Tryd.results11, go_sem, *]; try rfl) rfl ?_
                rw [HRn.out]
                exact ⟨rfl, (HBR.out.setCell (by simp <;> omega) _).setCell (by simp <;> omega) _⟩

end Go.Proofs.YtoaccnpkobbaaaaDoor
