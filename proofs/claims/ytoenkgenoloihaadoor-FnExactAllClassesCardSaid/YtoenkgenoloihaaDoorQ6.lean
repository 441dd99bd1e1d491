/- Contracts and facts, put together (part 6). Conditions: each says its own. -/
import Derived.Test.YtoenkgenoloihaaDoorQ5
import Derived.Maps.AppendAt
import Derived.Lib.SlBytesConst
import Derived.Deep.RegionHeld3

/- Contract: whether a number lies in a range. -/
namespace Go.Proofs.YtoenkgenoloihaaDoor
open Go.ChangeShapes Go.WideShapes Go.ChangeAt Go.RowKit

set_option maxRecDepth 100000 in
theorem isInRange_any (n lo hi : Int) (w : World) :
    Calls Tryd.prog 65 #[.int .i64 n, .int .i64 lo, .int .i64 hi] w fun e w' => e = .returned (.bool (inB n lo hi)) ∧ w = w' := by
  go_enter Tryd.func65, Tryd.ntmps65
  go_wp2
  · go_ret
    exact ⟨by simp [inB, *], rfl⟩
  · go_ret
    exact ⟨by simp [inB]; omega, rfl⟩

end Go.Proofs.YtoenkgenoloihaaDoor

/- Contracts of the model: how many variants a ring has. -/
namespace Go.Proofs.YtoenkgenoloihaaDoor
open Go.ChangeShapes Go.WideShapes Go.ChangeAt Go.RowKit

set_option linter.unusedVariables false

def scV (F : List (List UInt8)) : List Value := F.map fun x => Value.string (ofL x)

theorem eq_text (x y : List UInt8) : ((ofL x).toList == (ofL y).toList) = decide (x = y) := by
  rw [ByteArray.toList_eq, ByteArray.toList_eq]
  exact (show (x == y) = decide (x = y) by by_cases h : x = y <;> simp [h])

theorem scInfo : (Tryd.prog.info? 9).map (fun i => (i.zero, i.size, i.bytes)) = some (some (.string ByteArray.empty), 1, 16) := by kernel_rfl

theorem own_formS {W : World} {B n size : Nat} {e : TypeId} {v : Value} {xs : List Value} (h : W.ownsRow B e size v n xs) : ∃ av cv, v = .slice av n cv := by
  rcases h.2 with ⟨h, h0⟩ | ⟨g, cap, cur, h, _⟩
  · exact ⟨none, 0, by rw [h, h0]⟩
  · exact ⟨_, _, h⟩

theorem own_cellS {W : World} {B n cap : Nat} {e : TypeId} {av : Option Addr} {F : List (List UInt8)} (h : W.ownsRow B e 1 (.slice av n cap) n (scV F)) {k : Nat} {x : List UInt8} (hx : F[k]? = some x) : ∃ g, av = some ⟨g, 0, none⟩ ∧ W.cell? ⟨g, k, none⟩ = some (.string (ofL x)) ∧ k < n := by
  have hl := h.1
  have hk := (List.getElem?_eq_some_iff.1 hx).1
  simp only [scV, List.length_map, Nat.mul_one] at hl
  rcases h.2 with ⟨h1, h0⟩ | ⟨g, cap', cur, h1, h2⟩
  · omega
  · injection h1 with h1 _ h3
    subst h1; subst h3
    refine ⟨g, rfl, ?_, by omega⟩
    rw [h.cellAt k (by omega)]
    simp [scV, hx]

set_option maxRecDepth 100000 in
set_option maxHeartbeats 800000 in
theorem l1HasS_any (F : List (List UInt8)) (f : List UInt8) (B n cap : Nat) (e0 : TypeId) (av : Option Addr) (hn : F.length = n) (hb5 : n ≤ 5000) (w : World) (ho : w.ownsRow B e0 1 (.slice av n cap) n (scV F)) :
    Calls Tryd.prog 77 #[.slice av n cap, .string (ofL f)] w fun e w' => e = .returned (.bool (decide (f ∈ F))) ∧ w = w' := by
  have HO := Lib.hid ho
  have HN := Lib.hid hn
  clear ho hn
  go_enter Tryd.func77, Tryd.ntmps77
  go_wp2_with fail
  go_loopw [9] (fun i wr => ∃ k : Nat, k ≤ n ∧ i = .int .i64 k ∧ wr = w ∧ ∀ x ∈ F.take k, x ≠ f) (fun i _ => n - (intOf i).toNat)
  case atStart => exact ⟨0, Nat.zero_le _, rfl, rfl, by simp⟩
  case round =>
    obtain ⟨k, hk, rfl, rfl, hno⟩ := hrel
    have HNO := Lib.hid hno
    clear hno
    have i1 : (0 : Int) ≤ (k : Int) := by omega
    by_cases hlt : k < n
    · obtain ⟨x, hx⟩ : ∃ x, F[k]? = some x := ⟨_, List.getElem?_eq_getElem (by rw [HN.out]; exact hlt)⟩
      obtain ⟨g, rfl, c0, _⟩ := own_cellS HO.out hx
      have i2 : (k : Int) < (n : Int) := by omega
      have HX := Lib.hid hx
      have he := eq_text x f
      clear hx
      by_cases hv : x = f
      · have HM := Lib.hid (show decide (f ∈ F) = true from decide_eq_true (hv ▸ List.mem_of_getElem? HX.out))
        rw [decide_eq_true hv] at he
        clear hv
        generalize ofL x = X at *
        generalize ofL f = Y at *
        go_wp2_with fail
        go_ret
        exact ⟨by rw [HM.out]; rfl, rfl⟩
      · have HV := Lib.hid hv
        rw [decide_eq_false hv] at he
        clear hv
        generalize ofL x = X at *
        generalize ofL f = Y at *
        go_wp2_with fail
        go_roundw
        case rel => exact ⟨k + 1, by omega, by go_num, by trivial, fun y hy => by
          rw [List.take_add_one, HX.out] at hy
          rcases List.mem_append.1 hy with h | h
          · exact HNO.out y h
          · have : y = x := by simpa using h
            rw [this]; exact HV.out⟩
        case measure => simp [intOf]; omega
    · obtain rfl : k = n := by omega
      have HM := Lib.hid (show decide (f ∈ F) = false from decide_eq_false fun h => HNO.out f (by rw [List.take_of_length_le (by rw [HN.out]; exact Nat.le_refl _)]; exact h) rfl)
      go_wp2_with fail
      go_ret
      exact ⟨by rw [HM.out]; rfl, rfl⟩

theorem vfold_go : ∀ (X : List (List UInt8)) (s : List (List UInt8) × Nat), (∀ x ∈ X, 0 < x.length ∧ x.length ≤ 40) → (X.foldl vstep s).1.length ≤ s.1.length + X.length ∧ (X.foldl vstep s).2 ≤ s.2 + 40 * X.length
  | [], s, _ => by simp
  | x :: X, s, h => by
    have ih := vfold_go X (vstep s x) (fun y hy => h y (by simp [hy]))
    have hx := h x (by simp)
    have hp := per_le hx.1
    have hs : (vstep s x).1.length ≤ s.1.length + 1 ∧ (vstep s x).2 ≤ s.2 + 40 := by
      unfold vstep
      split
      · omega
      · simp only [List.length_append, List.length_singleton]; omega
    simp only [List.foldl_cons, List.length_cons]
    omega

theorem vfold_le (X : List (List UInt8)) (h : ∀ x ∈ X, 0 < x.length ∧ x.length ≤ 40) : (vfold X).1.length ≤ X.length ∧ (vfold X).2 ≤ 40 * X.length := by
  have := vfold_go X ([], 0) h
  simpa [vfold] using this

set_option maxRecDepth 100000 in
set_option maxHeartbeats 1600000 in
theorem csVariants_any (l : List UInt8) (ht : tkB (ofL l) = true) (h0 : 0 < l.length) (w : World) :
    Calls Tryd.prog 56 #[.string (ofL l)] w fun e w' => e = .returned (.int .i64 (varN l : Nat)) ∧ Below w.heap.size w w' := by
  obtain ⟨i0, hi, iz0, iz1, iz2⟩ := info_parts scInfo
  have FR := Lib.hid (csFour_any l (tk_le ht))
  have LS := Lib.hid (fun x (hx : x ∈ four l) (W : World) => csLeast_any x (four_tk ht x hx) W)
  have PS := Lib.hid (fun x (hx : x ∈ four l) (W : World) => csPeriod_any x (tk_le (four_tk ht x hx)) (by rw [four_len hx]; exact h0) W)
  have HLE := Lib.hid (fun k => vfold_le ((four l).take k) (fun x hx => ⟨by rw [four_len (List.mem_of_mem_take hx)]; exact h0, by rw [four_len (List.mem_of_mem_take hx)]; exact tk_le ht⟩))
  have HPL := Lib.hid (fun x (hx : x ∈ four l) => show perN x ≤ 40 by have h1 := per_le (l := x) (by rw [four_len hx]; exact h0); have h2 := four_len hx; have h3 := tk_le ht; omega)
  go_enter Tryd.func56, Tryd.ntmps56
  go_wp2_with fail
  refine (FR.out _).mono ?_
  rintro e w1 ⟨rfl, rfl⟩
  go_wp2_with fail
  go_loopw [3, 4, 11] (fun t m i wr => ∃ (k : Nat) (v : Value), k ≤ 4 ∧ i = .int .i64 k ∧ m = .int .i64 ((vfold ((four l).take k)).2 : Nat) ∧ v = t ∧ wr.ownsRow (w.heap.size + 1) 9 1 v (vfold ((four l).take k)).1.length (scV (vfold ((four l).take k)).1) ∧ wr.heap[w.heap.size]? = some (.cells #[.string (ofL l), .string (ofL (l.map mir)), .string (ofL (bak l)), .string (ofL ((bak l).map mir))] 9 (0, 0)) ∧ Below w.heap.size w wr) (fun _ _ i _ => 4 - (intOf i).toNat)
  case atStart => exact ⟨0, _, by omega, rfl, rfl, rfl, World.ownsRow_nil _ _ _ _, heap_alloc_last w _, by go_grown⟩
  case round =>
    obtain ⟨k, v, hk, rfl, rfl, rfl, ho, hblk, hb⟩ := hrel
    have hzl : w.heap.size < wr.heap.size := (Array.getElem?_eq_some_iff.1 hblk).1
    by_cases hlt : k < 4
    · obtain ⟨x, hx⟩ : ∃ x, (four l)[k]? = some x := ⟨_, List.getElem?_eq_getElem (by simpa [four] using hlt)⟩
      have hxm := List.mem_of_getElem? hx
      have c0 : wr.cell? ⟨w.heap.size, k, none⟩ = some (.string (ofL x)) := four_at hblk k _ (by
        rw [show [Value.string (ofL l), Value.string (ofL (l.map mir)), Value.string (ofL (bak l)), Value.string (ofL ((bak l).map mir))] = (four l).map (fun y => Value.string (ofL y)) from rfl, List.getElem?_map, hx]
        rfl)
      have SP := Lib.hid (LS.out x hxm)
      have SQ := Lib.hid (PS.out x hxm)
      have hpl := HPL.out x hxm
      have hle := HLE.out k
      have hnx : vfold ((four l).take (k + 1)) = vstep (vfold ((four l).take k)) x := by
        rw [List.take_add_one, hx]
        exact vfold_snoc _ _
      rw [List.length_take, show (four l).length = 4 from rfl] at hle
      generalize vfold ((four l).take k) = P at ho hle hnx ⊢
      obtain ⟨F, m⟩ := P
      simp only at ho hle hnx ⊢
      have hnx2 : vfold ((four l).take (k + 1)) = (if leastL x ∈ F then (F, m) else (F ++ [leastL x], m + perN x)) := hnx
      clear hnx
      obtain ⟨av, cv, rfl⟩ := own_formS ho
      obtain ⟨fn, hfn⟩ : ∃ fn, F.length = fn := ⟨_, rfl⟩
      rw [hfn] at ho hle ⊢
      have HFN := Lib.hid hfn
      have HO := Lib.hid ho
      have HBK := Lib.hid hblk
      have HB := Lib.hid hb
      have i1 : (0 : Int) ≤ (k : Int) := by omega
      have i2 : (k : Int) < 4 := by omega
      generalize leastL x = y at *
      clear hx hxm ho hblk hb hfn
      by_cases hyf : y ∈ F
      · have HM := Lib.hid (show decide (y ∈ F) = true from decide_eq_true hyf)
        have HNX := Lib.hid (show vfold ((four l).take (k + 1)) = (F, m) by rw [hnx2, if_pos hyf])
        clear hnx2 hyf
        go_wp2_with fail
        refine (SP.out _).mono ?_
        rintro e w2 ⟨rfl, hb2⟩
        have HO2 := Lib.hid (HO.out.kept (bgr hb2) (by cases (Value.slice av fn cv).ownBlock <;> simp))
        have HBK2 := Lib.hid ((hb2.block w.heap.size hzl).trans HBK.out)
        have HB2 := Lib.hid (HB.out.trans (hb2.mono HB.out.size))
        clear hb2
        go_wp2_with fail
        refine (l1HasS_any F _ (w.heap.size + 1) fn cv 9 av HFN.out (by omega) _ HO2.out).mono ?_
        rintro e w3 ⟨rfl, rfl⟩
        rw [HM.out]
        go_wp2_with fail
        go_roundw
        case rel => exact ⟨k + 1, .slice av fn cv, by omega, by go_num, by rw [HNX.out], rfl, by rw [HNX.out]; show World.ownsRow _ _ _ _ _ F.length _; rw [HFN.out]; exact HO2.out, HBK2.out, HB2.out⟩
        case measure => simp [intOf]; omega
      · have HM := Lib.hid (show decide (y ∈ F) = false from decide_eq_false hyf)
        have HNX := Lib.hid (show vfold ((four l).take (k + 1)) = (F ++ [y], m + perN x) by rw [hnx2, if_neg hyf])
        have HSC := Lib.hid (show scV (F ++ [y]) = scV F ++ [.string (ofL y)] by simp [scV])
        clear hnx2 hyf
        generalize perN x = p at *
        generalize ofL x = X at *
        go_wp2_with fail
        refine (SP.out _).mono ?_
        rintro e w2 ⟨rfl, hb2⟩
        have hz2 := hb2.size
        have HO2 := Lib.hid (HO.out.kept (bgr hb2) (by cases (Value.slice av fn cv).ownBlock <;> simp))
        have HBK2 := Lib.hid ((hb2.block w.heap.size hzl).trans HBK.out)
        have HB2 := Lib.hid (HB.out.trans (hb2.mono HB.out.size))
        clear hb2
        go_wp2_with fail
        refine (l1HasS_any F _ (w.heap.size + 1) fn cv 9 av HFN.out (by omega) _ HO2.out).mono ?_
        rintro e w3 ⟨rfl, rfl⟩
        rw [HM.out]
        have HO3 := Lib.hid (HO2.out.alloc (.cells #[.string (ofL y)] 9))
        have HB3 := Lib.hid (HB2.out.alloc (Nat.le_trans (Nat.le_of_lt hzl) hz2) (.cells #[.string (ofL y)] 9))
        have HBK3 := Lib.hid ((Below.heap_alloc w2 (.cells #[.string (ofL y)] 9) _ (by omega)).trans HBK2.out)
        go_wp2_with (at_builtin; refine wpList_append_own_at _ rfl _ _ 31 rfl (w.heap.size + 1) 9 i0 (.string ByteArray.empty) 1 16 Tryd.underlying31 hi iz0 iz1 iz2 rfl (by decide) (.slice av fn cv) _ _ rfl HO3.out ⟨w2.heap.size, 0, none⟩ 1 1 [.string (ofL y)] rfl rfl (cell_one_new _ _ _) (by intro u hu; simp at hu; subst hu; rfl) (by unfold maxLen; omega) (by omega) (by simp; omega) ?_; intro v' w3 hown' hgrow hnil hloc)
        have hlt' := HO3.out.lt
        have HB8 := Lib.hid (HB3.out.grown hgrow (by simp; omega) (fun k hk => Nat.le_of_succ_le (hlt' k hk).1))
        have HK8 := Lib.hid ((hgrow.block w.heap.size (by simp; omega) (fun e => by have := (hlt' w.heap.size e.symm).1; omega)).trans HBK3.out)
        have hz3 := hgrow.size
        have HO8 := Lib.hid hown'
        clear hlt' hgrow hown' hnil hloc
        go_wp2_with fail
        refine (SQ.out _).mono ?_
        rintro e w4 ⟨rfl, hb4⟩
        have HO9 := Lib.hid (HO8.out.kept (bgr hb4) (by cases v'.ownBlock <;> simp))
        have HBK9 := Lib.hid ((hb4.block w.heap.size (by simp at hz3; omega)).trans HK8.out)
        have HB9 := Lib.hid (HB8.out.trans (hb4.mono HB8.out.size))
        clear hb4
        go_wp2_with fail
        go_roundw
        case rel => exact ⟨k + 1, v', by omega, by go_num, by rw [HNX.out]; go_num, rfl, by rw [HNX.out]; show World.ownsRow _ _ _ _ _ (F ++ [y]).length (scV (F ++ [y])); rw [List.length_append, HFN.out, HSC.out]; exact HO9.out, HBK9.out, HB9.out⟩
        case measure => simp [intOf]; omega
    · obtain rfl : k = 4 := by omega
      have HB := Lib.hid hb
      have HV := Lib.hid (show (vfold ((four l).take 4)).2 = varN l from rfl)
      clear hb ho hblk
      go_wp2_with fail
      go_ret
      exact ⟨by rw [HV.out]; rfl, HB.out⟩

def crS (s : ByteArray) : ByteArray := cond (clB s) (ofL (classL s.data.toList)) ⟨#[]⟩

def cvI (s : ByteArray) : Int := cond (clB s) (varN s.data.toList : Nat) 0

def omB (s : ByteArray) : Bool := cond (clB s) (decide (leastL (s.data.toList.map mir) = leastL s.data.toList)) false

def obB (s : ByteArray) : Bool := cond (clB s) (decide (leastL (bak s.data.toList) = leastL s.data.toList)) false

def aoB (a b : ByteArray) : Bool := cond (clB a && clB b) (decide (classL a.data.toList = classL b.data.toList)) false

theorem cr_no {s : ByteArray} (h : clB s = false) : Ending.returned (.tuple #[.string ⟨#[]⟩, .bool false]) = Ending.returned (.tuple #[.string (crS s), .bool false]) := by simp [crS, h]

theorem cr_yes {s : ByteArray} (h : clB s = true) : Ending.returned (.tuple #[.string (ofL (classL s.data.toList)), .bool true]) = Ending.returned (.tuple #[.string (crS s), .bool true]) := by simp [crS, h]

theorem cv_no {s : ByteArray} (h : clB s = false) : Ending.returned (.tuple #[.int .i64 0, .bool false]) = Ending.returned (.tuple #[.int .i64 (cvI s), .bool false]) := by simp [cvI, h]

theorem cv_yes {s : ByteArray} (h : clB s = true) : Ending.returned (.tuple #[.int .i64 (varN s.data.toList : Nat), .bool true]) = Ending.returned (.tuple #[.int .i64 (cvI s), .bool true]) := by simp [cvI, h]

theorem om_no {s : ByteArray} (h : clB s = false) : omB s = false := by simp [omB, h]

theorem om_yes {s : ByteArray} (h : clB s = true) : omB s = decide (leastL (s.data.toList.map mir) = leastL s.data.toList) := by simp [omB, h]

theorem ob_no {s : ByteArray} (h : clB s = false) : obB s = false := by simp [obB, h]

theorem ob_yes {s : ByteArray} (h : clB s = true) : obB s = decide (leastL (bak s.data.toList) = leastL s.data.toList) := by simp [obB, h]

set_option maxRecDepth 100000 in
theorem spClassRing (s : ByteArray) (hs : s.size ≤ 1048576) (w : World) :
    Calls Tryd.prog 17 #[.string s] w fun e w' => e = .returned (.tuple #[.string (crS s), .bool (clB s)]) ∧ Below w.heap.size w w' := by
  have HC := Lib.hid (csRing_any s hs)
  cases tc : clB s
  · have G := Lib.hid tc
    rw [tc] at HC
    go_enter Tryd.func17, Tryd.ntmps17
    go_wp2_with (go_at_call 45; (with_reducible refine (HC.out _).mono ?_); rintro e wA ⟨rfl, h1⟩; (try with_reducible replace h1 := undrew h1); have hB : Below w.heap.size w wA := ba (by go_grown) h1; obtain ⟨hcwA, hfwA⟩ := bcell h1; have hqwA := h1.size; (try simp at hqwA); )
    go_ret2
    exact ⟨cr_no G.out, by go_grown⟩
  · have G := Lib.hid tc
    have hL := csClass_any s.data.toList (cl_data tc).1
    rw [ofL_data] at hL
    have HL := Lib.hid hL
    rw [tc] at HC
    clear hL
    go_enter Tryd.func17, Tryd.ntmps17
    go_wp2_with (first | (go_at_call 45; (with_reducible refine (HC.out _).mono ?_); rintro e wA ⟨rfl, h1⟩; (try with_reducible replace h1 := undrew h1); have hB : Below w.heap.size w wA := ba (by go_grown) h1; obtain ⟨hcwA, hfwA⟩ := bcell h1; have hqwA := h1.size; (try simp at hqwA); ) | (go_at_call 52; (with_reducible refine (HL.out _).mono ?_); rintro e wB ⟨rfl, h1⟩; (try with_reducible replace h1 := undrew h1); have hB : Below w.heap.size w wB := ba (by go_grown) h1; obtain ⟨hcwB, hfwB⟩ := bcell h1; have hqwB := h1.size; (try simp at hqwB); (try have hz0wB : wA.heap.size < wB.heap.size := (by omega)); (try have he0wB : wA.heap.size ≤ wB.heap.size := (by omega))))
    go_ret2
    exact ⟨cr_yes G.out, by go_grown⟩

set_option maxRecDepth 100000 in
theorem spCountVariants (s : ByteArray) (hs : s.size ≤ 1048576) (w : World) :
    Calls Tryd.prog 21 #[.string s] w fun e w' => e = .returned (.tuple #[.int .i64 (cvI s), .bool (clB s)]) ∧ Below w.heap.size w w' := by
  have HC := Lib.hid (csRing_any s hs)
  cases tc : clB s
  · have G := Lib.hid tc
    rw [tc] at HC
    go_enter Tryd.func21, Tryd.ntmps21
    go_wp2_with (go_at_call 45; (with_reducible refine (HC.out _).mono ?_); rintro e wA ⟨rfl, h1⟩; (try with_reducible replace h1 := undrew h1); have hB : Below w.heap.size w wA := ba (by go_grown) h1; obtain ⟨hcwA, hfwA⟩ := bcell h1; have hqwA := h1.size; (try simp at hqwA); )
    go_ret2
    exact ⟨cv_no G.out, by go_grown⟩
  · have G := Lib.hid tc
    have hL := csVariants_any s.data.toList (cl_data tc).1 (cl_data tc).2
    rw [ofL_data] at hL
    have HL := Lib.hid hL
    rw [tc] at HC
    clear hL
    go_enter Tryd.func21, Tryd.ntmps21
    go_wp2_with (first | (go_at_call 45; (with_reducible refine (HC.out _).mono ?_); rintro e wA ⟨rfl, h1⟩; (try with_reducible replace h1 := undrew h1); have hB : Below w.heap.size w wA := ba (by go_grown) h1; obtain ⟨hcwA, hfwA⟩ := bcell h1; have hqwA := h1.size; (try simp at hqwA); ) | (go_at_call 56; (with_reducible refine (HL.out _).mono ?_); rintro e wB ⟨rfl, h1⟩; (try with_reducible replace h1 := undrew h1); have hB : Below w.heap.size w wB := ba (by go_grown) h1; obtain ⟨hcwB, hfwB⟩ := bcell h1; have hqwB := h1.size; (try simp at hqwB); (try have hz0wB : wA.heap.size < wB.heap.size := (by omega)); (try have he0wB : wA.heap.size ≤ wB.heap.size := (by omega))))
    go_ret2
    exact ⟨cv_yes G.out, by go_grown⟩

set_option maxRecDepth 100000 in
set_option maxHeartbeats 800000 in
theorem spIsOwnMirror (s : ByteArray) (hs : s.size ≤ 1048576) (w : World) :
    Calls Tryd.prog 23 #[.string s] w fun e w' => e = .returned (.tuple #[.bool (omB s), .bool (clB s)]) ∧ Below w.heap.size w w' := by
  have HC := Lib.hid (csRing_any s hs)
  cases tc : clB s
  · rw [om_no tc]
    rw [tc] at HC
    go_enter Tryd.func23, Tryd.ntmps23
    go_wp2_with (go_at_call 45; (with_reducible refine (HC.out _).mono ?_); rintro e wA ⟨rfl, h1⟩; (try with_reducible replace h1 := undrew h1); have hB : Below w.heap.size w wA := ba (by go_grown) h1; obtain ⟨hcwA, hfwA⟩ := bcell h1; have hqwA := h1.size; (try simp at hqwA); )
    go_ret2
    exact ⟨rfl, by go_grown⟩
  · obtain ⟨ht, h0⟩ := cl_data tc
    have hM := fun W => tkMirror_any (ofL s.data.toList) (by rw [ofL_size]; exact tk_le ht) W
    rw [miS_of] at hM
    have hL1 := fun W => csLeast_any (s.data.toList.map mir) (tk_mir ht) W
    have hL2 := fun W => csLeast_any s.data.toList ht W
    have he := eq_text (leastL (s.data.toList.map mir)) (leastL s.data.toList)
    rw [om_yes tc]
    rw [ofL_data] at hM hL2
    rw [tc] at HC
    generalize decide (leastL (s.data.toList.map mir) = leastL s.data.toList) = r at *
    generalize ofL (leastL s.data.toList) = A at *
    generalize ofL (leastL (s.data.toList.map mir)) = B at *
    generalize ofL (s.data.toList.map mir) = s2 at *
    have HM := Lib.hid hM
    have HL1 := Lib.hid hL1
    have HL2 := Lib.hid hL2
    clear hM hL1 hL2
    go_enter Tryd.func23, Tryd.ntmps23
    go_wp2_with (first | (go_at_call 45; (with_reducible refine (HC.out _).mono ?_); rintro e wA ⟨rfl, h1⟩; (try with_reducible replace h1 := undrew h1); have hB : Below w.heap.size w wA := ba (by go_grown) h1; obtain ⟨hcwA, hfwA⟩ := bcell h1; have hqwA := h1.size; (try simp at hqwA); ) | ((with_reducible refine (HM.out _).mono ?_); rintro e w' ⟨rfl, rfl⟩) | (go_at_call 46; (with_reducible refine (HL1.out _).mono ?_); rintro e wB ⟨rfl, h1⟩; (try with_reducible replace h1 := undrew h1); have hB : Below w.heap.size w wB := ba (by go_grown) h1; obtain ⟨hcwB, hfwB⟩ := bcell h1; have hqwB := h1.size; (try simp at hqwB); (try have hz0wB : wA.heap.size < wB.heap.size := (by omega)); (try have he0wB : wA.heap.size ≤ wB.heap.size := (by omega))) | (go_at_call 46; (with_reducible refine (HL2.out _).mono ?_); rintro e wC ⟨rfl, h1⟩; (try with_reducible replace h1 := undrew h1); have hB : Below w.heap.size w wC := ba (by go_grown) h1; obtain ⟨hcwC, hfwC⟩ := bcell h1; have hqwC := h1.size; (try simp at hqwC); (try have hz0wC : wA.heap.size < wC.heap.size := (by omega)); (try have he0wC : wA.heap.size ≤ wC.heap.size := (by omega)); (try have hz1wC : wB.heap.size < wC.heap.size := (by omega)); (try have he1wC : wB.heap.size ≤ wC.heap.size := (by omega))))
    all_goals go_ret2
    all_goals exact ⟨rfl, by go_grown⟩

set_option maxRecDepth 100000 in
set_option maxHeartbeats 800000 in
theorem spIsOwnBack (s : ByteArray) (hs : s.size ≤ 1048576) (w : World) :
    Calls Tryd.prog 25 #[.string s] w fun e w' => e = .returned (.tuple #[.bool (obB s), .bool (clB s)]) ∧ Below w.heap.size w w' := by
  have HC := Lib.hid (csRing_any s hs)
  cases tc : clB s
  · rw [ob_no tc]
    rw [tc] at HC
    go_enter Tryd.func25, Tryd.ntmps25
    go_wp2_with (go_at_call 45; (with_reducible refine (HC.out _).mono ?_); rintro e wA ⟨rfl, h1⟩; (try with_reducible replace h1 := undrew h1); have hB : Below w.heap.size w wA := ba (by go_grown) h1; obtain ⟨hcwA, hfwA⟩ := bcell h1; have hqwA := h1.size; (try simp at hqwA); )
    go_ret2
    exact ⟨rfl, by go_grown⟩
  · obtain ⟨ht, h0⟩ := cl_data tc
    have hM := fun W => tkBack_any (ofL s.data.toList) (by rw [ofL_size]; exact tk_le ht) W
    rw [baS_of] at hM
    have hL1 := fun W => csLeast_any (bak s.data.toList) (tk_bak ht) W
    have hL2 := fun W => csLeast_any s.data.toList ht W
    have he := eq_text (leastL (bak s.data.toList)) (leastL s.data.toList)
    rw [ob_yes tc]
    rw [ofL_data] at hM hL2
    rw [tc] at HC
    generalize decide (leastL (bak s.data.toList) = leastL s.data.toList) = r at *
    generalize ofL (leastL s.data.toList) = A at *
    generalize ofL (leastL (bak s.data.toList)) = B at *
    generalize ofL (bak s.data.toList) = s2 at *
    have HM := Lib.hid hM
    have HL1 := Lib.hid hL1
    have HL2 := Lib.hid hL2
    clear hM hL1 hL2
    go_enter Tryd.func25, Tryd.ntmps25
    go_wp2_with (first | (go_at_call 45; (with_reducible refine (HC.out _).mono ?_); rintro e wA ⟨rfl, h1⟩; (try with_reducible replace h1 := undrew h1); have hB : Below w.heap.size w wA := ba (by go_grown) h1; obtain ⟨hcwA, hfwA⟩ := bcell h1; have hqwA := h1.size; (try simp at hqwA); ) | ((with_reducible refine (HM.out _).mono ?_); rintro e w' ⟨rfl, rfl⟩) | (go_at_call 46; (with_reducible refine (HL1.out _).mono ?_); rintro e wB ⟨rfl, h1⟩; (try with_reducible replace h1 := undrew h1); have hB : Below w.heap.size w wB := ba (by go_grown) h1; obtain ⟨hcwB, hfwB⟩ := bcell h1; have hqwB := h1.size; (try simp at hqwB); (try have hz0wB : wA.heap.size < wB.heap.size := (by omega)); (try have he0wB : wA.heap.size ≤ wB.heap.size := (by omega))) | (go_at_call 46; (with_reducible refine (HL2.out _).mono ?_); rintro e wC ⟨rfl, h1⟩; (try with_reducible replace h1 := undrew h1); have hB : Below w.heap.size w wC := ba (by go_grown) h1; obtain ⟨hcwC, hfwC⟩ := bcell h1; have hqwC := h1.size; (try simp at hqwC); (try have hz0wC : wA.heap.size < wC.heap.size := (by omega)); (try have he0wC : wA.heap.size ≤ wC.heap.size := (by omega)); (try have hz1wC : wB.heap.size < wC.heap.size := (by omega)); (try have he1wC : wB.heap.size ≤ wC.heap.size := (by omega))))
    all_goals go_ret2
    all_goals exact ⟨rfl, by go_grown⟩

set_option maxRecDepth 100000 in
set_option maxHeartbeats 800000 in
theorem spAreOneClass (a b : ByteArray) (ha : a.size ≤ 1048576) (hb : b.size ≤ 1048576) (w : World) :
    Calls Tryd.prog 27 #[.string a, .string b] w fun e w' => e = .returned (.tuple #[.bool (aoB a b), .bool (clB a && clB b)]) ∧ Below w.heap.size w w' := by
  have HC := Lib.hid (csRing_any a ha)
  have HD := Lib.hid (csRing_any b hb)
  cases ta : clB a
  · rw [show aoB a b = false by simp [aoB, ta], Bool.false_and]
    rw [ta] at HC
    go_enter Tryd.func27, Tryd.ntmps27
    go_wp2_with (go_at_call 45; (with_reducible refine (HC.out _).mono ?_); rintro e wA ⟨rfl, h1⟩; (try with_reducible replace h1 := undrew h1); have hB : Below w.heap.size w wA := ba (by go_grown) h1; obtain ⟨hcwA, hfwA⟩ := bcell h1; have hqwA := h1.size; (try simp at hqwA); )
    go_ret2
    exact ⟨rfl, by go_grown⟩
  · cases tb : clB b
    · rw [show aoB a b = false by simp [aoB, tb], Bool.true_and]
      rw [ta] at HC
      rw [tb] at HD
      go_enter Tryd.func27, Tryd.ntmps27
      go_wp2_with (first | (go_at_call 45; (with_reducible refine (HC.out _).mono ?_); rintro e wA ⟨rfl, h1⟩; (try with_reducible replace h1 := undrew h1); have hB : Below w.heap.size w wA := ba (by go_grown) h1; obtain ⟨hcwA, hfwA⟩ := bcell h1; have hqwA := h1.size; (try simp at hqwA); ) | (go_at_call 45; (with_reducible refine (HD.out _).mono ?_); rintro e wB ⟨rfl, h1⟩; (try with_reducible replace h1 := undrew h1); have hB : Below w.heap.size w wB := ba (by go_grown) h1; obtain ⟨hcwB, hfwB⟩ := bcell h1; have hqwB := h1.size; (try simp at hqwB); (try have hz0wB : wA.heap.size < wB.heap.size := (by omega)); (try have he0wB : wA.heap.size ≤ wB.heap.size := (by omega))))
      go_ret2
      exact ⟨rfl, by go_grown⟩
    · have hL1 := fun W => csClass_any a.data.toList (cl_data ta).1 W
      have hL2 := fun W => csClass_any b.data.toList (cl_data tb).1 W
      have he := eq_text (classL a.data.toList) (classL b.data.toList)
      rw [show aoB a b = decide (classL a.data.toList = classL b.data.toList) by simp [aoB, ta, tb], Bool.true_and]
      rw [ofL_data] at hL1 hL2
      rw [ta] at HC
      rw [tb] at HD
      generalize decide (classL a.data.toList = classL b.data.toList) = r at *
      generalize ofL (classL a.data.toList) = A at *
      generalize ofL (classL b.data.toList) = B at *
      have HL1 := Lib.hid hL1
      have HL2 := Lib.hid hL2
      clear hL1 hL2
      go_enter Tryd.func27, Tryd.ntmps27
      go_wp2_with (first | (go_at_call 45; (with_reducible refine (HC.out _).mono ?_); rintro e wA ⟨rfl, h1⟩; (try with_reducible replace h1 := undrew h1); have hB : Below w.heap.size w wA := ba (by go_grown) h1; obtain ⟨hcwA, hfwA⟩ := bcell h1; have hqwA := h1.size; (try simp at hqwA); ) | (go_at_call 45; (with_reducible refine (HD.out _).mono ?_); rintro e wB ⟨rfl, h1⟩; (try with_reducible replace h1 := undrew h1); have hB : Below w.heap.size w wB := ba (by go_grown) h1; obtain ⟨hcwB, hfwB⟩ := bcell h1; have hqwB := h1.size; (try simp at hqwB); (try have hz0wB : wA.heap.size < wB.heap.size := (by omega)); (try have he0wB : wA.heap.size ≤ wB.heap.size := (by omega))) | (go_at_call 52; (with_reducible refine (HL1.out _).mono ?_); rintro e wC ⟨rfl, h1⟩; (try with_reducible replace h1 := undrew h1); have hB : Below w.heap.size w wC := ba (by go_grown) h1; obtain ⟨hcwC, hfwC⟩ := bcell h1; have hqwC := h1.size; (try simp at hqwC); (try have hz0wC : wA.heap.size < wC.heap.size := (by omega)); (try have he0wC : wA.heap.size ≤ wC.heap.size := (by omega)); (try have hz1wC : wB.heap.size < wC.heap.size := (by omega)); (try have he1wC : wB.heap.size ≤ wC.heap.size := (by omega))) | (go_at_call 52; (with_reducible refine (HL2.out _).mono ?_); rintro e wD ⟨rfl, h1⟩; (try with_reducible replace h1 := undrew h1); have hB : Below w.heap.size w wD := ba (by go_grown) h1; obtain ⟨hcwD, hfwD⟩ := bcell h1; have hqwD := h1.size; (try simp at hqwD); (try have hz0wD : wA.heap.size < wD.heap.size := (by omega)); (try have he0wD : wA.heap.size ≤ wD.heap.size := (by omega)); (try have hz1wD : wB.heap.size < wD.heap.size := (by omega)); (try have he1wD : wB.heap.size ≤ wD.heap.size := (by omega)); (try have hz2wD : wC.heap.size < wD.heap.size := (by omega)); (try have he2wD : wC.heap.size ≤ wD.heap.size := (by omega))))
      all_goals go_ret2
      all_goals exact ⟨rfl, by go_grown⟩

end Go.Proofs.YtoenkgenoloihaaDoor

/- Contract of the program: the first rings of all classes. -/
namespace Go.Proofs.YtoenkgenoloihaaDoor
open Go.ChangeShapes Go.WideShapes Go.ChangeAt Go.RowKit Go.Sort

set_option linter.unusedVariables false

def flA (n j : Nat) : List (List UInt8) := ((clsL sp0 n).take j).filter isFst

theorem flA_end (n : Nat) : flA n (clsL sp0 n).length = acL n := by rw [flA, List.take_length]; rfl

theorem flA_skip {n j : Nat} {r : List UInt8} (h : (clsL sp0 n)[j]? = some r) (hf : isFst r = false) : flA n (j + 1) = flA n j := by simp [flA, List.take_add_one, h, hf]

theorem flA_next {n j : Nat} {r : List UInt8} (h : (clsL sp0 n)[j]? = some r) (hf : isFst r = true) : flA n (j + 1) = flA n j ++ [r] := by simp [flA, List.take_add_one, h, hf]

theorem flA_le (n j : Nat) : (flA n j).length ≤ j := Nat.le_trans (List.length_filter_le _ _) (List.length_take_le _ _)

theorem clsA_le {n : Nat} (hn : n ≤ 12) : (clsL sp0 n).length ≤ 531441 := by
  refine Nat.le_trans (List.length_filter_le _ _) ?_
  rw [words_count]
  exact Nat.pow_le_pow_right (by decide) hn

theorem cls_tk {n j : Nat} (h0 : 0 < n) (hn : n ≤ 12) {r : List UInt8} (h : (clsL sp0 n)[j]? = some r) : r.length = n ∧ tkB (ofL r) = true := by
  have h1 := cls_lenA h
  refine ⟨h1, tk_of (by omega) fun c hc => ?_⟩
  have := cls_lett h c hc
  simp only [ltr, List.mem_cons, List.not_mem_nil, or_false] at this
  rcases this with rfl | rfl | rfl <;> decide

theorem var_le {l : List UInt8} {V : List Lp} (h : IsVar l V) (h0 : 0 < l.length) (h40 : l.length ≤ 40) : V.length ≤ 160 := by
  rw [h.len h0 h40]
  have := (vfold_le (four l) (fun x hx => by rw [four_len hx]; exact ⟨h0, h40⟩)).2
  have e : (four l).length = 4 := rfl
  rw [e] at this
  exact this

theorem RowLp.keptA {W W' : World} {g : Nat} {L : List Lp} (h : RowLp W g L) (hb : W'.heap[g]? = W.heap[g]?) : RowLp W' g L := fun j x hx i v hv => by
  have := h j x hx i v hv
  simp only [World.cell?] at this ⊢
  rw [hb]
  exact this

theorem new_lp (W : World) (x y : Lp) : Below W.heap.size W ((W.alloc (.cells (arr x) 45)).setRow W.heap.size (arr y)) :=
  below_setRow ((Below.refl W.heap.size W).alloc (Nat.le_refl _) (.cells (arr x) 45)) (Nat.le_refl _) (arr y)

set_option maxRecDepth 100000 in
set_option maxHeartbeats 6400000 in
theorem imAll_any (n : Nat) (h0 : 0 < n) (hn : n ≤ 12) (w : World) : Calls Tryd.prog 30 #[.int .i64 (n : Nat)] w (STPost (acL n) true w) := by
  obtain ⟨i0, hi, iz0, iz1, iz2⟩ := info_parts srInfo
  have hz := (zero_of_info (P := Tryd.prog) lpInfo).1
  have hmm := @run_makeMap Tryd.prog
  obtain ⟨K, hK⟩ : ∃ K, K = 40 := ⟨_, rfl⟩
  have zE := zK hK
  have HK := Lib.hid hK
  have CL := Lib.hid (fun w => (closings_any sp0 (sp0_ok.mono (by omega)) n (by omega) w : Calls Tryd.prog 66 #[.agg #[.int .i64 0, .int .i64 0, .int .i64 0, .int .i64 0, .int .i64 0], .int .i64 (n : Nat)] w (StrPost (clsL sp0 n) w)))
  have h1 : inB (n : Int) 1 12 = true := by simp [inB]; omega
  have HE := Lib.hid (flA_end n)
  have hlen := clsA_le hn
  have FA := Lib.hid (fun j r (h : (clsL sp0 n)[j]? = some r) => And.intro (cls_tk h0 hn h) (And.intro (fun T (t : TD n j T) => TD_told t h0 (show n ≤ 40 by omega) h) (And.intro (fun (hf : isFst r = false) => And.intro (flA_skip h hf) (fun T (t : TD n j T) => TD_skip t h0 (show n ≤ 40 by omega) h hf)) (fun (hf : isFst r = true) => And.intro (flA_next h hf) (fun T V (t : TD n j T) (v : IsVar r V) => TD_next t h v)))))
  have HT0 := Lib.hid (TD_start n)
  have HFL := Lib.hid (flA_le n)
  have HF0 := Lib.hid (show flA n 0 = [] by simp [flA])
  generalize clsL sp0 n = R at *
  obtain ⟨N, hN⟩ : ∃ N, R.length = N := ⟨_, rfl⟩
  have HN := Lib.hid hN
  rw [hN] at hlen HE
  clear hK hN
  go_enter Tryd.func30, Tryd.ntmps30
  go_wp2_with (go_at_call 65; refine (isInRange_any _ _ _ _).mono ?_; rintro e w' ⟨rfl, rfl⟩)
  refine (CL.out _).mono ?_
  rintro e w1 ⟨vR, rfl, oR, hb1⟩
  rw [HN.out] at oR
  obtain ⟨av, cv, rfl⟩ := own_formC oR
  have hM0 := (ToldAt_start w).below hb1
  have hzM := hM0.lt
  have HB1 := Lib.hid (show Below w.heap.size w w1 from ((Below.refl w.heap.size w).alloc (Nat.le_refl _) (.map #[] 0)).trans (hb1.mono (by simp)))
  have HM0 := Lib.hid hM0
  have HOR := Lib.hid oR
  obtain ⟨bm, hbm⟩ : ∃ bm, w.heap.size = bm := ⟨_, rfl⟩
  have HBM := Lib.hid hbm
  rw [hbm] at hzM HM0
  rw [hbm]
  clear hb1 oR hM0 hbm
  go_wp2_with fail
  go_loopw [4, 19] (fun t i wr => ∃ (j : Nat) (v : Value) (T : List Lp) (mm : Nat), j ≤ N ∧ i = .int .i64 j ∧ v = t ∧ wr.ownsRow w1.heap.size 9 1 v (flA n j).length (strV (flA n j)) ∧ ToldAt wr bm mm T ∧ TD n j T ∧ mm ≤ j * 160 ∧ w1.grownBy wr (some bm)) (fun _ i _ => N - (intOf i).toNat)
  case atStart => exact ⟨0, _, [], 0, Nat.zero_le _, rfl, rfl, by rw [HF0.out]; exact World.ownsRow_nil _ _ _ _, HM0.out, HT0.out, by omega, World.grownBy.refl _ _⟩
  case round =>
    obtain ⟨j, v, T, mm, hj, rfl, rfl, hO, hT, hTD, hmj, hgr⟩ := hrel
    by_cases hlt : j < N
    · obtain ⟨r, hr⟩ : ∃ r, R[j]? = some r := ⟨_, List.getElem?_eq_getElem (by rw [HN.out]; exact hlt)⟩
      obtain ⟨⟨hrl, hrt⟩, htold, hskip, hnext⟩ := FA.out j r hr
      have hhit := htold T hTD
      obtain ⟨g, rfl⟩ : ∃ g, av = some ⟨g, 0, none⟩ := by
        rcases HOR.out.2 with ⟨h, h0⟩ | ⟨g, cap, _, h, _⟩
        · omega
        · injection h with h; exact ⟨g, h⟩
      have hgb : g ≠ bm := by have h1 := (HOR.out.lt g rfl).1; have h2 := HBM.out; simp at h1; omega
      have c0 := hgr.cell (str_of HOR.out HN.out j r hr) (by simpa using hgb)
      have LF := Lib.hid (fun W => loopFrom_any r (by omega) W)
      have VA := Lib.hid (fun W => variants_any r hrt (by omega) W)
      have VL := Lib.hid (fun V (h : IsVar r V) => var_le h (by omega) (by omega))
      obtain ⟨y, hy⟩ : ∃ y, mkLp r = y := ⟨_, rfl⟩
      rw [hy] at LF VA hhit
      have hAy := aK HK.out y
      have hnb : v.ownBlock ≠ some bm := fun e => by have := (hO.lt bm e).1; omega
      have HO := Lib.hid hO
      have HT := Lib.hid hT
      have HG := Lib.hid hgr
      have HTD := Lib.hid hTD
      have HHIT := Lib.hid hhit
      have HSK := Lib.hid hskip
      have HNX := Lib.hid hnext
      have HFLJ := HFL.out j
      have hzi : w1.heap.size ≤ wr.heap.size := hgr.size
      obtain ⟨wi, rfl⟩ : ∃ wi : World, wi = wr := ⟨_, rfl⟩
      clear hO hT hgr hTD hhit hskip hnext htold hr hy hrt
      go_wp2_with fail
      refine (LF.out _).mono ?_
      rintro e wa ⟨rfl, hba⟩
      have st := (LpAt.new wa zLp).store y
      have l1 := ((LpAt.new wa zLp).set y).loadK HK.out
      have hbb := ba hba (new_lp wa zLp y)
      have hT1 := HT.out.below hbb
      have lk := hT1.look y
      rw [HHIT.out] at lk
      have HT1 := Lib.hid hT1
      have HBB := Lib.hid hbb
      clear hba hbb hT1
      cases hf : isFst r
      · rw [hf] at lk
        have HO1 := Lib.hid (HO.out.kept (below_grown HBB.out) (by cases v.ownBlock <;> simp))
        have HG1 := Lib.hid (grown_row HG.out (below_grown HBB.out) (by simp))
        obtain ⟨hs1, hs2⟩ := HSK.out hf
        have HS1 := Lib.hid hs1
        have HS2 := Lib.hid (hs2 T HTD.out)
        clear hs1 hs2
        go_wp2_with fail
        go_roundw
        case rel => exact ⟨j + 1, v, T, mm, by omega, by go_num, rfl, by rw [HS1.out]; exact HO1.out, HT1.out, HS2.out, by omega, HG1.out⟩
        case measure => simp [intOf]; omega
      · rw [hf] at lk
        obtain ⟨hn1, hn2⟩ := HNX.out hf
        have HN1 := Lib.hid hn1
        have HN2 := Lib.hid (fun V => hn2 T V HTD.out)
        have HO1 := Lib.hid (HO.out.kept (below_grown HBB.out) (by cases v.ownBlock <;> simp))
        have HG1 := Lib.hid (grown_row HG.out (below_grown HBB.out) (by simp))
        clear hn1 hn2
        go_wp2_with fail
        generalize (wa.alloc (.cells (arr zLp) 45)).setRow wa.heap.size (arr y) = W1 at *
        refine (VA.out _).mono ?_
        rintro e w2 ⟨g2, cap2, V, rfl, hV, hR2, hg2w, hg2l, hb2⟩
        have hvl := VL.out V hV
        have HR2 := Lib.hid hR2
        have HO2 := Lib.hid (HO1.out.kept (below_grown hb2) (by cases v.ownBlock <;> simp))
        have HT2 := Lib.hid (HT1.out.below hb2)
        have HG2 := Lib.hid (grown_row HG1.out (below_grown hb2) (by simp))
        have HTE := Lib.hid (HN2.out V hV)
        have hgm : g2 ≠ bm := by have := HT1.out.lt; omega
        obtain ⟨M, hM⟩ : ∃ M, V.length = M := ⟨_, rfl⟩
        have HM := Lib.hid hM
        rw [hM] at hvl ⊢
        clear st l1 lk hb2 hR2 hV hM
        go_wp2_with fail
        go_loopw [31] (fun i wr => ∃ k : Nat, k ≤ M ∧ i = .int .i64 k ∧ ToldAt wr bm (mm + k) (T ++ V.take k) ∧ w2.grownBy wr (some bm)) (fun i _ => M - (intOf i).toNat)
        case atStart => exact ⟨0, Nat.zero_le _, rfl, by simpa using HT2.out, World.grownBy.refl _ _⟩
        case round =>
          obtain ⟨k, hk, rfl, hTk, hgk⟩ := hrel
          by_cases hkm : k < M
          · obtain ⟨x, hx⟩ : ∃ x, V[k]? = some x := ⟨_, List.getElem?_eq_getElem (by rw [HM.out]; exact hkm)⟩
            have hRk := HR2.out.keptA (hgk.block g2 hg2l (by simpa using hgm))
            have ld := hRk.load hx HK.out
            have st := (LpAt.new wr zLp).store x
            have l1 := ((LpAt.new wr zLp).set x).loadK HK.out
            have hAx := aK HK.out x
            obtain ⟨W4, rP, hT4, g4⟩ := (hTk.below (new_lp wr zLp x)).put (by unfold maxLen; omega) x
            have HTK := Lib.hid (show V.take (k + 1) = V.take k ++ [x] by rw [List.take_add_one, hx]; rfl)
            have HT4 := Lib.hid hT4
            have HG4 := Lib.hid (grown_row (grown_row hgk (below_grown (new_lp wr zLp x)) (by simp)) g4 (fun k hk => .inr hk))
            clear hx hRk hTk hgk hT4 g4
            go_wp2_with fail
            go_roundw
            case rel => exact ⟨k + 1, by omega, by go_num, by rw [HTK.out, ← List.append_assoc]; exact HT4.out, HG4.out⟩
            case measure => simp [intOf]; omega
          · obtain rfl : k = M := by omega
            have hta : V.take k = V := List.take_of_length_le (by rw [HM.out]; exact Nat.le_refl _)
            rw [hta] at hTk
            have HTk := Lib.hid hTk
            have hOk := HO2.out.kept hgk (.inr hnb)
            have HOk := Lib.hid (hOk.alloc (.cells #[.string (ofL r)] 9))
            have HGk := Lib.hid (grown_row (grown_row HG2.out hgk (fun k hk => .inr hk)) (World.grownBy_alloc wr (.cells #[.string (ofL r)] 9) none) (by simp))
            have HTa := Lib.hid (HTk.out.kept (World.grownBy_alloc wr (.cells #[.string (ofL r)] 9) none) (by simp))
            have hzk := HGk.out.size
            clear hTk hgk hOk hta
            go_wp2_with (at_builtin; refine wpList_append_own_at _ rfl _ _ 31 rfl w1.heap.size 9 i0 (.string ByteArray.empty) 1 16 Tryd.underlying31 hi iz0 iz1 iz2 rfl (by decide) v _ _ rfl HOk.out ⟨wr.heap.size, 0, none⟩ 1 1 [.string (ofL r)] rfl rfl (cell_one_new _ _ _) (by intro u hu; simp at hu; subst hu; rfl) (by unfold maxLen; omega) (by omega) hzk ?_; intro v' w5 hown' hgrow hnil hloc)
            have hlt' := HOk.out.lt
            have HO5 := Lib.hid hown'
            have HT5 := Lib.hid (HTa.out.kept hgrow (fun e => hnb e.symm))
            have HG5 := Lib.hid (grown_row HGk.out hgrow (fun k hk => .inl (hlt' k hk).1))
            clear hlt' hgrow hown' hnil hloc
            go_roundw
            case rel => exact ⟨j + 1, v', T ++ V, mm + k, by omega, by go_num, rfl, by rw [HN1.out, strV_append, List.length_append]; exact HO5.out, HT5.out, HTE.out, by omega, HG5.out⟩
            case measure => simp [intOf]; omega
    · obtain rfl : j = N := by omega
      rw [HE.out] at hO
      have HO := Lib.hid (own_lessP hO HB1.out.size)
      have HB := Lib.hid (HB1.out.grown hgr HB1.out.size (fun k hk => by injection hk with hk; have := HBM.out; omega))
      obtain ⟨av', cv', rfl⟩ := own_formC hO
      clear hO hT hTD hgr
      go_wp2_with fail
      go_ret2
      exact ⟨_, rfl, HO.out, HB.out⟩

end Go.Proofs.YtoenkgenoloihaaDoor

/- What the model's search for first rings finds behind a beginning. -/
namespace Go.Proofs.YtoenkgenoloihaaDoor

set_option linter.unusedVariables false

/-- What is found behind a beginning u that has led to s, with m pieces more. -/
def fdL (u : List UInt8) (s : Sp) (m : Nat) : List (List UInt8) := ((words m).filter fun w => spE (fin s w) sp0 && isFst (u ++ w)).map (u ++ ·)

theorem fdL_zero (u : List UInt8) (s : Sp) : fdL u s 0 = if spE s sp0 && isFst u then [u] else [] := by
  simp only [fdL, words, List.filter_cons, List.filter_nil, List.append_nil]
  have e : fin s [] = s := rfl
  rw [e]
  split <;> simp

theorem fdL_succ (u : List UInt8) (s : Sp) (m : Nat) : fdL u s (m + 1) = ltr.flatMap fun c => fdL (u ++ [c]) (s.next c) m := by
  simp only [fdL, words_cons, List.filter_flatMap, List.map_flatMap]
  congr 1
  funext c
  rw [List.filter_map, List.map_map]
  have e1 : ((fun w => spE (fin s w) sp0 && isFst (u ++ w)) ∘ fun x => c :: x) = fun w => spE (fin (s.next c) w) sp0 && isFst (u ++ [c] ++ w) := by
    funext w
    simp [fin_cons]
  have e2 : ((fun x => u ++ x) ∘ fun x => c :: x) = fun x => u ++ [c] ++ x := by
    funext w
    simp
  rw [e1, e2]

theorem fdL_top (n : Nat) : fdL [] sp0 n = acL n := by
  simp only [fdL, acL, clsL, List.nil_append, List.map_id']
  rw [List.filter_filter]
  congr 1
  funext w
  rw [Bool.and_comm]

def fdA (u : List UInt8) (s : Sp) (m c : Nat) : List (List UInt8) := (ltr.take c).flatMap fun ch => fdL (u ++ [ch]) (s.next ch) m

theorem fdA_end (u : List UInt8) (s : Sp) (m : Nat) : fdA u s m 3 = fdL u s (m + 1) := by rw [fdL_succ]; rfl

theorem fdA_next {u : List UInt8} {s : Sp} {m c : Nat} {ch : UInt8} (h : ltr.take (c + 1) = ltr.take c ++ [ch]) : fdA u s m (c + 1) = fdA u s m c ++ fdL (u ++ [ch]) (s.next ch) m := by
  simp [fdA, h, List.flatMap_append]

theorem fdL_le (u : List UInt8) (s : Sp) (m : Nat) : (fdL u s m).length ≤ 3 ^ m := by
  rw [fdL, List.length_map]
  refine Nat.le_trans (List.length_filter_le _ _) ?_
  have : ∀ m, (words m).length = 3 ^ m := fun m => by
    induction m with
    | zero => rfl
    | succ m ih => rw [words_cons]; simp [ltr, ih, Nat.pow_succ]; omega
  rw [this]
  exact Nat.le_refl _

theorem acL_mem {n : Nat} {r : List UInt8} (h : r ∈ acL n) : (r.length = n ∧ ∀ c ∈ r, c ∈ ltr) ∧ fin sp0 r = sp0 := cls_iffA.1 (List.mem_filter.1 h).1

end Go.Proofs.YtoenkgenoloihaaDoor

/- Contract of the model: the search for the first rings of all classes. -/
namespace Go.Proofs.YtoenkgenoloihaaDoor
open Go.ChangeShapes Go.WideShapes Go.ChangeAt Go.RowKit

set_option linter.unusedVariables false

def FdAt (w : World) (F n : Nat) (v : Value) (L : List (List UInt8)) : Prop :=
  w.heap[F]? = some (.cells #[.int .i64 n, v] 61 (0, 0)) ∧ w.ownsRow (F + 1) 9 1 v L.length (strV L)

structure FdFr (w w' : World) (F : Nat) (v : Value) : Prop where
  os : w'.os = w.os
  tape : w'.tape = w.tape
  output : w'.output = w.output
  size : w.heap.size ≤ w'.heap.size
  block : ∀ k, k < w.heap.size → k ≠ F → v.ownBlock ≠ some k → w'.heap[k]? = w.heap[k]?

/-- A row that lies where it lay, or in a new block. -/
def Stays (m : Nat) (v v' : Value) : Prop := v'.ownBlock = v.ownBlock ∨ ∀ k, v'.ownBlock = some k → m ≤ k

theorem Stays.refl (m : Nat) (v : Value) : Stays m v v := .inl rfl

theorem Stays.trans {m m2 : Nat} {v v1 v2 : Value} (h : Stays m v v1) (g : Stays m2 v1 v2) (hm : m ≤ m2) : Stays m v v2 := by
  rcases g with g | g
  · rcases h with h | h
    · exact .inl (g.trans h)
    · exact .inr fun k hk => h k (g ▸ hk)
  · exact .inr fun k hk => Nat.le_trans hm (g k hk)

theorem FdFr.of_below {w w' : World} {F : Nat} {v : Value} (h : Below w.heap.size w w') : FdFr w w' F v := ⟨h.os, h.tape, h.output, h.size, fun k hk _ _ => h.block k hk⟩

theorem FdFr.refl (w : World) (F : Nat) (v : Value) : FdFr w w F v := FdFr.of_below (Below.refl _ _)

theorem FdFr.trans {w w1 w2 : World} {F : Nat} {v v1 : Value} (h : FdFr w w1 F v) (g : FdFr w1 w2 F v1) (hs : Stays w.heap.size v v1) : FdFr w w2 F v :=
  ⟨g.os.trans h.os, g.tape.trans h.tape, g.output.trans h.output, Nat.le_trans h.size g.size, fun k hk hF hv => by
    have hv1 : v1.ownBlock ≠ some k := fun e => by
      rcases hs with hs | hs
      · exact hv (hs ▸ e)
      · have := hs k e; omega
    rw [g.block k (Nat.lt_of_lt_of_le hk h.size) hF hv1, h.block k hk hF hv]⟩

theorem FdFr.then {w w1 w2 : World} {F : Nat} {v : Value} (h : FdFr w w1 F v) (g : Below w1.heap.size w1 w2) : FdFr w w2 F v := h.trans (FdFr.of_below g) (.refl _ _)

theorem FdFr.below {w w' : World} {F m : Nat} {v : Value} (h : FdFr w w' F v) (hF : m ≤ F) (hv : ∀ k, v.ownBlock = some k → m ≤ k) (hm : m ≤ w.heap.size) : Below m w w' :=
  ⟨h.os, h.tape, h.output, h.size, fun k hk => h.block k (by omega) (by omega) (fun e => by have := hv k e; omega)⟩

theorem FdAt.lt {w : World} {F n : Nat} {v : Value} {L : List (List UInt8)} (h : FdAt w F n v L) : F < w.heap.size := (Array.getElem?_eq_some_iff.1 h.1).1

theorem FdAt.below {w w' : World} {F n : Nat} {v : Value} {L : List (List UInt8)} (h : FdAt w F n v L) (hb : Below w.heap.size w w') : FdAt w' F n v L :=
  ⟨(hb.block F h.lt).trans h.1, h.2.kept (row := none) ⟨hb.os, hb.tape, hb.output, hb.size, fun k hk _ => hb.block k hk⟩ (by cases v.ownBlock <;> simp)⟩

theorem FdAt.cells {w : World} {F n : Nat} {v : Value} {L : List (List UInt8)} (h : FdAt w F n v L) : w.cell? ⟨F, 0, none⟩ = some (.int .i64 n) ∧ w.cell? ⟨F, 1, none⟩ = some v ∧ w.frozen? ⟨F, 1, none⟩ = false := by
  simp [World.cell?, World.frozen?, h.1]

def FdPost (w : World) (F n : Nat) (v : Value) (L : List (List UInt8)) (e : Ending) (w' : World) : Prop :=
  e = .returned (.tuple #[]) ∧ ∃ v', FdAt w' F n v' L ∧ Stays w.heap.size v v' ∧ FdFr w w' F v

theorem fd_store {w w1 w2 : World} {F n : Nat} {v v' : Value} {L L' : List (List UInt8)} (h : FdAt w F n v L) (hw : Below w.heap.size w w1) (hg : w1.grownBy w2 v.ownBlock) (ho : w2.ownsRow (F + 1) 9 1 v' L'.length (strV L')) (hs : v'.ownBlock = v.ownBlock ∨ v'.ownBlock = some w1.heap.size) :
    FdPost w F n v L' (.returned (.tuple #[])) (w2.setCell ⟨F, 1, none⟩ v') := by
  have hF := h.lt
  have hvF : v.ownBlock ≠ some F := fun e => by have := (h.2.lt F e).1; omega
  have hvF' : v'.ownBlock ≠ some F := fun e => by have := (ho.lt F e).1; omega
  have hb2 : w2.heap[F]? = some (.cells #[.int .i64 n, v] 61 (0, 0)) := by
    rw [hg.block F (Nat.lt_of_lt_of_le hF hw.size) (fun e => hvF e.symm), hw.block F hF, h.1]
  refine ⟨rfl, v', ⟨?_, ?_⟩, ?_, ?_⟩
  · simp [World.setCell, Array.getElem?_modify, hb2]
  · refine ho.kept (row := some F) ⟨rfl, rfl, rfl, by simp [World.setCell], fun k hk hne => ?_⟩ (.inr fun e => hvF' e)
    have : ¬ F = k := fun e => hne (by rw [e])
    simp [World.setCell, Array.getElem?_modify, this]
  · rcases hs with hs | hs
    · exact .inl hs
    · exact .inr fun k hk => by rw [hs] at hk; injection hk with hk; have := hw.size; omega
  · refine ⟨?_, ?_, ?_, ?_, fun k hk hkF hv => ?_⟩
    · exact hg.os.trans hw.os
    · exact hg.tape.trans hw.tape
    · exact hg.output.trans hw.output
    · have h1 := hw.size
      have h2 := hg.size
      simp [World.setCell]; omega
    · have : ¬ F = k := fun e => hkF e.symm
      have e1 : (w2.setCell ⟨F, 1, none⟩ v').heap[k]? = w2.heap[k]? := by simp [World.setCell, Array.getElem?_modify, this]
      rw [e1, hg.block k (Nat.lt_of_lt_of_le hk hw.size) (fun e => hv e.symm), hw.block k hk]

theorem fd_mid {w w1 w2 : World} {F n : Nat} {v : Value} {L : List (List UInt8)} (h : FdAt w F n v L) (hw : Below w.heap.size w w1) (hg : w1.grownBy w2 v.ownBlock) : w2.cell? ⟨F, 1, none⟩ = some v ∧ w2.frozen? ⟨F, 1, none⟩ = false := by
  have hF := h.lt
  have hvF : v.ownBlock ≠ some F := fun e => by have := (h.2.lt F e).1; omega
  have hb2 : w2.heap[F]? = some (.cells #[.int .i64 n, v] 61 (0, 0)) := by
    rw [hg.block F (Nat.lt_of_lt_of_le hF hw.size) (fun e => hvF e.symm), hw.block F hF, h.1]
  simp [World.cell?, World.frozen?, hb2]

theorem own_bys {W : World} {B n cap g : Nat} {e : TypeId} {l : List UInt8} (h : W.ownsRow B e 1 (.slice (some ⟨g, 0, none⟩) n cap) n (l.map byV)) (hn : l.length = n) : ∀ j (hj : j < l.length), W.cell? ((⟨g, 0, none⟩ : Addr).add j) = some (.int .u8 (l[j].toNat : Int)) := fun j hj => by
  rw [Addr.add_lit, Nat.zero_add, h.cellAt j (by omega)]
  simp [byV, hj]

theorem own_conv {W : World} {B n : Nat} {v : Value} {e : TypeId} {l : List UInt8} (h : W.ownsRow B e 1 v n (l.map byV)) (hn : l.length = n) : (convert 77 9 v).run Tryd.prog W = .ok (.string (ofL l)) W := by
  subst hn
  rcases h.2 with ⟨rfl, h0⟩ | ⟨g, cap, cur, rfl, h2⟩
  · have hl : l = [] := List.eq_nil_of_length_eq_zero h0
    subst hl
    rw [run_convert_bytes_string W 77 9 5 none 0 0 Tryd.underlying77 Tryd.underlying5 Tryd.underlying9]
    rfl
  · exact run_convert_bytes_back W 77 9 5 ⟨g, 0, none⟩ cap l Tryd.underlying77 Tryd.underlying5 Tryd.underlying9 (own_bys h rfl)

/-- '!=' on two points. -/
@[go_sem high] theorem neqPt (a0 a1 a2 a3 : Int) (b0 b1 b2 b3 : Int) (w : World) : (binOp .neq 67 (.agg #[.int .i64 a0, .int .i64 a1, .int .i64 a2, .int .i64 a3]) (.agg #[.int .i64 b0, .int .i64 b1, .int .i64 b2, .int .i64 b3])).run Tryd.prog w = .ok (.bool (!(a0 == b0 && (a1 == b1 && (a2 == b2 && a3 == b3))))) w := by
  have h := eqPt a0 a1 a2 a3 b0 b1 b2 b3 w
  rw [run_eql_struct] at h
  rw [run_neq_struct]
  obtain ⟨r, hr⟩ : ∃ r, (Op.equalIn 10000 67 (.agg #[.int .i64 a0, .int .i64 a1, .int .i64 a2, .int .i64 a3]) (.agg #[.int .i64 b0, .int .i64 b1, .int .i64 b2, .int .i64 b3])).run Tryd.prog w = r := ⟨_, rfl⟩
  rw [hr] at h ⊢
  cases r with
  | ok b w' =>
    simp only [Result.andThen_ok, Result.ok.injEq, Value.bool.injEq] at h ⊢
    obtain ⟨rfl, rfl⟩ := h
    simp
  | _ => simp at h

set_option maxRecDepth 100000 in
set_option maxHeartbeats 1600000 in
theorem look_leaf (F n : Nat) (h0 : 0 < n) (hn : n ≤ 12) (u : List UInt8) (hu : u.length = n) (hl : ∀ c ∈ u, c ∈ ltr) (s : Sp) (L : List (List UInt8)) (hL : L.length ≤ 1000000) (w : World) (v vb : Value) (Bb : Nat)
    (hF : FdAt w F n v L) (hb : w.ownsRow Bb 5 1 vb n (u.map byV)) :
    Calls Tryd.prog 85 #[.pointer (some ⟨F, 0, none⟩), vb, .agg #[.int .i64 s.x0, .int .i64 s.x1, .int .i64 s.x2, .int .i64 s.x3], .int .i64 s.h] w (FdPost w F n v (L ++ fdL u s 0)) := by
  obtain ⟨i0, hi, iz0, iz1, iz2⟩ := info_parts scInfo
  have hzF := hF.lt
  have HFA := Lib.hid hF
  have hFw := hF.below (Below.alloc (Below.refl _ _) (Nat.le_refl _) (.cells #[.int .i64 s.x0, .int .i64 s.x1, .int .i64 s.x2, .int .i64 s.x3] 67))
  obtain ⟨f0, f1, f2⟩ := hFw.cells
  have hbw := hb.alloc (.cells #[.int .i64 s.x0, .int .i64 s.x1, .int .i64 s.x2, .int .i64 s.x3] 67)
  have hcv := own_conv hbw hu
  obtain ⟨x0, x1, x2, x3, h⟩ := s
  rw [fdL_zero]
  have hE : spE ⟨x0, x1, x2, x3, h⟩ sp0 = ((x0 == 0 && (x1 == 0 && (x2 == 0 && x3 == 0))) && h == 0) := rfl
  rw [hE]
  simp only at hFw f0 f1 f2 hbw hcv ⊢
  obtain ⟨av, cv, rfl⟩ := own_formC hb
  have HFW := Lib.hid hFw
  clear hb hbw hF hFw
  cases hq : (x0 == 0 && (x1 == 0 && (x2 == 0 && x3 == 0)))
  · go_enter Tryd.func85, Tryd.ntmps85
    go_wp2_with fail
    go_returns
    refine ⟨rfl, v, by simpa using HFW.out, Stays.refl _ _, FdFr.of_below (by go_grown)⟩
  · by_cases hh : h = 0
    · subst hh
      have ht : tkB (ofL u) = true := tk_of (by omega) (fun c hc => by have := hl c hc; simp only [ltr, List.mem_cons, List.not_mem_nil, or_false] at this; rcases this with rfl | rfl | rfl <;> decide)
      have CC := Lib.hid (fun W => csClass_any u ht W)
      have he := eq_text (classL u) u
      cases hf : isFst u
      · have hf' : decide (classL u = u) = false := hf
        rw [hf'] at he
        generalize ofL u = U at *
        generalize ofL (classL u) = C at *
        go_enter Tryd.func85, Tryd.ntmps85
        go_wp2_with fail
        refine (CC.out _).mono ?_
        rintro e w1 ⟨rfl, hb1⟩
        have HF1 := Lib.hid (HFW.out.below hb1)
        have HB1 := Lib.hid (ba (by go_grown) hb1 : Below w.heap.size w w1)
        clear hb1
        go_wp2_with fail
        go_returns
        exact ⟨rfl, v, by simpa using HF1.out, Stays.refl _ _, FdFr.of_below HB1.out⟩
      · have hf' : decide (classL u = u) = true := hf
        rw [hf'] at he
        obtain ⟨U, hU⟩ : ∃ U, ofL u = U := ⟨_, rfl⟩
        have HU := Lib.hid hU
        rw [hU] at he hcv
        have CC := Lib.hid (fun W => (by have := CC.out W; rwa [hU] at this : Calls Tryd.prog 52 #[.string U] W fun e w' => e = .returned (.string (ofL (classL u))) ∧ Below W.heap.size W w'))
        generalize ofL (classL u) = C at *
        clear hU
        go_enter Tryd.func85, Tryd.ntmps85
        go_wp2_with fail
        refine (CC.out _).mono ?_
        rintro e w1 ⟨rfl, hb1⟩
        have hz1 := hb1.size
        simp at hz1
        have HF1 := HFW.out.below hb1
        obtain ⟨f0, f1, f2⟩ := HF1.cells
        have HO := Lib.hid (HF1.2.alloc (.cells #[.string U] 9))
        have hnews := cell_one_new w1 (.string U) 9
        have HB1 := Lib.hid (ba (by go_grown) hb1 : Below w.heap.size w w1)
        have HB2 := Lib.hid (HB1.out.alloc HB1.out.size (.cells #[.string U] 9))
        clear hb1 HF1
        go_wp2_with (at_builtin; refine wpList_append_own_at _ rfl _ _ 31 rfl (F + 1) 9 i0 (.string ByteArray.empty) 1 16 Tryd.underlying31 hi iz0 iz1 iz2 rfl (by decide) v _ _ rfl HO.out ⟨w1.heap.size, 0, none⟩ 1 1 [.string U] rfl rfl hnews (by intro u hu; simp at hu; subst hu; rfl) (by unfold maxLen; omega) (by omega) (by simp; omega) ?_; intro v' w2 hown' hgrow hnil hloc; obtain ⟨av', cv', rfl⟩ := own_formC hown'; obtain ⟨k1, k2⟩ := fd_mid HFA.out HB2.out hgrow)
        have HP := Lib.hid (fd_store (L' := L ++ [u]) HFA.out HB2.out hgrow (by rw [strV_append, List.length_append]; simp only [strV, List.map_cons, List.map_nil, HU.out]; exact hown') (hloc))
        go_returns
        simpa using HP.out
    · have hb0 : (h == 0) = false := beq_eq_false_iff_ne.2 hh
      rw [hb0]
      go_enter Tryd.func85, Tryd.ntmps85
      go_wp2_with fail
      go_returns
      refine ⟨rfl, v, by simpa using HFW.out, Stays.refl _ _, FdFr.of_below (by go_grown)⟩

end Go.Proofs.YtoenkgenoloihaaDoor

/- Contract of the model: one step of the search for the first rings of all classes. -/
namespace Go.Proofs.YtoenkgenoloihaaDoor
open Go.ChangeShapes Go.WideShapes Go.ChangeAt Go.RowKit

set_option linter.unusedVariables false

theorem own_fr {w w' : World} {F : Nat} {v vb : Value} {B n size : Nat} {e : TypeId} {xs : List Value} (h : w.ownsRow B e size vb n xs) (hne : ∀ k, vb.ownBlock = some k → k ≠ F ∧ v.ownBlock ≠ some k) (hf : FdFr w w' F v) : w'.ownsRow B e size vb n xs := by
  refine ⟨h.1, ?_⟩
  rcases h.2 with h2 | ⟨g, cap, cur, rfl, h3, h4, h5⟩
  · exact .inl h2
  · obtain ⟨a, b⟩ := hne g rfl
    exact .inr ⟨g, cap, cur, rfl, h3, (hf.block g (Array.getElem?_eq_some_iff.1 h4).1 a b).trans h4, h5⟩

theorem own_lowF {w w' : World} {m : Nat} {vb : Value} {B n size : Nat} {e : TypeId} {xs : List Value} (h : w.ownsRow B e size vb n xs) (hne : ∀ k, vb.ownBlock = some k → k < m) (hf : Below m w w') : w'.ownsRow B e size vb n xs := by
  refine ⟨h.1, ?_⟩
  rcases h.2 with h2 | ⟨g, cap, cur, rfl, h3, h4, h5⟩
  · exact .inl h2
  · exact .inr ⟨g, cap, cur, rfl, h3, (hf.block g (hne g rfl)).trans h4, h5⟩

theorem FdAt.belowM {w w' : World} {F n m : Nat} {v : Value} {L : List (List UInt8)} (h : FdAt w F n v L) (hF : F < m) (hv : ∀ k, v.ownBlock = some k → k < m) (hb : Below m w w') : FdAt w' F n v L :=
  ⟨(hb.block F hF).trans h.1, own_lowF h.2 hv hb⟩

theorem u8Info : (Tryd.prog.info? 5).map (fun i => (i.zero, i.size, i.bytes)) = some (some (.int .u8 0), 1, 1) := by kernel_rfl

theorem app_run {W : World} {B Bx n m : Nat} {v vx : Value} {xs ys : List Value} (ty : TypeId) (h1 : W.ownsRow B 5 1 v n xs) (h2 : W.ownsRow Bx 5 1 vx m ys) (hy : ∀ u ∈ ys, u.oneCell' = true) (hl : n + m ≤ 1000) (hB : B ≤ W.heap.size) :
    ∃ v' w', (Builtin.append_ #[77, 77] ty #[v, vx]).run Tryd.prog W = .ok v' w' ∧ w'.ownsRow B 5 1 v' (n + m) (xs ++ ys) ∧ W.grownBy w' v.ownBlock ∧ (v'.ownBlock = v.ownBlock ∨ v'.ownBlock = some W.heap.size) := by
  obtain ⟨i0, hi, iz0, iz1, iz2⟩ := info_parts u8Info
  rcases h2.2 with ⟨rfl, rfl⟩ | ⟨g, cap, cur, rfl, hb⟩
  · have hys : ys = [] := List.eq_nil_of_length_eq_zero (by simpa using h2.1)
    subst hys
    refine ⟨v, W, ?_, by simpa using h1, ⟨rfl, rfl, rfl, Nat.le_refl _, fun _ _ _ => rfl⟩, .inl rfl⟩
    obtain ⟨av, cv, rfl⟩ := own_formC h1
    have hcap : n ≤ cv := by
      rcases h1.2 with ⟨h, h0⟩ | ⟨g, cap, cur, h, _, _, h4, _⟩
      · injection h with _ _ h; omega
      · injection h with _ _ h; omega
    cases av with
    | none => simp [Builtin.append_, run_underlying Tryd.underlying77, sizeOf, typeInfo, hi, Builtin.lenOf, Builtin.firstCells, hcap]
    | some ad => simp [Builtin.append_, run_underlying Tryd.underlying77, sizeOf, typeInfo, hi, Builtin.lenOf, Builtin.firstCells, storeCells, hcap, Result.andThen]
  · have hnews : ∀ j u, ys[j]? = some u → W.cell? ((⟨g, 0, none⟩ : Addr).add j) = some u := fun j u hu => by
      have hj : j < m := by have h3 := h2.1; have := (List.getElem?_eq_some_iff.1 hu).1; omega
      rw [Addr.add_lit, Nat.zero_add, h2.cellAt j (by omega)]
      exact hu
    obtain ⟨v', w', hr, a, b, _, d⟩ := run_append_own_at (P := Tryd.prog) W B 77 ty 5 i0 (.int .u8 0) 1 1 Tryd.underlying77 hi iz0 iz1 iz2 rfl (by decide) v n xs h1 ⟨g, 0, none⟩ m cap ys (by rw [h2.1]) hnews hy (by unfold maxLen; omega) (by omega) hB
    exact ⟨v', w', hr, a, b, d⟩

theorem step_app {ops : Array Oper} {op : Oper} {a : Act} {w : World} {K : Act → World → Prop} {Q : Exit → Act → World → Prop} {E : Prop} (hgd : op.guard = none) (s x : Operand) (ho : op.op = .call { callee := .builtin .append, args := #[s, x], argTypes := #[77, 77] })
    {B Bx n m : Nat} {v vx : Value} {xs ys : List Value} (hs : a.eval s = v) (hx : a.eval x = vx) (h1 : w.ownsRow B 5 1 v n xs) (h2 : w.ownsRow Bx 5 1 vx m ys) (hy : ∀ u ∈ ys, u.oneCell' = true) (hl : n + m ≤ 1000) (hB : B ≤ w.heap.size)
    (h : ∀ v' w', w'.ownsRow B 5 1 v' (n + m) (xs ++ ys) → w.grownBy w' v.ownBlock → (v'.ownBlock = v.ownBlock ∨ v'.ownBlock = some w.heap.size) → K (a.put op.dst v') w') :
    if Region.wanted op (yielded ops a.tmps) = true then Oper.wp Tryd.prog op a w K Q else E := by
  have hw : Region.wanted op (yielded ops a.tmps) = true := by simp [Region.wanted, hgd]
  rw [if_pos hw]
  obtain ⟨v', w', hr, h3, h4, h5⟩ := app_run op.type h1 h2 hy hl hB
  unfold Oper.wp execOp
  simp only [ho, resolve, invoke, builtin, Sem.run_bind, Sem.run_pure, Result.andThen_ok, List.map_toArray, List.map_cons, List.map_nil, hs, hx, hr]
  exact h _ _ h3 h4 h5

theorem own_as {W : World} {B n n' size : Nat} {e : TypeId} {v : Value} {xs xs' : List Value} (hn : n' = n) (hx : xs' = xs) (h : W.ownsRow B e size v n xs) : W.ownsRow B e size v n' xs' := by subst hn hx; exact h

theorem fdA_le (u : List UInt8) (s : Sp) (m : Nat) : ∀ c, c ≤ 3 → (fdA u s m c).length ≤ c * 3 ^ m
  | 0, _ => by simp [fdA]
  | c + 1, h => by
    have ih := fdA_le u s m c (by omega)
    obtain ⟨ch, _, _, _, hta⟩ := ltr_at (show c < 3 by omega)
    have := fdL_le (u ++ [ch]) (s.next ch) m
    rw [fdA_next hta, List.length_append, Nat.add_mul]
    omega

theorem one_row {W : World} {n : Nat} (hn : W.heap.size = n) (ch : UInt8) : (W.alloc (.cells #[.int .u8 ((ch.toNat : Nat) : Int)] 5)).ownsRow n 5 1 (.slice (some ⟨n, 0, none⟩) 1 1) 1 ([ch].map byV) := by
  subst hn
  exact ⟨by simp, .inr ⟨W.heap.size, 1, _, rfl, Nat.le_refl _, heap_alloc_new _ _, Nat.le_refl _, by decide, by simp, by simp [byV]⟩⟩

theorem pp_blk {B0 B1 : Nat} {v00 v01 v02 v03 v10 v11 v12 v13 : Value} {W W' : World} (h : W.cell? ⟨B0, 0, none⟩ = some v00 ∧ W.cell? ⟨B0, 1, none⟩ = some v01 ∧ W.cell? ⟨B0, 2, none⟩ = some v02 ∧ W.cell? ⟨B0, 3, none⟩ = some v03 ∧ W.cell? ⟨B1, 0, none⟩ = some v10 ∧ W.cell? ⟨B1, 1, none⟩ = some v11 ∧ W.cell? ⟨B1, 2, none⟩ = some v12 ∧ W.cell? ⟨B1, 3, none⟩ = some v13)
    (e0 : W'.heap[B0]? = W.heap[B0]?) (e1 : W'.heap[B1]? = W.heap[B1]?) :
    W'.cell? ⟨B0, 0, none⟩ = some v00 ∧ W'.cell? ⟨B0, 1, none⟩ = some v01 ∧ W'.cell? ⟨B0, 2, none⟩ = some v02 ∧ W'.cell? ⟨B0, 3, none⟩ = some v03 ∧ W'.cell? ⟨B1, 0, none⟩ = some v10 ∧ W'.cell? ⟨B1, 1, none⟩ = some v11 ∧ W'.cell? ⟨B1, 2, none⟩ = some v12 ∧ W'.cell? ⟨B1, 3, none⟩ = some v13 := by
  simp only [World.cell?] at h ⊢
  rw [e0, e1]
  exact h

theorem pp_low {B0 B1 m : Nat} {v00 v01 v02 v03 v10 v11 v12 v13 : Value} {W W' : World} (h : W.cell? ⟨B0, 0, none⟩ = some v00 ∧ W.cell? ⟨B0, 1, none⟩ = some v01 ∧ W.cell? ⟨B0, 2, none⟩ = some v02 ∧ W.cell? ⟨B0, 3, none⟩ = some v03 ∧ W.cell? ⟨B1, 0, none⟩ = some v10 ∧ W.cell? ⟨B1, 1, none⟩ = some v11 ∧ W.cell? ⟨B1, 2, none⟩ = some v12 ∧ W.cell? ⟨B1, 3, none⟩ = some v13)
    (hb : Below m W W') (h0 : B0 < m) (h1 : B1 < m) :
    W'.cell? ⟨B0, 0, none⟩ = some v00 ∧ W'.cell? ⟨B0, 1, none⟩ = some v01 ∧ W'.cell? ⟨B0, 2, none⟩ = some v02 ∧ W'.cell? ⟨B0, 3, none⟩ = some v03 ∧ W'.cell? ⟨B1, 0, none⟩ = some v10 ∧ W'.cell? ⟨B1, 1, none⟩ = some v11 ∧ W'.cell? ⟨B1, 2, none⟩ = some v12 ∧ W'.cell? ⟨B1, 3, none⟩ = some v13 :=
  pp_blk h (hb.block B0 h0) (hb.block B1 h1)

theorem low_new {W : World} {n : Nat} (o : Obj) (hn : n = W.heap.size) : Below n W (W.alloc o) := (Below.refl _ _).alloc (by omega) o

theorem byV_ones' (l : List UInt8) : ∀ u ∈ l.map byV, u.oneCell' = true := fun u hu => by
  obtain ⟨c, _, rfl⟩ := List.mem_map.1 hu
  rfl

theorem bytes_atF {W : World} {B : Nat} {fz : Nat × Nat} (h : W.heap[B]? = some (.cells #[.int .u8 76, .int .u8 82, .int .u8 83] 5 fz)) {i : Nat} {c : UInt8} (hc : ltr[i]? = some c) : W.cell? ⟨B, i, none⟩ = some (.int .u8 ((c.toNat : Nat) : Int)) := by
  match i, hc with
  | 0, hc => simp [ltr] at hc; subst hc; simp [World.cell?, h]
  | 1, hc => simp [ltr] at hc; subst hc; simp [World.cell?, h]
  | 2, hc => simp [ltr] at hc; subst hc; simp [World.cell?, h]

theorem blk4F {W : World} {g : Nat} {t : TypeId} {a0 a1 a2 a3 : Value} (h : W.heap[g]? = some (.cells #[a0, a1, a2, a3] t (0, 0))) :
    W.cell? ⟨g, 0, none⟩ = some a0 ∧ W.cell? ⟨g, 1, none⟩ = some a1 ∧ W.cell? ⟨g, 2, none⟩ = some a2 ∧ W.cell? ⟨g, 3, none⟩ = some a3 := by
  simp [World.cell?, h]

theorem empty_row {W : World} {n : Nat} (hn : W.heap.size = n) : (W.alloc (.cells #[] 5)).ownsRow n 5 1 (.slice (some ⟨n, 0, none⟩) 0 0) 0 [] := by
  subst hn
  exact ⟨by simp, .inr ⟨W.heap.size, 0, #[], rfl, Nat.le_refl _, heap_alloc_new _ _, Nat.le_refl _, by decide, by simp, by simp⟩⟩

set_option maxRecDepth 100000 in
set_option maxHeartbeats 6400000 in
theorem look_step (F n m : Nat) (h0 : 0 < n) (hn : n ≤ 12) (u : List UInt8) (hu : u.length + (m + 1) = n) (s : Sp) (hs : s.okB (999000 - 2 * ((m + 1 : Nat) : Int))) (L : List (List UInt8)) (hL : L.length + 3 ^ (m + 1) ≤ 1000000) (w : World) (v vb : Value) (Bb : Nat)
    (hF : FdAt w F n v L) (hb : w.ownsRow Bb 5 1 vb u.length (u.map byV)) (hne : ∀ k, vb.ownBlock = some k → k ≠ F ∧ v.ownBlock ≠ some k)
    (ih : ∀ (ch : UInt8), ch ∈ ltr → ∀ (L' : List (List UInt8)), L'.length + 3 ^ m ≤ 1000000 → ∀ (W : World) (v' vb' : Value) (Bb' : Nat), FdAt W F n v' L' → W.ownsRow Bb' 5 1 vb' (u ++ [ch]).length ((u ++ [ch]).map byV) → (∀ k, vb'.ownBlock = some k → k ≠ F ∧ v'.ownBlock ≠ some k) →
      Calls Tryd.prog 85 #[.pointer (some ⟨F, 0, none⟩), vb', .agg #[.int .i64 (s.next ch).x0, .int .i64 (s.next ch).x1, .int .i64 (s.next ch).x2, .int .i64 (s.next ch).x3], .int .i64 (s.next ch).h] W (FdPost W F n v' (L' ++ fdL (u ++ [ch]) (s.next ch) m))) :
    Calls Tryd.prog 85 #[.pointer (some ⟨F, 0, none⟩), vb, .agg #[.int .i64 s.x0, .int .i64 s.x1, .int .i64 s.x2, .int .i64 s.x3], .int .i64 s.h] w (FdPost w F n v (L ++ fdL u s (m + 1))) := by
  have hsq : s.okB 999999 := hs.mono (by omega)
  obtain ⟨⟨b0, b0'⟩, ⟨b1, b1'⟩, ⟨b2, b2'⟩, ⟨b3, b3'⟩, b4, b5⟩ := hsq
  have hzF := hF.lt
  have hP3 : 0 < 3 ^ m := Nat.pow_pos (by decide)
  rw [Nat.pow_succ] at hL
  obtain ⟨k, hk⟩ : ∃ k, u.length = k := ⟨_, rfl⟩
  rw [hk] at hu hb
  have hkn : ¬ (k : Int) = (n : Int) := by omega
  have HIH := Lib.hid ih
  have HK := Lib.hid hk
  have HFA := Lib.hid hF
  have hvl : ∀ k, v.ownBlock = some k → k < w.heap.size := fun k hk => (hF.2.lt k hk).2
  have hFw := hF.below (Below.alloc (Below.refl _ _) (Nat.le_refl _) (.cells #[.int .i64 s.x0, .int .i64 s.x1, .int .i64 s.x2, .int .i64 s.x3] 67))
  obtain ⟨f0, f1, f2⟩ := hFw.cells
  have hcv := Lib.run_convert_bytes_const (w.alloc (.cells #[.int .i64 s.x0, .int .i64 s.x1, .int .i64 s.x2, .int .i64 s.x3] 67)) 77 5 #[.int .u8 76, .int .u8 82, .int .u8 83] 3 3 Tryd.underlying77 Tryd.underlying5
  rw [show (w.alloc (.cells #[.int .i64 s.x0, .int .i64 s.x1, .int .i64 s.x2, .int .i64 s.x3] 67)).heap.size = w.heap.size + 1 by simp] at hcv
  have HBR := Lib.hid hb
  have HNE := Lib.hid hne
  have HVL := Lib.hid hvl
  obtain ⟨av, cv, rfl⟩ := own_formC hb
  clear hF hb hne hvl ih hFw hk
  go_enter Tryd.func85, Tryd.ntmps85
  go_wp2_with fail
  clear f0 f1 f2
  obtain ⟨P, hP⟩ : ∃ P, w.heap.size = P := ⟨_, rfl⟩
  have HP := Lib.hid hP
  have hzP : F < P := by omega
  have e1 : (w.alloc (.cells #[.int .i64 s.x0, .int .i64 s.x1, .int .i64 s.x2, .int .i64 s.x3] 67)).heap.size = P + 1 := by simp [hP]
  have hkb : ((k : Int) == (n : Int)) = false := beq_eq_false_iff_ne.2 hkn
  rw [hkb]
  rw [hP]
  clear hP
  go_loopw [46] (fun i wr => ∃ (c : Nat) (v' : Value), c ≤ 3 ∧ i = .int .i64 c ∧ FdAt wr F n v' (L ++ fdA u s m c) ∧ Stays w.heap.size v v' ∧ FdFr w wr F v ∧ wr.ownsRow Bb 5 1 (.slice av k cv) k (u.map byV) ∧
    (∀ j, (Value.slice av k cv).ownBlock = some j → j ≠ F ∧ v'.ownBlock ≠ some j) ∧ wr.heap[P]? = some (.cells #[.int .i64 s.x0, .int .i64 s.x1, .int .i64 s.x2, .int .i64 s.x3] 67 (0, 0)) ∧ wr.heap[P + 1]? = some (.cells #[.int .u8 76, .int .u8 82, .int .u8 83] 5 (3, 4))) (fun i _ => 4 - (intOf i).toNat)
  case atStart =>
    have hF0 := FdAt.below (FdAt.below HFA.out (Below.alloc (Below.refl _ _) (Nat.le_refl _) (.cells #[.int .i64 s.x0, .int .i64 s.x1, .int .i64 s.x2, .int .i64 s.x3] 67))) (Below.alloc (Below.refl _ _) (Nat.le_refl _) (.cells #[.int .u8 76, .int .u8 82, .int .u8 83] 5 (3, 4)))
    have h0 := HP.out
    refine ⟨0, v, by omega, rfl, by simpa [fdA] using hF0, Stays.refl _ _, FdFr.of_below (by go_grown), (HBR.out.alloc _).alloc _, HNE.out, ?_, ?_⟩
    · exact (Below.heap_alloc _ _ _ (by simp; omega)).trans (by rw [← h0]; exact heap_alloc_new _ _)
    · have := heap_alloc_new (w.alloc (.cells #[.int .i64 s.x0, .int .i64 s.x1, .int .i64 s.x2, .int .i64 s.x3] 67)) (.cells #[.int .u8 76, .int .u8 82, .int .u8 83] 5 (3, 4))
      rw [e1] at this
      exact this
  case round =>
    obtain ⟨c, v', hc, rfl, hFi, hst, hfr, hvb, hne, hPb, hLb⟩ := hrel
    by_cases hlt : c < 3
    · obtain ⟨ch, hch, hpc, _, hta⟩ := ltr_at hlt
      have hcm : ch ∈ ltr := List.mem_of_getElem? hch
      have cY := bytes_atF hLb hch
      have hPl := blkLt hPb
      have hLl := blkLt hLb
      obtain ⟨x0, x1, x2, x3⟩ := blk4F hPb
      have HNX := Lib.hid (fdA_next (u := u) (s := s) (m := m) hta)
      have P3 := Lib.hid (ptStep_any ch hpc s.h b4 b5)
      have d0 := dd_bd0 ch s.h
      have d1 := dd_bd1 ch s.h
      have d2 := dd_bd2 ch s.h
      have d3 := dd_bd3 ch s.h
      have P4 := Lib.hid (spAddP s.x0 s.x1 s.x2 s.x3 (dd0 ch s.h) (dd1 ch s.h) (dd2 ch s.h) (dd3 ch s.h) (by omega) (by omega) (by omega) (by omega) (by omega) (by omega) (by omega) (by omega) (by omega) (by omega) (by omega) (by omega) (by omega) (by omega) (by omega) (by omega))
      have hle : (L ++ fdA u s m c).length + 3 ^ m ≤ 1000000 := by
        have := fdA_le u s m c (by omega)
        have h2 := Nat.mul_le_mul_right (3 ^ m) (show c ≤ 2 by omega)
        rw [List.length_append]
        omega
      have P5 := Lib.hid (HIH.out ch hcm _ hle)
      obtain ⟨R, hR⟩ : ∃ R, L ++ fdA u s m c = R := ⟨_, rfl⟩
      have HR := Lib.hid hR
      rw [hR] at P5 hFi
      obtain ⟨G, hG⟩ : ∃ G, fdL (u ++ [ch]) (s.next ch) m = G := ⟨_, rfl⟩
      rw [hG] at P5 HNX
      simp only [Sp.next] at P5
      generalize dd0 ch s.h = y0 at *
      generalize dd1 ch s.h = y1 at *
      generalize dd2 ch s.h = y2 at *
      generalize dd3 ch s.h = y3 at *
      generalize nh ch s.h = y4 at *
      obtain ⟨wi, rfl⟩ : ∃ wi : World, wi = wr := ⟨_, rfl⟩
      have HFI := Lib.hid hFi
      have HST := Lib.hid hst
      have HFR := Lib.hid hfr
      have HVB := Lib.hid hvb
      have HNE2 := Lib.hid hne
      have HPB := Lib.hid hPb
      have HLB := Lib.hid hLb
      have HLE := Lib.hid hle
      have HCM := Lib.hid hcm
      have hzFi := hFi.lt
      clear hR hG hle hFi hst hfr hvb hne hPb hLb hch hpc hta hcm
      go_wp2_with fail
      refine (P3.out _).mono ?_
      rintro e wp ⟨rfl, hp1⟩
      have hpz := hp1.size
      obtain ⟨x0, x1, x2, x3⟩ := blk4F ((hp1.block P hPl).trans HPB.out)
      have hB9 : Below wi.heap.size wi (wp.alloc (.cells #[.int .i64 y0, .int .i64 y1, .int .i64 y2, .int .i64 y3] 67)) := hp1.alloc hpz _
      have hPb9 := (Below.heap_alloc wp (.cells #[.int .i64 y0, .int .i64 y1, .int .i64 y2, .int .i64 y3] 67) P (by omega)).trans ((hp1.block P hPl).trans HPB.out)
      have hLb9 := (Below.heap_alloc wp (.cells #[.int .i64 y0, .int .i64 y1, .int .i64 y2, .int .i64 y3] 67) (P + 1) (by omega)).trans ((hp1.block (P + 1) hLl).trans HLB.out)
      have hQb9 := heap_alloc_new wp (.cells #[.int .i64 y0, .int .i64 y1, .int .i64 y2, .int .i64 y3] 67)
      obtain ⟨c0, c1, c2, c3⟩ := blk4F hPb9
      obtain ⟨c4, c5, c6, c7⟩ := blk4F hQb9
      have HPB9 := Lib.hid hPb9
      have HLB9 := Lib.hid hLb9
      have HQB9 := Lib.hid hQb9
      have HB9 := Lib.hid hB9
      have z9 : (wp.alloc (.cells #[.int .i64 y0, .int .i64 y1, .int .i64 y2, .int .i64 y3] 67)).heap.size = wp.heap.size + 1 := by simp
      clear hp1 x0 x1 x2 x3 cY hPb9 hLb9 hQb9 hB9
      go_wp2_with fail
      clear c0 c1 c2 c3 c4 c5 c6 c7
      obtain ⟨Qb, hQ⟩ : ∃ Qb, wp.heap.size = Qb := ⟨_, rfl⟩
      rw [hQ] at z9 HQB9
      simp only [hQ]
      obtain ⟨w9, hw9⟩ : ∃ w9, wp.alloc (.cells #[.int .i64 y0, .int .i64 y1, .int .i64 y2, .int .i64 y3] 67) = w9 := ⟨_, rfl⟩
      rw [hw9] at z9 HPB9 HLB9 HQB9 HB9
      rw [hw9]
      have hPQ : P < Qb := by omega
      clear hQ hw9
      have hS0 : w9.cell? ⟨P, 0, none⟩ = some (.int .i64 s.x0) ∧ w9.cell? ⟨P, 1, none⟩ = some (.int .i64 s.x1) ∧ w9.cell? ⟨P, 2, none⟩ = some (.int .i64 s.x2) ∧ w9.cell? ⟨P, 3, none⟩ = some (.int .i64 s.x3) ∧ w9.cell? ⟨Qb, 0, none⟩ = some (.int .i64 y0) ∧ w9.cell? ⟨Qb, 1, none⟩ = some (.int .i64 y1) ∧ w9.cell? ⟨Qb, 2, none⟩ = some (.int .i64 y2) ∧ w9.cell? ⟨Qb, 3, none⟩ = some (.int .i64 y3) := by
        obtain ⟨c0, c1, c2, c3⟩ := blk4F HPB9.out
        obtain ⟨c4, c5, c6, c7⟩ := blk4F HQB9.out
        exact ⟨c0, c1, c2, c3, c4, c5, c6, c7⟩
      have HV9 := Lib.hid (show w9.drew.ownsRow Bb 5 1 (.slice av k cv) k (u.map byV) from own_lowF HVB.out (fun j hj => (HVB.out.lt j hj).2) HB9.out.drew)
      have HF9 := Lib.hid (HFI.out.below HB9.out)
      have hzv : ∀ j, v'.ownBlock = some j → j < w9.heap.size := fun j hj => (HF9.out.2.lt j hj).2
      have hPv : v'.ownBlock ≠ some P := fun e => own_blkC HF9.out.2 HPB9.out (by decide) e.symm
      have hQv : v'.ownBlock ≠ some Qb := fun e => own_blkC HF9.out.2 HQB9.out (by decide) e.symm
      have hLv : v'.ownBlock ≠ some (P + 1) := fun e => own_blkC HF9.out.2 HLB9.out (by decide) e.symm
      have HZ := Lib.hid (show wi.heap.size ≤ w9.heap.size from HB9.out.size)
      have hP1 : P < w9.heap.size := by omega
      have hQ1 : Qb < w9.heap.size := by omega
      have hF1 : F < w9.heap.size := by omega
      have hL1 : P + 1 < w9.heap.size := by omega
      have nE : (w9.drew.alloc (.cells #[] 5)).ownsRow w9.heap.size 5 1 (.slice (some ⟨w9.heap.size, 0, none⟩) 0 0) 0 [] := empty_row rfl
      have nE2 : ((w9.drew.alloc (.cells #[.int .u8 ((ch.toNat : Nat) : Int)] 5)).alloc (.cells #[] 5)).ownsRow (w9.heap.size + 1) 5 1 (.slice (some ⟨w9.heap.size + 1, 0, none⟩) 0 0) 0 [] := empty_row (by simp)
      have nC : (w9.drew.alloc (.cells #[.int .u8 ((ch.toNat : Nat) : Int)] 5)).ownsRow w9.heap.size 5 1 (.slice (some ⟨w9.heap.size, 0, none⟩) 1 1) 1 ([ch].map byV) := one_row rfl ch
      have nC2 : ((w9.drew.alloc (.cells #[] 5)).alloc (.cells #[.int .u8 ((ch.toNat : Nat) : Int)] 5)).ownsRow (w9.heap.size + 1) 5 1 (.slice (some ⟨w9.heap.size + 1, 0, none⟩) 1 1) 1 ([ch].map byV) := one_row (by simp) ch
      clear z9
      go_region_held3 (fun w' => w'.cell? ⟨P, 0, none⟩ = some (.int .i64 s.x0) ∧ w'.cell? ⟨P, 1, none⟩ = some (.int .i64 s.x1) ∧ w'.cell? ⟨P, 2, none⟩ = some (.int .i64 s.x2) ∧ w'.cell? ⟨P, 3, none⟩ = some (.int .i64 s.x3) ∧ w'.cell? ⟨Qb, 0, none⟩ = some (.int .i64 y0) ∧ w'.cell? ⟨Qb, 1, none⟩ = some (.int .i64 y1) ∧ w'.cell? ⟨Qb, 2, none⟩ = some (.int .i64 y2) ∧ w'.cell? ⟨Qb, 3, none⟩ = some (.int .i64 y3))
        (first | (with_reducible exact hS5) | (with_reducible exact hS3) | (with_reducible exact hS2) | (with_reducible exact hS1) | (with_reducible exact pp_drew (pp_alloc (pp_alloc hS0 _) _)) | (with_reducible exact pp_drew (pp_alloc hS1 _)) | (with_reducible exact pp_alloc hS1 _) | (first | (with_reducible assumption) | (with_reducible exact pp_drew hS0) | (with_reducible exact pp_drew (pp_alloc hS0 _)) | (with_reducible exact pp_alloc (pp_drew hS0) _) | (with_reducible refine pp_drew ?_; with_reducible assumption) | (with_reducible refine pp_alloc ?_ _; with_reducible assumption) | (with_reducible refine pp_re (by with_reducible assumption) ?_ ?_ _; (focus first | (with_reducible assumption) | omega | (simp; done) | (simp; omega)); (focus first | (with_reducible assumption) | omega | (simp; done) | (simp; omega))) | (with_reducible refine pp_below ?_ ?_ ?_ h1; (focus first | (with_reducible assumption) | (with_reducible refine pp_undrew ?_; with_reducible assumption)); (focus first | (with_reducible assumption) | omega | (simp; done) | (simp; omega)); (focus first | (with_reducible assumption) | omega | (simp; done) | (simp; omega))) | ((repeat (with_reducible refine pp_set ?_ _ _ ?_ ?_; rotate_left 1; (focus first | (with_reducible assumption) | omega | (simp; done) | (simp; omega)); (focus first | (with_reducible assumption) | omega | (simp; done) | (simp; omega)))); with_reducible assumption)))
        (first | (go_at_call 102; (with_reducible refine (P4.out _).mono ?_); rintro e wq ⟨rfl, h4⟩; have hB3 := hB2.trans (h4.mono (by omega)); have hS3 := pp_low hS0 hB3 hP1 hQ1; have hz3 := h4.size; have o3 := o2.kept (below_grown h4) (by cases v2.ownBlock <;> simp)) | (go_at_call 85; (refine (P5.out _ v' v2 _ (HF9.out.belowM hF1 hzv hB3) (own_as (by simp [HK.out]) (by simp) o3) (fun j hj => ⟨by have := (o3.lt j hj).1; omega, fun e => by have := (o3.lt j hj).1; have := hzv j e; omega⟩)).mono ?_); rintro e w5 ⟨rfl, v5, hF5, hs5, hf5⟩; have hS5 := pp_blk hS3 (hf5.block P (by omega) (by omega) hPv) (hf5.block Qb (by omega) (by omega) hQv)) | ((refine step_app (v := v1) (vx := .slice (some ⟨w9.heap.size, 0, none⟩) 1 1) (n := 0 + k) (m := 1) (xs := [] ++ u.map byV) (ys := [ch].map byV) (by rfl) _ _ (by rfl) (by rfl) (by rfl) o1 k1 (byV_ones' [ch]) (by omega) (by first | omega | (simp; omega)) ?_); intro v2 W2 o2 g2 l2; have hB2 : Below w9.heap.size w9 W2 := Below.grown hB1 g2 (by first | omega | (simp; omega)) (fun j hj => by have := (o1.lt j hj).1; omega); have hS2 := pp_low hS0 hB2 hP1 hQ1; have hz2 := hB2.size) | ((refine step_app (v := v1) (vx := .slice (some ⟨w9.heap.size + 1, 0, none⟩) 1 1) (n := 0 + k) (m := 1) (xs := [] ++ u.map byV) (ys := [ch].map byV) (by rfl) _ _ (by rfl) (by rfl) (by rfl) o1 k1 (byV_ones' [ch]) (by omega) (by first | omega | (simp; omega)) ?_); intro v2 W2 o2 g2 l2; have hB2 : Below w9.heap.size w9 W2 := Below.grown hB1 g2 (by first | omega | (simp; omega)) (fun j hj => by have := (o1.lt j hj).1; omega); have hS2 := pp_low hS0 hB2 hP1 hQ1; have hz2 := hB2.size) | ((refine step_app (v := v1) (vx := .slice (some ⟨W1.heap.size, 0, none⟩) 1 1) (n := 0 + k) (m := 1) (xs := [] ++ u.map byV) (ys := [ch].map byV) (by rfl) _ _ (by rfl) (by rfl) (by rfl) (o1.alloc _) (one_row rfl ch) (byV_ones' [ch]) (by omega) (by first | omega | (simp; omega)) ?_); intro v2 W2 o2 g2 l2; have hB2 : Below w9.heap.size w9 W2 := Below.grown (hB1.alloc (by omega) _) g2 (by first | omega | (simp; omega)) (fun j hj => by have := (o1.lt j hj).1; omega); have hS2 := pp_low hS0 hB2 hP1 hQ1; have hz2 := hB2.size) | ((refine step_app (v := .slice (some ⟨w9.heap.size, 0, none⟩) 0 0) (vx := .slice av k cv) (n := 0) (m := k) (xs := []) (ys := u.map byV) (by rfl) _ _ (by rfl) (by rfl) (by rfl) nE (HV9.out.alloc _) (byV_ones' u) (by omega) (by simp <;> omega) ?_); intro v1 W1 o1 g1 l1; have hB1 : Below w9.heap.size w9 W1 := Below.grown (by go_grown) g1 (by simp <;> omega) (by intro j hj; simp [Value.ownBlock] at hj; omega); have hS1 := pp_low hS0 hB1 hP1 hQ1; have hz1 : w9.heap.size + 1 ≤ W1.heap.size := (by have := g1.size; simp at this; omega)) | ((refine step_app (v := .slice (some ⟨w9.heap.size + 1, 0, none⟩) 0 0) (vx := .slice av k cv) (n := 0) (m := k) (xs := []) (ys := u.map byV) (by rfl) _ _ (by rfl) (by rfl) (by rfl) nE2 ((HV9.out.alloc _).alloc _) (byV_ones' u) (by omega) (by simp <;> omega) ?_); intro v1 W1 o1 g1 l1; have hB1 : Below w9.heap.size w9 W1 := Below.grown (by go_grown) g1 (by simp <;> omega) (by intro j hj; simp [Value.ownBlock] at hj; omega); have hS1 := pp_low hS0 hB1 hP1 hQ1; have hz1 : w9.heap.size + 1 ≤ W1.heap.size := (by have := g1.size; simp at this; omega); have k1 := (nC.alloc (.cells #[] 5)).kept g1 (by simp [Value.ownBlock])) | ((refine step_app (v := .slice (some ⟨w9.heap.size, 0, none⟩) 0 0) (vx := .slice av k cv) (n := 0) (m := k) (xs := []) (ys := u.map byV) (by rfl) _ _ (by rfl) (by rfl) (by rfl) (nE.alloc _) ((HV9.out.alloc _).alloc _) (byV_ones' u) (by omega) (by simp <;> omega) ?_); intro v1 W1 o1 g1 l1; have hB1 : Below w9.heap.size w9 W1 := Below.grown (by go_grown) g1 (by simp <;> omega) (by intro j hj; simp [Value.ownBlock] at hj; omega); have hS1 := pp_low hS0 hB1 hP1 hQ1; have hz1 : w9.heap.size + 1 ≤ W1.heap.size := (by have := g1.size; simp at this; omega); have k1 := nC2.kept g1 (by simp [Value.ownBlock])))
      all_goals
        have hBq := HB9.out.trans (hB3.mono HZ.out)
        have hzq := hBq.size
        have hzw := HFR.out.size
        have hvw := own_lowF HVB.out (fun j hj => (HVB.out.lt j hj).2) hBq
        have HF5 := Lib.hid hF5
        have HS5 := Lib.hid (HST.out.trans hs5 (by omega))
        have HR5 := Lib.hid ((HFR.out.then hBq).trans hf5 HST.out)
        have HV5 := Lib.hid (own_fr hvw HNE2.out hf5)
        have HN5 := Lib.hid (show ∀ j, (Value.slice av k cv).ownBlock = some j → j ≠ F ∧ v5.ownBlock ≠ some j from fun j hj => ⟨(HNE2.out j hj).1, fun e => by
          rcases hs5 with h | h
          · exact (HNE2.out j hj).2 (h ▸ e)
          · have h1 := h j e
            have h2 := (HVB.out.lt j hj).2
            omega⟩)
        have HP5 := Lib.hid ((hf5.block P (by omega) (by omega) hPv).trans ((hB3.block P hP1).trans HPB9.out))
        have HL5 := Lib.hid ((hf5.block (P + 1) (by omega) (by omega) hLv).trans ((hB3.block (P + 1) (by omega)).trans HLB9.out))
        clear hS5 hS3 hS2 hS1 hS0 hF5 hs5 hf5 hB3 hB2 hB1 o1 o2 o3 g1 g2 l1 l2 nE nE2 nC nC2 hBq hvw h4
        go_wp2_with fail
        go_roundw
        case rel => exact ⟨c + 1, v5, by omega, by go_num, by rw [HNX.out, ← List.append_assoc, HR.out]; exact HF5.out, HS5.out, HR5.out, HV5.out, HN5.out, HP5.out, HL5.out⟩
        case measure => simp [intOf]; omega
    · obtain rfl : c = 3 := by omega
      rw [fdA_end] at hFi
      have HFI := Lib.hid hFi
      have HST := Lib.hid hst
      have HFR := Lib.hid hfr
      clear hFi hst hfr hvb hne hPb hLb
      go_wp2_with fail
      go_returns
      exact ⟨rfl, v', HFI.out, HST.out, HFR.out⟩

end Go.Proofs.YtoenkgenoloihaaDoor

/- Contracts of the model: the first rings of all classes, and how many there are. -/
namespace Go.Proofs.YtoenkgenoloihaaDoor
open Go.ChangeShapes Go.WideShapes Go.ChangeAt Go.RowKit

set_option linter.unusedVariables false

set_option maxRecDepth 100000 in
theorem look_any (F n : Nat) (h0 : 0 < n) (hn : n ≤ 12) : ∀ (m : Nat) (u : List UInt8), u.length + m = n → (∀ c ∈ u, c ∈ ltr) → ∀ (s : Sp), s.okB (999000 - 2 * (m : Int)) → ∀ (L : List (List UInt8)), L.length + 3 ^ m ≤ 1000000 → ∀ (w : World) (v vb : Value) (Bb : Nat),
    FdAt w F n v L → w.ownsRow Bb 5 1 vb u.length (u.map byV) → (∀ k, vb.ownBlock = some k → k ≠ F ∧ v.ownBlock ≠ some k) →
    Calls Tryd.prog 85 #[.pointer (some ⟨F, 0, none⟩), vb, .agg #[.int .i64 s.x0, .int .i64 s.x1, .int .i64 s.x2, .int .i64 s.x3], .int .i64 s.h] w (FdPost w F n v (L ++ fdL u s m)) := by
  intro m
  induction m with
  | zero =>
    intro u hu hl s hs L hL w v vb Bb hF hb hne
    have hun : u.length = n := by omega
    refine look_leaf F n h0 hn u hun hl s L (by omega) w v vb Bb hF ?_
    rw [hun] at hb
    exact hb
  | succ m ih =>
    intro u hu hl s hs L hL w v vb Bb hF hb hne
    exact look_step F n m h0 hn u hu s hs L hL w v vb Bb hF hb hne fun ch hch L' hL' W v' vb' Bb' hF' hb' hne' =>
      ih (u ++ [ch]) (by rw [List.length_append, List.length_singleton]; omega) (fun c hc => by
        rcases List.mem_append.1 hc with h | h
        · exact hl c h
        · have : c = ch := by simpa using h
          subst this
          exact hch) (s.next ch) ((hs.next ch).mono (by omega)) L' hL' W v' vb' Bb' hF' hb' hne'

def CsPost (n : Nat) (w : World) (e : Ending) (w' : World) : Prop := ∃ v, e = .returned (.pointer (some ⟨w.heap.size, 0, none⟩)) ∧ FdAt w' w.heap.size n v (acL n) ∧ Below w.heap.size w w'

theorem acL_le {n : Nat} (hn : n ≤ 12) : (acL n).length ≤ 531441 := by
  rw [← fdL_top]
  exact Nat.le_trans (fdL_le _ _ _) (Nat.pow_le_pow_right (by decide) hn)

set_option maxRecDepth 100000 in
set_option maxHeartbeats 800000 in
theorem csAll_any (n : Nat) (h0 : 0 < n) (hn : n ≤ 12) (w : World) : Calls Tryd.prog 64 #[.int .i64 (n : Nat)] w (CsPost n w) := by
  have hA : FdAt (w.alloc (.cells #[.int .i64 (n : Nat), .slice none 0 0] 61)) w.heap.size n (.slice none 0 0) [] := ⟨heap_alloc_new _ _, World.ownsRow_nil _ _ _ _⟩
  have P := Lib.hid (look_any w.heap.size n h0 hn n [] (by simp) (by simp) sp0 (sp0_ok.mono (by omega)) [] (by have := Nat.pow_le_pow_right (show 0 < 3 by decide) hn; simp; omega) _ (.slice none 0 0) (.slice none 0 0) 0 hA (World.ownsRow_nil _ _ _ _) (fun k hk => by cases hk))
  rw [fdL_top, List.nil_append] at P
  have P2 := Lib.hid (show Calls Tryd.prog 85 #[.pointer (some ⟨w.heap.size, 0, none⟩), .slice none 0 0, .agg #[.int .i64 0, .int .i64 0, .int .i64 0, .int .i64 0], .int .i64 0] (w.alloc (.cells #[.int .i64 (n : Nat), .slice none 0 0] 61)) _ from P.out)
  clear P hA
  go_enter Tryd.func64, Tryd.ntmps64
  go_wp2_with fail
  refine P2.out.mono ?_
  rintro e w1 ⟨rfl, v, hF, _, hfr⟩
  have HF := Lib.hid hF
  have HB := Lib.hid (show Below w.heap.size w w1 from (Below.alloc (Below.refl _ _) (Nat.le_refl _) (.cells #[.int .i64 (n : Nat), .slice none 0 0] 61)).trans (hfr.below (Nat.le_refl _) (fun k hk => by cases hk) (by simp)))
  clear hF hfr
  go_wp2_with fail
  go_returns
  exact ⟨v, rfl, HF.out, HB.out⟩

def acB (n : Int) : Bool := inB n 1 12

def acR (n : Int) : List (List UInt8) := cond (acB n) (acL n.toNat) []

theorem ac_no {n : Int} (h : acB n = false) : acR n = [] := by simp [acR, h]

theorem ac_yes {n : Int} (h : acB n = true) : acR n = acL n.toNat := by simp [acR, h]

theorem ac_num {n : Int} (h : acB n = true) : ∃ m : Nat, n = m ∧ 0 < m ∧ m ≤ 12 := by
  have g1 : 1 ≤ n ∧ n ≤ 12 := by simpa [acB, inB] using h
  exact ⟨n.toNat, by omega, by omega, by omega⟩

theorem AllClasses_len (n : Int) : (acR n).length ≤ 900000 := by
  cases h : acB n
  · rw [ac_no h]; exact Nat.zero_le _
  · obtain ⟨m, rfl, _, hm⟩ := ac_num h
    rw [ac_yes h]
    have := acL_le hm
    simp only [Int.toNat_natCast]
    omega

set_option maxRecDepth 100000 in
set_option maxHeartbeats 800000 in
theorem spAllClasses (n : Int) (w : World) : Calls Tryd.prog 29 #[.int .i64 n] w (STPost (acR n) (acB n) w) := by
  cases h : acB n
  · rw [ac_no h]
    have h1 : inB n 1 12 = false := h
    go_enter Tryd.func29, Tryd.ntmps29
    go_wp2_with (go_at_call 63; refine (l1In_any _ _ _ _).mono ?_; rintro e w' ⟨rfl, rfl⟩)
    go_ret2
    exact stNo (by go_grown)
  · rw [ac_yes h]
    have h1 : inB n 1 12 = true := h
    obtain ⟨m, rfl, h0, hm⟩ := ac_num h
    rw [Int.toNat_natCast]
    have P := Lib.hid (csAll_any m h0 hm)
    go_enter Tryd.func29, Tryd.ntmps29
    go_wp2_with (go_at_call 63; refine (l1In_any _ _ _ _).mono ?_; rintro e w' ⟨rfl, rfl⟩)
    refine (P.out _).mono ?_
    rintro e w1 ⟨v, rfl, hF, hb⟩
    obtain ⟨c0, c1, _⟩ := hF.cells
    have HO := Lib.hid (own_lessP hF.2 (Nat.le_succ _))
    have HB := Lib.hid hb
    obtain ⟨av, cv, rfl⟩ := own_formC hF.2
    clear hF hb
    go_wp2_with fail
    go_ret2
    exact ⟨_, rfl, HO.out, HB.out⟩

set_option maxRecDepth 100000 in
set_option maxHeartbeats 800000 in
theorem spCountClasses (n : Int) (w : World) : Calls Tryd.prog 34 #[.int .i64 n] w fun e w' => e = .returned (.tuple #[.int .i64 ((acR n).length : Nat), .bool (acB n)]) ∧ Below w.heap.size w w' := by
  cases h : acB n
  · rw [ac_no h]
    have h1 : inB n 1 12 = false := h
    go_enter Tryd.func34, Tryd.ntmps34
    go_wp2_with (go_at_call 63; refine (l1In_any _ _ _ _).mono ?_; rintro e w' ⟨rfl, rfl⟩)
    go_ret2
    exact ⟨rfl, by go_grown⟩
  · rw [ac_yes h]
    have h1 : inB n 1 12 = true := h
    obtain ⟨m, rfl, h0, hm⟩ := ac_num h
    rw [Int.toNat_natCast]
    have P := Lib.hid (csAll_any m h0 hm)
    go_enter Tryd.func34, Tryd.ntmps34
    go_wp2_with (go_at_call 63; refine (l1In_any _ _ _ _).mono ?_; rintro e w' ⟨rfl, rfl⟩)
    refine (P.out _).mono ?_
    rintro e w1 ⟨v, rfl, hF, hb⟩
    obtain ⟨c0, c1, _⟩ := hF.cells
    have HB := Lib.hid hb
    obtain ⟨av, cv, rfl⟩ := own_formC hF.2
    clear hF hb
    go_wp2_with fail
    go_ret2
    exact ⟨rfl, HB.out⟩

end Go.Proofs.YtoenkgenoloihaaDoor

/- Contracts of the program: the period of a ring; whether a ring is its own mirror or its own back. -/
namespace Go.Proofs.YtoenkgenoloihaaDoor
open Go.ChangeShapes Go.WideShapes Go.ChangeAt Go.RowKit

set_option linter.unusedVariables false
set_option linter.unusedSimpArgs false

theorem eqL_mk {a b : List UInt8} (ha : a.length ≤ 40) (hl : a.length = b.length) : eqL (mkLp a) (mkLp b) = decide (a = b) := by
  by_cases h : a = b
  · subst h; rw [decide_eq_true rfl]; exact (eqL_iff _ _).2 rfl
  · rw [decide_eq_false h]
    cases he : eqL (mkLp a) (mkLp b) with
    | false => rfl
    | true => exact absurd (mk_inj ha hl ((eqL_iff _ _).1 he)) h

theorem rot1_get {l : List UInt8} {k : Nat} (hk : k < l.length) : ((rot1 l).map mkLp)[k]! = mkLp (spn l (k + 1)) := by
  rw [getElem!_pos _ k (by rw [List.length_map, rot1_len]; exact hk)]
  simp [rot1]

theorem idx_per {l : List UInt8} (h0 : 0 < l.length) (hl : l.length ≤ 40) : Lib.idxBy eqL ((rot1 l).map mkLp) (mkLp l) = ((perN l - 1 : Nat) : Int) := by
  have hp := per_le h0
  have hp1 : 1 ≤ perN l := by unfold perN; omega
  have hs : spn l (perN l) = l ∧ ∀ j, j < perN l - 1 → spn l (j + 1) ≠ l := by
    have hlt : (rot1 l).findIdx (· == l) < (rot1 l).length := by rw [rot1_len]; unfold perN at hp; omega
    have h1 := List.findIdx_getElem (p := (· == l)) (xs := rot1 l) (w := hlt)
    refine ⟨by simp only [rot1, List.getElem_map, List.getElem_range, beq_iff_eq] at h1; exact h1, fun j hj e => ?_⟩
    have := List.not_of_lt_findIdx (p := (· == l)) (xs := rot1 l) (i := j) (by unfold perN at hj; omega)
    simp only [rot1, List.getElem_map, List.getElem_range, beq_eq_false_iff_ne, ne_eq] at this
    exact this e
  have hlen : ((rot1 l).map mkLp).length = l.length := by rw [List.length_map, rot1_len]
  have h := Lib.idxBy_hit eqL ((rot1 l).map mkLp) l.length (perN l - 1) (mkLp l) (by omega) (by omega)
    (by rw [rot1_get (by omega), show perN l - 1 + 1 = perN l by omega, hs.1]; exact (eqL_iff _ _).2 rfl)
    (fun j hj => by rw [rot1_get (by omega), eqL_mk hl (by rw [spn_len])]; exact decide_eq_false fun e => hs.2 j hj e.symm)
  rwa [List.take_of_length_le (by omega)] at h

section
variable {B : Nat} {x : Lp} {cs : List Value} {W w1 : World}
theorem lpMid (y : Lp) : (Tryd.prog.info? 45).map (·.size) = some (encLp y).length := by
  rw [encLp_len]; kernel_rfl

theorem rg_mk (h : LpAt W B x) (hcs : encLp x = cs) : W.rangeAt B 0 cs ∧ Hid (B < W.heap.size) := ⟨fun j v hv => by
  subst hcs
  rw [Nat.zero_add, cell_of_row _ _ j _ _ (0, 0) h]
  simpa [arr] using hv, Lib.hid h.lt⟩

theorem rg_drew (h : W.rangeAt B 0 cs ∧ Hid (B < W.heap.size)) : W.drew.rangeAt B 0 cs ∧ Hid (B < W.drew.heap.size) := h

theorem rg_undrew (h : W.drew.rangeAt B 0 cs ∧ Hid (B < W.drew.heap.size)) : W.rangeAt B 0 cs ∧ Hid (B < W.heap.size) := h

theorem rg_below (h : W.rangeAt B 0 cs ∧ Hid (B < W.heap.size)) (hb : Below W.heap.size W w1) : w1.rangeAt B 0 cs ∧ Hid (B < w1.heap.size) :=
  ⟨fun j v hv => by rw [hb.cell (p := ⟨B, 0 + j, none⟩) h.2.out]; exact h.1 j v hv, Lib.hid (Nat.lt_of_lt_of_le h.2.out hb.size)⟩
end

set_option maxRecDepth 100000 in
set_option maxHeartbeats 800000 in
theorem imPeriodOfRing (s : ByteArray) (hs : s.size ≤ 1048576) (w : World) :
    Calls Tryd.prog 20 #[.string s] w fun e w' => e = .returned (.tuple #[.int .i64 (prI s), .bool (clB s)]) ∧ Below w.heap.size w w' := by
  have HLO := Lib.hid (loopOf_any s hs)
  have hz := (zero_of_info (P := Tryd.prog) lpInfo).1
  obtain ⟨K, hK⟩ : ∃ K, K = 40 := ⟨_, rfl⟩
  have zE := zK hK
  have HK := Lib.hid hK
  have hAl := aK hK (loL s)
  cases tc : clB s
  · have G := Lib.hid tc
    rw [tc] at HLO
    clear hK
    go_enter Tryd.func20, Tryd.ntmps20
    go_wp2_with fail
    refine (HLO.out _).mono ?_
    rintro e w1 ⟨rfl, hb1⟩
    have a1 := LpAt.new w1 zLp
    have st := a1.store (loL s)
    have HB := Lib.hid (below_setRow ((ba (by go_grown) hb1 : Below w.heap.size w w1).alloc hb1.size (.cells (arr zLp) 45)) hb1.size (arr (loL s)))
    clear a1 hb1
    go_wp2_with fail
    go_ret2
    exact ⟨pr_no G.out, HB.out⟩
  · have G := Lib.hid tc
    obtain ⟨ht, h0⟩ := cl_data tc
    have hl40 := tk_le ht
    have hlo : loL s = mkLp s.data.toList := by simp [loL, tc]
    rw [tc, hlo] at HLO
    rw [hlo] at hAl
    have hSP := spins_any s.data.toList hl40 (tk_nz ht)
    have hper := per_le h0
    have hp1 : 1 ≤ perN s.data.toList := by unfold perN; omega
    have hIX := fun g cap w hr => index_any (mkLp s.data.toList) ((rot1 s.data.toList).map mkLp) s.data.toList.length (by rw [List.length_map, rot1_len]) (by omega) g cap w hr
    rw [idx_per h0 hl40] at hIX
    obtain ⟨k, hk⟩ : ∃ k, perN s.data.toList - 1 = k := ⟨_, rfl⟩
    have HP := Lib.hid (show (perN s.data.toList : Int) = (k : Int) + 1 by omega)
    rw [hk] at hIX
    have hkb : k ≤ 40 := by omega
    have hw : IntKind.i64.wrap ((k : Int) + 1) = (k : Int) + 1 := by rw [IntKind.wrap_i64]; omega
    have hln : ((rot1 s.data.toList).map mkLp).length = s.data.toList.length := by rw [List.length_map, rot1_len]
    obtain ⟨n, hn⟩ : ∃ n, s.data.toList.length = n := ⟨_, rfl⟩
    rw [hn] at hSP h0 hIX hln
    have HSP := Lib.hid hSP
    have HIX := Lib.hid hIX
    have HLN := Lib.hid hln
    generalize (rot1 s.data.toList).map mkLp = L at *
    obtain ⟨y, hy⟩ : ∃ y, mkLp s.data.toList = y := ⟨_, rfl⟩
    rw [hy] at HSP HIX HLO hAl
    clear hSP hIX hln hlo hK hy hn hk hper hp1
    go_enter Tryd.func20, Tryd.ntmps20
    go_wp2_with fail
    refine (HLO.out _).mono ?_
    rintro e w1 ⟨rfl, hb1⟩
    have a1 := LpAt.new w1 zLp
    have st := a1.store y
    have A1 := Lib.hid (a1.set y)
    have HB := Lib.hid (below_setRow ((ba (by go_grown) hb1 : Below w.heap.size w w1).alloc hb1.size (.cells (arr zLp) 45)) hb1.size (arr y))
    clear a1 hb1
    go_wp2_with fail
    clear st
    obtain ⟨b, hb⟩ : ∃ b, w1.heap.size = b := ⟨_, rfl⟩
    rw [hb] at A1 HB ⊢
    generalize (w1.alloc (.cells (arr zLp) 45)).setRow b (arr y) = W1 at *
    obtain ⟨cs, hcs⟩ : ∃ cs, encLp y = cs := ⟨_, rfl⟩
    have hcl : (Tryd.prog.info? 45).map (·.size) = some cs.length := by rw [← hcs]; exact lpMid y
    have hund := Tryd.underlying45
    have hS0 := rg_mk A1.out hcs
    have hAr : arr y = cs.toArray := by rw [← hcs]; rfl
    rw [hAr] at HSP HIX
    clear hcs hAr
    refine wp_region_held_drew (S := (fun w' => w'.rangeAt b 0 cs ∧ Hid (b < w'.heap.size))) (by kernel_rfl) (rg_drew hS0) (fun hHeld => ?_)
    refine wpAnyH_take (i := 0) rfl (by kernel_rfl) (by kernel_rfl) (by kernel_rfl) (fun _ _ _ h => h) (yieldsIf_load_mid (by rfl) _ _ rfl _ _ rfl _ _ (fun w h => h.1) hund rfl hcl) (by assumption) ?_
    try simp only [Act.put, List.setIfInBounds_toArray, List.set_cons_zero, List.set_cons_succ]
    refine wpAnyH_take (i := 2) rfl (by kernel_rfl) (by kernel_rfl) (by kernel_rfl) (fun _ _ _ h => h) (yieldsIf_load_mid (by rfl) _ _ rfl _ _ rfl _ _ (fun w h => h.1) hund rfl hcl) (by assumption) ?_
    try simp only [Act.put, List.setIfInBounds_toArray, List.set_cons_zero, List.set_cons_succ]
    refine wpAnyH_ready (rs := [1]) (by kernel_rfl) (by simp) (AllReadyH.cons rfl (fun K hK => ?_) AllReadyH.nil)
    rw [if_pos (by rfl)]
    go_simp
    go_at_call 49
    refine (HSP.out _).mono ?_
    rintro e w2 ⟨v, rfl, hO, h1⟩
    replace h1 := undrew h1
    obtain ⟨g, cap, rfl, hg0, hcp⟩ := hO.form h0
    have hg := (hO.lt g rfl).2
    have R := Lib.hid (RowLp.of hO HLN.out)
    have HB := Lib.hid (HB.out.trans (h1.mono HB.out.size))
    clear hO
    go_simp
    refine hK.out _ _ ?_ (fun hHeld => ?_)
    · exact rg_below (rg_undrew hHeld) h1
    clear hK K
    try simp only [Act.put, List.setIfInBounds_toArray, List.set_cons_zero, List.set_cons_succ]
    refine wpAnyH_ready (rs := [3]) (by kernel_rfl) (by simp) (AllReadyH.cons rfl (fun K hK => ?_) AllReadyH.nil)
    rw [if_pos (by rfl)]
    go_simp
    go_at_call 55
    refine (HIX.out _ _ _ R.out).mono ?_
    rintro e w3 ⟨rfl, h1⟩
    have HB := Lib.hid (HB.out.trans (h1.mono HB.out.size))
    go_simp
    refine hK.out _ _ ?_ (fun hHeld => ?_)
    · exact rg_below hHeld h1
    clear hK K
    try simp only [Act.put, List.setIfInBounds_toArray, List.set_cons_zero, List.set_cons_succ]
    refine wpAnyH_ready (rs := [4]) (by kernel_rfl) (by simp) (AllReadyH.cons rfl (fun K hK => ?_) AllReadyH.nil)
    rw [if_pos (by rfl)]
    go_simp
    refine hK.out _ _ ?_ (fun hHeld => ?_)
    · assumption
    clear hK K
    try simp only [Act.put, List.setIfInBounds_toArray, List.set_cons_zero, List.set_cons_succ]
    refine wpAnyH_ready (rs := [5]) (by kernel_rfl) (by simp) (AllReadyH.cons rfl (fun K hK => ?_) AllReadyH.nil)
    rw [if_pos (by rfl)]
    go_simp
    refine hK.out _ _ ?_ (fun hHeld => ?_)
    · assumption
    clear hK K
    try simp only [Act.put, List.setIfInBounds_toArray, List.set_cons_zero, List.set_cons_succ]
    refine wpAnyH_ready (rs := [6]) (by kernel_rfl) (by simp) (AllReadyH.cons rfl (fun K hK => ?_) AllReadyH.nil)
    rw [if_pos (by rfl)]
    go_simp
    refine hK.out _ _ ?_ (fun hHeld => ?_)
    · assumption
    clear hK K
    try simp only [Act.put, List.setIfInBounds_toArray, List.set_cons_zero, List.set_cons_succ]
    refine wpAnyH_done (by kernel_rfl) ?_ _
    go_wp2_with fail
    go_ret2
    exact ⟨by rw [← HP.out]; exact pr_yes G.out, HB.out⟩

theorem any_own {l m : List UInt8} (h0 : 0 < l.length) (hl : l.length ≤ 40) (hm : m.length = l.length) : ((rot1 l).map mkLp).any (fun y => eqL (mkLp m) y) = decide (leastL m = leastL l) := by
  rw [Bool.eq_iff_iff, List.any_eq_true, decide_eq_true_iff]
  constructor
  · rintro ⟨y, hy, e⟩
    obtain ⟨a, ha, rfl⟩ := List.mem_map.1 hy
    have ho := (rot1_mem h0).1 ha
    have := mk_inj (by omega) (by rw [orb_len ho, hm]) ((eqL_iff _ _).1 e)
    subst this
    exact (leastL_eq h0 ho).symm
  · intro h
    have ho := orb_symm ((leastL_iff (by omega) h0).1 h)
    exact ⟨mkLp m, List.mem_map_of_mem ((rot1_mem h0).2 ho), (eqL_iff _ _).2 rfl⟩

set_option maxRecDepth 100000 in
set_option maxHeartbeats 1600000 in
theorem isOwn_mirror (s : ByteArray) (hs : s.size ≤ 1048576) (w : World) :
    Calls Tryd.prog 59 #[.string s, .func (.func 60) #[] #[]] w fun e w' => e = .returned (.tuple #[.bool (omB s), .bool (clB s)]) ∧ Below w.heap.size w w' := by
  have HLO := Lib.hid (loopOf_any s hs)
  have hz := (zero_of_info (P := Tryd.prog) lpInfo).1
  obtain ⟨K, hK⟩ : ∃ K, K = 40 := ⟨_, rfl⟩
  have zE := zK hK
  have HK := Lib.hid hK
  have hAl := aK hK (loL s)
  cases tc : clB s
  · rw [om_no tc]
    rw [tc] at HLO
    clear hK
    go_enter Tryd.func59, Tryd.ntmps59
    go_wp2_with fail
    refine (HLO.out _).mono ?_
    rintro e w1 ⟨rfl, hb1⟩
    have a1 := LpAt.new w1 zLp
    have st := a1.store (loL s)
    have HB := Lib.hid (below_setRow ((ba (by go_grown) hb1 : Below w.heap.size w w1).alloc hb1.size (.cells (arr zLp) 45)) hb1.size (arr (loL s)))
    clear a1 hb1
    go_wp2_with fail
    go_ret2
    exact ⟨rfl, HB.out⟩
  · obtain ⟨ht, h0⟩ := cl_data tc
    have hl40 := tk_le ht
    have hlo : loL s = mkLp s.data.toList := by simp [loL, tc]
    rw [tc, hlo] at HLO
    rw [hlo] at hAl
    have hSP := spins_any s.data.toList hl40 (tk_nz ht)
    have hCH := mirror_any s.data.toList ht
    have hIX := fun g cap w hr => contains_any (mkLp (s.data.toList.map mir)) ((rot1 s.data.toList).map mkLp) s.data.toList.length (by rw [List.length_map, rot1_len]) (by omega) g cap w hr
    rw [any_own h0 hl40 (by simp [bak])] at hIX
    rw [om_yes tc]
    have hln : ((rot1 s.data.toList).map mkLp).length = s.data.toList.length := by rw [List.length_map, rot1_len]
    generalize decide (leastL (s.data.toList.map mir) = leastL s.data.toList) = r at *
    obtain ⟨n, hn⟩ : ∃ n, s.data.toList.length = n := ⟨_, rfl⟩
    rw [hn] at hSP h0 hIX hln
    have HSP := Lib.hid hSP
    have HIX := Lib.hid hIX
    have HLN := Lib.hid hln
    have HCH := Lib.hid hCH
    generalize (rot1 s.data.toList).map mkLp = L at *
    obtain ⟨y2, hy2⟩ : ∃ y2, mkLp (s.data.toList.map mir) = y2 := ⟨_, rfl⟩
    rw [hy2] at HCH HIX
    obtain ⟨y, hy⟩ : ∃ y, mkLp s.data.toList = y := ⟨_, rfl⟩
    rw [hy] at HSP HCH HLO hAl
    have hAy2 := aK hK y2
    clear hSP hIX hln hlo hK hy hn hCH hy2
    go_enter Tryd.func59, Tryd.ntmps59
    go_wp2_with fail
    refine (HLO.out _).mono ?_
    rintro e w1 ⟨rfl, hb1⟩
    have a1 := LpAt.new w1 zLp
    have st := a1.store y
    have A1 := Lib.hid (a1.set y)
    have HB := Lib.hid (below_setRow ((ba (by go_grown) hb1 : Below w.heap.size w w1).alloc hb1.size (.cells (arr zLp) 45)) hb1.size (arr y))
    clear a1 hb1
    go_wp2_with fail
    clear st
    obtain ⟨b, hb⟩ : ∃ b, w1.heap.size = b := ⟨_, rfl⟩
    rw [hb] at A1 HB ⊢
    generalize (w1.alloc (.cells (arr zLp) 45)).setRow b (arr y) = W1 at *
    obtain ⟨cs, hcs⟩ : ∃ cs, encLp y = cs := ⟨_, rfl⟩
    have hcl : (Tryd.prog.info? 45).map (·.size) = some cs.length := by rw [← hcs]; exact lpMid y
    have hund := Tryd.underlying45
    have hS0 := rg_mk A1.out hcs
    have hAr : arr y = cs.toArray := by rw [← hcs]; rfl
    rw [hAr] at HSP HCH
    clear hcs hAr
    refine wp_region_held_drew (S := (fun w' => w'.rangeAt b 0 cs ∧ Hid (b < w'.heap.size))) (by kernel_rfl) (rg_drew hS0) (fun hHeld => ?_)
    refine wpAnyH_take (i := 0) rfl (by kernel_rfl) (by kernel_rfl) (by kernel_rfl) (fun _ _ _ h => h) (yieldsIf_load_mid (by rfl) _ _ rfl _ _ rfl _ _ (fun w h => h.1) hund rfl hcl) (by assumption) ?_
    try simp only [Act.put, List.setIfInBounds_toArray, List.set_cons_zero, List.set_cons_succ]
    refine wpAnyH_take (i := 2) (v := .func (.func 60) #[] #[]) rfl (by kernel_rfl) (by kernel_rfl) (by kernel_rfl) (fun _ _ _ h => h) (Or.inl ⟨by rfl, by (intro w hSw; (try dsimp only at hSw); go_simp)⟩) (by assumption) ?_
    try simp only [Act.put, List.setIfInBounds_toArray, List.set_cons_zero, List.set_cons_succ]
    refine wpAnyH_take (i := 3) rfl (by kernel_rfl) (by kernel_rfl) (by kernel_rfl) (fun _ _ _ h => h) (yieldsIf_load_mid (by rfl) _ _ rfl _ _ rfl _ _ (fun w h => h.1) hund rfl hcl) (by assumption) ?_
    try simp only [Act.put, List.setIfInBounds_toArray, List.set_cons_zero, List.set_cons_succ]
    refine wpAnyH_ready (rs := [1]) (by kernel_rfl) (by simp) (AllReadyH.cons rfl (fun K hK => ?_) AllReadyH.nil)
    rw [if_pos (by rfl)]
    go_simp
    go_at_call 49
    refine (HSP.out _).mono ?_
    rintro e w2 ⟨v, rfl, hO, h1⟩
    replace h1 := undrew h1
    obtain ⟨g, cap, rfl, hg0, hcp⟩ := hO.form h0
    have hg := (hO.lt g rfl).2
    have R := Lib.hid (RowLp.of hO HLN.out)
    have HB := Lib.hid (HB.out.trans (h1.mono HB.out.size))
    clear hO
    go_simp
    refine hK.out _ _ ?_ (fun hHeld => ?_)
    · exact rg_below (rg_undrew hHeld) h1
    clear hK K
    try simp only [Act.put, List.setIfInBounds_toArray, List.set_cons_zero, List.set_cons_succ]
    refine wpAnyH_ready (rs := [4]) (by kernel_rfl) (by simp) (AllReadyH.cons rfl (fun K hK => ?_) AllReadyH.nil)
    rw [if_pos (by rfl)]
    go_simp
    go_at_call 60
    refine (HCH.out _).mono ?_
    rintro e w4 ⟨rfl, h1⟩
    have R := Lib.hid (R.out.below hg h1)
    have HB := Lib.hid (HB.out.trans (h1.mono HB.out.size))
    go_simp
    refine hK.out _ _ ?_ (fun hHeld => ?_)
    · exact rg_below hHeld h1
    clear hK K
    try simp only [Act.put, List.setIfInBounds_toArray, List.set_cons_zero, List.set_cons_succ]
    refine wpAnyH_ready (rs := [5]) (by kernel_rfl) (by simp) (AllReadyH.cons rfl (fun K hK => ?_) AllReadyH.nil)
    rw [if_pos (by rfl)]
    go_simp
    go_at_call 82
    refine (HIX.out _ _ _ R.out).mono ?_
    rintro e w3 ⟨rfl, h1⟩
    have HB := Lib.hid (HB.out.trans (h1.mono HB.out.size))
    go_simp
    refine hK.out _ _ ?_ (fun hHeld => ?_)
    · exact rg_below hHeld h1
    clear hK K
    try simp only [Act.put, List.setIfInBounds_toArray, List.set_cons_zero, List.set_cons_succ]
    refine wpAnyH_ready (rs := [6]) (by kernel_rfl) (by simp) (AllReadyH.cons rfl (fun K hK => ?_) AllReadyH.nil)
    rw [if_pos (by rfl)]
    go_simp
    refine hK.out _ _ ?_ (fun hHeld => ?_)
    · assumption
    clear hK K
    try simp only [Act.put, List.setIfInBounds_toArray, List.set_cons_zero, List.set_cons_succ]
    refine wpAnyH_ready (rs := [7]) (by kernel_rfl) (by simp) (AllReadyH.cons rfl (fun K hK => ?_) AllReadyH.nil)
    rw [if_pos (by rfl)]
    go_simp
    refine hK.out _ _ ?_ (fun hHeld => ?_)
    · assumption
    clear hK K
    try simp only [Act.put, List.setIfInBounds_toArray, List.set_cons_zero, List.set_cons_succ]
    refine wpAnyH_done (by kernel_rfl) ?_ _
    all_goals go_wp2_with fail
    all_goals go_ret2
    all_goals exact ⟨rfl, HB.out⟩

set_option maxRecDepth 100000 in
theorem imIsOwnMirror (s : ByteArray) (hs : s.size ≤ 1048576) (w : World) :
    Calls Tryd.prog 24 #[.string s] w fun e w' => e = .returned (.tuple #[.bool (omB s), .bool (clB s)]) ∧ Below w.heap.size w w' := by
  have HC := Lib.hid (isOwn_mirror s hs)
  go_enter Tryd.func24, Tryd.ntmps24
  go_wp2_with (go_at_call 59; (with_reducible refine (HC.out _).mono ?_); rintro e wA ⟨rfl, h1⟩; (try with_reducible replace h1 := undrew h1); have hB : Below w.heap.size w wA := ba (by go_grown) h1; obtain ⟨hcwA, hfwA⟩ := bcell h1; have hqwA := h1.size; (try simp at hqwA); )
  go_ret2
  exact ⟨rfl, by go_grown⟩

set_option maxRecDepth 100000 in
set_option maxHeartbeats 1600000 in
theorem isOwn_back (s : ByteArray) (hs : s.size ≤ 1048576) (w : World) :
    Calls Tryd.prog 59 #[.string s, .func (.func 62) #[] #[]] w fun e w' => e = .returned (.tuple #[.bool (obB s), .bool (clB s)]) ∧ Below w.heap.size w w' := by
  have HLO := Lib.hid (loopOf_any s hs)
  have hz := (zero_of_info (P := Tryd.prog) lpInfo).1
  obtain ⟨K, hK⟩ : ∃ K, K = 40 := ⟨_, rfl⟩
  have zE := zK hK
  have HK := Lib.hid hK
  have hAl := aK hK (loL s)
  cases tc : clB s
  · rw [ob_no tc]
    rw [tc] at HLO
    clear hK
    go_enter Tryd.func59, Tryd.ntmps59
    go_wp2_with fail
    refine (HLO.out _).mono ?_
    rintro e w1 ⟨rfl, hb1⟩
    have a1 := LpAt.new w1 zLp
    have st := a1.store (loL s)
    have HB := Lib.hid (below_setRow ((ba (by go_grown) hb1 : Below w.heap.size w w1).alloc hb1.size (.cells (arr zLp) 45)) hb1.size (arr (loL s)))
    clear a1 hb1
    go_wp2_with fail
    go_ret2
    exact ⟨rfl, HB.out⟩
  · obtain ⟨ht, h0⟩ := cl_data tc
    have hl40 := tk_le ht
    have hlo : loL s = mkLp s.data.toList := by simp [loL, tc]
    rw [tc, hlo] at HLO
    rw [hlo] at hAl
    have hSP := spins_any s.data.toList hl40 (tk_nz ht)
    have hCH := back_anyL s.data.toList ht
    have hIX := fun g cap w hr => contains_any (mkLp (bak s.data.toList)) ((rot1 s.data.toList).map mkLp) s.data.toList.length (by rw [List.length_map, rot1_len]) (by omega) g cap w hr
    rw [any_own h0 hl40 (by simp [bak])] at hIX
    rw [ob_yes tc]
    have hln : ((rot1 s.data.toList).map mkLp).length = s.data.toList.length := by rw [List.length_map, rot1_len]
    generalize decide (leastL (bak s.data.toList) = leastL s.data.toList) = r at *
    obtain ⟨n, hn⟩ : ∃ n, s.data.toList.length = n := ⟨_, rfl⟩
    rw [hn] at hSP h0 hIX hln
    have HSP := Lib.hid hSP
    have HIX := Lib.hid hIX
    have HLN := Lib.hid hln
    have HCH := Lib.hid hCH
    generalize (rot1 s.data.toList).map mkLp = L at *
    obtain ⟨y2, hy2⟩ : ∃ y2, mkLp (bak s.data.toList) = y2 := ⟨_, rfl⟩
    rw [hy2] at HCH HIX
    obtain ⟨y, hy⟩ : ∃ y, mkLp s.data.toList = y := ⟨_, rfl⟩
    rw [hy] at HSP HCH HLO hAl
    have hAy2 := aK hK y2
    clear hSP hIX hln hlo hK hy hn hCH hy2
    go_enter Tryd.func59, Tryd.ntmps59
    go_wp2_with fail
    refine (HLO.out _).mono ?_
    rintro e w1 ⟨rfl, hb1⟩
    have a1 := LpAt.new w1 zLp
    have st := a1.store y
    have A1 := Lib.hid (a1.set y)
    have HB := Lib.hid (below_setRow ((ba (by go_grown) hb1 : Below w.heap.size w w1).alloc hb1.size (.cells (arr zLp) 45)) hb1.size (arr y))
    clear a1 hb1
    go_wp2_with fail
    clear st
    obtain ⟨b, hb⟩ : ∃ b, w1.heap.size = b := ⟨_, rfl⟩
    rw [hb] at A1 HB ⊢
    generalize (w1.alloc (.cells (arr zLp) 45)).setRow b (arr y) = W1 at *
    obtain ⟨cs, hcs⟩ : ∃ cs, encLp y = cs := ⟨_, rfl⟩
    have hcl : (Tryd.prog.info? 45).map (·.size) = some cs.length := by rw [← hcs]; exact lpMid y
    have hund := Tryd.underlying45
    have hS0 := rg_mk A1.out hcs
    have hAr : arr y = cs.toArray := by rw [← hcs]; rfl
    rw [hAr] at HSP HCH
    clear hcs hAr
    refine wp_region_held_drew (S := (fun w' => w'.rangeAt b 0 cs ∧ Hid (b < w'.heap.size))) (by kernel_rfl) (rg_drew hS0) (fun hHeld => ?_)
    refine wpAnyH_take (i := 0) rfl (by kernel_rfl) (by kernel_rfl) (by kernel_rfl) (fun _ _ _ h => h) (yieldsIf_load_mid (by rfl) _ _ rfl _ _ rfl _ _ (fun w h => h.1) hund rfl hcl) (by assumption) ?_
    try simp only [Act.put, List.setIfInBounds_toArray, List.set_cons_zero, List.set_cons_succ]
    refine wpAnyH_take (i := 2) (v := .func (.func 62) #[] #[]) rfl (by kernel_rfl) (by kernel_rfl) (by kernel_rfl) (fun _ _ _ h => h) (Or.inl ⟨by rfl, by (intro w hSw; (try dsimp only at hSw); go_simp)⟩) (by assumption) ?_
    try simp only [Act.put, List.setIfInBounds_toArray, List.set_cons_zero, List.set_cons_succ]
    refine wpAnyH_take (i := 3) rfl (by kernel_rfl) (by kernel_rfl) (by kernel_rfl) (fun _ _ _ h => h) (yieldsIf_load_mid (by rfl) _ _ rfl _ _ rfl _ _ (fun w h => h.1) hund rfl hcl) (by assumption) ?_
    try simp only [Act.put, List.setIfInBounds_toArray, List.set_cons_zero, List.set_cons_succ]
    refine wpAnyH_ready (rs := [1]) (by kernel_rfl) (by simp) (AllReadyH.cons rfl (fun K hK => ?_) AllReadyH.nil)
    rw [if_pos (by rfl)]
    go_simp
    go_at_call 49
    refine (HSP.out _).mono ?_
    rintro e w2 ⟨v, rfl, hO, h1⟩
    replace h1 := undrew h1
    obtain ⟨g, cap, rfl, hg0, hcp⟩ := hO.form h0
    have hg := (hO.lt g rfl).2
    have R := Lib.hid (RowLp.of hO HLN.out)
    have HB := Lib.hid (HB.out.trans (h1.mono HB.out.size))
    clear hO
    go_simp
    refine hK.out _ _ ?_ (fun hHeld => ?_)
    · exact rg_below (rg_undrew hHeld) h1
    clear hK K
    try simp only [Act.put, List.setIfInBounds_toArray, List.set_cons_zero, List.set_cons_succ]
    refine wpAnyH_ready (rs := [4]) (by kernel_rfl) (by simp) (AllReadyH.cons rfl (fun K hK => ?_) AllReadyH.nil)
    rw [if_pos (by rfl)]
    go_simp
    go_at_call 62
    refine (HCH.out _).mono ?_
    rintro e w4 ⟨rfl, h1⟩
    have R := Lib.hid (R.out.below hg h1)
    have HB := Lib.hid (HB.out.trans (h1.mono HB.out.size))
    go_simp
    refine hK.out _ _ ?_ (fun hHeld => ?_)
    · exact rg_below hHeld h1
    clear hK K
    try simp only [Act.put, List.setIfInBounds_toArray, List.set_cons_zero, List.set_cons_succ]
    refine wpAnyH_ready (rs := [5]) (by kernel_rfl) (by simp) (AllReadyH.cons rfl (fun K hK => ?_) AllReadyH.nil)
    rw [if_pos (by rfl)]
    go_simp
    go_at_call 82
    refine (HIX.out _ _ _ R.out).mono ?_
    rintro e w3 ⟨rfl, h1⟩
    have HB := Lib.hid (HB.out.trans (h1.mono HB.out.size))
    go_simp
    refine hK.out _ _ ?_ (fun hHeld => ?_)
    · exact rg_below hHeld h1
    clear hK K
    try simp only [Act.put, List.setIfInBounds_toArray, List.set_cons_zero, List.set_cons_succ]
    refine wpAnyH_ready (rs := [6]) (by kernel_rfl) (by simp) (AllReadyH.cons rfl (fun K hK => ?_) AllReadyH.nil)
    rw [if_pos (by rfl)]
    go_simp
    refine hK.out _ _ ?_ (fun hHeld => ?_)
    · assumption
    clear hK K
    try simp only [Act.put, List.setIfInBounds_toArray, List.set_cons_zero, List.set_cons_succ]
    refine wpAnyH_ready (rs := [7]) (by kernel_rfl) (by simp) (AllReadyH.cons rfl (fun K hK => ?_) AllReadyH.nil)
    rw [if_pos (by rfl)]
    go_simp
    refine hK.out _ _ ?_ (fun hHeld => ?_)
    · assumption
    clear hK K
    try simp only [Act.put, List.setIfInBounds_toArray, List.set_cons_zero, List.set_cons_succ]
    refine wpAnyH_done (by kernel_rfl) ?_ _
    all_goals go_wp2_with fail
    all_goals go_ret2
    all_goals exact ⟨rfl, HB.out⟩

set_option maxRecDepth 100000 in
theorem imIsOwnBack (s : ByteArray) (hs : s.size ≤ 1048576) (w : World) :
    Calls Tryd.prog 26 #[.string s] w fun e w' => e = .returned (.tuple #[.bool (obB s), .bool (clB s)]) ∧ Below w.heap.size w w' := by
  have HC := Lib.hid (isOwn_back s hs)
  go_enter Tryd.func26, Tryd.ntmps26
  go_wp2_with (go_at_call 59; (with_reducible refine (HC.out _).mono ?_); rintro e wA ⟨rfl, h1⟩; (try with_reducible replace h1 := undrew h1); have hB : Below w.heap.size w wA := ba (by go_grown) h1; obtain ⟨hcwA, hfwA⟩ := bcell h1; have hqwA := h1.size; (try simp at hqwA); )
  go_ret2
  exact ⟨rfl, by go_grown⟩

end Go.Proofs.YtoenkgenoloihaaDoor

/- Contracts: all classes, how many there are, their sizes, how many of them are their own mirrors or backs. -/
namespace Go.Proofs.YtoenkgenoloihaaDoor
open Go.ChangeShapes Go.WideShapes Go.ChangeAt Go.RowKit Go.Sort

set_option linter.unusedVariables false

theorem ac_ok {m : Nat} (h0 : 0 < m) (hm : m ≤ 12) {r : List UInt8} (h : r ∈ acL m) : r.length = m ∧ tkB (ofL r) = true ∧ clB (ofL r) = true := by
  obtain ⟨⟨h1, h2⟩, h3⟩ := acL_mem h
  have ht : tkB (ofL r) = true := tk_of (by omega) fun c hc => by
    have := h2 c hc
    simp only [ltr, List.mem_cons, List.not_mem_nil, or_false] at this
    rcases this with rfl | rfl | rfl <;> decide
  refine ⟨h1, ht, ?_⟩
  rw [clB_yes ht]
  have he : enS (ofL r) = sp0 := by rw [enS_yes ht]; exact h3
  simp [zS, zP, he, ofL_size, h1, h0, sp0]

set_option maxRecDepth 100000 in
theorem imAllClasses (n : Int) (w : World) : Calls Tryd.prog 30 #[.int .i64 n] w (STPost (acR n) (acB n) w) := by
  cases h : acB n
  · rw [ac_no h]
    have h1 : inB n 1 12 = false := h
    go_enter Tryd.func30, Tryd.ntmps30
    go_wp2_with (go_at_call 65; refine (isInRange_any _ _ _ _).mono ?_; rintro e w' ⟨rfl, rfl⟩)
    go_ret2
    exact stNo (by go_grown)
  · rw [ac_yes h]
    obtain ⟨m, rfl, h0, hm⟩ := ac_num h
    rw [Int.toNat_natCast]
    exact imAll_any m h0 hm w

set_option maxRecDepth 100000 in
theorem imCountClasses (n : Int) (w : World) : Calls Tryd.prog 35 #[.int .i64 n] w fun e w' => e = .returned (.tuple #[.int .i64 ((acR n).length : Nat), .bool (acB n)]) ∧ Below w.heap.size w w' := by
  have P := Lib.hid (imAllClasses n)
  generalize acR n = l at *
  generalize acB n = b at *
  go_enter Tryd.func35, Tryd.ntmps35
  go_wp2_with fail
  refine (P.out _).mono ?_
  rintro e w1 ⟨v, rfl, hO, hb⟩
  obtain ⟨av, cv, rfl⟩ := own_formC hO
  have HB := Lib.hid hb
  clear hO hb
  go_wp2_with fail
  go_ret2
  exact ⟨rfl, HB.out⟩

/-- A list of numbers, perhaps none, and whether there is one. -/
def NSPost (xs : List Int) (b : Bool) (w : World) (e : Ending) (w' : World) : Prop :=
  ∃ v, e = .returned (.tuple #[v, .bool b]) ∧ w'.ownsRow w.heap.size 3 1 v xs.length (xs.map (Value.int .i64)) ∧ Below w.heap.size w w'

def szL (n : Int) : List Int := (acR n).map fun r => ((varN r : Nat) : Int)

theorem nmInfoA : (Tryd.prog.info? 3).map (fun i => (i.zero, i.size, i.bytes)) = some (some (.int .i64 0), 1, 8) := by kernel_rfl

theorem varN_le {r : List UInt8} (h0 : 0 < r.length) (h40 : r.length ≤ 40) : varN r ≤ 160 := (vfold_le (four r) (fun x hx => by rw [four_len hx]; exact ⟨h0, h40⟩)).2

set_option maxRecDepth 100000 in
set_option maxHeartbeats 3200000 in
theorem spSizesOfClasses (n : Int) (w : World) : Calls Tryd.prog 36 #[.int .i64 n] w (NSPost (szL n) (acB n) w) := by
  obtain ⟨i0, hi, iz0, iz1, iz2⟩ := info_parts nmInfoA
  cases h : acB n
  · rw [szL, ac_no h]
    have h1 : inB n 1 12 = false := h
    go_enter Tryd.func36, Tryd.ntmps36
    go_wp2_with (go_at_call 63; refine (l1In_any _ _ _ _).mono ?_; rintro e w' ⟨rfl, rfl⟩)
    go_ret2
    exact ⟨_, rfl, World.ownsRow_nil _ _ _ _, by go_grown⟩
  · rw [szL, ac_yes h]
    have h1 : inB n 1 12 = true := h
    obtain ⟨m, rfl, h0, hm⟩ := ac_num h
    rw [Int.toNat_natCast]
    have P := Lib.hid (show ∀ w, Calls Tryd.prog 64 #[.int .i64 (m : Nat)] w fun e w' => ∃ v, e = .returned (.pointer (some ⟨w.heap.size, 0, none⟩)) ∧ FdAt w' w.heap.size m v (acL m) ∧ Below w.heap.size w w' from csAll_any m h0 hm)
    have hok := fun r (hr : r ∈ acL m) => ac_ok h0 hm hr
    have hle := acL_le hm
    generalize acL m = l at *
    obtain ⟨N, hN⟩ : ∃ N, l.length = N := ⟨_, rfl⟩
    have HN := Lib.hid hN
    have HOK := Lib.hid hok
    rw [hN] at hle
    clear hok hN
    go_enter Tryd.func36, Tryd.ntmps36
    go_wp2_with (go_at_call 63; refine (l1In_any _ _ _ _).mono ?_; rintro e w' ⟨rfl, rfl⟩)
    refine (P.out _).mono ?_
    rintro e w1 ⟨v, rfl, hF, hb⟩
    obtain ⟨c0, c1, _⟩ := hF.cells
    have hO := hF.2
    rw [HN.out] at hO
    obtain ⟨av, cv, rfl⟩ := own_formC hO
    have HOR := Lib.hid hO
    have HB := Lib.hid hb
    clear hF hb hO
    go_wp2_with fail
    go_loopw [4, 16] (fun t i wr => ∃ (j : Nat) (v : Value), j ≤ N ∧ i = .int .i64 j ∧ v = t ∧ wr.ownsRow w1.heap.size 3 1 v j (((l.take j).map fun r => ((varN r : Nat) : Int)).map (Value.int .i64)) ∧ Below w1.heap.size w1 wr) (fun _ i _ => N - (intOf i).toNat)
    case atStart => exact ⟨0, _, Nat.zero_le _, rfl, rfl, World.ownsRow_nil _ _ _ _, Below.refl _ _⟩
    case round =>
      obtain ⟨j, v, hj, rfl, rfl, hN, hb2⟩ := hrel
      have hz2 := hb2.size
      by_cases hlj : j < N
      · obtain ⟨r, hr⟩ : ∃ r, l[j]? = some r := ⟨_, List.getElem?_eq_getElem (by rw [HN.out]; exact hlj)⟩
        obtain ⟨h1, h2, _⟩ := HOK.out r (List.mem_of_getElem? hr)
        obtain ⟨g, rfl⟩ : ∃ g, av = some ⟨g, 0, none⟩ := by
          rcases HOR.out.2 with ⟨h, h0⟩ | ⟨g, cap, _, h, _⟩
          · omega
          · injection h with h; exact ⟨g, h⟩
        have c0 := (str_of HOR.out HN.out).below (HOR.out.lt g rfl).2 hb2 j r hr
        have CV := Lib.hid (csVariants_any r h2 (by omega))
        have hvb := varN_le (r := r) (by omega) (by omega)
        have HTK := Lib.hid (show ((l.take (j + 1)).map fun r => ((varN r : Nat) : Int)).map (Value.int .i64) = ((l.take j).map fun r => ((varN r : Nat) : Int)).map (Value.int .i64) ++ [.int .i64 ((varN r : Nat) : Int)] by
          rw [List.take_add_one, hr, List.map_append, List.map_append]; rfl)
        generalize varN r = q at *
        have HNN := Lib.hid hN
        have HB2 := Lib.hid hb2
        clear hr h1 h2 hN hb2
        go_wp2_with fail
        refine (CV.out _).mono ?_
        rintro e w2 ⟨rfl, hb3⟩
        have hz3 := hb3.size
        have HN3 := Lib.hid ((HNN.out.kept (below_grown hb3) (by cases v.ownBlock <;> simp)).alloc (.cells #[.int .i64 (q : Nat)] 3))
        have HB3 := Lib.hid ((HB2.out.trans (hb3.mono hz2)).alloc (Nat.le_trans hz2 hz3) (.cells #[.int .i64 (q : Nat)] 3))
        clear hb3
        go_wp2_with (at_builtin; refine wpList_append_own_at _ rfl _ _ 38 rfl w1.heap.size 3 i0 (.int .i64 0) 1 8 Tryd.underlying38 hi iz0 iz1 iz2 rfl (by decide) v _ _ rfl HN3.out ⟨w2.heap.size, 0, none⟩ 1 1 [.int .i64 (q : Nat)] rfl rfl (cell_one_new _ _ _) (by intro u hu; simp at hu; subst hu; rfl) (by unfold maxLen; omega) (by omega) (by simp; omega) ?_; intro v' w4 hown' hgrow hnil hloc)
        have hlt' := HN3.out.lt
        have HB8 := Lib.hid (HB3.out.grown hgrow (by simp; omega) (fun k hk => (hlt' k hk).1))
        have HO8 := Lib.hid hown'
        clear hlt' hgrow hown' hnil hloc
        go_roundw
        case rel => exact ⟨j + 1, v', by omega, by go_num, rfl, by rw [HTK.out]; exact HO8.out, HB8.out⟩
        case measure => simp [intOf]; omega
      · obtain rfl : j = N := by omega
        have hta : l.take j = l := List.take_of_length_le (by rw [HN.out]; exact Nat.le_refl _)
        rw [hta] at hN
        have HO := Lib.hid (own_lessP hN HB.out.size)
        have HB2 := Lib.hid (HB.out.trans (hb2.mono HB.out.size))
        obtain ⟨av', cv', rfl⟩ := own_formC hN
        clear hN hb2 hta
        go_wp2_with fail
        go_ret2
        exact ⟨_, rfl, by rw [List.length_map, HN.out]; exact HO.out, HB2.out⟩

end Go.Proofs.YtoenkgenoloihaaDoor

/- Contracts: the sizes of classes in the program; how many classes are their own mirrors or backs, on both sides. -/
namespace Go.Proofs.YtoenkgenoloihaaDoor
open Go.ChangeShapes Go.WideShapes Go.ChangeAt Go.RowKit Go.Sort

set_option linter.unusedVariables false

theorem acR_ok {n : Int} {r : List UInt8} (h : r ∈ acR n) : 0 < r.length ∧ r.length ≤ 12 ∧ tkB (ofL r) = true ∧ clB (ofL r) = true := by
  cases hb : acB n
  · rw [ac_no hb] at h; simp at h
  · obtain ⟨m, rfl, h0, hm⟩ := ac_num hb
    rw [ac_yes hb, Int.toNat_natCast] at h
    obtain ⟨h1, h2, h3⟩ := ac_ok h0 hm h
    exact ⟨by omega, by omega, h2, h3⟩

set_option maxRecDepth 100000 in
set_option maxHeartbeats 3200000 in
theorem imSizesOfClasses (n : Int) (w : World) : Calls Tryd.prog 37 #[.int .i64 n] w (NSPost (szL n) (acB n) w) := by
  obtain ⟨i0, hi, iz0, iz1, iz2⟩ := info_parts nmInfoA
  have hz := (zero_of_info (P := Tryd.prog) lpInfo).1
  obtain ⟨K, hK⟩ : ∃ K, K = 40 := ⟨_, rfl⟩
  have zE := zK hK
  have HK := Lib.hid hK
  have P := Lib.hid (imAllClasses n)
  have hok := fun r (hr : r ∈ acR n) => acR_ok hr
  have hle := AllClasses_len n
  rw [szL]
  generalize acR n = l at *
  generalize acB n = b at *
  obtain ⟨N, hN⟩ : ∃ N, l.length = N := ⟨_, rfl⟩
  have HN := Lib.hid hN
  have HOK := Lib.hid hok
  rw [hN] at hle
  clear hok hN hK
  go_enter Tryd.func37, Tryd.ntmps37
  go_wp2_with fail
  refine (P.out _).mono ?_
  rintro e w1 ⟨v, rfl, hO, hb⟩
  rw [HN.out] at hO
  obtain ⟨av, cv, rfl⟩ := own_formC hO
  have HOR := Lib.hid hO
  have HB := Lib.hid hb
  clear hb hO
  go_wp2_with fail
  go_loopw [6, 16] (fun t i wr => ∃ (j : Nat) (v : Value), j ≤ N ∧ i = .int .i64 j ∧ v = t ∧ wr.ownsRow w1.heap.size 3 1 v j (((l.take j).map fun r => ((varN r : Nat) : Int)).map (Value.int .i64)) ∧ Below w1.heap.size w1 wr) (fun _ i _ => N - (intOf i).toNat)
  case atStart => exact ⟨0, _, Nat.zero_le _, rfl, rfl, World.ownsRow_nil _ _ _ _, Below.refl _ _⟩
  case round =>
    obtain ⟨j, v, hj, rfl, rfl, hN, hb2⟩ := hrel
    have hz2 := hb2.size
    by_cases hlj : j < N
    · obtain ⟨r, hr⟩ : ∃ r, l[j]? = some r := ⟨_, List.getElem?_eq_getElem (by rw [HN.out]; exact hlj)⟩
      obtain ⟨h1, h1', h2, h3⟩ := HOK.out r (List.mem_of_getElem? hr)
      obtain ⟨g, rfl⟩ : ∃ g, av = some ⟨g, 0, none⟩ := by
        rcases HOR.out.2 with ⟨h, h0⟩ | ⟨g, cap, _, h, _⟩
        · omega
        · injection h with h; exact ⟨g, h⟩
      have c0 := (str_of HOR.out HN.out).below (HOR.out.lt g rfl).2 hb2 j r hr
      have LF := Lib.hid (fun W => loopFrom_any r (by omega) W)
      have VA := Lib.hid (fun W => variants_any r h2 h1 W)
      have VL := Lib.hid (fun V (h : IsVar r V) => h.len h1 (by omega))
      obtain ⟨y, hy⟩ : ∃ y, mkLp r = y := ⟨_, rfl⟩
      rw [hy] at LF VA
      have hAy := aK HK.out y
      have hvb := varN_le (r := r) h1 (by omega)
      have HTK := Lib.hid (show ((l.take (j + 1)).map fun r => ((varN r : Nat) : Int)).map (Value.int .i64) = ((l.take j).map fun r => ((varN r : Nat) : Int)).map (Value.int .i64) ++ [.int .i64 ((varN r : Nat) : Int)] by
        rw [List.take_add_one, hr, List.map_append, List.map_append]; rfl)
      generalize varN r = q at *
      have HNN := Lib.hid hN
      have HB2 := Lib.hid hb2
      clear hr h1 h1' h2 h3 hN hb2 hy
      go_wp2_with fail
      refine (LF.out _).mono ?_
      rintro e w2 ⟨rfl, hb3⟩
      have hz3 := hb3.size
      have HN3 := Lib.hid (HNN.out.kept (below_grown hb3) (by cases v.ownBlock <;> simp))
      have HB3 := Lib.hid (HB2.out.trans (hb3.mono hz2))
      clear hb3
      go_wp2_with fail
      refine (VA.out _).mono ?_
      rintro e w3 ⟨g2, cap2, V, rfl, hV, hR2, hg2w, hg2l, hb4⟩
      have hvl := VL.out V hV
      rw [hvl]
      have hz4 := hb4.size
      have HN4 := Lib.hid ((HN3.out.kept (below_grown hb4) (by cases v.ownBlock <;> simp)).alloc (.cells #[.int .i64 (q : Nat)] 3))
      have HB4 := Lib.hid ((HB3.out.trans (hb4.mono (by omega))).alloc (by omega) (.cells #[.int .i64 (q : Nat)] 3))
      clear hb4 hV hR2 hvl
      go_wp2_with (at_builtin; refine wpList_append_own_at _ rfl _ _ 38 rfl w1.heap.size 3 i0 (.int .i64 0) 1 8 Tryd.underlying38 hi iz0 iz1 iz2 rfl (by decide) v _ _ rfl HN4.out ⟨w3.heap.size, 0, none⟩ 1 1 [.int .i64 (q : Nat)] rfl rfl (cell_one_new _ _ _) (by intro u hu; simp at hu; subst hu; rfl) (by unfold maxLen; omega) (by omega) (by simp; omega) ?_; intro v' w4 hown' hgrow hnil hloc)
      have hlt' := HN4.out.lt
      have HB8 := Lib.hid (HB4.out.grown hgrow (by simp; omega) (fun k hk => (hlt' k hk).1))
      have HO8 := Lib.hid hown'
      clear hlt' hgrow hown' hnil hloc
      go_roundw
      case rel => exact ⟨j + 1, v', by omega, by go_num, rfl, by rw [HTK.out]; exact HO8.out, HB8.out⟩
      case measure => simp [intOf]; omega
    · obtain rfl : j = N := by omega
      have hta : l.take j = l := List.take_of_length_le (by rw [HN.out]; exact Nat.le_refl _)
      rw [hta] at hN
      have HO := Lib.hid (own_lessP hN HB.out.size)
      have HB2 := Lib.hid (HB.out.trans (hb2.mono HB.out.size))
      obtain ⟨av', cv', rfl⟩ := own_formC hN
      clear hN hb2 hta
      go_wp2_with fail
      go_ret2
      exact ⟨_, rfl, by rw [List.length_map, HN.out]; exact HO.out, HB2.out⟩

def omLB (r : List UInt8) : Bool := decide (leastL (r.map mir) = leastL r)

def omL (n : Int) : Int := (((acR n).countP omLB : Nat) : Int)

set_option maxRecDepth 100000 in
set_option maxHeartbeats 3200000 in
theorem spCountOwnMirror (n : Int) (w : World) : Calls Tryd.prog 41 #[.int .i64 n] w fun e w' => e = .returned (.tuple #[.int .i64 (omL n), .bool (acB n)]) ∧ Below w.heap.size w w' := by
  cases h : acB n
  · rw [omL, ac_no h]
    have h1 : inB n 1 12 = false := h
    go_enter Tryd.func41, Tryd.ntmps41
    go_wp2_with (go_at_call 63; refine (l1In_any _ _ _ _).mono ?_; rintro e w' ⟨rfl, rfl⟩)
    go_ret2
    exact ⟨rfl, by go_grown⟩
  · have h1 : inB n 1 12 = true := h
    have hok := fun r (hr : r ∈ acR n) => acR_ok hr
    rw [omL]
    rw [ac_yes h] at hok ⊢
    obtain ⟨m, rfl, h0, hm⟩ := ac_num h
    rw [Int.toNat_natCast] at hok ⊢
    have P := Lib.hid (show ∀ w, Calls Tryd.prog 64 #[.int .i64 (m : Nat)] w fun e w' => ∃ v, e = .returned (.pointer (some ⟨w.heap.size, 0, none⟩)) ∧ FdAt w' w.heap.size m v (acL m) ∧ Below w.heap.size w w' from csAll_any m h0 hm)
    have hle := acL_le hm
    generalize acL m = l at *
    obtain ⟨N, hN⟩ : ∃ N, l.length = N := ⟨_, rfl⟩
    have HN := Lib.hid hN
    have HOK := Lib.hid hok
    rw [hN] at hle
    clear hok hN
    go_enter Tryd.func41, Tryd.ntmps41
    go_wp2_with (go_at_call 63; refine (l1In_any _ _ _ _).mono ?_; rintro e w' ⟨rfl, rfl⟩)
    refine (P.out _).mono ?_
    rintro e w1 ⟨v, rfl, hF, hb⟩
    obtain ⟨c0, c1, _⟩ := hF.cells
    have hO := hF.2
    rw [HN.out] at hO
    obtain ⟨av, cv, rfl⟩ := own_formC hO
    have HOR := Lib.hid hO
    have HB := Lib.hid hb
    clear hF hb hO
    go_wp2_with fail
    go_loopw [4, 16] (fun t i wr => ∃ j : Nat, j ≤ N ∧ i = .int .i64 j ∧ t = .int .i64 ((((l.take j).countP omLB : Nat) : Int)) ∧ Below w1.heap.size w1 wr) (fun _ i _ => N - (intOf i).toNat)
    case atStart => exact ⟨0, Nat.zero_le _, rfl, rfl, Below.refl _ _⟩
    case round =>
      obtain ⟨j, hj, rfl, rfl, hb2⟩ := hrel
      have hz2 := hb2.size
      have hcl : (l.take j).countP omLB ≤ j := Nat.le_trans List.countP_le_length (List.length_take_le _ _)
      by_cases hlj : j < N
      · obtain ⟨r, hr⟩ : ∃ r, l[j]? = some r := ⟨_, List.getElem?_eq_getElem (by rw [HN.out]; exact hlj)⟩
        obtain ⟨h1, h1', h2, h3⟩ := HOK.out r (List.mem_of_getElem? hr)
        obtain ⟨g, rfl⟩ : ∃ g, av = some ⟨g, 0, none⟩ := by
          rcases HOR.out.2 with ⟨h, h0⟩ | ⟨g, cap, _, h, _⟩
          · omega
          · injection h with h; exact ⟨g, h⟩
        have c0 := (str_of HOR.out HN.out).below (HOR.out.lt g rfl).2 hb2 j r hr
        have HTK := Lib.hid (show (l.take (j + 1)).countP omLB = (l.take j).countP omLB + (if omLB r then 1 else 0) by rw [List.take_add_one, hr, List.countP_append]; simp [List.countP_cons])
        generalize (l.take j).countP omLB = q at *
        have hM := fun W => tkMirror_any (ofL r) (by rw [ofL_size]; omega) W
        rw [miS_of] at hM
        have hL1 := fun W => csLeast_any (r.map mir) (tk_mir h2) W
        have hL2 := fun W => csLeast_any r h2 W
        have he := eq_text (leastL (r.map mir)) (leastL r)
        have hrb : decide (leastL (r.map mir) = leastL r) = omLB r := rfl
        rw [hrb] at he
        generalize omLB r = rb at *
        generalize ofL (leastL r) = A at *
        generalize ofL (leastL (r.map mir)) = B at *
        generalize ofL (r.map mir) = s2 at *
        generalize ofL r = s1 at *
        have HM := Lib.hid hM
        have HL1 := Lib.hid hL1
        have HL2 := Lib.hid hL2
        have HB2 := Lib.hid hb2
        clear hM hL1 hL2 hr h1 h1' h2 h3 hb2
        cases rb
        all_goals
          go_wp2_with fail
          refine (HM.out _).mono ?_
          rintro e w' ⟨rfl, rfl⟩
          go_wp2_with fail
          refine (HL1.out _).mono ?_
          rintro e w2 ⟨rfl, hb3⟩
          have HB3 := Lib.hid (HB2.out.trans (hb3.mono hz2))
          have hz3 := hb3.size
          clear hb3
          go_wp2_with fail
          refine (HL2.out _).mono ?_
          rintro e w3 ⟨rfl, hb4⟩
          have HB4 := Lib.hid (HB3.out.trans (hb4.mono (by omega)))
          clear hb4
          go_wp2_with fail
          go_roundw
          case rel => exact ⟨j + 1, by omega, by go_num, by rw [HTK.out]; first | rfl | go_num, HB4.out⟩
          case measure => simp [intOf]; omega
      · obtain rfl : j = N := by omega
        have hta : l.take j = l := List.take_of_length_le (by rw [HN.out]; exact Nat.le_refl _)
        rw [hta] at hcl ⊢
        have HB2 := Lib.hid (HB.out.trans (hb2.mono HB.out.size))
        obtain ⟨q, hq⟩ : ∃ q, l.countP omLB = q := ⟨_, rfl⟩
        have HQ := Lib.hid hq
        rw [hq] at hcl ⊢
        clear hb2 hta hq
        go_wp2_with fail
        go_ret2
        exact ⟨by rw [HQ.out]; rfl, HB2.out⟩

set_option maxRecDepth 100000 in
set_option maxHeartbeats 3200000 in
theorem imThatMirror (n : Int) (w : World) : Calls Tryd.prog 69 #[.int .i64 n, .func (.func 24) #[] #[]] w fun e w' => e = .returned (.tuple #[.int .i64 (omL n), .bool (acB n)]) ∧ Below w.heap.size w w' := by
  have P := Lib.hid (imAllClasses n)
  have hok := fun r (hr : r ∈ acR n) => acR_ok hr
  have hle := AllClasses_len n
  rw [omL]
  generalize acR n = l at *
  generalize acB n = b at *
  obtain ⟨N, hN⟩ : ∃ N, l.length = N := ⟨_, rfl⟩
  have HN := Lib.hid hN
  have HOK := Lib.hid hok
  rw [hN] at hle
  clear hok hN
  go_enter Tryd.func69, Tryd.ntmps69
  go_wp2_with fail
  refine (P.out _).mono ?_
  rintro e w1 ⟨v, rfl, hO, hb⟩
  rw [HN.out] at hO
  obtain ⟨av, cv, rfl⟩ := own_formC hO
  have HOR := Lib.hid hO
  have HB := Lib.hid hb
  clear hb hO
  go_wp2_with fail
  go_loopw [8, 20] (fun t i wr => ∃ j : Nat, j ≤ N ∧ i = .int .i64 j ∧ t = .int .i64 ((((l.take j).countP omLB : Nat) : Int)) ∧ Below w1.heap.size w1 wr) (fun _ i _ => N - (intOf i).toNat)
  case atStart => exact ⟨0, Nat.zero_le _, rfl, rfl, Below.refl _ _⟩
  case round =>
    obtain ⟨j, hj, rfl, rfl, hb2⟩ := hrel
    have hz2 := hb2.size
    have hcl : (l.take j).countP omLB ≤ j := Nat.le_trans List.countP_le_length (List.length_take_le _ _)
    by_cases hlj : j < N
    · obtain ⟨r, hr⟩ : ∃ r, l[j]? = some r := ⟨_, List.getElem?_eq_getElem (by rw [HN.out]; exact hlj)⟩
      obtain ⟨h1, h1', h2, h3⟩ := HOK.out r (List.mem_of_getElem? hr)
      obtain ⟨g, rfl⟩ : ∃ g, av = some ⟨g, 0, none⟩ := by
        rcases HOR.out.2 with ⟨h, h0⟩ | ⟨g, cap, _, h, _⟩
        · omega
        · injection h with h; exact ⟨g, h⟩
      have c0 := (str_of HOR.out HN.out).below (HOR.out.lt g rfl).2 hb2 j r hr
      have HTK := Lib.hid (show (l.take (j + 1)).countP omLB = (l.take j).countP omLB + (if omLB r then 1 else 0) by rw [List.take_add_one, hr, List.countP_append]; simp [List.countP_cons])
      generalize (l.take j).countP omLB = q at *
      have hI := fun W => imIsOwnMirror (ofL r) (by rw [ofL_size]; omega) W
      rw [om_yes h3, h3] at hI
      have hI2 := Lib.hid (show ∀ W, Calls Tryd.prog 24 #[.string (ofL r)] W fun e w' => e = .returned (.tuple #[.bool (omLB r), .bool true]) ∧ Below W.heap.size W w' from hI)
      generalize omLB r = rb at *
      generalize ofL r = s1 at *
      have HB2 := Lib.hid hb2
      clear hI hr h1 h1' h2 h3 hb2
      cases rb
      all_goals
        go_wp2_with fail
        refine (hI2.out _).mono ?_
        rintro e w2 ⟨rfl, hb3⟩
        have HB3 := Lib.hid (HB2.out.trans (hb3.mono hz2))
        clear hb3
        go_wp2_with fail
        go_roundw
        case rel => exact ⟨j + 1, by omega, by go_num, by rw [HTK.out]; first | rfl | go_num, HB3.out⟩
        case measure => simp [intOf]; omega
    · obtain rfl : j = N := by omega
      have hta : l.take j = l := List.take_of_length_le (by rw [HN.out]; exact Nat.le_refl _)
      rw [hta] at hcl ⊢
      have HB2 := Lib.hid (HB.out.trans (hb2.mono HB.out.size))
      obtain ⟨q, hq⟩ : ∃ q, l.countP omLB = q := ⟨_, rfl⟩
      have HQ := Lib.hid hq
      rw [hq] at hcl ⊢
      clear hb2 hta hq
      go_wp2_with fail
      go_ret2
      exact ⟨by rw [HQ.out]; rfl, HB2.out⟩

set_option maxRecDepth 100000 in
theorem imCountOwnMirror (n : Int) (w : World) : Calls Tryd.prog 42 #[.int .i64 n] w fun e w' => e = .returned (.tuple #[.int .i64 (omL n), .bool (acB n)]) ∧ Below w.heap.size w w' := by
  have P := Lib.hid (imThatMirror n)
  go_enter Tryd.func42, Tryd.ntmps42
  go_wp2_with fail
  refine (P.out _).mono ?_
  rintro e w1 ⟨rfl, hb⟩
  go_wp2_with fail
  go_ret2
  exact ⟨rfl, hb⟩

def obLB (r : List UInt8) : Bool := decide (leastL (bak r) = leastL r)

def obL (n : Int) : Int := (((acR n).countP obLB : Nat) : Int)

set_option maxRecDepth 100000 in
set_option maxHeartbeats 3200000 in
theorem spCountOwnBack (n : Int) (w : World) : Calls Tryd.prog 43 #[.int .i64 n] w fun e w' => e = .returned (.tuple #[.int .i64 (obL n), .bool (acB n)]) ∧ Below w.heap.size w w' := by
  cases h : acB n
  · rw [obL, ac_no h]
    have h1 : inB n 1 12 = false := h
    go_enter Tryd.func43, Tryd.ntmps43
    go_wp2_with (go_at_call 63; refine (l1In_any _ _ _ _).mono ?_; rintro e w' ⟨rfl, rfl⟩)
    go_ret2
    exact ⟨rfl, by go_grown⟩
  · have h1 : inB n 1 12 = true := h
    have hok := fun r (hr : r ∈ acR n) => acR_ok hr
    rw [obL]
    rw [ac_yes h] at hok ⊢
    obtain ⟨m, rfl, h0, hm⟩ := ac_num h
    rw [Int.toNat_natCast] at hok ⊢
    have P := Lib.hid (show ∀ w, Calls Tryd.prog 64 #[.int .i64 (m : Nat)] w fun e w' => ∃ v, e = .returned (.pointer (some ⟨w.heap.size, 0, none⟩)) ∧ FdAt w' w.heap.size m v (acL m) ∧ Below w.heap.size w w' from csAll_any m h0 hm)
    have hle := acL_le hm
    generalize acL m = l at *
    obtain ⟨N, hN⟩ : ∃ N, l.length = N := ⟨_, rfl⟩
    have HN := Lib.hid hN
    have HOK := Lib.hid hok
    rw [hN] at hle
    clear hok hN
    go_enter Tryd.func43, Tryd.ntmps43
    go_wp2_with (go_at_call 63; refine (l1In_any _ _ _ _).mono ?_; rintro e w' ⟨rfl, rfl⟩)
    refine (P.out _).mono ?_
    rintro e w1 ⟨v, rfl, hF, hb⟩
    obtain ⟨c0, c1, _⟩ := hF.cells
    have hO := hF.2
    rw [HN.out] at hO
    obtain ⟨av, cv, rfl⟩ := own_formC hO
    have HOR := Lib.hid hO
    have HB := Lib.hid hb
    clear hF hb hO
    go_wp2_with fail
    go_loopw [4, 16] (fun t i wr => ∃ j : Nat, j ≤ N ∧ i = .int .i64 j ∧ t = .int .i64 ((((l.take j).countP obLB : Nat) : Int)) ∧ Below w1.heap.size w1 wr) (fun _ i _ => N - (intOf i).toNat)
    case atStart => exact ⟨0, Nat.zero_le _, rfl, rfl, Below.refl _ _⟩
    case round =>
      obtain ⟨j, hj, rfl, rfl, hb2⟩ := hrel
      have hz2 := hb2.size
      have hcl : (l.take j).countP obLB ≤ j := Nat.le_trans List.countP_le_length (List.length_take_le _ _)
      by_cases hlj : j < N
      · obtain ⟨r, hr⟩ : ∃ r, l[j]? = some r := ⟨_, List.getElem?_eq_getElem (by rw [HN.out]; exact hlj)⟩
        obtain ⟨h1, h1', h2, h3⟩ := HOK.out r (List.mem_of_getElem? hr)
        obtain ⟨g, rfl⟩ : ∃ g, av = some ⟨g, 0, none⟩ := by
          rcases HOR.out.2 with ⟨h, h0⟩ | ⟨g, cap, _, h, _⟩
          · omega
          · injection h with h; exact ⟨g, h⟩
        have c0 := (str_of HOR.out HN.out).below (HOR.out.lt g rfl).2 hb2 j r hr
        have HTK := Lib.hid (show (l.take (j + 1)).countP obLB = (l.take j).countP obLB + (if obLB r then 1 else 0) by rw [List.take_add_one, hr, List.countP_append]; simp [List.countP_cons])
        generalize (l.take j).countP obLB = q at *
        have hM := fun W => tkBack_any (ofL r) (by rw [ofL_size]; omega) W
        rw [baS_of] at hM
        have hL1 := fun W => csLeast_any (bak r) (tk_bak h2) W
        have hL2 := fun W => csLeast_any r h2 W
        have he := eq_text (leastL (bak r)) (leastL r)
        have hrb : decide (leastL (bak r) = leastL r) = obLB r := rfl
        rw [hrb] at he
        generalize obLB r = rb at *
        generalize ofL (leastL r) = A at *
        generalize ofL (leastL (bak r)) = B at *
        generalize ofL (bak r) = s2 at *
        generalize ofL r = s1 at *
        have HM := Lib.hid hM
        have HL1 := Lib.hid hL1
        have HL2 := Lib.hid hL2
        have HB2 := Lib.hid hb2
        clear hM hL1 hL2 hr h1 h1' h2 h3 hb2
        cases rb
        all_goals
          go_wp2_with fail
          refine (HM.out _).mono ?_
          rintro e w' ⟨rfl, rfl⟩
          go_wp2_with fail
          refine (HL1.out _).mono ?_
          rintro e w2 ⟨rfl, hb3⟩
          have HB3 := Lib.hid (HB2.out.trans (hb3.mono hz2))
          have hz3 := hb3.size
          clear hb3
          go_wp2_with fail
          refine (HL2.out _).mono ?_
          rintro e w3 ⟨rfl, hb4⟩
          have HB4 := Lib.hid (HB3.out.trans (hb4.mono (by omega)))
          clear hb4
          go_wp2_with fail
          go_roundw
          case rel => exact ⟨j + 1, by omega, by go_num, by rw [HTK.out]; first | rfl | go_num, HB4.out⟩
          case measure => simp [intOf]; omega
      · obtain rfl : j = N := by omega
        have hta : l.take j = l := List.take_of_length_le (by rw [HN.out]; exact Nat.le_refl _)
        rw [hta] at hcl ⊢
        have HB2 := Lib.hid (HB.out.trans (hb2.mono HB.out.size))
        obtain ⟨q, hq⟩ : ∃ q, l.countP obLB = q := ⟨_, rfl⟩
        have HQ := Lib.hid hq
        rw [hq] at hcl ⊢
        clear hb2 hta hq
        go_wp2_with fail
        go_ret2
        exact ⟨by rw [HQ.out]; rfl, HB2.out⟩

set_option maxRecDepth 100000 in
set_option maxHeartbeats 3200000 in
theorem imThatBack (n : Int) (w : World) : Calls Tryd.prog 69 #[.int .i64 n, .func (.func 26) #[] #[]] w fun e w' => e = .returned (.tuple #[.int .i64 (obL n), .bool (acB n)]) ∧ Below w.heap.size w w' := by
  have P := Lib.hid (imAllClasses n)
  have hok := fun r (hr : r ∈ acR n) => acR_ok hr
  have hle := AllClasses_len n
  rw [obL]
  generalize acR n = l at *
  generalize acB n = b at *
  obtain ⟨N, hN⟩ : ∃ N, l.length = N := ⟨_, rfl⟩
  have HN := Lib.hid hN
  have HOK := Lib.hid hok
  rw [hN] at hle
  clear hok hN
  go_enter Tryd.func69, Tryd.ntmps69
  go_wp2_with fail
  refine (P.out _).mono ?_
  rintro e w1 ⟨v, rfl, hO, hb⟩
  rw [HN.out] at hO
  obtain ⟨av, cv, rfl⟩ := own_formC hO
  have HOR := Lib.hid hO
  have HB := Lib.hid hb
  clear hb hO
  go_wp2_with fail
  go_loopw [8, 20] (fun t i wr => ∃ j : Nat, j ≤ N ∧ i = .int .i64 j ∧ t = .int .i64 ((((l.take j).countP obLB : Nat) : Int)) ∧ Below w1.heap.size w1 wr) (fun _ i _ => N - (intOf i).toNat)
  case atStart => exact ⟨0, Nat.zero_le _, rfl, rfl, Below.refl _ _⟩
  case round =>
    obtain ⟨j, hj, rfl, rfl, hb2⟩ := hrel
    have hz2 := hb2.size
    have hcl : (l.take j).countP obLB ≤ j := Nat.le_trans List.countP_le_length (List.length_take_le _ _)
    by_cases hlj : j < N
    · obtain ⟨r, hr⟩ : ∃ r, l[j]? = some r := ⟨_, List.getElem?_eq_getElem (by rw [HN.out]; exact hlj)⟩
      obtain ⟨h1, h1', h2, h3⟩ := HOK.out r (List.mem_of_getElem? hr)
      obtain ⟨g, rfl⟩ : ∃ g, av = some ⟨g, 0, none⟩ := by
        rcases HOR.out.2 with ⟨h, h0⟩ | ⟨g, cap, _, h, _⟩
        · omega
        · injection h with h; exact ⟨g, h⟩
      have c0 := (str_of HOR.out HN.out).below (HOR.out.lt g rfl).2 hb2 j r hr
      have HTK := Lib.hid (show (l.take (j + 1)).countP obLB = (l.take j).countP obLB + (if obLB r then 1 else 0) by rw [List.take_add_one, hr, List.countP_append]; simp [List.countP_cons])
      generalize (l.take j).countP obLB = q at *
      have hI := fun W => imIsOwnBack (ofL r) (by rw [ofL_size]; omega) W
      rw [ob_yes h3, h3] at hI
      have hI2 := Lib.hid (show ∀ W, Calls Tryd.prog 26 #[.string (ofL r)] W fun e w' => e = .returned (.tuple #[.bool (obLB r), .bool true]) ∧ Below W.heap.size W w' from hI)
      generalize obLB r = rb at *
      generalize ofL r = s1 at *
      have HB2 := Lib.hid hb2
      clear hI hr h1 h1' h2 h3 hb2
      cases rb
      all_goals
        go_wp2_with fail
        refine (hI2.out _).mono ?_
        rintro e w2 ⟨rfl, hb3⟩
        have HB3 := Lib.hid (HB2.out.trans (hb3.mono hz2))
        clear hb3
        go_wp2_with fail
        go_roundw
        case rel => exact ⟨j + 1, by omega, by go_num, by rw [HTK.out]; first | rfl | go_num, HB3.out⟩
        case measure => simp [intOf]; omega
    · obtain rfl : j = N := by omega
      have hta : l.take j = l := List.take_of_length_le (by rw [HN.out]; exact Nat.le_refl _)
      rw [hta] at hcl ⊢
      have HB2 := Lib.hid (HB.out.trans (hb2.mono HB.out.size))
      obtain ⟨q, hq⟩ : ∃ q, l.countP obLB = q := ⟨_, rfl⟩
      have HQ := Lib.hid hq
      rw [hq] at hcl ⊢
      clear hb2 hta hq
      go_wp2_with fail
      go_ret2
      exact ⟨by rw [HQ.out]; rfl, HB2.out⟩

set_option maxRecDepth 100000 in
theorem imCountOwnBack (n : Int) (w : World) : Calls Tryd.prog 44 #[.int .i64 n] w fun e w' => e = .returned (.tuple #[.int .i64 (obL n), .bool (acB n)]) ∧ Below w.heap.size w w' := by
  have P := Lib.hid (imThatBack n)
  go_enter Tryd.func44, Tryd.ntmps44
  go_wp2_with fail
  refine (P.out _).mono ?_
  rintro e w1 ⟨rfl, hb⟩
  go_wp2_with fail
  go_ret2
  exact ⟨rfl, hb⟩

end Go.Proofs.YtoenkgenoloihaaDoor
