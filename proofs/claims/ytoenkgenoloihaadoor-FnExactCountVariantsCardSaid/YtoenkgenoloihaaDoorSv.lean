/- Contracts of the model: how many variants a ring has. -/
import Derived.Test.YtoenkgenoloihaaDoorVaM
import Derived.Test.YtoenkgenoloihaaDoorRl
import Derived.Maps.AppendAt
namespace Go.Proofs.YtoenkgenoloihaaDoor
open Go.ChangeShapes Go.WideShapes Go.ChangeAt Go.RowKit

set_option linter.unusedVariables false

def scV (F : List (List UInt8)) : List Value := F.map fun x => Value.string (ofL x)

theorem eq_text (x y : List UInt8) : ((ofL x).toList == (ofL y).toList) = decide (x = y) := by
  rw [ByteArray.toList_eq, ByteArray.toList_eq]
  exact (show (x == y) = decide (x = y) by by_cases h : x = y <;> simp [h])

theorem scInfo : (Tryd.prog.info? 9).map (fun i => (i.zero, i.size, i.bytes)) = some (some (.string ByteArray.empty), 1, 16) := by kernel_rfl

theorem own_formS {W : World} {B n size : Nat} {e : TypeId} {v : Value} {xs : List Value} (h : W.ownsRow B e size v n xs) : ∃ av cv, v = .slice av n cv := by
  rcases h.2 with ⟨h, h0⟩ | ⟨g, cap, cur, h, _⟩
  · exact ⟨none, 0, by rw [h, h0]⟩
  · exact ⟨_, _, h⟩

theorem own_cellS {W : World} {B n cap : Nat} {e : TypeId} {av : Option Addr} {F : List (List UInt8)} (h : W.ownsRow B e 1 (.slice av n cap) n (scV F)) {k : Nat} {x : List UInt8} (hx : F[k]? = some x) : ∃ g, av = some ⟨g, 0, none⟩ ∧ W.cell? ⟨g, k, none⟩ = some (.string (ofL x)) ∧ k < n := by
  have hl := h.1
  have hk := (List.getElem?_eq_some_iff.1 hx).1
  simp only [scV, List.length_map, Nat.mul_one] at hl
  rcases h.2 with ⟨h1, h0⟩ | ⟨g, cap', cur, h1, h2⟩
  · omega
  · injection h1 with h1 _ h3
    subst h1; subst h3
    refine ⟨g, rfl, ?_, by omega⟩
    rw [h.cellAt k (by omega)]
    simp [scV, hx]

set_option maxRecDepth 100000 in
set_option maxHeartbeats 800000 in
theorem l1HasS_any (F : List (List UInt8)) (f : List UInt8) (B n cap : Nat) (e0 : TypeId) (av : Option Addr) (hn : F.length = n) (hb5 : n ≤ 5000) (w : World) (ho : w.ownsRow B e0 1 (.slice av n cap) n (scV F)) :
    Calls Tryd.prog 77 #[.slice av n cap, .string (ofL f)] w fun e w' => e = .returned (.bool (decide (f ∈ F))) ∧ w = w' := by
  have HO := Lib.hid ho
  have HN := Lib.hid hn
  clear ho hn
  go_enter Tryd.func77, Tryd.ntmps77
  go_wp2_with fail
  go_loopw [9] (fun i wr => ∃ k : Nat, k ≤ n ∧ i = .int .i64 k ∧ wr = w ∧ ∀ x ∈ F.take k, x ≠ f) (fun i _ => n - (intOf i).toNat)
  case atStart => exact ⟨0, Nat.zero_le _, rfl, rfl, by simp⟩
  case round =>
    obtain ⟨k, hk, rfl, rfl, hno⟩ := hrel
    have HNO := Lib.hid hno
    clear hno
    have i1 : (0 : Int) ≤ (k : Int) := by omega
    by_cases hlt : k < n
    · obtain ⟨x, hx⟩ : ∃ x, F[k]? = some x := ⟨_, List.getElem?_eq_getElem (by rw [HN.out]; exact hlt)⟩
      obtain ⟨g, rfl, c0, _⟩ := own_cellS HO.out hx
      have i2 : (k : Int) < (n : Int) := by omega
      have HX := Lib.hid hx
      have he := eq_text x f
      clear hx
      by_cases hv : x = f
      · have HM := Lib.hid (show decide (f ∈ F) = true from decide_eq_true (hv ▸ List.mem_of_getElem? HX.out))
        rw [decide_eq_true hv] at he
        clear hv
        generalize ofL x = X at *
        generalize ofL f = Y at *
        go_wp2_with fail
        go_ret
        exact ⟨by rw [HM.out]; rfl, rfl⟩
      · have HV := Lib.hid hv
        rw [decide_eq_false hv] at he
        clear hv
        generalize ofL x = X at *
        generalize ofL f = Y at *
        go_wp2_with fail
        go_roundw
        case rel => exact ⟨k + 1, by omega, by go_num, by trivial, fun y hy => by
          rw [List.take_add_one, HX.out] at hy
          rcases List.mem_append.1 hy with h | h
          · exact HNO.out y h
          · have : y = x := by simpa using h
            rw [this]; exact HV.out⟩
        case measure => simp [intOf]; omega
    · obtain rfl : k = n := by omega
      have HM := Lib.hid (show decide (f ∈ F) = false from decide_eq_false fun h => HNO.out f (by rw [List.take_of_length_le (by rw [HN.out]; exact Nat.le_refl _)]; exact h) rfl)
      go_wp2_with fail
      go_ret
      exact ⟨by rw [HM.out]; rfl, rfl⟩

theorem vfold_go : ∀ (X : List (List UInt8)) (s : List (List UInt8) × Nat), (∀ x ∈ X, 0 < x.length ∧ x.length ≤ 40) → (X.foldl vstep s).1.length ≤ s.1.length + X.length ∧ (X.foldl vstep s).2 ≤ s.2 + 40 * X.length
  | [], s, _ => by simp
  | x :: X, s, h => by
    have ih := vfold_go X (vstep s x) (fun y hy => h y (by simp [hy]))
    have hx := h x (by simp)
    have hp := per_le hx.1
    have hs : (vstep s x).1.length ≤ s.1.length + 1 ∧ (vstep s x).2 ≤ s.2 + 40 := by
      unfold vstep
      split
      · omega
      · simp only [List.length_append, List.length_singleton]; omega
    simp only [List.foldl_cons, List.length_cons]
    omega

theorem vfold_le (X : List (List UInt8)) (h : ∀ x ∈ X, 0 < x.length ∧ x.length ≤ 40) : (vfold X).1.length ≤ X.length ∧ (vfold X).2 ≤ 40 * X.length := by
  have := vfold_go X ([], 0) h
  simpa [vfold] using this

set_option maxRecDepth 100000 in
set_option maxHeartbeats 1600000 in
theorem csVariants_any (l : List UInt8) (ht : tkB (ofL l) = true) (h0 : 0 < l.length) (w : World) :
    Calls Tryd.prog 56 #[.string (ofL l)] w fun e w' => e = .returned (.int .i64 (varN l : Nat)) ∧ Below w.heap.size w w' := by
  obtain ⟨i0, hi, iz0, iz1, iz2⟩ := info_parts scInfo
  have FR := Lib.hid (csFour_any l (tk_le ht))
  have LS := Lib.hid (fun x (hx : x ∈ four l) (W : World) => csLeast_any x (four_tk ht x hx) W)
  have PS := Lib.hid (fun x (hx : x ∈ four l) (W : World) => csPeriod_any x (tk_le (four_tk ht x hx)) (by rw [four_len hx]; exact h0) W)
  have HLE := Lib.hid (fun k => vfold_le ((four l).take k) (fun x hx => ⟨by rw [four_len (List.mem_of_mem_take hx)]; exact h0, by rw [four_len (List.mem_of_mem_take hx)]; exact tk_le ht⟩))
  have HPL := Lib.hid (fun x (hx : x ∈ four l) => show perN x ≤ 40 by have h1 := per_le (l := x) (by rw [four_len hx]; exact h0); have h2 := four_len hx; have h3 := tk_le ht; omega)
  go_enter Tryd.func56, Tryd.ntmps56
  go_wp2_with fail
  refine (FR.out _).mono ?_
  rintro e w1 ⟨rfl, rfl⟩
  go_wp2_with fail
  go_loopw [3, 4, 11] (fun t m i wr => ∃ (k : Nat) (v : Value), k ≤ 4 ∧ i = .int .i64 k ∧ m = .int .i64 ((vfold ((four l).take k)).2 : Nat) ∧ v = t ∧ wr.ownsRow (w.heap.size + 1) 9 1 v (vfold ((four l).take k)).1.length (scV (vfold ((four l).take k)).1) ∧ wr.heap[w.heap.size]? = some (.cells #[.string (ofL l), .string (ofL (l.map mir)), .string (ofL (bak l)), .string (ofL ((bak l).map mir))] 9 (0, 0)) ∧ Below w.heap.size w wr) (fun _ _ i _ => 4 - (intOf i).toNat)
  case atStart => exact ⟨0, _, by omega, rfl, rfl, rfl, World.ownsRow_nil _ _ _ _, heap_alloc_last w _, by go_grown⟩
  case round =>
    obtain ⟨k, v, hk, rfl, rfl, rfl, ho, hblk, hb⟩ := hrel
    have hzl : w.heap.size < wr.heap.size := (Array.getElem?_eq_some_iff.1 hblk).1
    by_cases hlt : k < 4
    · obtain ⟨x, hx⟩ : ∃ x, (four l)[k]? = some x := ⟨_, List.getElem?_eq_getElem (by simpa [four] using hlt)⟩
      have hxm := List.mem_of_getElem? hx
      have c0 : wr.cell? ⟨w.heap.size, k, none⟩ = some (.string (ofL x)) := four_at hblk k _ (by
        rw [show [Value.string (ofL l), Value.string (ofL (l.map mir)), Value.string (ofL (bak l)), Value.string (ofL ((bak l).map mir))] = (four l).map (fun y => Value.string (ofL y)) from rfl, List.getElem?_map, hx]
        rfl)
      have SP := Lib.hid (LS.out x hxm)
      have SQ := Lib.hid (PS.out x hxm)
      have hpl := HPL.out x hxm
      have hle := HLE.out k
      have hnx : vfold ((four l).take (k + 1)) = vstep (vfold ((four l).take k)) x := by
        rw [List.take_add_one, hx]
        exact vfold_snoc _ _
      rw [List.length_take, show (four l).length = 4 from rfl] at hle
      generalize vfold ((four l).take k) = P at ho hle hnx ⊢
      obtain ⟨F, m⟩ := P
      simp only at ho hle hnx ⊢
      have hnx2 : vfold ((four l).take (k + 1)) = (if leastL x ∈ F then (F, m) else (F ++ [leastL x], m + perN x)) := hnx
      clear hnx
      obtain ⟨av, cv, rfl⟩ := own_formS ho
      obtain ⟨fn, hfn⟩ : ∃ fn, F.length = fn := ⟨_, rfl⟩
      rw [hfn] at ho hle ⊢
      have HFN := Lib.hid hfn
      have HO := Lib.hid ho
      have HBK := Lib.hid hblk
      have HB := Lib.hid hb
      have i1 : (0 : Int) ≤ (k : Int) := by omega
      have i2 : (k : Int) < 4 := by omega
      generalize leastL x = y at *
      clear hx hxm ho hblk hb hfn
      by_cases hyf : y ∈ F
      · have HM := Lib.hid (show decide (y ∈ F) = true from decide_eq_true hyf)
        have HNX := Lib.hid (show vfold ((four l).take (k + 1)) = (F, m) by rw [hnx2, if_pos hyf])
        clear hnx2 hyf
        go_wp2_with fail
        refine (SP.out _).mono ?_
        rintro e w2 ⟨rfl, hb2⟩
        have HO2 := Lib.hid (HO.out.kept (bgr hb2) (by cases (Value.slice av fn cv).ownBlock <;> simp))
        have HBK2 := Lib.hid ((hb2.block w.heap.size hzl).trans HBK.out)
        have HB2 := Lib.hid (HB.out.trans (hb2.mono HB.out.size))
        clear hb2
        go_wp2_with fail
        refine (l1HasS_any F _ (w.heap.size + 1) fn cv 9 av HFN.out (by omega) _ HO2.out).mono ?_
        rintro e w3 ⟨rfl, rfl⟩
        rw [HM.out]
        go_wp2_with fail
        go_roundw
        case rel => exact ⟨k + 1, .slice av fn cv, by omega, by go_num, by rw [HNX.out], rfl, by rw [HNX.out]; show World.ownsRow _ _ _ _ _ F.length _; rw [HFN.out]; exact HO2.out, HBK2.out, HB2.out⟩
        case measure => simp [intOf]; omega
      · have HM := Lib.hid (show decide (y ∈ F) = false from decide_eq_false hyf)
        have HNX := Lib.hid (show vfold ((four l).take (k + 1)) = (F ++ [y], m + perN x) by rw [hnx2, if_neg hyf])
        have HSC := Lib.hid (show scV (F ++ [y]) = scV F ++ [.string (ofL y)] by simp [scV])
        clear hnx2 hyf
        generalize perN x = p at *
        generalize ofL x = X at *
        go_wp2_with fail
        refine (SP.out _).mono ?_
        rintro e w2 ⟨rfl, hb2⟩
        have hz2 := hb2.size
        have HO2 := Lib.hid (HO.out.kept (bgr hb2) (by cases (Value.slice av fn cv).ownBlock <;> simp))
        have HBK2 := Lib.hid ((hb2.block w.heap.size hzl).trans HBK.out)
        have HB2 := Lib.hid (HB.out.trans (hb2.mono HB.out.size))
        clear hb2
        go_wp2_with fail
        refine (l1HasS_any F _ (w.heap.size + 1) fn cv 9 av HFN.out (by omega) _ HO2.out).mono ?_
        rintro e w3 ⟨rfl, rfl⟩
        rw [HM.out]
        have HO3 := Lib.hid (HO2.out.alloc (.cells #[.string (ofL y)] 9))
        have HB3 := Lib.hid (HB2.out.alloc (Nat.le_trans (Nat.le_of_lt hzl) hz2) (.cells #[.string (ofL y)] 9))
        have HBK3 := Lib.hid ((Below.heap_alloc w2 (.cells #[.string (ofL y)] 9) _ (by omega)).trans HBK2.out)
        go_wp2_with (at_builtin; refine wpList_append_own_at _ rfl _ _ 31 rfl (w.heap.size + 1) 9 i0 (.string ByteArray.empty) 1 16 Tryd.underlying31 hi iz0 iz1 iz2 rfl (by decide) (.slice av fn cv) _ _ rfl HO3.out ⟨w2.heap.size, 0, none⟩ 1 1 [.string (ofL y)] rfl rfl (cell_one_new _ _ _) (by intro u hu; simp at hu; subst hu; rfl) (by unfold maxLen; omega) (by omega) (by simp; omega) ?_; intro v' w3 hown' hgrow hnil hloc)
        have hlt' := HO3.out.lt
        have HB8 := Lib.hid (HB3.out.grown hgrow (by simp; omega) (fun k hk => Nat.le_of_succ_le (hlt' k hk).1))
        have HK8 := Lib.hid ((hgrow.block w.heap.size (by simp; omega) (fun e => by have := (hlt' w.heap.size e.symm).1; omega)).trans HBK3.out)
        have hz3 := hgrow.size
        have HO8 := Lib.hid hown'
        clear hlt' hgrow hown' hnil hloc
        go_wp2_with fail
        refine (SQ.out _).mono ?_
        rintro e w4 ⟨rfl, hb4⟩
        have HO9 := Lib.hid (HO8.out.kept (bgr hb4) (by cases v'.ownBlock <;> simp))
        have HBK9 := Lib.hid ((hb4.block w.heap.size (by simp at hz3; omega)).trans HK8.out)
        have HB9 := Lib.hid (HB8.out.trans (hb4.mono HB8.out.size))
        clear hb4
        go_wp2_with fail
        go_roundw
        case rel => exact ⟨k + 1, v', by omega, by go_num, by rw [HNX.out]; go_num, rfl, by rw [HNX.out]; show World.ownsRow _ _ _ _ _ (F ++ [y]).length (scV (F ++ [y])); rw [List.length_append, HFN.out, HSC.out]; exact HO9.out, HBK9.out, HB9.out⟩
        case measure => simp [intOf]; omega
    · obtain rfl : k = 4 := by omega
      have HB := Lib.hid hb
      have HV := Lib.hid (show (vfold ((four l).take 4)).2 = varN l from rfl)
      clear hb ho hblk
      go_wp2_with fail
      go_ret
      exact ⟨by rw [HV.out]; rfl, HB.out⟩

def crS (s : ByteArray) : ByteArray := cond (clB s) (ofL (classL s.data.toList)) ⟨#[]⟩

def cvI (s : ByteArray) : Int := cond (clB s) (varN s.data.toList : Nat) 0

def omB (s : ByteArray) : Bool := cond (clB s) (decide (leastL (s.data.toList.map mir) = leastL s.data.toList)) false

def obB (s : ByteArray) : Bool := cond (clB s) (decide (leastL (bak s.data.toList) = leastL s.data.toList)) false

def aoB (a b : ByteArray) : Bool := cond (clB a && clB b) (decide (classL a.data.toList = classL b.data.toList)) false

theorem cr_no {s : ByteArray} (h : clB s = false) : Ending.returned (.tuple #[.string ⟨#[]⟩, .bool false]) = Ending.returned (.tuple #[.string (crS s), .bool false]) := by simp [crS, h]

theorem cr_yes {s : ByteArray} (h : clB s = true) : Ending.returned (.tuple #[.string (ofL (classL s.data.toList)), .bool true]) = Ending.returned (.tuple #[.string (crS s), .bool true]) := by simp [crS, h]

theorem cv_no {s : ByteArray} (h : clB s = false) : Ending.returned (.tuple #[.int .i64 0, .bool false]) = Ending.returned (.tuple #[.int .i64 (cvI s), .bool false]) := by simp [cvI, h]

theorem cv_yes {s : ByteArray} (h : clB s = true) : Ending.returned (.tuple #[.int .i64 (varN s.data.toList : Nat), .bool true]) = Ending.returned (.tuple #[.int .i64 (cvI s), .bool true]) := by simp [cvI, h]

theorem om_no {s : ByteArray} (h : clB s = false) : omB s = false := by simp [omB, h]

theorem om_yes {s : ByteArray} (h : clB s = true) : omB s = decide (leastL (s.data.toList.map mir) = leastL s.data.toList) := by simp [omB, h]

theorem ob_no {s : ByteArray} (h : clB s = false) : obB s = false := by simp [obB, h]

theorem ob_yes {s : ByteArray} (h : clB s = true) : obB s = decide (leastL (bak s.data.toList) = leastL s.data.toList) := by simp [obB, h]

set_option maxRecDepth 100000 in
theorem spClassRing (s : ByteArray) (hs : s.size ≤ 1048576) (w : World) :
    Calls Tryd.prog 17 #[.string s] w fun e w' => e = .returned (.tuple #[.string (crS s), .bool (clB s)]) ∧ Below w.heap.size w w' := by
  have HC := Lib.hid (csRing_any s hs)
  cases tc : clB s
  · have G := Lib.hid tc
    rw [tc] at HC
    go_enter Tryd.func17, Tryd.ntmps17
    go_wp2_with (go_at_call 45; (with_reducible refine (HC.out _).mono ?_); rintro e wA ⟨rfl, h1⟩; (try with_reducible replace h1 := undrew h1); have hB : Below w.heap.size w wA := ba (by go_grown) h1; obtain ⟨hcwA, hfwA⟩ := bcell h1; have hqwA := h1.size; (try simp at hqwA); )
    go_ret2
    exact ⟨cr_no G.out, by go_grown⟩
  · have G := Lib.hid tc
    have hL := csClass_any s.data.toList (cl_data tc).1
    rw [ofL_data] at hL
    have HL := Lib.hid hL
    rw [tc] at HC
    clear hL
    go_enter Tryd.func17, Tryd.ntmps17
    go_wp2_with (first | (go_at_call 45; (with_reducible refine (HC.out _).mono ?_); rintro e wA ⟨rfl, h1⟩; (try with_reducible replace h1 := undrew h1); have hB : Below w.heap.size w wA := ba (by go_grown) h1; obtain ⟨hcwA, hfwA⟩ := bcell h1; have hqwA := h1.size; (try simp at hqwA); ) | (go_at_call 52; (with_reducible refine (HL.out _).mono ?_); rintro e wB ⟨rfl, h1⟩; (try with_reducible replace h1 := undrew h1); have hB : Below w.heap.size w wB := ba (by go_grown) h1; obtain ⟨hcwB, hfwB⟩ := bcell h1; have hqwB := h1.size; (try simp at hqwB); (try have hz0wB : wA.heap.size < wB.heap.size := (by omega)); (try have he0wB : wA.heap.size ≤ wB.heap.size := (by omega))))
    go_ret2
    exact ⟨cr_yes G.out, by go_grown⟩

set_option maxRecDepth 100000 in
theorem spCountVariants (s : ByteArray) (hs : s.size ≤ 1048576) (w : World) :
    Calls Tryd.prog 21 #[.string s] w fun e w' => e = .returned (.tuple #[.int .i64 (cvI s), .bool (clB s)]) ∧ Below w.heap.size w w' := by
  have HC := Lib.hid (csRing_any s hs)
  cases tc : clB s
  · have G := Lib.hid tc
    rw [tc] at HC
    go_enter Tryd.func21, Tryd.ntmps21
    go_wp2_with (go_at_call 45; (with_reducible refine (HC.out _).mono ?_); rintro e wA ⟨rfl, h1⟩; (try with_reducible replace h1 := undrew h1); have hB : Below w.heap.size w wA := ba (by go_grown) h1; obtain ⟨hcwA, hfwA⟩ := bcell h1; have hqwA := h1.size; (try simp at hqwA); )
    go_ret2
    exact ⟨cv_no G.out, by go_grown⟩
  · have G := Lib.hid tc
    have hL := csVariants_any s.data.toList (cl_data tc).1 (cl_data tc).2
    rw [ofL_data] at hL
    have HL := Lib.hid hL
    rw [tc] at HC
    clear hL
    go_enter Tryd.func21, Tryd.ntmps21
    go_wp2_with (first | (go_at_call 45; (with_reducible refine (HC.out _).mono ?_); rintro e wA ⟨rfl, h1⟩; (try with_reducible replace h1 := undrew h1); have hB : Below w.heap.size w wA := ba (by go_grown) h1; obtain ⟨hcwA, hfwA⟩ := bcell h1; have hqwA := h1.size; (try simp at hqwA); ) | (go_at_call 56; (with_reducible refine (HL.out _).mono ?_); rintro e wB ⟨rfl, h1⟩; (try with_reducible replace h1 := undrew h1); have hB : Below w.heap.size w wB := ba (by go_grown) h1; obtain ⟨hcwB, hfwB⟩ := bcell h1; have hqwB := h1.size; (try simp at hqwB); (try have hz0wB : wA.heap.size < wB.heap.size := (by omega)); (try have he0wB : wA.heap.size ≤ wB.heap.size := (by omega))))
    go_ret2
    exact ⟨cv_yes G.out, by go_grown⟩

set_option maxRecDepth 100000 in
set_option maxHeartbeats 800000 in
theorem spIsOwnMirror (s : ByteArray) (hs : s.size ≤ 1048576) (w : World) :
    Calls Tryd.prog 23 #[.string s] w fun e w' => e = .returned (.tuple #[.bool (omB s), .bool (clB s)]) ∧ Below w.heap.size w w' := by
  have HC := Lib.hid (csRing_any s hs)
  cases tc : clB s
  · rw [om_no tc]
    rw [tc] at HC
    go_enter Tryd.func23, Tryd.ntmps23
    go_wp2_with (go_at_call 45; (with_reducible refine (HC.out _).mono ?_); rintro e wA ⟨rfl, h1⟩; (try with_reducible replace h1 := undrew h1); have hB : Below w.heap.size w wA := ba (by go_grown) h1; obtain ⟨hcwA, hfwA⟩ := bcell h1; have hqwA := h1.size; (try simp at hqwA); )
    go_ret2
    exact ⟨rfl, by go_grown⟩
  · obtain ⟨ht, h0⟩ := cl_data tc
    have hM := fun W => tkMirror_any (ofL s.data.toList) (by rw [ofL_size]; exact tk_le ht) W
    rw [miS_of] at hM
    have hL1 := fun W => csLeast_any (s.data.toList.map mir) (tk_mir ht) W
    have hL2 := fun W => csLeast_any s.data.toList ht W
    have he := eq_text (leastL (s.data.toList.map mir)) (leastL s.data.toList)
    rw [om_yes tc]
    rw [ofL_data] at hM hL2
    rw [tc] at HC
    generalize decide (leastL (s.data.toList.map mir) = leastL s.data.toList) = r at *
    generalize ofL (leastL s.data.toList) = A at *
    generalize ofL (leastL (s.data.toList.map mir)) = B at *
    generalize ofL (s.data.toList.map mir) = s2 at *
    have HM := Lib.hid hM
    have HL1 := Lib.hid hL1
    have HL2 := Lib.hid hL2
    clear hM hL1 hL2
    go_enter Tryd.func23, Tryd.ntmps23
    go_wp2_with (first | (go_at_call 45; (with_reducible refine (HC.out _).mono ?_); rintro e wA ⟨rfl, h1⟩; (try with_reducible replace h1 := undrew h1); have hB : Below w.heap.size w wA := ba (by go_grown) h1; obtain ⟨hcwA, hfwA⟩ := bcell h1; have hqwA := h1.size; (try simp at hqwA); ) | ((with_reducible refine (HM.out _).mono ?_); rintro e w' ⟨rfl, rfl⟩) | (go_at_call 46; (with_reducible refine (HL1.out _).mono ?_); rintro e wB ⟨rfl, h1⟩; (try with_reducible replace h1 := undrew h1); have hB : Below w.heap.size w wB := ba (by go_grown) h1; obtain ⟨hcwB, hfwB⟩ := bcell h1; have hqwB := h1.size; (try simp at hqwB); (try have hz0wB : wA.heap.size < wB.heap.size := (by omega)); (try have he0wB : wA.heap.size ≤ wB.heap.size := (by omega))) | (go_at_call 46; (with_reducible refine (HL2.out _).mono ?_); rintro e wC ⟨rfl, h1⟩; (try with_reducible replace h1 := undrew h1); have hB : Below w.heap.size w wC := ba (by go_grown) h1; obtain ⟨hcwC, hfwC⟩ := bcell h1; have hqwC := h1.size; (try simp at hqwC); (try have hz0wC : wA.heap.size < wC.heap.size := (by omega)); (try have he0wC : wA.heap.size ≤ wC.heap.size := (by omega)); (try have hz1wC : wB.heap.size < wC.heap.size := (by omega)); (try have he1wC : wB.heap.size ≤ wC.heap.size := (by omega))))
    all_goals go_ret2
    all_goals exact ⟨rfl, by go_grown⟩

set_option maxRecDepth 100000 in
set_option maxHeartbeats 800000 in
theorem spIsOwnBack (s : ByteArray) (hs : s.size ≤ 1048576) (w : World) :
    Calls Tryd.prog 25 #[.string s] w fun e w' => e = .returned (.tuple #[.bool (obB s), .bool (clB s)]) ∧ Below w.heap.size w w' := by
  have HC := Lib.hid (csRing_any s hs)
  cases tc : clB s
  · rw [ob_no tc]
    rw [tc] at HC
    go_enter Tryd.func25, Tryd.ntmps25
    go_wp2_with (go_at_call 45; (with_reducible refine (HC.out _).mono ?_); rintro e wA ⟨rfl, h1⟩; (try with_reducible replace h1 := undrew h1); have hB : Below w.heap.size w wA := ba (by go_grown) h1; obtain ⟨hcwA, hfwA⟩ := bcell h1; have hqwA := h1.size; (try simp at hqwA); )
    go_ret2
    exact ⟨rfl, by go_grown⟩
  · obtain ⟨ht, h0⟩ := cl_data tc
    have hM := fun W => tkBack_any (ofL s.data.toList) (by rw [ofL_size]; exact tk_le ht) W
    rw [baS_of] at hM
    have hL1 := fun W => csLeast_any (bak s.data.toList) (tk_bak ht) W
    have hL2 := fun W => csLeast_any s.data.toList ht W
    have he := eq_text (leastL (bak s.data.toList)) (leastL s.data.toList)
    rw [ob_yes tc]
    rw [ofL_data] at hM hL2
    rw [tc] at HC
    generalize decide (leastL (bak s.data.toList) = leastL s.data.toList) = r at *
    generalize ofL (leastL s.data.toList) = A at *
    generalize ofL (leastL (bak s.data.toList)) = B at *
    generalize ofL (bak s.data.toList) = s2 at *
    have HM := Lib.hid hM
    have HL1 := Lib.hid hL1
    have HL2 := Lib.hid hL2
    clear hM hL1 hL2
    go_enter Tryd.func25, Tryd.ntmps25
    go_wp2_with (first | (go_at_call 45; (with_reducible refine (HC.out _).mono ?_); rintro e wA ⟨rfl, h1⟩; (try with_reducible replace h1 := undrew h1); have hB : Below w.heap.size w wA := ba (by go_grown) h1; obtain ⟨hcwA, hfwA⟩ := bcell h1; have hqwA := h1.size; (try simp at hqwA); ) | ((with_reducible refine (HM.out _).mono ?_); rintro e w' ⟨rfl, rfl⟩) | (go_at_call 46; (with_reducible refine (HL1.out _).mono ?_); rintro e wB ⟨rfl, h1⟩; (try with_reducible replace h1 := undrew h1); have hB : Below w.heap.size w wB := ba (by go_grown) h1; obtain ⟨hcwB, hfwB⟩ := bcell h1; have hqwB := h1.size; (try simp at hqwB); (try have hz0wB : wA.heap.size < wB.heap.size := (by omega)); (try have he0wB : wA.heap.size ≤ wB.heap.size := (by omega))) | (go_at_call 46; (with_reducible refine (HL2.out _).mono ?_); rintro e wC ⟨rfl, h1⟩; (try with_reducible replace h1 := undrew h1); have hB : Below w.heap.size w wC := ba (by go_grown) h1; obtain ⟨hcwC, hfwC⟩ := bcell h1; have hqwC := h1.size; (try simp at hqwC); (try have hz0wC : wA.heap.size < wC.heap.size := (by omega)); (try have he0wC : wA.heap.size ≤ wC.heap.size := (by omega)); (try have hz1wC : wB.heap.size < wC.heap.size := (by omega)); (try have he1wC : wB.heap.size ≤ wC.heap.size := (by omega))))
    all_goals go_ret2
    all_goals exact ⟨rfl, by go_grown⟩

set_option maxRecDepth 100000 in
set_option maxHeartbeats 800000 in
theorem spAreOneClass (a b : ByteArray) (ha : a.size ≤ 1048576) (hb : b.size ≤ 1048576) (w : World) :
    Calls Tryd.prog 27 #[.string a, .string b] w fun e w' => e = .returned (.tuple #[.bool (aoB a b), .bool (clB a && clB b)]) ∧ Below w.heap.size w w' := by
  have HC := Lib.hid (csRing_any a ha)
  have HD := Lib.hid (csRing_any b hb)
  cases ta : clB a
  · rw [show aoB a b = false by simp [aoB, ta], Bool.false_and]
    rw [ta] at HC
    go_enter Tryd.func27, Tryd.ntmps27
    go_wp2_with (go_at_call 45; (with_reducible refine (HC.out _).mono ?_); rintro e wA ⟨rfl, h1⟩; (try with_reducible replace h1 := undrew h1); have hB : Below w.heap.size w wA := ba (by go_grown) h1; obtain ⟨hcwA, hfwA⟩ := bcell h1; have hqwA := h1.size; (try simp at hqwA); )
    go_ret2
    exact ⟨rfl, by go_grown⟩
  · cases tb : clB b
    · rw [show aoB a b = false by simp [aoB, tb], Bool.true_and]
      rw [ta] at HC
      rw [tb] at HD
      go_enter Tryd.func27, Tryd.ntmps27
      go_wp2_with (first | (go_at_call 45; (with_reducible refine (HC.out _).mono ?_); rintro e wA ⟨rfl, h1⟩; (try with_reducible replace h1 := undrew h1); have hB : Below w.heap.size w wA := ba (by go_grown) h1; obtain ⟨hcwA, hfwA⟩ := bcell h1; have hqwA := h1.size; (try simp at hqwA); ) | (go_at_call 45; (with_reducible refine (HD.out _).mono ?_); rintro e wB ⟨rfl, h1⟩; (try with_reducible replace h1 := undrew h1); have hB : Below w.heap.size w wB := ba (by go_grown) h1; obtain ⟨hcwB, hfwB⟩ := bcell h1; have hqwB := h1.size; (try simp at hqwB); (try have hz0wB : wA.heap.size < wB.heap.size := (by omega)); (try have he0wB : wA.heap.size ≤ wB.heap.size := (by omega))))
      go_ret2
      exact ⟨rfl, by go_grown⟩
    · have hL1 := fun W => csClass_any a.data.toList (cl_data ta).1 W
      have hL2 := fun W => csClass_any b.data.toList (cl_data tb).1 W
      have he := eq_text (classL a.data.toList) (classL b.data.toList)
      rw [show aoB a b = decide (classL a.data.toList = classL b.data.toList) by simp [aoB, ta, tb], Bool.true_and]
      rw [ofL_data] at hL1 hL2
      rw [ta] at HC
      rw [tb] at HD
      generalize decide (classL a.data.toList = classL b.data.toList) = r at *
      generalize ofL (classL a.data.toList) = A at *
      generalize ofL (classL b.data.toList) = B at *
      have HL1 := Lib.hid hL1
      have HL2 := Lib.hid hL2
      clear hL1 hL2
      go_enter Tryd.func27, Tryd.ntmps27
      go_wp2_with (first | (go_at_call 45; (with_reducible refine (HC.out _).mono ?_); rintro e wA ⟨rfl, h1⟩; (try with_reducible replace h1 := undrew h1); have hB : Below w.heap.size w wA := ba (by go_grown) h1; obtain ⟨hcwA, hfwA⟩ := bcell h1; have hqwA := h1.size; (try simp at hqwA); ) | (go_at_call 45; (with_reducible refine (HD.out _).mono ?_); rintro e wB ⟨rfl, h1⟩; (try with_reducible replace h1 := undrew h1); have hB : Below w.heap.size w wB := ba (by go_grown) h1; obtain ⟨hcwB, hfwB⟩ := bcell h1; have hqwB := h1.size; (try simp at hqwB); (try have hz0wB : wA.heap.size < wB.heap.size := (by omega)); (try have he0wB : wA.heap.size ≤ wB.heap.size := (by omega))) | (go_at_call 52; (with_reducible refine (HL1.out _).mono ?_); rintro e wC ⟨rfl, h1⟩; (try with_reducible replace h1 := undrew h1); have hB : Below w.heap.size w wC := ba (by go_grown) h1; obtain ⟨hcwC, hfwC⟩ := bcell h1; have hqwC := h1.size; (try simp at hqwC); (try have hz0wC : wA.heap.size < wC.heap.size := (by omega)); (try have he0wC : wA.heap.size ≤ wC.heap.size := (by omega)); (try have hz1wC : wB.heap.size < wC.heap.size := (by omega)); (try have he1wC : wB.heap.size ≤ wC.heap.size := (by omega))) | (go_at_call 52; (with_reducible refine (HL2.out _).mono ?_); rintro e wD ⟨rfl, h1⟩; (try with_reducible replace h1 := undrew h1); have hB : Below w.heap.size w wD := ba (by go_grown) h1; obtain ⟨hcwD, hfwD⟩ := bcell h1; have hqwD := h1.size; (try simp at hqwD); (try have hz0wD : wA.heap.size < wD.heap.size := (by omega)); (try have he0wD : wA.heap.size ≤ wD.heap.size := (by omega)); (try have hz1wD : wB.heap.size < wD.heap.size := (by omega)); (try have he1wD : wB.heap.size ≤ wD.heap.size := (by omega)); (try have hz2wD : wC.heap.size < wD.heap.size := (by omega)); (try have he2wD : wC.heap.size ≤ wD.heap.size := (by omega))))
      all_goals go_ret2
      all_goals exact ⟨rfl, by go_grown⟩

end Go.Proofs.YtoenkgenoloihaaDoor
