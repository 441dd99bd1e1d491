/- Contracts of the program: first rings of classes, their variants counted, rings of one class. -/
import Derived.Test.YtoenkgenoloihaaDoorVa
import Derived.Test.YtoenkgenoloihaaDoorSv
import Derived.Lib.QuietBelow
namespace Go.Proofs.YtoenkgenoloihaaDoor
open Go.ChangeShapes Go.WideShapes Go.ChangeAt Go.RowKit Go.Sort

set_option linter.unusedVariables false

set_option maxRecDepth 100000 in
set_option maxHeartbeats 800000 in
theorem imClassRing (s : ByteArray) (hs : s.size ≤ 1048576) (w : World) :
    Calls Tryd.prog 18 #[.string s] w fun e w' => e = .returned (.tuple #[.string (crS s), .bool (clB s)]) ∧ Below w.heap.size w w' := by
  have HLO := Lib.hid (loopOf_any s hs)
  have hz := (zero_of_info (P := Tryd.prog) lpInfo).1
  obtain ⟨K, hK⟩ : ∃ K, K = 40 := ⟨_, rfl⟩
  have zE := zK hK
  have HK := Lib.hid hK
  have hAl := aK hK (loL s)
  cases tc : clB s
  · have G := Lib.hid tc
    rw [tc] at HLO
    clear hK
    go_enter Tryd.func18, Tryd.ntmps18
    go_wp2_with fail
    refine (HLO.out _).mono ?_
    rintro e w1 ⟨rfl, hb1⟩
    have a1 := LpAt.new w1 zLp
    have st := a1.store (loL s)
    have HB := Lib.hid (below_setRow ((ba (by go_grown) hb1 : Below w.heap.size w w1).alloc hb1.size (.cells (arr zLp) 45)) hb1.size (arr (loL s)))
    clear a1 hb1
    go_wp2_with fail
    go_ret2
    exact ⟨cr_no G.out, HB.out⟩
  · have G := Lib.hid tc
    obtain ⟨ht, h0⟩ := cl_data tc
    have hl40 := tk_le ht
    have hlo : loL s = mkLp s.data.toList := by simp [loL, tc]
    rw [tc, hlo] at HLO
    rw [hlo] at hAl
    have HFI := Lib.hid (first_any s.data.toList ht h0)
    have hcl := class_len h0
    have hT := text_any (mkLp (classL s.data.toList))
    rw [txt_mk (by omega) (fun c hc => by
      obtain ⟨x, hx, k, hk, e⟩ := (class_spec h0).1
      rw [e] at hc
      refine tk_nz (four_tk ht x hx) c ?_
      simp only [spn, List.mem_append] at hc
      rcases hc with h | h
      · exact List.mem_of_mem_drop h
      · exact List.mem_of_mem_take h)] at hT
    have HT := Lib.hid hT
    obtain ⟨y, hy⟩ : ∃ y, mkLp s.data.toList = y := ⟨_, rfl⟩
    obtain ⟨z, hzz⟩ : ∃ z, mkLp (classL s.data.toList) = z := ⟨_, rfl⟩
    rw [hy] at HLO HFI hAl
    rw [hzz] at HFI HT
    have hAz := aK hK z
    clear hT hlo hK hy hzz hcl
    go_enter Tryd.func18, Tryd.ntmps18
    go_wp2_with fail
    refine (HLO.out _).mono ?_
    rintro e w1 ⟨rfl, hb1⟩
    have a1 := LpAt.new w1 zLp
    have st := a1.store y
    have l1 := (a1.set y).loadK HK.out
    have HB := Lib.hid (below_setRow ((ba (by go_grown) hb1 : Below w.heap.size w w1).alloc hb1.size (.cells (arr zLp) 45)) hb1.size (arr y))
    clear a1 hb1
    go_wp2_with fail
    generalize (w1.alloc (.cells (arr zLp) 45)).setRow w1.heap.size (arr y) = W1 at *
    refine (HFI.out _).mono ?_
    rintro e w2 ⟨rfl, hb2⟩
    have HB2 := Lib.hid (HB.out.trans (hb2.mono HB.out.size))
    clear hb2 st l1
    go_wp2_with fail
    refine (HT.out _).mono ?_
    rintro e w4 ⟨rfl, hb4⟩
    have HB4 := Lib.hid (HB2.out.trans (hb4.mono HB2.out.size))
    clear hb4
    go_wp2_with fail
    go_ret2
    exact ⟨cr_yes G.out, HB4.out⟩

set_option maxRecDepth 100000 in
set_option maxHeartbeats 800000 in
theorem imCountVariants (s : ByteArray) (hs : s.size ≤ 1048576) (w : World) :
    Calls Tryd.prog 22 #[.string s] w fun e w' => e = .returned (.tuple #[.int .i64 (cvI s), .bool (clB s)]) ∧ Below w.heap.size w w' := by
  have HLO := Lib.hid (loopOf_any s hs)
  have hz := (zero_of_info (P := Tryd.prog) lpInfo).1
  obtain ⟨K, hK⟩ : ∃ K, K = 40 := ⟨_, rfl⟩
  have zE := zK hK
  have HK := Lib.hid hK
  have hAl := aK hK (loL s)
  cases tc : clB s
  · have G := Lib.hid tc
    rw [tc] at HLO
    clear hK
    go_enter Tryd.func22, Tryd.ntmps22
    go_wp2_with fail
    refine (HLO.out _).mono ?_
    rintro e w1 ⟨rfl, hb1⟩
    have a1 := LpAt.new w1 zLp
    have st := a1.store (loL s)
    have HB := Lib.hid (below_setRow ((ba (by go_grown) hb1 : Below w.heap.size w w1).alloc hb1.size (.cells (arr zLp) 45)) hb1.size (arr (loL s)))
    clear a1 hb1
    go_wp2_with fail
    go_ret2
    exact ⟨cv_no G.out, HB.out⟩
  · have G := Lib.hid tc
    obtain ⟨ht, h0⟩ := cl_data tc
    have hl40 := tk_le ht
    have hlo : loL s = mkLp s.data.toList := by simp [loL, tc]
    rw [tc, hlo] at HLO
    rw [hlo] at hAl
    have HVA := Lib.hid (fun W => variants_any s.data.toList ht h0 W)
    have HLE := Lib.hid (fun V (h : IsVar s.data.toList V) => h.len h0 hl40)
    obtain ⟨y, hy⟩ : ∃ y, mkLp s.data.toList = y := ⟨_, rfl⟩
    rw [hy] at HLO HVA hAl
    clear hlo hK hy
    go_enter Tryd.func22, Tryd.ntmps22
    go_wp2_with fail
    refine (HLO.out _).mono ?_
    rintro e w1 ⟨rfl, hb1⟩
    have a1 := LpAt.new w1 zLp
    have st := a1.store y
    have l1 := (a1.set y).loadK HK.out
    have HB := Lib.hid (below_setRow ((ba (by go_grown) hb1 : Below w.heap.size w w1).alloc hb1.size (.cells (arr zLp) 45)) hb1.size (arr y))
    clear a1 hb1
    go_wp2_with fail
    generalize (w1.alloc (.cells (arr zLp) 45)).setRow w1.heap.size (arr y) = W1 at *
    refine (HVA.out _).mono ?_
    rintro e w2 ⟨g, cap, V, rfl, hV, hR, hgw, hgl, hb2⟩
    have HB2 := Lib.hid (HB.out.trans (hb2.mono HB.out.size))
    have HLN := Lib.hid (HLE.out V hV)
    clear hb2 st l1 hR hV
    go_wp2_with fail
    go_ret2
    exact ⟨by rw [HLN.out]; exact cv_yes G.out, HB2.out⟩

theorem class_nz {l : List UInt8} (ht : tkB (ofL l) = true) (h0 : 0 < l.length) : ∀ c ∈ classL l, c ≠ 0 := fun c hc => by
  obtain ⟨x, hx, k, hk, e⟩ := (class_spec h0).1
  rw [e] at hc
  refine tk_nz (four_tk ht x hx) c ?_
  simp only [spn, List.mem_append] at hc
  rcases hc with h | h
  · exact List.mem_of_mem_drop h
  · exact List.mem_of_mem_take h

theorem nz_app : ∀ (a b : List UInt8) (m n : Nat), (∀ c ∈ a, c ≠ 0) → (∀ c ∈ b, c ≠ 0) → a ++ List.replicate m 0 = b ++ List.replicate n 0 → a = b
  | [], [], _, _, _, _, _ => rfl
  | [], d :: b, m, n, _, hb, h => by
    cases m with
    | zero => simp at h
    | succ m =>
      simp only [List.nil_append, List.replicate_succ, List.cons_append, List.cons.injEq] at h
      exact absurd h.1.symm (hb d (by simp))
  | c :: a, [], m, n, ha, _, h => by
    cases n with
    | zero => simp at h
    | succ n =>
      simp only [List.nil_append, List.replicate_succ, List.cons_append, List.cons.injEq] at h
      exact absurd h.1 (ha c (by simp))
  | c :: a, d :: b, m, n, ha, hb, h => by
    simp only [List.cons_append, List.cons.injEq] at h
    rw [h.1, nz_app a b m n (fun x hx => ha x (by simp [hx])) (fun x hx => hb x (by simp [hx])) h.2]

theorem mk_any_inj {a b : List UInt8} (ha : a.length ≤ 40) (hb : b.length ≤ 40) (na : ∀ c ∈ a, c ≠ 0) (nb : ∀ c ∈ b, c ≠ 0) (h : mkLp a = mkLp b) : a = b := by
  have h1 := congrArg Subtype.val h
  rw [mk_val ha, mk_val hb] at h1
  exact nz_app a b _ _ na nb h1

set_option maxRecDepth 100000 in
set_option maxHeartbeats 1600000 in
theorem imAreOneClass (a b : ByteArray) (ha : a.size ≤ 1048576) (hb : b.size ≤ 1048576) (w : World) :
    Calls Tryd.prog 28 #[.string a, .string b] w fun e w' => e = .returned (.tuple #[.bool (aoB a b), .bool (clB a && clB b)]) ∧ Below w.heap.size w w' := by
  have HLA := Lib.hid (loopOf_any a ha)
  have HLB := Lib.hid (loopOf_any b hb)
  have hz := (zero_of_info (P := Tryd.prog) lpInfo).1
  have mixed := Tryd.indexLoop.mixed
  obtain ⟨K, hK⟩ : ∃ K, K = 40 := ⟨_, rfl⟩
  have zE := zK hK
  have HK := Lib.hid hK
  by_cases hab : (clB a && clB b) = true
  · simp only [Bool.and_eq_true] at hab
    obtain ⟨ta, tb⟩ := hab
    have hao : aoB a b = decide (classL a.data.toList = classL b.data.toList) := by simp [aoB, ta, tb]
    rw [hao, ta, tb]
    obtain ⟨hta, h0a⟩ := cl_data ta
    obtain ⟨htb, h0b⟩ := cl_data tb
    have la : loL a = mkLp a.data.toList := by simp [loL, ta]
    have lb : loL b = mkLp b.data.toList := by simp [loL, tb]
    rw [ta, la] at HLA
    rw [tb, lb] at HLB
    have HFA := Lib.hid (first_any a.data.toList hta h0a)
    have HFB := Lib.hid (first_any b.data.toList htb h0b)
    have he := fun W => eql_run (mkLp (classL a.data.toList)) (mkLp (classL b.data.toList)) W
    have hgd := fun op x y W => guardLp op x y (mkLp (classL a.data.toList)) (mkLp (classL b.data.toList)) W
    have hEQ : eqL (mkLp (classL a.data.toList)) (mkLp (classL b.data.toList)) = decide (classL a.data.toList = classL b.data.toList) := by
      by_cases h : classL a.data.toList = classL b.data.toList
      · rw [decide_eq_true h]; exact eqL_t (by rw [h])
      · rw [decide_eq_false h]
        exact eqL_f fun e => h (mk_any_inj (by rw [class_len h0a]; exact tk_le hta) (by rw [class_len h0b]; exact tk_le htb) (class_nz hta h0a) (class_nz htb h0b) e)
    rw [hEQ] at he
    generalize decide (classL a.data.toList = classL b.data.toList) = r at *
    obtain ⟨ya, hya⟩ : ∃ y, mkLp a.data.toList = y := ⟨_, rfl⟩
    obtain ⟨yb, hyb⟩ : ∃ y, mkLp b.data.toList = y := ⟨_, rfl⟩
    obtain ⟨za, hza⟩ : ∃ y, mkLp (classL a.data.toList) = y := ⟨_, rfl⟩
    obtain ⟨zb, hzb⟩ : ∃ y, mkLp (classL b.data.toList) = y := ⟨_, rfl⟩
    rw [hya] at HLA HFA
    rw [hyb] at HLB HFB
    rw [hza] at HFA he hgd
    rw [hzb] at HFB he hgd
    have hAa := aK hK ya
    have hAb := aK hK yb
    have hAz := aK hK za
    have hAy := aK hK zb
    clear hK la lb hya hyb hza hzb hEQ hao
    go_enter Tryd.func28, Tryd.ntmps28
    go_wp2_with fail
    refine (HLA.out _).mono ?_
    rintro e w1 ⟨rfl, hb1⟩
    have a1 := LpAt.new w1 zLp
    have st := a1.store ya
    have A1 := Lib.hid (a1.set ya)
    have HB := Lib.hid (below_setRow ((ba (by go_grown) hb1 : Below w.heap.size w w1).alloc hb1.size (.cells (arr zLp) 45)) hb1.size (arr ya))
    have hg1 := hb1.size
    clear a1 hb1
    go_wp2_with fail
    clear st
    obtain ⟨b1, hb1⟩ : ∃ b, w1.heap.size = b := ⟨_, rfl⟩
    rw [hb1] at A1 HB hg1 ⊢
    generalize (w1.alloc (.cells (arr zLp) 45)).setRow b1 (arr ya) = W1 at *
    refine (HLB.out _).mono ?_
    rintro e w2 ⟨rfl, hb2⟩
    have hg2 := hb2.size
    have A1' := A1.out.below hb2 A1.out.lt
    have hlt := A1'.lt
    have HB1 := Lib.hid (HB.out.trans (hb2.mono HB.out.size))
    have a2 := LpAt.new w2 zLp
    have st := a2.store yb
    have A2 := Lib.hid (a2.set yb)
    have A3 := Lib.hid ((A1'.alloc (.cells (arr zLp) 45)).set_other (c := w2.heap.size) (arr yb) (by omega))
    have HB2 := Lib.hid (below_setRow (HB1.out.alloc HB1.out.size (.cells (arr zLp) 45)) HB1.out.size (arr yb))
    clear a2 hb2 A1'
    go_wp2_with fail
    clear st
    obtain ⟨b2, hb2⟩ : ∃ b, w2.heap.size = b := ⟨_, rfl⟩
    rw [hb2] at A2 A3 HB2 ⊢
    generalize (w2.alloc (.cells (arr zLp) 45)).setRow b2 (arr yb) = W2 at *
    have l1 : ∀ d os, Sem.run Tryd.prog (loadCellsFrom ⟨b1, 0, none⟩ 0 K #[]) (grow (redrawn W2 d) os) = .ok (arr ya) (grow (redrawn W2 d) os) := fun d os => (A3.out.below (below_regrown W2 d os) A3.out.lt).loadK HK.out
    have l2 : ∀ d os, Sem.run Tryd.prog (loadCellsFrom ⟨b2, 0, none⟩ 0 K #[]) (grow (redrawn W2 d) os) = .ok (arr yb) (grow (redrawn W2 d) os) := fun d os => (A2.out.below (below_regrown W2 d os) A2.out.lt).loadK HK.out
    have c1 : ∀ d os, Calls Tryd.prog 53 #[.agg (arr ya)] (grow (redrawn W2 d) os) fun e w'' => e = .returned (.agg (arr za)) ∧ ∃ p : Regrown, w'' = grow (redrawn W2 p.d) p.os := fun d os => Calls.regrown_of (HFA.out _)
    have c2 : ∀ d os, Calls Tryd.prog 53 #[.agg (arr yb)] (grow (redrawn W2 d) os) fun e w'' => e = .returned (.agg (arr zb)) ∧ ∃ p : Regrown, w'' = grow (redrawn W2 p.d) p.os := fun d os => Calls.regrown_of (HFB.out _)
    refine wp_region_quiet_below (by assumption) (by kernel_rfl) ?_
    repeat (quiet_step (first | exact c1 _ _ | exact c2 _ _))
    refine wpQuiet_nil ?_
    intro _ hw'
    obtain ⟨⟨dq, osq⟩, hw''⟩ := hw'
    subst hw''
    have HB3 := Lib.hid (HB2.out.trans ((below_regrown W2 dq osq).mono HB2.out.size))
    go_wp2_with fail
    go_ret2
    exact ⟨rfl, HB3.out⟩
  · have hno : (clB a && clB b) = false := by simpa using hab
    rw [show aoB a b = false by simp [aoB, hno], hno]
    have hAa := aK hK (loL a)
    have hAb := aK hK (loL b)
    clear hK hab
    generalize loL a = ya at *
    generalize loL b = yb at *
    cases ta : clB a <;> cases tb : clB b <;> rw [ta, tb] at hno <;> rw [ta] at HLA <;> rw [tb] at HLB <;> simp only [Bool.and_self, Bool.and_true, Bool.and_false, reduceCtorEq] at hno
    all_goals
      go_enter Tryd.func28, Tryd.ntmps28
      go_wp2_with fail
      refine (HLA.out _).mono ?_
      rintro e w1 ⟨rfl, hb1⟩
      have a1 := LpAt.new w1 zLp
      have st := a1.store ya
      have A1 := Lib.hid (a1.set ya)
      have HB := Lib.hid (below_setRow ((ba (by go_grown) hb1 : Below w.heap.size w w1).alloc hb1.size (.cells (arr zLp) 45)) hb1.size (arr ya))
      have hg1 := hb1.size
      clear a1 hb1
      go_wp2_with fail
      clear st
      obtain ⟨b1, hb1⟩ : ∃ b, w1.heap.size = b := ⟨_, rfl⟩
      rw [hb1] at A1 HB hg1 ⊢
      generalize (w1.alloc (.cells (arr zLp) 45)).setRow b1 (arr ya) = W1 at *
      refine (HLB.out _).mono ?_
      rintro e w2 ⟨rfl, hb2⟩
      have hg2 := hb2.size
      have A1' := A1.out.below hb2 A1.out.lt
      have hlt := A1'.lt
      have HB1 := Lib.hid (HB.out.trans (hb2.mono HB.out.size))
      have a2 := LpAt.new w2 zLp
      have st := a2.store yb
      have A2 := Lib.hid (a2.set yb)
      have A3 := Lib.hid ((A1'.alloc (.cells (arr zLp) 45)).set_other (c := w2.heap.size) (arr yb) (by omega))
      have HB2 := Lib.hid (below_setRow (HB1.out.alloc HB1.out.size (.cells (arr zLp) 45)) HB1.out.size (arr yb))
      clear a2 hb2 A1'
      go_wp2_with fail
      go_ret2
      exact ⟨rfl, HB2.out⟩

end Go.Proofs.YtoenkgenoloihaaDoor
