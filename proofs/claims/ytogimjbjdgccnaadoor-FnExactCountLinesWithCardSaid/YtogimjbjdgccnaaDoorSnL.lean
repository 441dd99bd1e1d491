/- Contracts: a line read from another place on. -/
import Derived.Test.YtogimjbjdgccnaaDoorLnI
import Derived.Test.YtogimjbjdgccnaaDoorCrA
import Derived.Test.YtogimjbjdgccnaaDoorBy
import Derived.Test.YtogimjbjdgccnaaDoorRn
import Derived.Deep.QuietTactic
import Derived.BigQuiet
import Derived.Deep.RegionLawGrows
namespace Go.Proofs.YtogimjbjdgccnaaDoor
open Go.ChangeShapes Go.WideShapes Go.ChangeAt Go.RowKit
open Ln

set_option linter.unusedVariables false

def spB (s : ByteArray) (k : Int) : Bool := lnB s.data.toList && inB k 0 ((s.size : Int) - 1)

def spS (s : ByteArray) (k : Int) : ByteArray := cond (spB s k) (ofL (s.data.toList.drop k.toNat ++ s.data.toList.take k.toNat)) ⟨#[]⟩

theorem ret_sp {s x : ByteArray} {k : Int} {b : Bool} (hb : spB s k = b) (hs : spS s k = x) : Ending.returned (.tuple #[.string x, .bool b]) = Ending.returned (.tuple #[.string (spS s k), .bool (spB s k)]) := by rw [hb, hs]

theorem rot_eq (s : ByteArray) (n : Nat) : s.extract n s.size ++ s.extract 0 n = ofL (s.data.toList.drop n ++ s.data.toList.take n) := by
  apply ByteArray.ext
  apply Array.ext'
  have hs : s.size = s.data.toList.length := (sz_list s).symm
  simp only [ByteArray.data_append, ByteArray.data_extract, Array.toList_append, Array.toList_extract, ofL]
  simp [List.extract_eq_take_drop]
  exact List.take_of_length_le (by rw [List.length_drop, hs]; exact Nat.le_refl _)

set_option maxRecDepth 100000 in
theorem spSpinLine (s : ByteArray) (k : Int) (hs : s.size ≤ 1048576) (w : World) :
    Calls Tryd.prog 48 #[.string s, .int .i64 k] w fun e w' => e = .returned (.tuple #[.string (spS s k), .bool (spB s k)]) ∧ Below w.heap.size w w' := by
  have HC := tnGood_any s hs
  cases tc : lnB s.data.toList
  · have R1 := Lib.hid (show spB s k = false by simp [spB, tc])
    have R2 := Lib.hid (show spS s k = ⟨#[]⟩ by simp [spS, spB, tc])
    rw [tc] at HC
    clear tc
    go_enter Tryd.func48, Tryd.ntmps48
    go_wp2_with (go_at_call 52; refine (HC _).mono ?_; rintro e w' ⟨rfl, rfl⟩)
    go_ret2
    exact ⟨ret_sp R1.out R2.out, by go_grown⟩
  rw [tc] at HC
  have HI := l1In_any k 0 ((s.size : Int) - 1)
  cases h1 : inB k 0 ((s.size : Int) - 1)
  · have R1 := Lib.hid (show spB s k = false by simp [spB, h1])
    have R2 := Lib.hid (show spS s k = ⟨#[]⟩ by simp [spS, spB, h1])
    rw [h1] at HI
    clear h1 tc
    go_enter Tryd.func48, Tryd.ntmps48
    go_wp2_with (first | (go_at_call 52; refine (HC _).mono ?_; rintro e w' ⟨rfl, rfl⟩) | (go_at_call 77; refine (HI _).mono ?_; rintro e w' ⟨rfl, rfl⟩))
    go_ret2
    exact ⟨ret_sp R1.out R2.out, by go_grown⟩
  · have R1 := Lib.hid (show spB s k = true by simp [spB, tc, h1])
    have R2 := Lib.hid (show spS s k = s.extract k.toNat s.size ++ s.extract 0 k.toNat by rw [rot_eq]; simp [spS, spB, tc, h1])
    have g1 : 0 ≤ k ∧ k ≤ (s.size : Int) - 1 := by simpa [inB] using h1
    obtain ⟨a, rfl⟩ : ∃ a : Nat, k = a := ⟨k.toNat, by omega⟩
    have k1 : a < s.size := by omega
    have h24 : s.size ≤ 24 := by rw [← sz_list]; exact ((lnB_iff _).1 tc).n24
    have i1 : (0 : Int) ≤ (a : Int) := by omega
    have i2 : (a : Int) ≤ (s.size : Int) := by omega
    have e1 : (s.extract a s.size).size ≤ 40 := by rw [ByteArray.size_extract]; omega
    have e2 : (s.extract 0 a).size ≤ 40 := by rw [ByteArray.size_extract]; omega
    rw [h1] at HI
    clear g1 h1 tc
    go_enter Tryd.func48, Tryd.ntmps48
    go_wp2_with (first | (go_at_call 52; refine (HC _).mono ?_; rintro e w' ⟨rfl, rfl⟩) | (go_at_call 77; refine (HI _).mono ?_; rintro e w' ⟨rfl, rfl⟩))
    go_quiet (fail)
    go_wp2_with fail
    go_ret2
    exact ⟨ret_sp R1.out (R2.out.trans (by simp)), ⟨rfl, rfl, rfl, Nat.le_refl _, fun _ _ => rfl⟩⟩

def byV (l : List UInt8) : List Value := l.map fun c => .int .u8 (c.toNat : Int)

theorem byV_len (l : List UInt8) : (byV l).length = l.length := by simp [byV]

theorem byV_at {W : World} {B : Nat} {l : List UInt8} (h : Bys W B l) (n : Nat) : ∀ j u, (byV (l.drop n))[j]? = some u → W.cell? ((⟨B, n, none⟩ : Addr).add j) = some u := by
  intro j u hu
  rw [byV, List.getElem?_map, List.getElem?_drop] at hu
  by_cases hj : n + j < l.length
  · rw [List.getElem?_eq_getElem hj] at hu
    simp at hu
    rw [Addr.add_lit, ← hu]
    exact h.1 (n + j) hj
  · rw [List.getElem?_eq_none (by omega)] at hu
    cases hu

theorem byV_top {W : World} {B : Nat} {l : List UInt8} (h : Bys W B l) (n : Nat) : ∀ j u, (byV (l.take n))[j]? = some u → W.cell? ((⟨B, 0, none⟩ : Addr).add j) = some u := by
  intro j u hu
  rw [byV, List.getElem?_map, List.getElem?_take] at hu
  split at hu
  · by_cases hj : j < l.length
    · rw [List.getElem?_eq_getElem hj] at hu
      simp at hu
      rw [Addr.add_lit, Nat.zero_add, ← hu]
      exact h.1 j hj
    · rw [List.getElem?_eq_none (by omega)] at hu
      cases hu
  · cases hu

theorem byV_one (l : List UInt8) : ∀ u ∈ byV l, u.oneCell' = true := by
  intro u hu
  obtain ⟨c, _, rfl⟩ := List.mem_map.1 hu
  rfl

theorem back_row (W : World) (g cap n : Nat) (l : List UInt8) (hn : l.length = n) (h : ∀ j u, (byV l)[j]? = some u → W.cell? ((⟨g, 0, none⟩ : Addr).add j) = some u) :
    (convert 76 9 (.slice (some ⟨g, 0, none⟩) n cap)).run Tryd.prog W = .ok (.string (ofL l)) W := by
  subst hn
  refine run_convert_bytes_back W 76 9 5 ⟨g, 0, none⟩ cap l Tryd.underlying76 Tryd.underlying5 Tryd.underlying9 (fun j hj => ?_)
  exact h j _ (by rw [byV, List.getElem?_map, List.getElem?_eq_getElem hj]; rfl)

theorem own_some1 {W : World} {B : Nat} {e : TypeId} {n : Nat} {v : Value} {xs : List Value} (h : W.ownsRow B e 1 v n xs) (hn : 0 < n) : ∃ g cap, v = .slice (some ⟨g, 0, none⟩) n cap ∧ B ≤ g ∧ g < W.heap.size ∧ ∀ i x, xs[i]? = some x → W.cell? ((⟨g, 0, none⟩ : Addr).add i) = some x := by
  have h0 := h
  rcases h.2 with ⟨_, h0⟩ | ⟨g, cap, cur, rfl, hb, hg, _⟩
  · omega
  · exact ⟨g, cap, rfl, hb, (Array.getElem?_eq_some_iff.1 hg).1, fun i x hx => h0.cells (g := g) rfl i x hx⟩

theorem byteInfo : (Tryd.prog.info? 5).map (fun i => (i.zero, i.size, i.bytes)) = some (some (.int .u8 0), 1, 1) := by kernel_rfl

theorem step_none {P : Program} {ops : Array Oper} {o : Oper} {a : Act} {w : World} {K : Act → World → Prop} {Q : Exit → Act → World → Prop} {E : Prop}
    (hg : o.guard = none) (s x : Operand) (t : TypeId) (hop : o.op = Op.call { callee := Callee.builtin Builtin.append, args := #[s, x], argTypes := #[t, t] })
    (e : TypeId) (i : TypeInfo) (h1 : P.underlying t = some (.slice e)) (h2 : P.info? e = some i) (A : Addr) (n : Nat) (hs : a.eval s = .slice (some A) n n) (ao : Option Addr) (c : Nat) (hx : a.eval x = .slice ao 0 c) (hK : K (a.put o.dst (.slice (some A) n n)) w) :
    if Region.wanted o (yielded ops a.tmps) = true then Oper.wp P o a w K Q else E := by
  have hw : Region.wanted o (yielded ops a.tmps) = true := by simp [Region.wanted, hg]
  rw [if_pos hw]
  have hrun : (Builtin.append_ #[t, t] o.type #[.slice (some A) n n, .slice ao 0 c]).run P w = .ok (.slice (some A) n n) w := by
    cases ao <;> simp [Builtin.append_, run_underlying h1, sizeOf, typeInfo, h2, Builtin.lenOf, Builtin.firstCells, storeCells, loadCells, loadCellsFrom]
  unfold Oper.wp
  simp [execOp, hop, resolve, invoke, builtin, hs, hx, hrun, Result.andThen]
  exact hK

set_option maxRecDepth 100000 in
set_option maxHeartbeats 1600000 in
theorem imSpinLine (s : ByteArray) (k : Int) (hs : s.size ≤ 1048576) (w : World) :
    Calls Tryd.prog 49 #[.string s, .int .i64 k] w fun e w' => e = .returned (.tuple #[.string (spS s k), .bool (spB s k)]) ∧ Below w.heap.size w w' := by
  have HC := imIsLine s hs w
  cases tc : lnB s.data.toList
  · have R1 := Lib.hid (show spB s k = false by simp [spB, tc])
    have R2 := Lib.hid (show spS s k = ⟨#[]⟩ by simp [spS, spB, tc])
    rw [tc] at HC
    clear tc
    go_enter Tryd.func49, Tryd.ntmps49
    go_wp2_with fail
    (go_at_call 19; (with_reducible refine (HC).mono ?_); rintro e wB ⟨rfl, h1⟩; (try with_reducible replace h1 := undrew h1); have hB : Below w.heap.size w wB := ba (by go_grown) h1; obtain ⟨hcwB, hfwB⟩ := bcell h1; have hqwB := h1.size; (try simp at hqwB); )
    go_wp2_with fail
    go_ret2
    exact ⟨ret_sp R1.out R2.out, by go_grown⟩
  rw [tc] at HC
  have HI := isInRange_any k 0 ((s.size : Int) - 1)
  cases h1 : inB k 0 ((s.size : Int) - 1)
  · have R1 := Lib.hid (show spB s k = false by simp [spB, h1])
    have R2 := Lib.hid (show spS s k = ⟨#[]⟩ by simp [spS, spB, h1])
    rw [h1] at HI
    clear h1 tc
    go_enter Tryd.func49, Tryd.ntmps49
    go_wp2_with fail
    (go_at_call 19; (with_reducible refine (HC).mono ?_); rintro e wB ⟨rfl, h1⟩; (try with_reducible replace h1 := undrew h1); have hB : Below w.heap.size w wB := ba (by go_grown) h1; obtain ⟨hcwB, hfwB⟩ := bcell h1; have hqwB := h1.size; (try simp at hqwB); )
    go_wp2_with (go_at_call 53; refine (HI _).mono ?_; rintro e w' ⟨rfl, rfl⟩)
    go_ret2
    exact ⟨ret_sp R1.out R2.out, by go_grown⟩
  · have R1 := Lib.hid (show spB s k = true by simp [spB, tc, h1])
    have R2 := Lib.hid (show spS s k = ofL (s.data.toList.drop k.toNat ++ s.data.toList.take k.toNat) by simp [spS, spB, tc, h1])
    have g1 : 0 ≤ k ∧ k ≤ (s.size : Int) - 1 := by simpa [inB] using h1
    obtain ⟨a, rfl⟩ : ∃ a : Nat, k = a := ⟨k.toNat, by omega⟩
    rw [Int.toNat_natCast] at R2
    have k1 : a < s.size := by omega
    have h24 : s.size ≤ 24 := by rw [← sz_list]; exact ((lnB_iff _).1 tc).n24
    have hz := sz_list s
    have i1 : (0 : Int) ≤ (a : Int) := by omega
    have i2 : (a : Int) ≤ (s.size : Int) := by omega
    rw [h1] at HI
    obtain ⟨l, hl⟩ : ∃ l, s.data.toList = l := ⟨_, rfl⟩
    rw [hl] at R2 hz
    obtain ⟨i0, hi, iz0, iz1, iz2⟩ := info_parts byteInfo
    clear g1 h1 tc
    go_enter Tryd.func49, Tryd.ntmps49
    go_wp2_with fail
    refine HC.mono ?_
    rintro e w1 ⟨rfl, h1⟩
    have q := run_bytes_of_string (P := Tryd.prog) w1 9 76 5 s Tryd.underlying9 Tryd.underlying76 Tryd.underlying5
    have h0 := Bys.new w1 s (grownCap w1 s.size 0 5) 5
    have hcap := grownCap_ge w1 s.size 0 5
    obtain ⟨cap, hc⟩ : ∃ cap, cap = grownCap w1 s.size 0 5 := ⟨_, rfl⟩
    rw [← hc] at q h0 hcap
    obtain ⟨R, hR⟩ : ∃ R, R = Obj.cells (bytesRow s cap) 5 ((bytesRow s cap).size, (bytesRow s cap).size + 1) := ⟨_, rfl⟩
    rw [← hR] at q h0
    rw [hl] at h0
    have HB0 := Lib.hid h0
    have H1 := Lib.hid h1
    clear h0 h1 hc hR hl
    go_wp2_with (go_at_call 53; refine (HI _).mono ?_; rintro e w' ⟨rfl, rfl⟩)
    have HD := Lib.hid (show Bys (w1.drew.alloc R) w1.heap.size l from HB0.out)
    have z1 := H1.out.size
    by_cases h0 : a = 0
    · subst h0
      have RR := Lib.hid (R2.out.trans (show ofL (l.drop 0 ++ l.take 0) = ofL l by simp))
      have qb := back_row (w1.alloc R).drew.drew w1.heap.size s.size s.size l hz (byV_at HD.out 0)
      go_region_law (refine step_none (by rfl) (.tmp 26) (.tmp 29) 76 (by rfl) 5 i0 Tryd.underlying76 hi ⟨w1.heap.size, 0, none⟩ s.size (by simp [Act.eval, Act.put]) (some ⟨w1.heap.size, 0, none⟩) cap (by simp [Act.eval, Act.put]) ?_)
      all_goals
        go_wp2_with fail
        go_ret2
        exact ⟨ret_sp R1.out RR.out, (H1.out.alloc H1.out.size R).trans ((below_dw _ _).trans (below_dw _ _))⟩
    · have RR := Lib.hid R2.out
      have hlo : (byV (l.drop a)).length = (s.size - a) * 1 := by rw [byV_len, List.length_drop, hz]; omega
      have hln : (byV (l.take a)).length = a * 1 := by rw [byV_len, List.length_take, hz]; omega
      have hjl : (l.drop a ++ l.take a).length = s.size - a + a := by rw [List.length_append, List.length_drop, List.length_take, hz]; omega
      have HLO := Lib.hid hlo
      have HLN := Lib.hid hln
      have HJL := Lib.hid hjl
      have HOL := Lib.hid (byV_at HD.out a)
      have HNW := Lib.hid (byV_top HD.out a)
      have hbl := show Below w.heap.size w (w1.alloc R).drew.drew from (H1.out.alloc H1.out.size R).trans ((below_dw _ _).trans (below_dw _ _))
      have HBL := Lib.hid hbl
      have i3 : (a : Int) ≤ (cap : Int) := by omega
      have i4 : (s.size : Int) ≤ (cap : Int) := by omega
      have sub : (s.size : Int) - (a : Int) = ((s.size - a : Nat) : Int) := by omega
      clear hlo hln hjl hbl
      go_region_law (refine step_append_grows (by rfl) (.tmp 26) (.tmp 29) 76 (by rfl) 5 i0 (.int .u8 0) 1 1 Tryd.underlying76 hi iz0 iz1 iz2 (by rfl) (by decide) (some ⟨w1.heap.size, a, none⟩) (s.size - a) (s.size - a) (byV (l.drop a)) (by simp [Act.eval, Act.put]; omega) (by intro h; cases h) HLO.out (by intro b hb; injection hb with hb; subst hb; exact HOL.out) ⟨w1.heap.size, 0, none⟩ a cap (byV (l.take a)) (by simp [Act.eval, Act.put]) HLN.out HNW.out (byV_one _) (by omega) (by unfold maxLen; omega) (by omega) ?_; intro v' W' hown hgr; obtain ⟨g', cap', rfl, hg1, hg2, hgc⟩ := own_some1 hown (by omega); have qb := back_row W' g' cap' (s.size - a + a) (l.drop a ++ l.take a) HJL.out (by rw [show byV (l.drop a ++ l.take a) = byV (l.drop a) ++ byV (l.take a) by simp [byV]]; exact hgc); have HB2 := Lib.hid (HBL.out.grown hgr HBL.out.size (by intro b hb; cases hb)); clear hown hgr hgc)
      all_goals
        go_wp2_with fail
        go_ret2
        exact ⟨ret_sp R1.out RR.out, HB2.out⟩

end Go.Proofs.YtogimjbjdgccnaaDoor
