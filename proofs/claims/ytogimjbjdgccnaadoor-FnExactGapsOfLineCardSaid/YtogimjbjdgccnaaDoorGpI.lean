/- Gaps between trains: the program's contract. -/
import Derived.Test.YtogimjbjdgccnaaDoorGpM
import Derived.Deep.AppendLies
import Derived.Deep.RegionLaw
namespace Go.Proofs.YtogimjbjdgccnaaDoor
open Go.ChangeShapes Go.WideShapes Go.ChangeAt Go.RowKit
open Ln

set_option linter.unusedVariables false

theorem rot_get {l : List UInt8} {i m n : Nat} (hn : l.length = n) (hi : i < n) (hm : m < n) : (l.drop (i + 1) ++ l.take (i + 1))[m]? = l[(i + m + 1) % n]? := by
  subst hn
  rw [List.getElem?_append, List.length_drop]
  split
  · rename_i h
    rw [List.getElem?_drop, Nat.mod_eq_of_lt (by omega)]
    congr 1
    omega
  · rename_i h
    rw [List.getElem?_take, if_pos (by omega)]
    have : (i + m + 1) % l.length = m - (l.length - (i + 1)) := by
      rw [Nat.mod_eq_sub_mod (by omega), Nat.mod_eq_of_lt (by omega)]
      omega
    rw [this]

theorem rot_idx {s : ByteArray} (hl : LnOk s.data.toList) {i : Nat} (hi : i < s.size) (h : tr s.data.toList i = true) : Lib.indexByte (s.extract (i + 1) s.size ++ s.extract 0 (i + 1)).data.toList 84 = (gapN s.data.toList i : Nat) := by
  have hz := sz_list s
  rw [rot_eq, show (ofL (s.data.toList.drop (i + 1) ++ s.data.toList.take (i + 1))).data.toList = s.data.toList.drop (i + 1) ++ s.data.toList.take (i + 1) by simp [ofL]]
  obtain ⟨j, hj, hy, hn⟩ := gap_ex hz hi h
  rw [gap_eq hz hj hy hn]
  refine idx_at 84 _ j ?_ fun m hm => ?_
  · rw [rot_get hz hi hj, getD_at (by rw [hz]; exact Nat.mod_lt _ (by omega)), tr_yes hy]
  · rw [rot_get hz hi (by omega), getD_at (by rw [hz]; exact Nat.mod_lt _ (by omega)), hl.tr_no (hn m hm)]
    decide

theorem gapN_lt {s : ByteArray} {i : Nat} (hi : i < s.size) (h : tr s.data.toList i = true) : gapN s.data.toList i < s.size := by
  obtain ⟨j, hj, hy, hn⟩ := gap_ex (sz_list s) hi h
  rw [gap_eq (sz_list s) hj hy hn]
  exact hj

set_option maxRecDepth 100000 in
set_option maxHeartbeats 3200000 in
theorem imGapsOfLine (s : ByteArray) (hs : s.size ≤ 1048576) (w : World) :
    Calls Tryd.prog 33 #[.string s] w (NSPost (gpR s) (lnB s.data.toList) w) := by
  have IL := imIsLine s hs w
  cases hb : lnB s.data.toList
  · rw [hb] at IL
    have HR := Lib.hid (gpR_no hb)
    clear hb
    go_enter Tryd.func33, Tryd.ntmps33
    go_wp2_with fail
    (go_at_call 19; (with_reducible refine (IL).mono ?_); rintro e wB ⟨rfl, h1⟩; (try with_reducible replace h1 := undrew h1); have hB : Below w.heap.size w wB := ba (by go_grown) h1; obtain ⟨hcwB, hfwB⟩ := bcell h1; have hqwB := h1.size; (try simp at hqwB); )
    go_wp2_with fail
    go_ret2
    exact nsE HR.out (World.ownsRow_nil _ _ _ _) (by go_grown)
  · rw [hb] at IL
    have HR := Lib.hid (gpR_yes hb)
    have hl := (lnB_iff _).1 hb
    have hz := sz_list s
    have n24 : s.size ≤ 24 := by rw [← hz]; exact hl.n24
    have BY := Lib.hid (fun (j : Nat) (hj : j < s.size) => ln_byte hl hj)
    have IX := Lib.hid (fun k (hk : k < s.size) (ht : tr s.data.toList k = true) (W : World) => show Calls Tryd.prog 68 #[.string (s.extract (k + 1) s.size ++ s.extract 0 (k + 1)), .string ⟨#[84]⟩] W fun e w' => e = .returned (.int .i64 (gapN s.data.toList k : Nat)) ∧ W = w' by
      have := Tryd.strings_Index_one (s.extract (k + 1) s.size ++ s.extract 0 (k + 1)) 84 W
      rw [rot_idx hl hk ht] at this
      exact this.mono fun _ _ h => ⟨h.1, h.2.symm⟩)
    have GL := Lib.hid (fun k (hk : k < s.size) (ht : tr s.data.toList k = true) => gapN_lt hk ht)
    have LL := Lib.hid (fun k => gpL_len s.data.toList k)
    have SZ := Lib.hid (fun a b => show (s.extract a b).size ≤ 40 by rw [ByteArray.size_extract]; omega)
    obtain ⟨i0, hi, iz0, iz1, iz2⟩ := info_parts intInfo2
    clear hb hl hz
    go_enter Tryd.func33, Tryd.ntmps33
    go_wp2_with fail
    refine IL.mono ?_
    rintro e w1 ⟨rfl, h1⟩
    have H1 := Lib.hid h1
    have zw := h1.size
    clear h1
    go_wp2_with fail
    go_loopw [4, 11] (fun v i wr => ∃ k : Nat, k ≤ s.size ∧ i = .int .i64 k ∧ wr.ownsRow w.heap.size 3 1 v (gpL s.data.toList k).length ((gpL s.data.toList k).map (Value.int .i64)) ∧ Below w.heap.size w wr) (fun _ i _ => s.size - (intOf i).toNat)
    case atStart => exact ⟨0, Nat.zero_le _, rfl, World.ownsRow_nil _ _ _ _, H1.out⟩
    case round =>
      obtain ⟨k, hk, rfl, hO, hB⟩ := hrel
      have HO := Lib.hid hO
      have HB := Lib.hid hB
      have ll := LL.out k
      have zb := hB.size
      have k0 : (0 : Int) ≤ (k : Int) := by omega
      obtain ⟨av, cv, rfl⟩ := gp_form hO
      clear hO hB
      by_cases hlt : k < s.size
      · rcases BY.out k hlt with ⟨h1, h2⟩ | ⟨h1, h2⟩
        · have ht : (s.extract k (k + 1)).toList = [84] := by rw [ext_one s k hlt, ByteArray.toList_eq, h2]
          have ST := Lib.hid (show (gpL s.data.toList (k + 1)) = gpL s.data.toList k ++ [(gapN s.data.toList k : Int)] from gpL_yes h1)
          have IXk := Lib.hid (IX.out k hlt h1)
          have gl := GL.out k hlt h1
          have e1 := SZ.out (k + 1) s.size
          have e2 := SZ.out 0 (k + 1)
          have i1 : (0 : Int) ≤ (k : Int) + 1 := by omega
          have i2 : (k : Int) + 1 ≤ (s.size : Int) := by omega
          have cc : ¬ 9223372036854775807 < s.size - (k + 1) + min (k + 1) s.size := by omega
          have ww : IntKind.i64.wrap ((k : Int) + 1) = (k : Int) + 1 := by rw [IntKind.wrap_i64]; omega
          clear h1 h2
          generalize gapN s.data.toList k = G at *
          go_wp2_with fail
          go_region_law (first | (go_simp; go_at_call 68; (with_reducible refine Calls.mono (IXk.out _) ?_); rintro e wA ⟨rfl, rfl⟩) | ((refine step_append_lies _ (by rfl) _ _ _ (by rfl) w.heap.size 3 i0 _ 1 8 Tryd.underlying31 hi iz0 iz1 iz2 (by rfl) (by decide) (.slice av (gpL s.data.toList k).length cv) (gpL s.data.toList k).length ((gpL s.data.toList k).map (Value.int .i64)) ?hs ?hown ⟨wr.heap.size, 0, none⟩ 1 1 [.int .i64 (G : Int)] ?hx (by rfl) ?hnews (by intro u hu; simp at hu; subst hu; rfl) (by decide) (by unfold maxLen; omega) (by omega) ?hbase (wr.heap.size + 1) ?hH ?_); (case hs => first | rfl | simp [Act.eval]); (case hx => first | rfl | simp [Act.eval]); (case hown => exact HO.out.alloc _); (case hnews => exact cell_new1 _ _ _); (case hbase => (simp; omega)); (case hH => simp); intro g3 cap3 w3 hown3 hgrow hat hlt9; have HV4 := Lib.hid hown3; have HG4 := Lib.hid hgrow; clear hown3 hgrow hat hlt9))
          all_goals
            have hBD := show Below w.heap.size w (wr.alloc (.cells #[.int .i64 (G : Int)] 3)).drew from (HB.out.alloc zb _).trans (below_dw _ _)
            have HB4 := Lib.hid (hBD.grown HG4.out (by simp; omega) (fun b hb => ((HO.out.alloc (.cells #[.int .i64 (G : Int)] 3)).lt b hb).1))
            clear hBD
            go_wp2_with fail
            go_roundw
            case rel => exact ⟨k + 1, by omega, by go_num, by rw [ST.out, List.length_append, List.map_append]; exact HV4.out, HB4.out⟩
            case measure => simp [intOf]; omega
        · have ht : (s.extract k (k + 1)).toList = [46] := by rw [ext_one s k hlt, ByteArray.toList_eq, h2]
          have ST := Lib.hid (gpL_no h1)
          clear h1 h2
          go_wp2_with fail
          go_roundw
          case rel => exact ⟨k + 1, by omega, by go_num, by rw [ST.out]; exact HO.out, HB.out⟩
          case measure => simp [intOf]; omega
      · obtain rfl : k = s.size := by omega
        go_wp2_with fail
        go_ret2
        exact nsE HR.out HO.out HB.out

def gpB (s : ByteArray) : Bool := lnB s.data.toList

theorem GapsOfLine_bd (s : ByteArray) (hs : s.size ≤ 1048576) : (gpR s).length ≤ 1000000 := by
  cases h : lnB s.data.toList
  · rw [gpR_no h]; decide
  · rw [gpR_yes h]
    have := gpL_len s.data.toList s.size
    have : s.size ≤ 24 := by rw [← sz_list]; exact ((lnB_iff _).1 h).n24
    omega

end Go.Proofs.YtogimjbjdgccnaaDoor
