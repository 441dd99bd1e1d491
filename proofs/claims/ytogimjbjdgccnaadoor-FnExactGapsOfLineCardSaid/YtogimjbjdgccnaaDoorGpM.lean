/- Gaps between trains: what they are, in plain words; the model's contract. -/
import Derived.Test.YtogimjbjdgccnaaDoorSnL
import Derived.Test.YtogimjbjdgccnaaDoorNs
import Derived.Test.YtogimjbjdgccnaaDoorCoO
import Derived.Maps.AppendAt
namespace Go.Proofs.YtogimjbjdgccnaaDoor
open Go.ChangeShapes Go.WideShapes Go.ChangeAt Go.RowKit
open Ln

set_option linter.unusedVariables false

/-- How many blocks ahead of a block there is no train. -/
def gapN (l : List UInt8) (i : Nat) : Nat := ((List.range l.length).find? fun j => tr l ((i + j + 1) % l.length)).getD 0

theorem gap_eq {l : List UInt8} {i j n : Nat} (hn : l.length = n) (hj : j < n) (hy : tr l ((i + j + 1) % n) = true) (hnn : ∀ m, m < j → tr l ((i + m + 1) % n) = false) : gapN l i = j := by
  subst hn
  have : (List.range l.length).find? (fun j => tr l ((i + j + 1) % l.length)) = some j := by
    rw [List.find?_range_eq_some]
    exact ⟨hy, by simpa using hj, fun m hm => by rw [hnn m hm]; rfl⟩
  rw [gapN, this]
  rfl

theorem gap_end {l : List UInt8} {i n : Nat} (hn : l.length = n) (hi : i < n) (h : tr l i = true) : tr l ((i + (n - 1) + 1) % n) = true := by
  rw [show i + (n - 1) + 1 = i + n by omega, Nat.add_mod_right, Nat.mod_eq_of_lt hi]
  exact h

theorem gap_ex {l : List UInt8} {i n : Nat} (hn : l.length = n) (hi : i < n) (h : tr l i = true) : ∃ j, j < n ∧ tr l ((i + j + 1) % n) = true ∧ ∀ m, m < j → tr l ((i + m + 1) % n) = false := by
  have he := gap_end hn hi h
  have key : ∀ k, k < n → (∀ m, m < k → tr l ((i + m + 1) % n) = false) → ∃ j, j < n ∧ tr l ((i + j + 1) % n) = true ∧ ∀ m, m < j → tr l ((i + m + 1) % n) = false := by
    intro k hk
    induction hd : n - k generalizing k with
    | zero => omega
    | succ d ih =>
      intro hm
      cases ht : tr l ((i + k + 1) % n)
      · by_cases e : k + 1 < n
        · exact ih (k + 1) e (by omega) fun m h2 => by
            by_cases q : m = k
            · rw [q]; exact ht
            · exact hm m (by omega)
        · rw [show k = n - 1 by omega, he] at ht
          cases ht
      · exact ⟨k, hk, ht, hm⟩
  exact key 0 (by omega) fun m hm => absurd hm (by omega)

def gpL (l : List UInt8) (k : Nat) : List Int := ((List.range k).filter fun i => tr l i).map fun i => (gapN l i : Int)

theorem gpL_yes {l : List UInt8} {k : Nat} (h : tr l k = true) : gpL l (k + 1) = gpL l k ++ [(gapN l k : Int)] := by
  rw [gpL, List.range_succ, List.filter_append, List.map_append]
  simp [h, gpL]

theorem gpL_no {l : List UInt8} {k : Nat} (h : tr l k = false) : gpL l (k + 1) = gpL l k := by
  rw [gpL, List.range_succ, List.filter_append, List.map_append]
  simp [h, gpL]

theorem gpL_len (l : List UInt8) (k : Nat) : (gpL l k).length ≤ k := by
  rw [gpL, List.length_map]
  have := List.length_filter_le (fun i => tr l i) (List.range k)
  rwa [List.length_range] at this

def gpR (s : ByteArray) : List Int := cond (lnB s.data.toList) (gpL s.data.toList s.size) []

theorem gpR_no {s : ByteArray} (h : lnB s.data.toList = false) : gpR s = [] := by rw [gpR, h]; rfl

theorem gpR_yes {s : ByteArray} (h : lnB s.data.toList = true) : gpR s = gpL s.data.toList s.size := by rw [gpR, h]; rfl

theorem intInfo2 : (Tryd.prog.info? 3).map (fun i => (i.zero, i.size, i.bytes)) = some (some (.int .i64 0), 1, 8) := by kernel_rfl

theorem nsE {w w' : World} {v : Value} {xs ys : List Int} {b : Bool} (e : ys = xs) (h : w'.ownsRow w.heap.size 3 1 v xs.length (xs.map (Value.int .i64))) (hb : Below w.heap.size w w') : NSPost ys b w (.returned (.tuple #[v, .bool b])) w' := by subst e; exact ⟨v, rfl, h, hb⟩

theorem gp_form {W : World} {B : Nat} {e : TypeId} {v : Value} {xs : List Int} {n : Nat} (h : W.ownsRow B e 1 v n (xs.map (Value.int .i64))) : ∃ av cv, v = .slice av n cv := by
  rcases h.2 with ⟨h, h0⟩ | ⟨g, cap, cur, h, _⟩
  · exact ⟨none, 0, by rw [h, h0]⟩
  · exact ⟨_, _, h⟩

set_option maxRecDepth 100000 in
set_option maxHeartbeats 3200000 in
theorem spGapsOfLine (s : ByteArray) (hs : s.size ≤ 1048576) (w : World) :
    Calls Tryd.prog 32 #[.string s] w (NSPost (gpR s) (lnB s.data.toList) w) := by
  have TG := tnGood_any s hs
  cases hb : lnB s.data.toList
  · rw [hb] at TG
    have HR := Lib.hid (gpR_no hb)
    clear hb
    go_enter Tryd.func32, Tryd.ntmps32
    go_wp2_with (go_at_call 52; refine (TG _).mono ?_; rintro e w' ⟨rfl, rfl⟩)
    go_ret2
    exact nsE HR.out (World.ownsRow_nil _ _ _ _) (Below.refl _ _)
  · rw [hb] at TG
    have HR := Lib.hid (gpR_yes hb)
    have hl := (lnB_iff _).1 hb
    have hz := sz_list s
    have n24 : s.size ≤ 24 := by rw [← hz]; exact hl.n24
    have n1 : 1 ≤ s.size := by rw [← hz]; exact hl.n1
    have BY := Lib.hid (fun (j : Nat) (hj : j < s.size) => ln_byte hl hj)
    have GE := Lib.hid (fun (i j : Nat) (hj : j < s.size) (hy : tr s.data.toList ((i + j + 1) % s.size) = true) (hnn : ∀ m, m < j → tr s.data.toList ((i + m + 1) % s.size) = false) => gap_eq hz hj hy hnn)
    have GN := Lib.hid (fun (i : Nat) (hi : i < s.size) (h : tr s.data.toList i = true) => gap_end hz hi h)
    have LL := Lib.hid (fun k => gpL_len s.data.toList k)
    have n0 : ((s.size : Int) == 0) = false := beq_eq_false_iff_ne.2 (by omega)
    obtain ⟨i0, hi, iz0, iz1, iz2⟩ := info_parts intInfo2
    clear hb hl hz
    go_enter Tryd.func32, Tryd.ntmps32
    go_wp2_with (go_at_call 52; refine (TG _).mono ?_; rintro e w' ⟨rfl, rfl⟩)
    go_loopw [4, 6] (fun v i wr => ∃ k : Nat, k ≤ s.size ∧ i = .int .i64 k ∧ wr.ownsRow w.heap.size 3 1 v (gpL s.data.toList k).length ((gpL s.data.toList k).map (Value.int .i64)) ∧ Below w.heap.size w wr) (fun _ i _ => s.size - (intOf i).toNat)
    case atStart => exact ⟨0, Nat.zero_le _, rfl, World.ownsRow_nil _ _ _ _, Below.refl _ _⟩
    case round =>
      obtain ⟨k, hk, rfl, hO, hB⟩ := hrel
      have HO := Lib.hid hO
      have HB := Lib.hid hB
      have ll := LL.out k
      have zb := hB.size
      have k0 : (0 : Int) ≤ (k : Int) := by omega
      obtain ⟨av, cv, rfl⟩ := gp_form hO
      clear hO hB
      by_cases hlt : k < s.size
      · rcases BY.out k hlt with ⟨h1, h2⟩ | ⟨h1, h2⟩
        · have b1 := byte_T h2
          have ST := Lib.hid (show (gpL s.data.toList (k + 1)) = gpL s.data.toList k ++ [(gapN s.data.toList k : Int)] from gpL_yes h1)
          have GNk := Lib.hid (GN.out k hlt h1)
          clear h1 h2
          go_wp2_with fail
          go_loop [7] (fun u => ∃ j : Nat, j ≤ s.size - 1 ∧ u = .int .i64 j ∧ Hid (∀ m, m < j → tr s.data.toList ((k + m + 1) % s.size) = false)) (fun u => s.size - (intOf u).toNat)
          case atStart => exact ⟨0, Nat.zero_le _, rfl, Lib.hid fun m hm => absurd hm (by omega)⟩
          case round =>
            obtain ⟨j, hj, rfl, hN⟩ := hrel
            have j0 : (0 : Int) ≤ (j : Int) := by omega
            have fin : tr s.data.toList ((k + j + 1) % s.size) = true → gapN s.data.toList k = j := fun h => GE.out k j (by omega) h hN.out
            have FIN := Lib.hid fin
            have HO2 := Lib.hid (HO.out.alloc (.cells #[.int .i64 (j : Int)] 3))
            have cellj := cell_new1 wr (.int .i64 (j : Int)) 3
            clear fin
            by_cases c1 : j + 1 < s.size
            · have c2 : (j : Int) + 1 < (s.size : Int) := by omega
              have hrm := rem_nat (k + j + 1) s.size
              rw [show ((k + j + 1 : Nat) : Int) = (k : Int) + (j : Int) + 1 by omega] at hrm
              have hml : (k + j + 1) % s.size < s.size := Nat.mod_lt _ (by omega)
              have hby := BY.out _ hml
              have STp := Lib.hid (fun (h : tr s.data.toList ((k + j + 1) % s.size) = false) => Lib.hid (fun m (hm : m < j + 1) => show tr s.data.toList ((k + m + 1) % s.size) = false by
                by_cases e : m = j
                · rw [e]; exact h
                · exact hN.out m (by omega)))
              generalize (k + j + 1) % s.size = M at *
              rcases hby with ⟨q1, q2⟩ | ⟨q1, q2⟩
              · have b2 := byte_T q2
                have e := FIN.out q1
                rw [e] at ST
                clear q1 q2
                go_wp2_with (at_builtin; refine wpList_append_own_at _ rfl _ _ 31 rfl w.heap.size 3 i0 (.int .i64 0) 1 8 Tryd.underlying31 hi iz0 iz1 iz2 rfl (by decide) _ _ _ rfl HO2.out ⟨wr.heap.size, 0, none⟩ 1 1 [.int .i64 (j : Int)] rfl rfl cellj (by intro u hu; simp at hu; subst hu; rfl) (by unfold maxLen; omega) (by omega) (by simp; omega) ?_; intro v' W4 hown' hgr hnil hloc; have HV4 := Lib.hid hown'; have HB4 := Lib.hid ((HB.out.alloc zb (.cells #[.int .i64 (j : Int)] 3)).grown hgr (by simp; omega) (fun b hb => (HO2.out.lt b hb).1)); clear hown' hgr hnil hloc)
                go_roundw
                case rel => exact ⟨k + 1, by omega, by go_num, by rw [ST.out, List.length_append, List.map_append]; exact HV4.out, HB4.out⟩
                case measure => simp [intOf]; omega
              · have b2 := byte_E q2
                have E := Lib.hid (STp.out q1)
                clear q1 q2
                go_wp2_with fail
                go_round
                case rel => exact ⟨j + 1, by omega, by go_num, E.out⟩
                case measure => simp [intOf]; omega
            · have c2 : ¬ ((j : Int) + 1 < (s.size : Int)) := by omega
              have e := FIN.out (by rw [show j = s.size - 1 by omega]; exact GNk.out)
              rw [e] at ST
              go_wp2_with (at_builtin; refine wpList_append_own_at _ rfl _ _ 31 rfl w.heap.size 3 i0 (.int .i64 0) 1 8 Tryd.underlying31 hi iz0 iz1 iz2 rfl (by decide) _ _ _ rfl HO2.out ⟨wr.heap.size, 0, none⟩ 1 1 [.int .i64 (j : Int)] rfl rfl cellj (by intro u hu; simp at hu; subst hu; rfl) (by unfold maxLen; omega) (by omega) (by simp; omega) ?_; intro v' W4 hown' hgr hnil hloc; have HV4 := Lib.hid hown'; have HB4 := Lib.hid ((HB.out.alloc zb (.cells #[.int .i64 (j : Int)] 3)).grown hgr (by simp; omega) (fun b hb => (HO2.out.lt b hb).1)); clear hown' hgr hnil hloc)
              go_roundw
              case rel => exact ⟨k + 1, by omega, by go_num, by rw [ST.out, List.length_append, List.map_append]; exact HV4.out, HB4.out⟩
              case measure => simp [intOf]; omega
        · have b1 := byte_E h2
          have ST := Lib.hid (gpL_no h1)
          clear h1 h2
          go_wp2_with fail
          go_roundw
          case rel => exact ⟨k + 1, by omega, by go_num, by rw [ST.out]; exact HO.out, HB.out⟩
          case measure => simp [intOf]; omega
      · obtain rfl : k = s.size := by omega
        go_wp2_with fail
        go_ret2
        exact nsE HR.out HO.out HB.out

end Go.Proofs.YtogimjbjdgccnaaDoor
