/- Contract: the library's slices.Repeat at one text, a few times. -/
import Derived.Test.YtogimjbjdgccnaaRn
import Derived.Test.YtogimjbjdgccnaaShelf
import Derived.Test.YtogimjbjdgccnaaRpM
import Derived.Deep.RegionLaw
import Derived.Laws.CopyOwn
namespace Go.Proofs.Ytogimjbjdgccnaa
open Go.ChangeShapes Go.WideShapes Go.ChangeAt Go.RowKit

set_option linter.unusedVariables false

theorem strInfo : (Try.prog.info? 9).map (fun i => (i.zero, i.size, i.bytes)) = some (some (.string ⟨#[]⟩), 1, 16) := by kernel_rfl

theorem mul_one_any (t : Nat) (ht : t ≤ 41) (w : World) :
    Calls Try.prog 14 #[.int .u64 1, .int .u64 (t : Nat)] w fun e w' => e = .returned (.tuple #[.int .u64 0, .int .u64 (t : Nat)]) ∧ w = w' := by
  refine (Try.bits_Mul 1 t (by decide) (by omega) w).mono ?_
  rintro e w' ⟨rfl, rfl⟩
  have h1 : 1 * t / 18446744073709551616 = 0 := by rw [Nat.one_mul]; exact Nat.div_eq_of_lt (by omega)
  have h2 : 1 * t % 18446744073709551616 = t := by rw [Nat.one_mul]; exact Nat.mod_eq_of_lt (by omega)
  rw [h1, h2]
  exact ⟨rfl, rfl⟩

def RpPost (s : ByteArray) (t : Nat) (w : World) (e : Ending) (w' : World) : Prop :=
  ∃ g, e = .returned (.slice (some ⟨g, 0, none⟩) t t) ∧ g < w'.heap.size ∧ (∀ j : Nat, j < t → w'.cell? ⟨g, j, none⟩ = some (.string s)) ∧ (∀ j : Nat, j < t → w'.frozen? ⟨g, j, none⟩ = false) ∧ w.heap.size ≤ g ∧ Below w.heap.size w w'

theorem rep_one (s : ByteArray) (m : Nat) : ∀ v ∈ List.replicate m (Value.string s), v.oneCell' = true := by
  intro v hv
  rw [(List.mem_replicate.1 hv).2]
  rfl

theorem src_one {s : ByteArray} {W : World} {b : Nat} (h : W.cell? ⟨b, 0, none⟩ = some (.string s)) : ∀ (j : Nat) v, (List.replicate 1 (Value.string s))[j]? = some v → W.cell? ((⟨b, 0, none⟩ : Addr).add j) = some v := by
  intro j v hj
  match j, hj with
  | 0, hj => simp at hj; subst hj; exact h

theorem src_row {s : ByteArray} {W : World} {g t n : Nat} {e : TypeId} (h : W.heap[g]? = some (.cells (rowR s t n).toArray e (0, 0))) (m : Nat) (hm : m ≤ n) : ∀ (j : Nat) v, (List.replicate m (Value.string s))[j]? = some v → W.cell? ((⟨g, 0, none⟩ : Addr).add j) = some v := by
  intro j v hj
  obtain ⟨hjm, rfl⟩ := List.getElem?_eq_some_iff.1 hj
  have hjm' : j < m := by simpa using hjm
  have ha : ((⟨g, 0, none⟩ : Addr).add j) = ⟨g, j, none⟩ := by by_cases e : j = 0 <;> simp [Addr.add, e]
  rw [ha, Lib.cell_of_heap h]
  simpa using rowR_at s t n j (by omega)

set_option maxRecDepth 100000 in
set_option maxHeartbeats 1600000 in
theorem repeat_any (s : ByteArray) (t b : Nat) (ht : t ≤ 41) (w : World) (hb : b < w.heap.size) (hc : w.cell? ⟨b, 0, none⟩ = some (.string s)) :
    Calls Try.prog 12 #[.slice (some ⟨b, 0, none⟩) 1 1, .int .i64 (t : Nat)] w (RpPost s t w) := by
  obtain ⟨i0, hi, iz0, iz1, iz2⟩ := info_parts strInfo
  have hmk : ∀ w : World, (Instr.makeSlice 30 (.int .i64 ((t : Nat) : Int)) (.int .i64 ((t : Nat) : Int))).run Try.prog w = .ok (.slice (some ⟨w.heap.size, 0, none⟩) t t) (w.alloc (.cells (rowR s t 0).toArray 9)) := fun w => by
    have h := run_makeSlice (P := Try.prog) w 30 9 i0 _ Try.underlying30 hi iz0 .i64 .i64 ((t : Nat) : Int) ((t : Nat) : Int) (by omega) (Int.le_refl _) (by rw [iz1]; omega) (by rw [iz2]; omega) (by omega)
    rw [h, iz1, Int.toNat_natCast, Nat.mul_one, rowR_made s t]
  have hsz : (Try.prog.info? 9).map (·.size) = some 1 := by kernel_rfl
  rcases Nat.eq_zero_or_pos t with rfl | hpos
  · have hmk0 : ∀ w : World, (Instr.makeSlice 30 (.int .i64 0) (.int .i64 0)).run Try.prog w = .ok (.slice (some ⟨w.heap.size, 0, none⟩) 0 0) (w.alloc (.cells (rowR s 0 0).toArray 9)) := hmk
    go_enter Try.func12, Try.ntmps12
    go_wp2_with (first | (go_at_call 14; refine (mul_one_any _ (by omega) _).mono ?_; rintro e w' ⟨rfl, rfl⟩) | (with_reducible refine wpList_copy_splice rfl (.tmp 31) (.tmp 32) 30 30 rfl 9 Try.underlying30 hsz (some ⟨w.heap.size, 0, none⟩) (some ⟨b, 0, none⟩) 0 0 1 1 rfl rfl w.heap.size 0 (rowR s 0 0) 9 (heap_alloc_new _ _) [] rfl (fun h => absurd h (by simp)) (by simp) (by simp) w.heap.size w ((Below.refl _ _).alloc (Nat.le_refl _) _) (Nat.le_refl _) ?_))
    intro w1 hH hb1
    have HB := Lib.hid hb1
    have hz := (Array.getElem?_eq_some_iff.1 hH.out).1
    clear hH hb1
    go_wp2_with fail
    refine wp_loop_rounds 1 ?_
    rw [rounds_succ]
    go_wp2_with fail
    go_ret
    exact ⟨w.heap.size, rfl, hz, fun j hj => absurd hj (by omega), fun j hj => absurd hj (by omega), Nat.le_refl _, HB.out⟩
  · have hn : (List.replicate 1 (Value.string s)).length = Nat.min 1 t := by show 1 = min 1 t; omega
    have HFIT := Lib.hid (show 0 + (List.replicate 1 (Value.string s)).length ≤ (rowR s t 0).length by rw [rowR_length s t 0 (by omega)]; show 0 + 1 ≤ t; omega)
    have HONE := Lib.hid (rep_one s 1)
    have HN1 := Lib.hid hn
    clear hn
    have HS := Lib.hid (src_one (s := s) (W := w.alloc (.cells (rowR s t 0).toArray 9)) (by rw [World.cell?_alloc_lt _ _ _ hb]; exact hc))
    go_enter Try.func12, Try.ntmps12
    go_wp2_with (first | (go_at_call 14; refine (mul_one_any _ (by omega) _).mono ?_; rintro e w' ⟨rfl, rfl⟩) | (with_reducible refine wpList_copy_splice rfl (.tmp 31) (.tmp 32) 30 30 rfl 9 Try.underlying30 hsz (some ⟨w.heap.size, 0, none⟩) (some ⟨b, 0, none⟩) t t 1 1 rfl rfl w.heap.size 0 (rowR s t 0) 9 (heap_alloc_new _ _) (List.replicate 1 (.string s)) HN1.out (fun _ => ⟨rfl, _, rfl, HS.out⟩) HFIT.out HONE.out w.heap.size w ((Below.refl _ _).alloc (Nat.le_refl _) _) (Nat.le_refl _) ?_))
    intro w1 hH hb1
    have hH' : w1.heap[w.heap.size]? = some (.cells (rowR s t 1).toArray 9 (0, 0)) := by
      have h := hH.out
      have h2 := rowR_splice s t 0 1 (by omega)
      rw [← h2]
      exact h
    have HB := Lib.hid hb1
    have HH := Lib.hid hH'
    clear hH hb1 hH'
    go_wp2_with fail
    go_loopw [8] (fun v wr => ∃ n : Nat, 1 ≤ n ∧ n ≤ t ∧ v = .int .i64 n ∧ wr.heap[w.heap.size]? = some (.cells (rowR s t n).toArray 9 (0, 0)) ∧ Below w.heap.size w wr) (fun v _ => t - (intOf v).toNat)
    case atStart => exact ⟨1, Nat.le_refl _, by omega, rfl, HH.out, HB.out⟩
    case round =>
      obtain ⟨n, hn1, hnt, rfl, hH, hb⟩ := hrel
      have HB2 := Lib.hid hb
      have HH2 := Lib.hid hH
      clear hb hH
      by_cases hlt : n < t
      · have i1 : (0 : Int) ≤ (n : Int) := by omega
        have i2 : (n : Int) ≤ (t : Int) := by omega
        have i3 : ¬ n = t := by omega
        have i4 : ¬ t = n := by omega
        have i5 : ¬ n = 0 := by omega
        have HN2 := Lib.hid (show (List.replicate (min n (t - n)) (Value.string s)).length = Nat.min n (t - n) from List.length_replicate)
        have HF2 := Lib.hid (show n + (List.replicate (min n (t - n)) (Value.string s)).length ≤ (rowR s t n).length by rw [rowR_length s t n hnt, List.length_replicate]; omega)
        have HO2 := Lib.hid (rep_one s (min n (t - n)))
        have HSRC := Lib.hid (src_row HH2.out (min n (t - n)) (by omega))
        have HSP := Lib.hid (rowR_splice s t n (min n (t - n)) (by omega))
        go_wp2_with fail
        go_region_law (refine step_copy_splice rfl (.tmp 41) (.tmp 44) 30 30 rfl 9 Try.underlying30 hsz (some ⟨w.heap.size, n, none⟩) (some ⟨w.heap.size, 0, none⟩) (t - n) (t - n) n t (by simp [Act.eval, Act.put]) (by simp [Act.eval, Act.put]) w.heap.size n (rowR s t n) 9 HH2.out (List.replicate (min n (t - n)) (.string s)) HN2.out (fun _ => ⟨rfl, _, rfl, HSRC.out⟩) HF2.out HO2.out w.heap.size w (by first | exact HB2.out | exact HB2.out.drew) (Nat.le_refl _) ?_; intro w3 hH3 hb3)
        have hH4 : w3.heap[w.heap.size]? = some (.cells (rowR s t (n + min n (t - n))).toArray 9 (0, 0)) := by
          have h := hH3.out
          rw [← HSP.out]
          exact h
        have HH4 := Lib.hid hH4
        have HB4 := Lib.hid hb3
        clear hH3 hb3 hH4
        have m1 : 1 ≤ min n (t - n) := by omega
        have m2 : n + min n (t - n) ≤ t := by omega
        clear HN2 HF2 HO2 HSRC HSP HH2 HB2
        generalize min n (t - n) = m at *
        have hwp : IntKind.i64.wrap ((n : Int) + (m : Int)) = (n : Int) + (m : Int) := by rw [IntKind.wrap_i64]; omega
        simp [Act.put, hwp]
        go_roundw
        case rel =>
          refine ⟨_, _, _, _, _, _, _, _, _, _, _, _, _, _, ?_, rfl⟩
          exact ⟨n + m, by omega, m2, by go_num, HH4.out, HB4.out⟩
        case measure => simp [intOf]; omega
      · obtain rfl : n = t := by omega
        have hz := (Array.getElem?_eq_some_iff.1 HH2.out).1
        go_wp2_with fail
        go_ret
        exact ⟨w.heap.size, rfl, hz, fun j hj => by rw [Lib.cell_of_heap HH2.out]; simpa using rowR_at s n n j hj, fun j hj => by simp [World.frozen?, HH2.out], Nat.le_refl _, HB2.out⟩

end Go.Proofs.Ytogimjbjdgccnaa
