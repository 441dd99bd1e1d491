/- Contract: the model's text of a number below 100. -/
import Derived.Test.YtoaccnpkobbaaaaDoorBa
import Derived.Test.YtoaccnpkobbaaaaDoorRuM
import Derived.Laws.Concat
import Derived.Shelf.SlicesE.Reverse
import Derived.Laws.IdiomStrings
namespace Go.Proofs.YtoaccnpkobbaaaaDoor
open Go.ChangeShapes Go.WideShapes Go.ChangeAt Go.RowKit

set_option linter.unusedVariables false

def oneD (d : Nat) : ByteArray := ofL [UInt8.ofNat (48 + d)]

theorem one_str (d B cap : Nat) (hd : d < 10) (w : World) (h : w.cell? ⟨B, 0, none⟩ = some (.int .u8 (48 + (d : Int)))) :
    (convert 65 9 (.slice (some ⟨B, 0, none⟩) 1 cap)).run Tryd.prog w = .ok (.string (oneD d)) w := by
  refine run_convert_bytes_back w 65 9 5 ⟨B, 0, none⟩ cap [UInt8.ofNat (48 + d)] Tryd.underlying65 Tryd.underlying5 Tryd.underlying9 (fun j hj => ?_)
  obtain rfl : j = 0 := by simpa using hj
  have h2 : ((UInt8.ofNat (48 + d)).toNat : Int) = 48 + (d : Int) := by
    rw [UInt8.toNat_ofNat']
    omega
  have h3 : ((⟨B, 0, none⟩ : Addr).add 0) = ⟨B, 0, none⟩ := by simp [Addr.add]
  rw [h3, h]
  exact congrArg (fun z => some (Value.int .u8 z)) h2.symm

set_option maxRecDepth 100000 in
theorem num_one (d : Nat) (h : d < 10) (w : World) :
    Calls Tryd.prog 35 #[.int .i64 (d : Nat)] w fun e w' => e = .returned (.string (ofL (Lib.decDigits d))) ∧ Below w.heap.size w w' := by
  have HD := Lib.hid (dd_small h)
  have q := one_str d w.heap.size 1 h (w.alloc (.cells #[.int .u8 (48 + (d : Int))] 5)) (by go_simp)
  go_enter Tryd.func35, Tryd.ntmps35
  go_wp2_with fail
  go_ret
  exact ⟨by rw [HD.out]; rfl, by go_grown⟩

set_option maxRecDepth 100000 in
set_option maxHeartbeats 1600000 in
theorem num_two (n : Nat) (h : ¬ n < 10) (h2 : n < 100) (w : World) :
    Calls Tryd.prog 35 #[.int .i64 (n : Nat)] w fun e w' => e = .returned (.string (ofL (Lib.decDigits n))) ∧ Below w.heap.size w w' := by
  obtain ⟨a, ha⟩ : ∃ a : Nat, n / 10 = a := ⟨_, rfl⟩
  obtain ⟨b, hb⟩ : ∃ b : Nat, n % 10 = b := ⟨_, rfl⟩
  have i1 : a < 10 := by omega
  have i2 : b < 10 := by omega
  have j1 : (0 : Int) ≤ (b : Int) := by omega
  have j2 : (b : Int) < 10 := by omega
  have hA : IntKind.i64.wrap ((n : Int) / 10) = (a : Int) := by rw [IntKind.wrap_i64]; omega
  have hB : (n : Int).tmod 10 = (b : Int) := by rw [Int.tmod_eq_emod_of_nonneg (by omega)]; omega
  have hC : IntKind.i64.wrap (48 + (b : Int)) = 48 + (b : Int) := by rw [IntKind.wrap_i64]; omega
  have hD : IntKind.u8.wrap (48 + (b : Int)) = 48 + (b : Int) := by rw [IntKind.wrap_u8]; omega
  have e1 : ofL (Lib.decDigits a) ++ oneD b = ofL (Lib.decDigits n) := by
    rw [dd_two h h2, ha, hb, dd_small i1]
    rfl
  have E := Lib.hid e1
  have hsz : (ofL (Lib.decDigits a)).size ≤ 2 := dd_len (by omega)
  have hsz2 : (oneD b).size ≤ 1 := Nat.le_refl _
  have NC := Lib.hid (num_one a i1)
  have hq : ∀ (B cap : Nat) (w : World), w.cell? ⟨B, 0, none⟩ = some (.int .u8 (48 + (b : Int))) → (convert 65 9 (.slice (some ⟨B, 0, none⟩) 1 cap)).run Tryd.prog w = .ok (.string (oneD b)) w := fun B cap w h => one_str b B cap i2 w h
  have i3 : ¬ n ≤ 9 := by omega
  clear e1 ha hb
  go_enter Tryd.func35, Tryd.ntmps35
  go_wp2_with fail
  go_region_with (first | (go_at_call 35; (with_reducible refine (NC.out _).mono ?_); rintro e wA ⟨rfl, h1⟩; (try with_reducible replace h1 := undrew h1); have hB : Below w.heap.size w wA := ba (by go_grown) h1; obtain ⟨hcwA, hfwA⟩ := bcell h1; have hqwA := h1.size; (try simp at hqwA); (try have hz0wA : w.heap.size < wA.heap.size := (by omega)); (try have he0wA : w.heap.size ≤ wA.heap.size := (by omega))))
  all_goals go_wp2_with fail
  all_goals go_ret
  all_goals exact ⟨by rw [E.out]; simp [Act.put], by go_grown⟩

theorem num_any (n : Nat) (h2 : n < 100) (w : World) :
    Calls Tryd.prog 35 #[.int .i64 (n : Nat)] w fun e w' => e = .returned (.string (ofL (Lib.decDigits n))) ∧ Below w.heap.size w w' := by
  by_cases h : n < 10
  · exact num_one n h w
  · exact num_two n h h2 w

end Go.Proofs.YtoaccnpkobbaaaaDoor
