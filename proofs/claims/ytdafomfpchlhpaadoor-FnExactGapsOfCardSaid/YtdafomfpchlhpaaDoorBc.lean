/- Contracts: boxes and what tracks need, in the model and in the program: which boxes there are, what is laid from them, what is missing, sums and prices. -/
import Derived.Test.YtdafomfpchlhpaaDoorKitB
import Derived.Test.YtdafomfpchlhpaaDoorBg
import Derived.Test.YtdafomfpchlhpaaDoorTkCt
import Derived.Test.YtdafomfpchlhpaaDoorCl
import Derived.Test.YtdafomfpchlhpaaDoorRn
import Derived.Lib.MinMax
namespace Go.Proofs.YtdafomfpchlhpaaDoor
open Go.ChangeShapes Go.WideShapes Go.ChangeAt Go.RowKit

set_option linter.unusedVariables false
set_option linter.unusedSimpArgs false

/-- A box of at most m pieces. -/
def bxB (m : Int) (b : Bq) : Bool := inB b.x 0 m && inB b.r 0 (m - b.x)

theorem bxB_yes {m : Int} {b : Bq} (h : bxB m b = true) : 0 ≤ b.x ∧ 0 ≤ b.r ∧ b.x + b.r ≤ m := by simp [bxB, inB] at h; omega

theorem bxB_nat {m : Nat} {b : Bq} (h : bxB m b = true) : ∃ s c : Nat, b = ⟨s, c⟩ ∧ s + c ≤ m := by
  obtain ⟨h0, h1, h2⟩ := bxB_yes h
  obtain ⟨x, r⟩ := b
  simp only at h0 h1 h2
  exact ⟨x.toNat, r.toNat, by rw [Int.toNat_of_nonneg h0, Int.toNat_of_nonneg h1], by omega⟩

theorem bxB_of {m : Nat} {s c : Nat} (h : s + c ≤ m) : bxB m ⟨s, c⟩ = true := by simp [bxB, inB]; omega

/-- How many straights and curves a track has. -/
def stN (s : ByteArray) : Nat := cnt 83 s.data.toList

def cvN (s : ByteArray) : Nat := s.size - cnt 83 s.data.toList

theorem st_cv (s : ByteArray) : stN s + cvN s = s.size := by
  have := cnt_le 83 s.data.toList
  rw [size_list] at this
  unfold stN cvN; omega

theorem lr_cv {s : ByteArray} (h : tkB s = true) : cnt 76 s.data.toList + cnt 82 s.data.toList = cvN s := by
  have := cnt3B (w := s.data.toList) fun c hc => by
    have := pcb_cases (tkB_list h c hc)
    rcases this with rfl | rfl | rfl <;> simp [ltr]
  rw [size_list] at this
  unfold cvN; omega

set_option maxRecDepth 100000 in
theorem tallyOf_any (s : ByteArray) (ht : tkB s = true) (w : World) : Calls Tryd.prog 104 #[.string s] w fun e w' => e = .returned (.agg #[.int .i64 (stN s : Nat), .int .i64 (cnt 76 s.data.toList : Nat), .int .i64 (cnt 82 s.data.toList : Nat)]) ∧ Below w.heap.size w w' := by
  have P := Lib.hid (fun c w => count_any s c w)
  go_enter Tryd.func104, Tryd.ntmps104
  go_wp2_with (go_at_call 92; refine (P.out _ _).mono ?_; rintro e w' ⟨rfl, rfl⟩)
  refine bodyPost_ret (by simp [results, Tryd.results104, go_sem, *]; try rfl) rfl ?_
  exact ⟨rfl, by go_grown⟩

set_option maxRecDepth 100000 in
theorem needsOf_any (s : ByteArray) (ht : tkB s = true) (w : World) : Calls Tryd.prog 80 #[.string s] w fun e w' => e = .returned (bv ⟨stN s, cvN s⟩) ∧ Below w.heap.size w w' := by
  have h40 := tkB_size ht
  have hs := st_cv s
  have hl := lr_cv ht
  have P := Lib.hid (fun w => tallyOf_any s ht w)
  generalize stN s = a at *
  generalize cvN s = c at *
  generalize cnt 76 s.data.toList = x at *
  generalize cnt 82 s.data.toList = y at *
  have e : (x : Int) + (y : Int) = (c : Int) := by omega
  go_enter Tryd.func80, Tryd.ntmps80
  go_wp2_with (go_at_call 104; refine (P.out _).mono ?_; rintro e w1 ⟨rfl, h1⟩; have hB : Below w.heap.size w w1 := ba (by go_grown) h1; obtain ⟨hc1, hf1⟩ := bcell h1; have hq := h1.size; (try simp at hq); have hz0 : w.heap.size < w1.heap.size := (by omega); have HK1 := Lib.hid h1; clear h1 hq)
  refine bodyPost_ret (by simp [results, Tryd.results80, go_sem, *]; try rfl) rfl ?_
  exact ⟨rfl, by go_grown⟩

set_option maxRecDepth 100000 in
theorem less_any (a b : Bq) (w : World) : Calls Tryd.prog 103 #[bv a, bv b] w fun e w' => e = .returned (bv ⟨wrap64 (a.x - b.x), wrap64 (a.r - b.r)⟩) ∧ Below w.heap.size w w' := by
  obtain ⟨x, r⟩ := a
  obtain ⟨y, s⟩ := b
  go_enter Tryd.func103, Tryd.ntmps103
  go_wp2_with fail
  refine bodyPost_ret (by simp [results, Tryd.results103, go_sem, *]; try rfl) rfl ?_
  exact ⟨by simp [wrap64], by go_grown⟩

set_option maxRecDepth 100000 in
theorem plus_any (a b : Bq) (w : World) : Calls Tryd.prog 79 #[bv a, bv b] w fun e w' => e = .returned (bv ⟨wrap64 (a.x + b.x), wrap64 (a.r + b.r)⟩) ∧ Below w.heap.size w w' := by
  obtain ⟨x, r⟩ := a
  obtain ⟨y, s⟩ := b
  go_enter Tryd.func79, Tryd.ntmps79
  go_wp2_with fail
  refine bodyPost_ret (by simp [results, Tryd.results79, go_sem, *]; try rfl) rfl ?_
  exact ⟨by simp [wrap64], by go_grown⟩

set_option maxRecDepth 100000 in
theorem most_any (a b : Bq) (w : World) : Calls Tryd.prog 128 #[bv a, bv b] w fun e w' => e = .returned (bv ⟨max a.x b.x, max a.r b.r⟩) ∧ Below w.heap.size w w' := by
  obtain ⟨x, r⟩ := a
  obtain ⟨y, s⟩ := b
  go_enter Tryd.func128, Tryd.ntmps128
  go_wp2_with fail
  refine wp_loop_rounds 3 ?_
  rw [rounds_succ]
  have x0 : ∀ w : World, (Instr.index 79 (.agg #[.int .i64 y, .int .i64 s]) (.int .i64 0)).run Tryd.prog w = .ok (.int .i64 y) w := fun _ => by kernel_rfl
  have x1 : ∀ w : World, (Instr.index 79 (.agg #[.int .i64 y, .int .i64 s]) (.int .i64 1)).run Tryd.prog w = .ok (.int .i64 s) w := fun _ => by kernel_rfl
  go_wp2_with fail
  rw [rounds_succ]
  go_wp2_with fail
  rw [rounds_succ]
  go_wp2_with fail
  refine bodyPost_ret (by simp [results, Tryd.results128, go_sem, *]; try rfl) rfl ?_
  exact ⟨rfl, by go_grown⟩

/-- '==' on two supplies. -/
theorem supUnder : Tryd.prog.underlying 79 = some (.array 2 3) := by kernel_rfl

theorem intOne : Tryd.prog.cellsOf 3 = 1 := by kernel_rfl

theorem eqSupAt (d : Nat) (x y z u : Int) (w : World) : (Op.equalIn (d + 1 + 1) 79 (.agg #[.int .i64 x, .int .i64 y]) (.agg #[.int .i64 z, .int .i64 u])).run Tryd.prog w = .ok (x == z && y == u) w := by
  cases hq : Tryd.prog.info? 3 with
  | none =>
    have h : (Tryd.prog.info? 3).isSome = true := by kernel_rfl
    rw [hq] at h
    cases h
  | some i =>
    have e0 := run_equalIn_int (P := Tryd.prog) w d 3 .i64 .i64 x z Tryd.underlying3
    have e1 := run_equalIn_int (P := Tryd.prog) w d 3 .i64 .i64 y u Tryd.underlying3
    rw [run_equalIn_array w (d + 1) _ _ supUnder hq, intOne]
    simp only [List.range, List.range.loop, Op.eqItems, Sem.run_bind]
    have p0 : ∀ (a b : Int), (part 3 #[.int .i64 a, .int .i64 b] (0 * 1)).run Tryd.prog w = .ok (.int .i64 a) w := fun a b => by simp [go_sem]
    have p1 : ∀ (a b : Int), (part 3 #[.int .i64 a, .int .i64 b] (1 * 1)).run Tryd.prog w = .ok (.int .i64 b) w := fun a b => by simp [go_sem]
    rw [p0 x y, Result.andThen_ok, p0 z u, Result.andThen_ok, e0, Result.andThen_ok]
    cases h0 : (x == z)
    · simp
    · simp only [Bool.not_true, Bool.false_eq_true, if_false, Bool.true_and, Sem.run_bind]
      rw [p1 x y, Result.andThen_ok, p1 z u, Result.andThen_ok, e1, Result.andThen_ok]
      cases h1 : (y == u) <;> simp

@[go_sem high] theorem eqSup (x y z u : Int) (w : World) : (binOp .eql 79 (.agg #[.int .i64 x, .int .i64 y]) (.agg #[.int .i64 z, .int .i64 u])).run Tryd.prog w = .ok (.bool (x == z && y == u)) w := by
  rw [run_eql_struct, show (10000 : Nat) = 9998 + 1 + 1 from rfl, eqSupAt]
  rfl

end Go.Proofs.YtdafomfpchlhpaaDoor
