/- Contracts: how many texts complete a track, the first one, the fewest pieces. -/
import Derived.Test.YtadlkmfgjmcgeaaCo
namespace Go.Proofs.Ytadlkmfgjmcgeaa
open Go.ChangeShapes Go.WideShapes Go.ChangeAt Go.RowKit

set_option linter.unusedVariables false

def fcB (s : ByteArray) (n : Int) : Bool := !(coL s n).isEmpty
def fcS (s : ByteArray) (n : Int) : ByteArray := ofL ((coL s n).headD [])
theorem fc_no {s : ByteArray} {n : Int} (h : coL s n = []) : fcB s n = false ∧ fcS s n = ⟨#[]⟩ := by simp [fcB, fcS, h, ofL]
theorem fc_yes {s : ByteArray} {n : Int} {x : List UInt8} {r : List (List UInt8)} (h : coL s n = x :: r) : fcB s n = true ∧ fcS s n = ofL x := by simp [fcB, fcS, h]
theorem co_true {s : ByteArray} {n : Int} {x : List UInt8} {r : List (List UInt8)} (h : coL s n = x :: r) : coB s n = true := by
  cases hb : coB s n
  · rw [co_no hb] at h; cases h
  · rfl
theorem ret_fc {s : ByteArray} {n : Int} {x : ByteArray} {b : Bool} (hb : fcB s n = b) (hs : fcS s n = x) : Ending.returned (.tuple #[.string x, .bool b]) = Ending.returned (.tuple #[.string (fcS s n), .bool (fcB s n)]) := by rw [hb, hs]

theorem spCountCompletions (s : ByteArray) (n : Int) (hs : s.size ≤ 1048576) (w : World) :
    Calls Try.prog 28 #[.string s, .int .i64 n] w fun e w' => e = .returned (.tuple #[.int .i64 ((coL s n).length : Nat), .bool (coB s n)]) ∧ Below w.heap.size w w' := by
  have P := Lib.hid (spAdded s n hs)
  have hl := co_len s n
  go_enter Try.func28, Try.ntmps28
  go_wp2_with fail
  refine (P.out _).mono ?_
  rintro e w1 ⟨v, rfl, o1, hb⟩
  obtain ⟨av, cv, rfl⟩ := own_formC o1
  have HB := Lib.hid hb
  clear o1 hb
  go_wp2_with fail
  go_ret2
  exact ⟨rfl, HB.out⟩
theorem imCountCompletions (s : ByteArray) (n : Int) (hs : s.size ≤ 1048576) (w : World) :
    Calls Try.prog 29 #[.string s, .int .i64 n] w fun e w' => e = .returned (.tuple #[.int .i64 ((coL s n).length : Nat), .bool (coB s n)]) ∧ Below w.heap.size w w' := by
  have P := Lib.hid (imCompl s n hs)
  have hl := co_len s n
  go_enter Try.func29, Try.ntmps29
  go_wp2_with fail
  refine (P.out _).mono ?_
  rintro e w1 ⟨v, rfl, o1, hb⟩
  obtain ⟨av, cv, rfl⟩ := own_formC o1
  have HB := Lib.hid hb
  clear o1 hb
  go_wp2_with fail
  go_ret2
  exact ⟨rfl, HB.out⟩

set_option maxRecDepth 100000 in
theorem spFirstCompletion (s : ByteArray) (n : Int) (hs : s.size ≤ 1048576) (w : World) :
    Calls Try.prog 30 #[.string s, .int .i64 n] w fun e w' => e = .returned (.tuple #[.string (fcS s n), .bool (fcB s n)]) ∧ Below w.heap.size w w' := by
  have P := Lib.hid (spAdded s n hs)
  have hl := co_len s n
  cases hc : coL s n with
  | nil =>
    obtain ⟨r1, r2⟩ := fc_no hc
    have R1 := Lib.hid r1
    have R2 := Lib.hid r2
    rw [hc] at P
    clear r1 r2 hc hl
    cases hb : coB s n
    all_goals
      rw [hb] at P
      clear hb
      go_enter Try.func30, Try.ntmps30
      go_wp2_with fail
      refine (P.out _).mono ?_
      rintro e w1 ⟨v, rfl, o1, hb⟩
      obtain ⟨av, cv, rfl⟩ := own_formC o1
      have HB := Lib.hid hb
      clear o1 hb
      go_wp2_with fail
      go_ret2
      exact ⟨ret_fc R1.out R2.out, HB.out⟩
  | cons x r =>
    obtain ⟨r1, r2⟩ := fc_yes hc
    have R1 := Lib.hid r1
    have R2 := Lib.hid r2
    rw [co_true hc, hc] at P
    rw [hc] at hl
    obtain ⟨k, hk⟩ : ∃ k, (x :: r).length = k := ⟨_, rfl⟩
    have HK := Lib.hid hk
    have hk1 : 1 ≤ k := by rw [← hk, List.length_cons]; omega
    rw [hk] at hl
    clear r1 r2 hc hk
    go_enter Try.func30, Try.ntmps30
    go_wp2_with fail
    refine (P.out _).mono ?_
    rintro e w1 ⟨v, rfl, o1, hb⟩
    rw [HK.out] at o1
    obtain ⟨g, cap, rfl, _⟩ := o1.form hk1
    have c0 := str_of o1 HK.out 0 x rfl
    have HB := Lib.hid hb
    have hkz : ¬ k = 0 := by omega
    clear o1 hb
    go_wp2_with fail
    go_ret2
    exact ⟨ret_fc R1.out R2.out, HB.out⟩

set_option maxRecDepth 100000 in
theorem imFirstCompletion (s : ByteArray) (n : Int) (hs : s.size ≤ 1048576) (w : World) :
    Calls Try.prog 31 #[.string s, .int .i64 n] w fun e w' => e = .returned (.tuple #[.string (fcS s n), .bool (fcB s n)]) ∧ Below w.heap.size w w' := by
  have P := Lib.hid (imCompl s n hs)
  have hl := co_len s n
  cases hc : coL s n with
  | nil =>
    obtain ⟨r1, r2⟩ := fc_no hc
    have R1 := Lib.hid r1
    have R2 := Lib.hid r2
    rw [hc] at P
    clear r1 r2 hc hl
    cases hb : coB s n
    all_goals
      rw [hb] at P
      clear hb
      go_enter Try.func31, Try.ntmps31
      go_wp2_with fail
      refine (P.out _).mono ?_
      rintro e w1 ⟨v, rfl, o1, hb⟩
      obtain ⟨av, cv, rfl⟩ := own_formC o1
      have HB := Lib.hid hb
      clear o1 hb
      go_wp2_with fail
      go_ret2
      exact ⟨ret_fc R1.out R2.out, HB.out⟩
  | cons x r =>
    obtain ⟨r1, r2⟩ := fc_yes hc
    have R1 := Lib.hid r1
    have R2 := Lib.hid r2
    rw [co_true hc, hc] at P
    rw [hc] at hl
    obtain ⟨k, hk⟩ : ∃ k, (x :: r).length = k := ⟨_, rfl⟩
    have HK := Lib.hid hk
    have hk1 : 1 ≤ k := by rw [← hk, List.length_cons]; omega
    rw [hk] at hl
    clear r1 r2 hc hk
    go_enter Try.func31, Try.ntmps31
    go_wp2_with fail
    refine (P.out _).mono ?_
    rintro e w1 ⟨v, rfl, o1, hb⟩
    rw [HK.out] at o1
    obtain ⟨g, cap, rfl, _⟩ := o1.form hk1
    have c0 := str_of o1 HK.out 0 x rfl
    have HB := Lib.hid hb
    have hkz : ¬ k = 0 := by omega
    clear o1 hb
    go_wp2_with fail
    go_ret2
    exact ⟨ret_fc R1.out R2.out, HB.out⟩

def lsG (s : ByteArray) : Nat → Nat → Option (Nat × List UInt8)
  | 0, _ => none
  | f + 1, k => match coL s (k : Int) with
    | [] => lsG s f (k + 1)
    | x :: _ => some (k, x)
def loI (s : ByteArray) : Nat := ((lsG s 8 0).map Prod.fst).getD 0
def loS (s : ByteArray) : ByteArray := ofL (((lsG s 8 0).map Prod.snd).getD [])
def loB (s : ByteArray) : Bool := (lsG s 8 0).isSome
theorem ls_no {s : ByteArray} (h : lsG s 8 0 = none) : loI s = 0 ∧ loS s = ⟨#[]⟩ ∧ loB s = false := by simp [loI, loS, loB, h, ofL]
theorem ls_yes {s : ByteArray} {k : Nat} {x : List UInt8} (h : lsG s 8 0 = some (k, x)) : loI s = k ∧ loS s = ofL x ∧ loB s = true := by simp [loI, loS, loB, h]
theorem lsG_nil {s : ByteArray} {f k : Nat} (h : coL s (k : Int) = []) : lsG s (f + 1) k = lsG s f (k + 1) := by simp [lsG, h]
theorem lsG_cons {s : ByteArray} {f k : Nat} {x : List UInt8} {r : List (List UInt8)} (h : coL s (k : Int) = x :: r) : lsG s (f + 1) k = some (k, x) := by simp [lsG, h]
theorem co_mem {s : ByteArray} {n : Int} {x : List UInt8} (h : x ∈ coL s n) : x.length = n.toNat := by
  cases hb : coB s n
  · rw [co_no hb] at h; cases h
  · by_cases h0 : (s.size : Int) + n = 0
    · rw [co_zero h0] at h; cases h
    · rw [co_yes hb h0] at h
      exact cls_mem h
theorem lsG_len (s : ByteArray) : ∀ (f k : Nat) (n : Nat) (x : List UInt8), lsG s f k = some (n, x) → x.length = n ∧ n < k + f
  | 0, _, _, _, h => by simp [lsG] at h
  | f + 1, k, n, x, h => by
    cases hc : coL s (k : Int) with
    | nil =>
      rw [lsG_nil hc] at h
      have := lsG_len s f (k + 1) n x h
      omega
    | cons y r =>
      rw [lsG_cons hc] at h
      simp only [Option.some.injEq, Prod.mk.injEq] at h
      obtain ⟨rfl, rfl⟩ := h
      have := co_mem (s := s) (n := (k : Int)) (x := y) (by rw [hc]; exact List.mem_cons_self)
      rw [Int.toNat_natCast] at this
      omega
theorem ls_size (s : ByteArray) : (loS s).size = loI s ∧ loI s ≤ 8 := by
  cases h : lsG s 8 0 with
  | none => obtain ⟨h1, h2, _⟩ := ls_no h; rw [h1, h2]; exact ⟨rfl, by omega⟩
  | some p =>
    obtain ⟨k, x⟩ := p
    obtain ⟨h1, h2, _⟩ := ls_yes h
    have := lsG_len s 8 0 k x h
    rw [h1, h2, ofL_size]
    omega

theorem ret_ls {s : ByteArray} {n : Nat} {x : ByteArray} {b : Bool} (h : loI s = n ∧ loS s = x ∧ loB s = b) : Ending.returned (.tuple #[.int .i64 n, .string x, .bool b]) = Ending.returned (.tuple #[.int .i64 (loI s : Nat), .string (loS s), .bool (loB s)]) := by rw [h.1, h.2.1, h.2.2]
theorem ret_cp {s : ByteArray} {n : Nat} {x : ByteArray} {b : Bool} (h : loI s = n ∧ loS s = x ∧ loB s = b) : Ending.returned (.tuple #[.string x, .bool b]) = Ending.returned (.tuple #[.string (loS s), .bool (loB s)]) := by rw [h.2.1, h.2.2]

set_option maxRecDepth 100000 in
set_option maxHeartbeats 800000 in
theorem clLeast_any (s : ByteArray) (hs : s.size ≤ 1048576) (w : World) :
    Calls Try.prog 57 #[.string s] w fun e w' => e = .returned (.tuple #[.int .i64 (loI s : Nat), .string (loS s), .bool (loB s)]) ∧ Below w.heap.size w w' := by
  go_enter Try.func57, Try.ntmps57
  go_wp2_with fail
  go_loopw [5] (fun i wr => ∃ k : Nat, k ≤ 8 ∧ i = .int .i64 (k : Nat) ∧ lsG s 8 0 = lsG s (8 - k) k ∧ Below w.heap.size w wr) (fun i _ => 9 - (intOf i).toNat)
  case atStart => exact ⟨0, by omega, rfl, rfl, Below.refl _ _⟩
  case round =>
    obtain ⟨k, hk, rfl, hl, hb⟩ := hrel
    have HB := Lib.hid hb
    by_cases hlt : k < 8
    · have P := Lib.hid (spAdded s (k : Int) hs)
      have hln := co_len s (k : Int)
      rw [show 8 - k = (8 - (k + 1)) + 1 by omega] at hl
      cases hc : coL s (k : Int) with
      | nil =>
        rw [lsG_nil hc] at hl
        have HL := Lib.hid hl
        rw [hc] at P
        clear hc hl hb hln
        go_wp2_with fail
        refine (P.out _).mono ?_
        rintro e w1 ⟨v, rfl, o1, hb⟩
        obtain ⟨av, cv, rfl⟩ := own_formC o1
        have HB2 := Lib.hid (HB.out.trans (hb.mono HB.out.size))
        clear o1 hb
        generalize coB s (k : Int) = b
        cases b
        all_goals
          go_wp2_with fail
          go_roundw
          case rel => exact ⟨k + 1, by omega, by go_num, HL.out, HB2.out⟩
          case measure => simp [intOf]; omega
      | cons x r =>
        rw [lsG_cons hc] at hl
        have HL := Lib.hid (ls_yes hl)
        rw [co_true hc, hc] at P
        rw [hc] at hln
        obtain ⟨m, hm⟩ : ∃ m, (x :: r).length = m := ⟨_, rfl⟩
        have HK := Lib.hid hm
        have hk1 : 1 ≤ m := by rw [← hm, List.length_cons]; omega
        rw [hm] at hln
        clear hc hl hb hm
        go_wp2_with fail
        refine (P.out _).mono ?_
        rintro e w1 ⟨v, rfl, o1, hb⟩
        rw [HK.out] at o1
        obtain ⟨g, cap, rfl, _⟩ := o1.form hk1
        have c0 := str_of o1 HK.out 0 x rfl
        have HB2 := Lib.hid (HB.out.trans (hb.mono HB.out.size))
        have hkz : 0 < m := by omega
        clear o1 hb
        go_wp2_with fail
        go_quiet (fail)
        go_wp2_with fail
        go_ret3
        exact ⟨ret_ls HL.out, HB2.out.trans ⟨rfl, rfl, rfl, Nat.le_refl _, fun _ _ => rfl⟩⟩
    · obtain rfl : k = 8 := by omega
      have HL := Lib.hid (ls_no (s := s) (by rw [hl]; rfl))
      clear hl hb
      go_wp2_with fail
      go_ret3
      exact ⟨ret_ls HL.out, HB.out⟩

theorem spLeastToClose (s : ByteArray) (hs : s.size ≤ 1048576) (w : World) :
    Calls Try.prog 32 #[.string s] w fun e w' => e = .returned (.tuple #[.int .i64 (loI s : Nat), .bool (loB s)]) ∧ Below w.heap.size w w' := by
  have P := Lib.hid (clLeast_any s hs)
  go_enter Try.func32, Try.ntmps32
  go_wp2_with (go_at_call 57; (with_reducible refine (P.out _).mono ?_); rintro e wA ⟨rfl, h1⟩; (try with_reducible replace h1 := undrew h1); have hB : Below w.heap.size w wA := ba (by go_grown) h1; obtain ⟨hcwA, hfwA⟩ := bcell h1; have hqwA := h1.size; (try simp at hqwA); )
  go_ret2
  exact ⟨rfl, by go_grown⟩
theorem spClosingPieces (s : ByteArray) (hs : s.size ≤ 1048576) (w : World) :
    Calls Try.prog 34 #[.string s] w fun e w' => e = .returned (.tuple #[.string (loS s), .bool (loB s)]) ∧ Below w.heap.size w w' := by
  have P := Lib.hid (clLeast_any s hs)
  go_enter Try.func34, Try.ntmps34
  go_wp2_with (go_at_call 57; (with_reducible refine (P.out _).mono ?_); rintro e wA ⟨rfl, h1⟩; (try with_reducible replace h1 := undrew h1); have hB : Below w.heap.size w wA := ba (by go_grown) h1; obtain ⟨hcwA, hfwA⟩ := bcell h1; have hqwA := h1.size; (try simp at hqwA); )
  go_ret2
  exact ⟨rfl, by go_grown⟩

set_option maxRecDepth 100000 in
set_option maxHeartbeats 800000 in
theorem imClosingPieces (s : ByteArray) (hs : s.size ≤ 1048576) (w : World) :
    Calls Try.prog 35 #[.string s] w fun e w' => e = .returned (.tuple #[.string (loS s), .bool (loB s)]) ∧ Below w.heap.size w w' := by
  go_enter Try.func35, Try.ntmps35
  go_wp2_with fail
  go_loopw [7] (fun i wr => ∃ k : Nat, k ≤ 8 ∧ i = .int .i64 (k : Nat) ∧ lsG s 8 0 = lsG s (8 - k) k ∧ Below w.heap.size w wr) (fun i _ => 9 - (intOf i).toNat)
  case atStart => exact ⟨0, by omega, rfl, rfl, Below.refl _ _⟩
  case round =>
    obtain ⟨k, hk, rfl, hl, hb⟩ := hrel
    have HB := Lib.hid hb
    by_cases hlt : k < 8
    · have P := Lib.hid (imFirstCompletion s (k : Int) hs)
      rw [show 8 - k = (8 - (k + 1)) + 1 by omega] at hl
      cases hc : coL s (k : Int) with
      | nil =>
        rw [lsG_nil hc] at hl
        have HL := Lib.hid hl
        rw [(fc_no hc).1, (fc_no hc).2] at P
        clear hc hl hb
        go_wp2_with fail
        refine (P.out _).mono ?_
        rintro e w1 ⟨rfl, hb⟩
        have HB2 := Lib.hid (HB.out.trans (hb.mono HB.out.size))
        clear hb
        go_wp2_with fail
        go_roundw
        case rel => exact ⟨k + 1, by omega, by go_num, HL.out, HB2.out⟩
        case measure => simp [intOf]; omega
      | cons x r =>
        rw [lsG_cons hc] at hl
        have HL := Lib.hid (ls_yes hl)
        rw [(fc_yes hc).1, (fc_yes hc).2] at P
        clear hc hl hb
        go_wp2_with fail
        refine (P.out _).mono ?_
        rintro e w1 ⟨rfl, hb⟩
        have HB2 := Lib.hid (HB.out.trans (hb.mono HB.out.size))
        clear hb
        go_wp2_with fail
        go_ret2
        exact ⟨ret_cp HL.out, HB2.out⟩
    · obtain rfl : k = 8 := by omega
      have HL := Lib.hid (ls_no (s := s) (by rw [hl]; rfl))
      clear hl hb
      go_wp2_with fail
      go_ret2
      exact ⟨ret_cp HL.out, HB.out⟩

theorem imLeastToClose (s : ByteArray) (hs : s.size ≤ 1048576) (w : World) :
    Calls Try.prog 33 #[.string s] w fun e w' => e = .returned (.tuple #[.int .i64 (loI s : Nat), .bool (loB s)]) ∧ Below w.heap.size w w' := by
  have P := Lib.hid (imClosingPieces s hs)
  obtain ⟨h1, h2⟩ := ls_size s
  rw [← h1] at h2 ⊢
  generalize loS s = x at *
  generalize loB s = b at *
  clear h1
  go_enter Try.func33, Try.ntmps33
  go_wp2_with (go_at_call 35; (with_reducible refine (P.out _).mono ?_); rintro e wA ⟨rfl, h1⟩; (try with_reducible replace h1 := undrew h1); have hB : Below w.heap.size w wA := ba (by go_grown) h1; obtain ⟨hcwA, hfwA⟩ := bcell h1; have hqwA := h1.size; (try simp at hqwA); )
  go_ret2
  exact ⟨rfl, by go_grown⟩

end Go.Proofs.Ytadlkmfgjmcgeaa
