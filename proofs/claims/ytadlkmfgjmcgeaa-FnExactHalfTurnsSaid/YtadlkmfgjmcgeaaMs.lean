/- Contracts: lists of texts compared, marked and looked at again, in the laws. -/
import Derived.Test.YtadlkmfgjmcgeaaCa
import Derived.Test.YtadlkmfgjmcgeaaIs
namespace Go.Proofs.Ytadlkmfgjmcgeaa
open Go.ChangeShapes Go.WideShapes Go.ChangeAt Go.RowKit

set_option linter.unusedVariables false

def mkR (k : Nat) (acc : List UInt8) : List UInt8 := if k = 0 then acc else mkR (k / 10) (UInt8.ofNat (48 + k % 10) :: acc)
termination_by k
decreasing_by omega
theorem mkR_zero (acc : List UInt8) : mkR 0 acc = acc := by rw [mkR, if_pos rfl]
theorem mkR_pos {k : Nat} (h : k ≠ 0) (acc : List UInt8) : mkR k acc = mkR (k / 10) (UInt8.ofNat (48 + k % 10) :: acc) := by rw [mkR, if_neg h]
/-- The text of a mark. -/
def mkT (k : Nat) : ByteArray := ofL (109 :: mkR k [])

theorem one_strD (d B cap : Nat) (hd : d < 10) (w : World) (h : w.cell? ⟨B, 0, none⟩ = some (.int .u8 (48 + (d : Int)))) :
    (convert 78 9 (.slice (some ⟨B, 0, none⟩) 1 cap)).run Try.prog w = .ok (.string (ofL [UInt8.ofNat (48 + d)])) w := by
  refine one_strC (UInt8.ofNat (48 + d)) B cap w (h.trans ?_)
  have h2 : ((UInt8.ofNat (48 + d)).toNat : Int) = 48 + (d : Int) := by
    rw [UInt8.toNat_ofNat']
    omega
  exact congrArg (fun z => some (Value.int .u8 z)) h2.symm

set_option maxRecDepth 100000 in
set_option maxHeartbeats 1600000 in
theorem markText_any (k : Nat) (h1 : 1 ≤ k) (h2 : k ≤ 1000000) (w : World) :
    Calls Try.prog 52 #[.int .i64 (k : Nat)] w fun e w' => e = .returned (.string (mkT k)) ∧ Below w.heap.size w w' := by
  go_enter Try.func52, Try.ntmps52
  go_wp2_with fail
  go_loopw [0, 3] (fun i t wr => ∃ (j d : Nat) (acc : List UInt8), i = .int .i64 (j : Nat) ∧ t = .string (ofL acc) ∧ mkR j acc = mkR k [] ∧ acc.length = d ∧ d ≤ 8 ∧ j < 10 ^ (8 - d) ∧ Below w.heap.size w wr) (fun i _ _ => (intOf i).toNat)
  case atStart => exact ⟨k, 0, [], rfl, rfl, rfl, rfl, by omega, by show k < 100000000; omega, Below.refl _ _⟩
  case round =>
    obtain ⟨j, d, acc, rfl, rfl, hm, hd, hd8, hj, hb⟩ := hrel
    have hz := hb.size
    have HB := Lib.hid hb
    by_cases h0 : j = 0
    · subst h0
      rw [mkR_zero] at hm
      have HM := Lib.hid hm
      have k2 : ∀ w : World, (Op.stringOp .add ⟨#[109]⟩ (ofL acc)).run Try.prog w = .ok (.string (mkT k)) w := fun w => concat_run (by rw [mkT, ← hm]; exact ofL_append [109] acc) (by rw [ofL_size]; show 1 + _ ≤ _; omega) w
      clear hm hb
      go_wp2_with fail
      go_ret
      exact ⟨rfl, HB.out⟩
    · have hd7 : d < 8 := by
        refine Nat.lt_of_not_le fun h => ?_
        have : 8 - d = 0 := by omega
        rw [this, Nat.pow_zero] at hj
        omega
      have hj2 : j / 10 < 10 ^ (8 - (d + 1)) := by
        rw [show 8 - d = (8 - (d + 1)) + 1 by omega, Nat.pow_succ] at hj
        omega
      have hj8 : j < 100000000 := Nat.lt_of_lt_of_le hj (Nat.pow_le_pow_right (by decide) (by omega : 8 - d ≤ 8))
      rw [mkR_pos h0] at hm
      obtain ⟨a, ha⟩ : ∃ a : Nat, j / 10 = a := ⟨_, rfl⟩
      obtain ⟨b, hb2⟩ : ∃ b : Nat, j % 10 = b := ⟨_, rfl⟩
      rw [ha] at hm hj2
      rw [hb2] at hm
      have i2 : b < 10 := by omega
      have j1 : (0 : Int) ≤ (b : Int) := by omega
      have j2 : (b : Int) < 10 := by omega
      have j3 : (0 : Int) < (j : Int) := by omega
      have haj : a < j := by omega
      have hA : IntKind.i64.wrap ((j : Int) / 10) = (a : Int) := by rw [IntKind.wrap_i64]; omega
      have hA2 : (j : Int).tdiv 10 = (a : Int) := by rw [Int.tdiv_eq_ediv_of_nonneg (by omega)]; omega
      have hB : (j : Int).tmod 10 = (b : Int) := by rw [Int.tmod_eq_emod_of_nonneg (by omega)]; omega
      have hC : IntKind.i64.wrap (48 + (b : Int)) = 48 + (b : Int) := by rw [IntKind.wrap_i64]; omega
      have hD : IntKind.u8.wrap (48 + (b : Int)) = 48 + (b : Int) := by rw [IntKind.wrap_u8]; omega
      have q := one_strD b wr.heap.size 1 i2 (wr.alloc (.cells #[.int .u8 (48 + (b : Int))] 5)) (by go_simp)
      obtain ⟨ch, hch⟩ : ∃ ch : UInt8, UInt8.ofNat (48 + b) = ch := ⟨_, rfl⟩
      rw [hch] at hm q
      obtain ⟨T, hT⟩ : ∃ T, ofL (ch :: acc) = T := ⟨_, rfl⟩
      have k1 : ∀ w : World, (Op.stringOp .add (ofL [ch]) (ofL acc)).run Try.prog w = .ok (.string T) w := fun w => concat_run (by rw [← hT]; exact ofL_append [ch] acc) (by rw [ofL_size, ofL_size]; show 1 + _ ≤ _; omega) w
      have HM := Lib.hid hm
      have HT := Lib.hid hT
      clear hm hb ha hb2 hT hj hch
      go_wp2_with fail
      go_roundw
      case rel => exact ⟨a, d + 1, _, by go_num, by rw [← HT.out], HM.out, by rw [List.length_cons, hd], by omega, hj2, HB.out.alloc hz _⟩
      case measure => simp [intOf]; omega

/-- A list of texts that a call has handed back. -/
def StrV (w : World) (v : Value) (l : List (List UInt8)) : Prop := ∃ av cap, v = .slice av l.length cap ∧ (l = [] ∨ ∃ g, av = some ⟨g, 0, none⟩ ∧ g < w.heap.size ∧ StrAt w g l)
/-- The first n texts are marks from k on. -/
def MkAt (w : World) (g n k : Nat) : Prop := ∀ j : Nat, j < n → w.cell? ⟨g, j, none⟩ = some (.string (mkT (k + j)))
theorem MkAt.below {w w' : World} {g n k m : Nat} (h : MkAt w g n k) (hg : g < m) (hb : Below m w w') : MkAt w' g n k := fun j hj => by
  rw [hb.cell (p := ⟨g, j, none⟩) hg]; exact h j hj

set_option maxRecDepth 100000 in
set_option maxHeartbeats 800000 in
theorem eqStringS_same (v v' : Value) (l : List (List UInt8)) (hb : l.length ≤ 1000000) (w : World) (h1 : StrV w v l) (h2 : StrV w v' l) :
    Calls Try.prog 23 #[v, v'] w fun e w' => e = .returned (.bool true) ∧ Below w.heap.size w w' := by
  obtain ⟨av, cap, rfl, h1⟩ := h1
  obtain ⟨av', cap', rfl, h2⟩ := h2
  obtain ⟨n, hn⟩ : ∃ n, l.length = n := ⟨_, rfl⟩
  rw [hn] at hb ⊢
  have HN := Lib.hid hn
  by_cases h0 : n = 0
  · subst h0
    go_enter Try.func23, Try.ntmps23
    go_wp2_with fail
    refine wp_loop_rounds 1 ?_
    rw [rounds_succ]
    go_wp2_with fail
    go_ret
    exact ⟨rfl, Below.refl _ _⟩
  · have hne : l ≠ [] := fun h => h0 (by rw [← hn, h]; rfl)
    obtain ⟨g, rfl, hg, s1⟩ := h1.resolve_left hne
    obtain ⟨g', rfl, hg', s2⟩ := h2.resolve_left hne
    have H1 := Lib.hid s1
    have H2 := Lib.hid s2
    clear hn h1 h2 s1 s2
    go_enter Try.func23, Try.ntmps23
    go_wp2_with fail
    go_loopw [5] (fun i wr => ∃ k : Nat, k ≤ n ∧ i = .int .i64 k ∧ Below w.heap.size w wr) (fun i _ => n - (intOf i).toNat)
    case atStart => exact ⟨0, Nat.zero_le _, rfl, Below.refl _ _⟩
    case round =>
      obtain ⟨k, hk, rfl, hB⟩ := hrel
      have HB := Lib.hid hB
      by_cases hlt : k < n
      · obtain ⟨x, hx⟩ : ∃ x, l[k]? = some x := ⟨_, List.getElem?_eq_getElem (by rw [HN.out]; exact hlt)⟩
        have c0 := (H1.out.below hg hB) k x hx
        have d0 := (H2.out.below hg' hB) k x hx
        have i1 : (0 : Int) ≤ (k : Int) := by omega
        have i2 : (k : Int) < (n : Int) := by omega
        clear hB hx
        go_wp2_with fail
        go_quiet (fail)
        go_wp2_with fail
        go_roundw
        case rel => exact ⟨k + 1, by omega, by go_num, HB.out.trans (below_drawn _ _)⟩
        case measure => simp [intOf]; omega
      · clear hB
        go_wp2_with fail
        go_ret
        exact ⟨rfl, HB.out⟩

set_option maxRecDepth 100000 in
set_option maxHeartbeats 1600000 in
theorem markStringS_any (v : Value) (l : List (List UInt8)) (hb : l.length ≤ 900000) (w : World) (h1 : StrV w v l) (hf : ∀ g, v.ownBlock = some g → FreeR w g l.length) :
    Calls Try.prog 24 #[v, .int .i64 1] w fun e w' => e = .returned (.int .i64 (1 + (l.length : Int))) ∧ (∀ g, v.ownBlock = some g → MkAt w' g l.length 1) ∧ w.grownBy w' v.ownBlock := by
  obtain ⟨av, cap, rfl, h1⟩ := h1
  obtain ⟨n, hn⟩ : ∃ n, l.length = n := ⟨_, rfl⟩
  rw [hn] at hb hf ⊢
  have HN := Lib.hid hn
  by_cases h0 : n = 0
  · subst h0
    go_enter Try.func24, Try.ntmps24
    go_wp2_with fail
    refine wp_loop_rounds 1 ?_
    rw [rounds_succ]
    go_wp2_with fail
    go_ret
    exact ⟨rfl, fun _ _ j hj => absurd hj (by omega), World.grownBy.refl _ _⟩
  · have hne : l ≠ [] := fun h => h0 (by rw [← hn, h]; rfl)
    obtain ⟨g, rfl, hg, s1⟩ := h1.resolve_left hne
    have H1 := Lib.hid s1
    have HF := Lib.hid (hf g rfl)
    clear hn h1 s1 hf
    go_enter Try.func24, Try.ntmps24
    go_wp2_with fail
    go_loopw [1, 5] (fun t i wr => ∃ k : Nat, k ≤ n ∧ i = .int .i64 k ∧ t = .int .i64 (1 + (k : Int)) ∧ MkAt wr g k 1 ∧ (∀ j : Nat, k ≤ j → wr.cell? ⟨g, j, none⟩ = w.cell? ⟨g, j, none⟩) ∧ FreeR wr g n ∧ w.grownBy wr (some g)) (fun _ i _ => n - (intOf i).toNat)
    case atStart => exact ⟨0, Nat.zero_le _, rfl, rfl, fun j hj => absurd hj (by omega), fun _ _ => rfl, HF.out, World.grownBy.refl _ _⟩
    case round =>
      obtain ⟨k, hk, rfl, rfl, r1, r2, r3, hG⟩ := hrel
      have hgr : g < wr.heap.size := Nat.lt_of_lt_of_le hg hG.size
      have R1 := Lib.hid r1
      have R2 := Lib.hid r2
      have R3 := Lib.hid r3
      have HG := Lib.hid hG
      clear r1 r2 r3 hG
      by_cases hlt : k < n
      · obtain ⟨x, hx⟩ : ∃ x, l[k]? = some x := ⟨_, List.getElem?_eq_getElem (by rw [HN.out]; exact hlt)⟩
        have C0 := Lib.hid ((R2.out k (Nat.le_refl _)).trans (H1.out k x hx))
        have MT := Lib.hid (markText_any (1 + k) (by omega) (by omega))
        have hc1 : ((1 + k : Nat) : Int) = 1 + (k : Int) := by omega
        rw [hc1] at MT
        clear hx hc1
        go_wp2_with fail
        refine (MT.out _).mono ?_
        rintro e wA ⟨rfl, hA⟩
        have c0 : wA.cell? ⟨g, k, none⟩ = some (.string (ofL x)) := by rw [hA.cell (p := ⟨g, k, none⟩) hgr]; exact C0.out
        have f0 : wA.frozen? ⟨g, k, none⟩ = false := by rw [hA.frozen (p := ⟨g, k, none⟩) hgr]; exact R3.out k hlt
        have C1 := Lib.hid c0
        have HA := Lib.hid hA
        clear hA
        go_wp2_with fail
        go_roundw
        case rel =>
          refine ⟨k + 1, by omega, by go_num, by congr 1, fun j hj => ?_, fun j hj => ?_, fun j hj => ?_, set_grown (HG.out.trans ((below_grown HA.out).but _)) k _⟩
          · by_cases e : k = j
            · subst e
              rw [World.cell?_setCell_same (h := C1.out)]
            · rw [World.cell?_setCell_other (h := fun h => e (by injection h)), HA.out.cell (p := ⟨g, j, none⟩) hgr]
              exact R1.out j (by omega)
          · rw [World.cell?_setCell_other (h := fun h => absurd (by injection h) (show ¬ k = j by omega)), HA.out.cell (p := ⟨g, j, none⟩) hgr]
            exact R2.out j (by omega)
          · rw [World.frozen?_setCell, HA.out.frozen (p := ⟨g, j, none⟩) hgr]
            exact R3.out j hj
        case measure => simp [intOf]; omega
      · obtain rfl : k = n := by omega
        go_wp2_with fail
        go_ret
        exact ⟨rfl, fun g' h => by simp only [Value.ownBlock, Option.some.injEq] at h; subst h; exact R1.out, HG.out⟩

set_option maxRecDepth 100000 in
set_option maxHeartbeats 1600000 in
theorem heldStringS_any (av : Option Addr) (n cap : Nat) (hb : n ≤ 900000) (w : World) (h1 : n = 0 ∨ ∃ g, av = some ⟨g, 0, none⟩ ∧ g < w.heap.size ∧ MkAt w g n 1) :
    Calls Try.prog 25 #[.slice av n cap, .int .i64 1] w fun e w' => e = .returned (.int .i64 (1 + (n : Int))) ∧ Below w.heap.size w w' := by
  by_cases h0 : n = 0
  · subst h0
    go_enter Try.func25, Try.ntmps25
    go_wp2_with fail
    refine wp_loop_rounds 1 ?_
    rw [rounds_succ]
    go_wp2_with fail
    go_ret
    exact ⟨rfl, Below.refl _ _⟩
  · obtain ⟨g, rfl, hg, s1⟩ := h1.resolve_left h0
    have H1 := Lib.hid s1
    clear h1 s1
    go_enter Try.func25, Try.ntmps25
    go_wp2_with fail
    go_loopw [1, 5] (fun t i wr => ∃ k : Nat, k ≤ n ∧ i = .int .i64 k ∧ t = .int .i64 (1 + (k : Int)) ∧ Below w.heap.size w wr) (fun _ i _ => n - (intOf i).toNat)
    case atStart => exact ⟨0, Nat.zero_le _, rfl, rfl, Below.refl _ _⟩
    case round =>
      obtain ⟨k, hk, rfl, rfl, hB⟩ := hrel
      have hgr : g < wr.heap.size := Nat.lt_of_lt_of_le hg hB.size
      by_cases hlt : k < n
      · have hS0 := (H1.out.below hg hB) k hlt
        have MT := Lib.hid (markText_any (1 + k) (by omega) (by omega))
        have hc1 : ((1 + k : Nat) : Int) = 1 + (k : Int) := by omega
        rw [hc1] at MT
        have i1 : (0 : Int) ≤ (k : Int) := by omega
        have i2 : (k : Int) < (n : Int) := by omega
        have HB := Lib.hid hB
        clear hB hc1
        generalize mkT (1 + k) = T at *
        go_wp2_with fail
        go_region_held3 (fun w' => w'.cell? ⟨g, k, none⟩ = some (.string T))
          (first | (with_reducible assumption) | (with_reducible exact cl_drew hS0) | (with_reducible refine cl_below ?_ ?_ h1; (first | (with_reducible assumption) | (with_reducible exact cl_drew hS0)); (first | omega | (simp; omega))))
          (((with_reducible refine (MT.out _).mono ?_); rintro e wA ⟨rfl, h1⟩; (try with_reducible replace h1 := undrew h1)))
        all_goals
          have HB2 := Lib.hid (HB.out.trans (h1.mono HB.out.size))
          clear h1 hS0
          go_wp2_with fail
          go_roundw
          case rel => exact ⟨k + 1, by omega, by go_num, by congr 1, HB2.out⟩
          case measure => simp [intOf]; omega
      · obtain rfl : k = n := by omega
        have HB := Lib.hid hB
        clear hB
        go_wp2_with fail
        go_ret
        exact ⟨rfl, HB.out⟩

end Go.Proofs.Ytadlkmfgjmcgeaa
