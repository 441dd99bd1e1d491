/- Contracts and facts, put together (part 6). Conditions: each says its own. -/
import Derived.Test.YthiimllafcfieaaQ5
import Derived.Sort.Walk0
import Derived.Lib.Bytealg
import Derived.Lib.MinMax
import Derived.Test.YthiimllafcfieaaProg
import Derived.StillTail
import Derived.StillTailTactics
import Derived.Deep.QuietTactic
import Derived.Lib.QuietBelow
import Derived.WalkKit
import Derived.ProofKit
import Derived.Laws.AppendOwn
import Derived.ScopeJumps
import Derived.WalkMore

/- Contracts: lists of texts compared, marked and looked at again, in the laws. -/
namespace Go.Proofs.Ythiimllafcfieaa
open Go.ChangeShapes Go.WideShapes Go.ChangeAt Go.RowKit

set_option linter.unusedVariables false

theorem one_strM (c : UInt8) (B cap : Nat) (w : World) (h : w.cell? ⟨B, 0, none⟩ = some (.int .u8 ((c.toNat : Nat) : Int))) :
    (convert 109 9 (.slice (some ⟨B, 0, none⟩) 1 cap)).run Try.prog w = .ok (.string (ofL [c])) w := by
  refine run_convert_bytes_back w 109 9 5 ⟨B, 0, none⟩ cap [c] Try.underlying109 Try.underlying5 Try.underlying9 (fun j hj => ?_)
  obtain rfl : j = 0 := by simpa using hj
  have h3 : ((⟨B, 0, none⟩ : Addr).add 0) = ⟨B, 0, none⟩ := by simp [Addr.add]
  rw [h3, h]
  rfl

def mkR (k : Nat) (acc : List UInt8) : List UInt8 := if k = 0 then acc else mkR (k / 10) (UInt8.ofNat (48 + k % 10) :: acc)
termination_by k
decreasing_by omega

theorem mkR_zero (acc : List UInt8) : mkR 0 acc = acc := by rw [mkR, if_pos rfl]

theorem mkR_pos {k : Nat} (h : k ≠ 0) (acc : List UInt8) : mkR k acc = mkR (k / 10) (UInt8.ofNat (48 + k % 10) :: acc) := by rw [mkR, if_neg h]

/-- The text of a mark. -/
def mkT (k : Nat) : ByteArray := ofL (109 :: mkR k [])

theorem one_strD (d B cap : Nat) (hd : d < 10) (w : World) (h : w.cell? ⟨B, 0, none⟩ = some (.int .u8 (48 + (d : Int)))) :
    (convert 109 9 (.slice (some ⟨B, 0, none⟩) 1 cap)).run Try.prog w = .ok (.string (ofL [UInt8.ofNat (48 + d)])) w := by
  refine one_strM (UInt8.ofNat (48 + d)) B cap w (h.trans ?_)
  have h2 : ((UInt8.ofNat (48 + d)).toNat : Int) = 48 + (d : Int) := by
    rw [UInt8.toNat_ofNat']
    omega
  exact congrArg (fun z => some (Value.int .u8 z)) h2.symm

set_option maxRecDepth 100000 in
set_option maxHeartbeats 1600000 in
theorem markText_any (k : Nat) (h1 : 1 ≤ k) (h2 : k ≤ 1000000) (w : World) :
    Calls Try.prog 54 #[.int .i64 (k : Nat)] w fun e w' => e = .returned (.string (mkT k)) ∧ Below w.heap.size w w' := by
  go_enter Try.func54, Try.ntmps54
  go_wp2_with fail
  go_loopw [0, 3] (fun i t wr => ∃ (j d : Nat) (acc : List UInt8), i = .int .i64 (j : Nat) ∧ t = .string (ofL acc) ∧ mkR j acc = mkR k [] ∧ acc.length = d ∧ d ≤ 8 ∧ j < 10 ^ (8 - d) ∧ Below w.heap.size w wr) (fun i _ _ => (intOf i).toNat)
  case atStart => exact ⟨k, 0, [], rfl, rfl, rfl, rfl, by omega, by show k < 100000000; omega, Below.refl _ _⟩
  case round =>
    obtain ⟨j, d, acc, rfl, rfl, hm, hd, hd8, hj, hb⟩ := hrel
    have hz := hb.size
    have HB := Lib.hid hb
    by_cases h0 : j = 0
    · subst h0
      rw [mkR_zero] at hm
      have HM := Lib.hid hm
      have k2 : ∀ w : World, (Op.stringOp .add ⟨#[109]⟩ (ofL acc)).run Try.prog w = .ok (.string (mkT k)) w := fun w => concat_run (by rw [mkT, ← hm]; exact ofL_append [109] acc) (by rw [ofL_size]; show 1 + _ ≤ _; omega) w
      clear hm hb
      go_wp2_with fail
      go_ret
      exact ⟨rfl, HB.out⟩
    · have hd7 : d < 8 := by
        refine Nat.lt_of_not_le fun h => ?_
        have : 8 - d = 0 := by omega
        rw [this, Nat.pow_zero] at hj
        omega
      have hj2 : j / 10 < 10 ^ (8 - (d + 1)) := by
        rw [show 8 - d = (8 - (d + 1)) + 1 by omega, Nat.pow_succ] at hj
        omega
      have hj8 : j < 100000000 := Nat.lt_of_lt_of_le hj (Nat.pow_le_pow_right (by decide) (by omega : 8 - d ≤ 8))
      rw [mkR_pos h0] at hm
      obtain ⟨a, ha⟩ : ∃ a : Nat, j / 10 = a := ⟨_, rfl⟩
      obtain ⟨b, hb2⟩ : ∃ b : Nat, j % 10 = b := ⟨_, rfl⟩
      rw [ha] at hm hj2
      rw [hb2] at hm
      have i2 : b < 10 := by omega
      have j1 : (0 : Int) ≤ (b : Int) := by omega
      have j2 : (b : Int) < 10 := by omega
      have j3 : (0 : Int) < (j : Int) := by omega
      have haj : a < j := by omega
      have hA : IntKind.i64.wrap ((j : Int) / 10) = (a : Int) := by rw [IntKind.wrap_i64]; omega
      have hA2 : (j : Int).tdiv 10 = (a : Int) := by rw [Int.tdiv_eq_ediv_of_nonneg (by omega)]; omega
      have hB : (j : Int).tmod 10 = (b : Int) := by rw [Int.tmod_eq_emod_of_nonneg (by omega)]; omega
      have hC : IntKind.i64.wrap (48 + (b : Int)) = 48 + (b : Int) := by rw [IntKind.wrap_i64]; omega
      have hD : IntKind.u8.wrap (48 + (b : Int)) = 48 + (b : Int) := by rw [IntKind.wrap_u8]; omega
      have q := one_strD b wr.heap.size 1 i2 (wr.alloc (.cells #[.int .u8 (48 + (b : Int))] 5)) (by go_simp)
      obtain ⟨ch, hch⟩ : ∃ ch : UInt8, UInt8.ofNat (48 + b) = ch := ⟨_, rfl⟩
      rw [hch] at hm q
      obtain ⟨T, hT⟩ : ∃ T, ofL (ch :: acc) = T := ⟨_, rfl⟩
      have k1 : ∀ w : World, (Op.stringOp .add (ofL [ch]) (ofL acc)).run Try.prog w = .ok (.string T) w := fun w => concat_run (by rw [← hT]; exact ofL_append [ch] acc) (by rw [ofL_size, ofL_size]; show 1 + _ ≤ _; omega) w
      have HM := Lib.hid hm
      have HT := Lib.hid hT
      clear hm hb ha hb2 hT hj hch
      go_wp2_with fail
      go_roundw
      case rel => exact ⟨a, d + 1, _, by go_num, by rw [← HT.out], HM.out, by rw [List.length_cons, hd], by omega, hj2, HB.out.alloc hz _⟩
      case measure => simp [intOf]; omega

/-- A list of texts that a call has handed back. -/
def StrV (w : World) (v : Value) (l : List (List UInt8)) : Prop := ∃ av cap, v = .slice av l.length cap ∧ (l = [] ∨ ∃ g, av = some ⟨g, 0, none⟩ ∧ g < w.heap.size ∧ StrAt w g l)

/-- The first n texts are marks from k on. -/
def MkAt (w : World) (g n k : Nat) : Prop := ∀ j : Nat, j < n → w.cell? ⟨g, j, none⟩ = some (.string (mkT (k + j)))

theorem MkAt.below {w w' : World} {g n k m : Nat} (h : MkAt w g n k) (hg : g < m) (hb : Below m w w') : MkAt w' g n k := fun j hj => by
  rw [hb.cell (p := ⟨g, j, none⟩) hg]; exact h j hj

set_option maxRecDepth 100000 in
set_option maxHeartbeats 800000 in
theorem eqStringS_same (v v' : Value) (l : List (List UInt8)) (hb : l.length ≤ 1000000) (w : World) (h1 : StrV w v l) (h2 : StrV w v' l) :
    Calls Try.prog 19 #[v, v'] w fun e w' => e = .returned (.bool true) ∧ Below w.heap.size w w' := by
  obtain ⟨av, cap, rfl, h1⟩ := h1
  obtain ⟨av', cap', rfl, h2⟩ := h2
  obtain ⟨n, hn⟩ : ∃ n, l.length = n := ⟨_, rfl⟩
  rw [hn] at hb ⊢
  have HN := Lib.hid hn
  by_cases h0 : n = 0
  · subst h0
    go_enter Try.func19, Try.ntmps19
    go_wp2_with fail
    refine wp_loop_rounds 1 ?_
    rw [rounds_succ]
    go_wp2_with fail
    go_ret
    exact ⟨rfl, Below.refl _ _⟩
  · have hne : l ≠ [] := fun h => h0 (by rw [← hn, h]; rfl)
    obtain ⟨g, rfl, hg, s1⟩ := h1.resolve_left hne
    obtain ⟨g', rfl, hg', s2⟩ := h2.resolve_left hne
    have H1 := Lib.hid s1
    have H2 := Lib.hid s2
    clear hn h1 h2 s1 s2
    go_enter Try.func19, Try.ntmps19
    go_wp2_with fail
    go_loopw [5] (fun i wr => ∃ k : Nat, k ≤ n ∧ i = .int .i64 k ∧ Below w.heap.size w wr) (fun i _ => n - (intOf i).toNat)
    case atStart => exact ⟨0, Nat.zero_le _, rfl, Below.refl _ _⟩
    case round =>
      obtain ⟨k, hk, rfl, hB⟩ := hrel
      have HB := Lib.hid hB
      by_cases hlt : k < n
      · obtain ⟨x, hx⟩ : ∃ x, l[k]? = some x := ⟨_, List.getElem?_eq_getElem (by rw [HN.out]; exact hlt)⟩
        have c0 := (H1.out.below hg hB) k x hx
        have d0 := (H2.out.below hg' hB) k x hx
        have i1 : (0 : Int) ≤ (k : Int) := by omega
        have i2 : (k : Int) < (n : Int) := by omega
        clear hB hx
        go_wp2_with fail
        go_quiet (fail)
        go_wp2_with fail
        go_roundw
        case rel => exact ⟨k + 1, by omega, by go_num, HB.out.trans (below_drawn _ _)⟩
        case measure => simp [intOf]; omega
      · clear hB
        go_wp2_with fail
        go_ret
        exact ⟨rfl, HB.out⟩

set_option maxRecDepth 100000 in
set_option maxHeartbeats 1600000 in
theorem markStringS_any (v : Value) (l : List (List UInt8)) (hb : l.length ≤ 900000) (w : World) (h1 : StrV w v l) (hf : ∀ g, v.ownBlock = some g → FreeR w g l.length) :
    Calls Try.prog 20 #[v, .int .i64 1] w fun e w' => e = .returned (.int .i64 (1 + (l.length : Int))) ∧ (∀ g, v.ownBlock = some g → MkAt w' g l.length 1) ∧ w.grownBy w' v.ownBlock := by
  obtain ⟨av, cap, rfl, h1⟩ := h1
  obtain ⟨n, hn⟩ : ∃ n, l.length = n := ⟨_, rfl⟩
  rw [hn] at hb hf ⊢
  have HN := Lib.hid hn
  by_cases h0 : n = 0
  · subst h0
    go_enter Try.func20, Try.ntmps20
    go_wp2_with fail
    refine wp_loop_rounds 1 ?_
    rw [rounds_succ]
    go_wp2_with fail
    go_ret
    exact ⟨rfl, fun _ _ j hj => absurd hj (by omega), World.grownBy.refl _ _⟩
  · have hne : l ≠ [] := fun h => h0 (by rw [← hn, h]; rfl)
    obtain ⟨g, rfl, hg, s1⟩ := h1.resolve_left hne
    have H1 := Lib.hid s1
    have HF := Lib.hid (hf g rfl)
    clear hn h1 s1 hf
    go_enter Try.func20, Try.ntmps20
    go_wp2_with fail
    go_loopw [1, 5] (fun t i wr => ∃ k : Nat, k ≤ n ∧ i = .int .i64 k ∧ t = .int .i64 (1 + (k : Int)) ∧ MkAt wr g k 1 ∧ (∀ j : Nat, k ≤ j → wr.cell? ⟨g, j, none⟩ = w.cell? ⟨g, j, none⟩) ∧ FreeR wr g n ∧ w.grownBy wr (some g)) (fun _ i _ => n - (intOf i).toNat)
    case atStart => exact ⟨0, Nat.zero_le _, rfl, rfl, fun j hj => absurd hj (by omega), fun _ _ => rfl, HF.out, World.grownBy.refl _ _⟩
    case round =>
      obtain ⟨k, hk, rfl, rfl, r1, r2, r3, hG⟩ := hrel
      have hgr : g < wr.heap.size := Nat.lt_of_lt_of_le hg hG.size
      have R1 := Lib.hid r1
      have R2 := Lib.hid r2
      have R3 := Lib.hid r3
      have HG := Lib.hid hG
      clear r1 r2 r3 hG
      by_cases hlt : k < n
      · obtain ⟨x, hx⟩ : ∃ x, l[k]? = some x := ⟨_, List.getElem?_eq_getElem (by rw [HN.out]; exact hlt)⟩
        have C0 := Lib.hid ((R2.out k (Nat.le_refl _)).trans (H1.out k x hx))
        have MT := Lib.hid (markText_any (1 + k) (by omega) (by omega))
        have hc1 : ((1 + k : Nat) : Int) = 1 + (k : Int) := by omega
        rw [hc1] at MT
        clear hx hc1
        go_wp2_with fail
        refine (MT.out _).mono ?_
        rintro e wA ⟨rfl, hA⟩
        have c0 : wA.cell? ⟨g, k, none⟩ = some (.string (ofL x)) := by rw [hA.cell (p := ⟨g, k, none⟩) hgr]; exact C0.out
        have f0 : wA.frozen? ⟨g, k, none⟩ = false := by rw [hA.frozen (p := ⟨g, k, none⟩) hgr]; exact R3.out k hlt
        have C1 := Lib.hid c0
        have HA := Lib.hid hA
        clear hA
        go_wp2_with fail
        go_roundw
        case rel =>
          refine ⟨k + 1, by omega, by go_num, by congr 1, fun j hj => ?_, fun j hj => ?_, fun j hj => ?_, set_grown (HG.out.trans ((below_grown HA.out).but _)) k _⟩
          · by_cases e : k = j
            · subst e
              rw [World.cell?_setCell_same (h := C1.out)]
            · rw [World.cell?_setCell_other (h := fun h => e (by injection h)), HA.out.cell (p := ⟨g, j, none⟩) hgr]
              exact R1.out j (by omega)
          · rw [World.cell?_setCell_other (h := fun h => absurd (by injection h) (show ¬ k = j by omega)), HA.out.cell (p := ⟨g, j, none⟩) hgr]
            exact R2.out j (by omega)
          · rw [World.frozen?_setCell, HA.out.frozen (p := ⟨g, j, none⟩) hgr]
            exact R3.out j hj
        case measure => simp [intOf]; omega
      · obtain rfl : k = n := by omega
        go_wp2_with fail
        go_ret
        exact ⟨rfl, fun g' h => by simp only [Value.ownBlock, Option.some.injEq] at h; subst h; exact R1.out, HG.out⟩

set_option maxRecDepth 100000 in
set_option maxHeartbeats 1600000 in
theorem heldStringS_any (av : Option Addr) (n cap : Nat) (hb : n ≤ 900000) (w : World) (h1 : n = 0 ∨ ∃ g, av = some ⟨g, 0, none⟩ ∧ g < w.heap.size ∧ MkAt w g n 1) :
    Calls Try.prog 21 #[.slice av n cap, .int .i64 1] w fun e w' => e = .returned (.int .i64 (1 + (n : Int))) ∧ Below w.heap.size w w' := by
  by_cases h0 : n = 0
  · subst h0
    go_enter Try.func21, Try.ntmps21
    go_wp2_with fail
    refine wp_loop_rounds 1 ?_
    rw [rounds_succ]
    go_wp2_with fail
    go_ret
    exact ⟨rfl, Below.refl _ _⟩
  · obtain ⟨g, rfl, hg, s1⟩ := h1.resolve_left h0
    have H1 := Lib.hid s1
    clear h1 s1
    go_enter Try.func21, Try.ntmps21
    go_wp2_with fail
    go_loopw [1, 5] (fun t i wr => ∃ k : Nat, k ≤ n ∧ i = .int .i64 k ∧ t = .int .i64 (1 + (k : Int)) ∧ Below w.heap.size w wr) (fun _ i _ => n - (intOf i).toNat)
    case atStart => exact ⟨0, Nat.zero_le _, rfl, rfl, Below.refl _ _⟩
    case round =>
      obtain ⟨k, hk, rfl, rfl, hB⟩ := hrel
      have hgr : g < wr.heap.size := Nat.lt_of_lt_of_le hg hB.size
      by_cases hlt : k < n
      · have hS0 := (H1.out.below hg hB) k hlt
        have MT := Lib.hid (markText_any (1 + k) (by omega) (by omega))
        have hc1 : ((1 + k : Nat) : Int) = 1 + (k : Int) := by omega
        rw [hc1] at MT
        have i1 : (0 : Int) ≤ (k : Int) := by omega
        have i2 : (k : Int) < (n : Int) := by omega
        have HB := Lib.hid hB
        clear hB hc1
        generalize mkT (1 + k) = T at *
        go_wp2_with fail
        go_region_held3 (fun w' => w'.cell? ⟨g, k, none⟩ = some (.string T))
          (first | (with_reducible assumption) | (with_reducible exact cl_drew hS0) | (with_reducible refine cl_below ?_ ?_ h1; (first | (with_reducible assumption) | (with_reducible exact cl_drew hS0)); (first | omega | (simp; omega))))
          (((with_reducible refine (MT.out _).mono ?_); rintro e wA ⟨rfl, h1⟩; (try with_reducible replace h1 := undrew h1)))
        all_goals
          have HB2 := Lib.hid (HB.out.trans (h1.mono HB.out.size))
          clear h1 hS0
          go_wp2_with fail
          go_roundw
          case rel => exact ⟨k + 1, by omega, by go_num, by congr 1, HB2.out⟩
          case measure => simp [intOf]; omega
      · obtain rfl : k = n := by omega
        have HB := Lib.hid hB
        clear hB
        go_wp2_with fail
        go_ret
        exact ⟨rfl, HB.out⟩

end Go.Proofs.Ythiimllafcfieaa

/- What a list of texts and whether there is one are, behind a call. -/
namespace Go.Proofs.Ythiimllafcfieaa
open Go.ChangeShapes Go.WideShapes Go.ChangeAt Go.RowKit

def STPost (l : List (List UInt8)) (b : Bool) (w : World) (e : Ending) (w' : World) : Prop :=
  ∃ v, e = .returned (.tuple #[v, .bool b]) ∧ w'.ownsRow w.heap.size 9 1 v l.length (strV l) ∧ Below w.heap.size w w'

theorem stNo {w w' : World} (h : Below w.heap.size w w') : STPost [] false w (.returned (.tuple #[.slice none 0 0, .bool false])) w' := ⟨_, rfl, World.ownsRow_nil _ _ _ _, h⟩

theorem strV_own {W : World} {B : Nat} {v : Value} {l : List (List UInt8)} (h : W.ownsRow B 9 1 v l.length (strV l)) : StrV W v l := by
  have h0 := h
  rcases h.2 with ⟨rfl, h2⟩ | ⟨g, cap, cur, rfl, _⟩
  · exact ⟨none, 0, by rw [h2], .inl (List.eq_nil_of_length_eq_zero h2)⟩
  · exact ⟨_, cap, rfl, .inr ⟨g, rfl, (h0.lt g rfl).2, str_of h0 rfl⟩⟩

theorem StrV.below {w w' : World} {v : Value} {l : List (List UInt8)} (h : StrV w v l) (hb : Below w.heap.size w w') : StrV w' v l := by
  obtain ⟨av, cap, rfl, h⟩ := h
  refine ⟨av, cap, rfl, h.imp id ?_⟩
  rintro ⟨g, rfl, hg, hs⟩
  exact ⟨g, rfl, Nat.lt_of_lt_of_le hg hb.size, hs.below hg hb⟩

theorem StrV.grown {w w' : World} {v : Value} {l : List (List UInt8)} {row : Option Nat} (h : StrV w v l) (hg : w.grownBy w' row) (hne : v.ownBlock = none ∨ v.ownBlock ≠ row) : StrV w' v l := by
  obtain ⟨av, cap, rfl, h⟩ := h
  refine ⟨av, cap, rfl, h.imp id ?_⟩
  rintro ⟨g, rfl, hlt, hs⟩
  refine ⟨g, rfl, Nat.lt_of_lt_of_le hlt hg.size, fun i u hu => hg.cell (hs i u hu) ?_⟩
  rcases hne with h | h
  · cases h
  · exact h

theorem free_own {W : World} {B : Nat} {v : Value} {l : List (List UInt8)} (h : W.ownsRow B 9 1 v l.length (strV l)) : ∀ g, v.ownBlock = some g → FreeR W g l.length := by
  intro g hg j hj
  rcases h.2 with ⟨rfl, _⟩ | ⟨g', cap, cur, rfl, _⟩
  · cases hg
  · simp only [Value.ownBlock, Option.some.injEq] at hg
    subst hg
    exact h.frozenAt j

theorem own_apart {W W' : World} {B B' : Nat} {e e' size size' n n' : Nat} {v v' : Value} {xs xs' : List Value} (h : W.ownsRow B e size v n xs) (h' : W'.ownsRow B' e' size' v' n' xs') (hB : W.heap.size ≤ B') : v.ownBlock = none ∨ v.ownBlock ≠ v'.ownBlock := by
  cases hv : v.ownBlock with
  | none => exact .inl rfl
  | some k =>
    refine .inr fun e => ?_
    have h1 := (h.lt k hv).2
    have h2 := (h'.lt k e.symm).1
    omega

end Go.Proofs.Ythiimllafcfieaa

/- Contracts: all closed tracks of some pieces. -/
namespace Go.Proofs.Ythiimllafcfieaa
open Go.ChangeShapes Go.WideShapes Go.ChangeAt Go.RowKit

set_option linter.unusedVariables false

def ctB (n : Int) : Bool := inB n 1 10 && decide ((clsL sp0 n.toNat).length ≤ 300)

def ctL (n : Int) : List (List UInt8) := cond (ctB n) (clsL sp0 n.toNat) []

theorem ct_no {n : Int} (h : ctB n = false) : ctL n = [] := by simp [ctL, h]

theorem ct_yes {n : Int} (h : ctB n = true) : ctL n = clsL sp0 n.toNat := by simp [ctL, h]

theorem ClosedTracks_len (n : Int) : (ctL n).length ≤ 900000 := by
  cases h : ctB n
  · rw [ct_no h]; exact Nat.zero_le _
  · rw [ct_yes h]
    simp only [ctB, Bool.and_eq_true, decide_eq_true_eq] at h
    omega

set_option maxRecDepth 100000 in
theorem spClosedTracks (n : Int) (w : World) : Calls Try.prog 17 #[.int .i64 n] w (STPost (ctL n) (ctB n) w) := by
  cases h1 : inB n 1 10
  · have hb : ctB n = false := by simp [ctB, h1]
    rw [ct_no hb, hb]
    go_enter Try.func17, Try.ntmps17
    go_wp2_with (go_at_call 52; refine (l1In_any _ _ _ _).mono ?_; rintro e w' ⟨rfl, rfl⟩)
    go_ret2
    exact stNo (by go_grown)
  · have g1 : 1 ≤ n ∧ n ≤ 10 := by simpa [inB] using h1
    obtain ⟨m, rfl⟩ : ∃ m : Nat, n = m := ⟨n.toNat, by omega⟩
    have P := Lib.hid (fun w => (clAll_any m (by omega) sp0 (sp0_ok.mono (by omega)) w : Calls Try.prog 53 #[.agg #[.int .i64 0, .int .i64 0, .int .i64 0, .int .i64 0], .int .i64 0, .int .i64 (m : Nat)] w (StrPost (clsL sp0 m) w)))
    have hB : ctB (m : Int) = decide ((clsL sp0 m).length ≤ 300) := by simp [ctB, h1]
    have hL : ctL (m : Int) = cond (decide ((clsL sp0 m).length ≤ 300)) (clsL sp0 m) [] := by simp only [ctL, hB]; rfl
    rw [hB, hL]
    have hlen := cls_len sp0 m
    have h10 : 3 ^ m ≤ 59049 := Nat.pow_le_pow_right (by decide) (show m ≤ 10 by omega)
    generalize clsL sp0 m = l at *
    obtain ⟨k, hk⟩ : ∃ k, l.length = k := ⟨_, rfl⟩
    have HK := Lib.hid hk
    rw [hk] at hlen
    by_cases h3 : k ≤ 300
    · have hd : decide (l.length ≤ 300) = true := decide_eq_true (by omega)
      rw [hd, cond_true]
      have h3' : ¬ 300 < k := by omega
      clear hd hB hL hk
      go_enter Try.func17, Try.ntmps17
      go_wp2_with (go_at_call 52; refine (l1In_any _ _ _ _).mono ?_; rintro e w' ⟨rfl, rfl⟩)
      refine (P.out _).mono ?_
      rintro e w1 ⟨v, rfl, o1, hb⟩
      rw [HK.out] at o1
      obtain ⟨av, cv, rfl⟩ := own_formC o1
      have O1 := Lib.hid o1
      have HB := Lib.hid hb
      clear o1 hb
      go_wp2_with fail
      go_ret2
      exact ⟨_, rfl, by rw [HK.out]; exact O1.out, HB.out⟩
    · have hd : decide (l.length ≤ 300) = false := decide_eq_false (by omega)
      rw [hd, cond_false]
      have h3' : 300 < k := by omega
      clear hd hB hL hk
      go_enter Try.func17, Try.ntmps17
      go_wp2_with (go_at_call 52; refine (l1In_any _ _ _ _).mono ?_; rintro e w' ⟨rfl, rfl⟩)
      refine (P.out _).mono ?_
      rintro e w1 ⟨v, rfl, o1, hb⟩
      rw [HK.out] at o1
      obtain ⟨av, cv, rfl⟩ := own_formC o1
      have HB := Lib.hid hb
      clear o1 hb
      go_wp2_with fail
      go_ret2
      exact stNo HB.out

set_option maxRecDepth 100000 in
theorem imClosedTracks (n : Int) (w : World) : Calls Try.prog 18 #[.int .i64 n] w (STPost (ctL n) (ctB n) w) := by
  cases h1 : inB n 1 10
  · have hb : ctB n = false := by simp [ctB, h1]
    rw [ct_no hb, hb]
    go_enter Try.func18, Try.ntmps18
    go_wp2_with (go_at_call 50; refine (isInRange_any _ _ _ _).mono ?_; rintro e w' ⟨rfl, rfl⟩)
    go_ret2
    exact stNo (by go_grown)
  · have g1 : 1 ≤ n ∧ n ≤ 10 := by simpa [inB] using h1
    obtain ⟨m, rfl⟩ : ∃ m : Nat, n = m := ⟨n.toNat, by omega⟩
    have P := Lib.hid (fun w => (closings_any sp0 (sp0_ok.mono (by omega)) m (by omega) w : Calls Try.prog 51 #[.agg #[.int .i64 0, .int .i64 0, .int .i64 0, .int .i64 0, .int .i64 0], .int .i64 (m : Nat)] w (StrPost (clsL sp0 m) w)))
    have hB : ctB (m : Int) = decide ((clsL sp0 m).length ≤ 300) := by simp [ctB, h1]
    have hL : ctL (m : Int) = cond (decide ((clsL sp0 m).length ≤ 300)) (clsL sp0 m) [] := by simp only [ctL, hB]; rfl
    rw [hB, hL]
    have hlen := cls_len sp0 m
    have h10 : 3 ^ m ≤ 59049 := Nat.pow_le_pow_right (by decide) (show m ≤ 10 by omega)
    generalize clsL sp0 m = l at *
    obtain ⟨k, hk⟩ : ∃ k, l.length = k := ⟨_, rfl⟩
    have HK := Lib.hid hk
    rw [hk] at hlen
    by_cases h3 : k ≤ 300
    · have hd : decide (l.length ≤ 300) = true := decide_eq_true (by omega)
      rw [hd, cond_true]
      have h3' : ¬ 300 < k := by omega
      clear hd hB hL hk
      go_enter Try.func18, Try.ntmps18
      go_wp2_with (go_at_call 50; refine (isInRange_any _ _ _ _).mono ?_; rintro e w' ⟨rfl, rfl⟩)
      refine (P.out _).mono ?_
      rintro e w1 ⟨v, rfl, o1, hb⟩
      rw [HK.out] at o1
      obtain ⟨av, cv, rfl⟩ := own_formC o1
      have O1 := Lib.hid o1
      have HB := Lib.hid hb
      clear o1 hb
      go_wp2_with fail
      go_ret2
      exact ⟨_, rfl, by rw [HK.out]; exact O1.out, HB.out⟩
    · have hd : decide (l.length ≤ 300) = false := decide_eq_false (by omega)
      rw [hd, cond_false]
      have h3' : 300 < k := by omega
      clear hd hB hL hk
      go_enter Try.func18, Try.ntmps18
      go_wp2_with (go_at_call 50; refine (isInRange_any _ _ _ _).mono ?_; rintro e w' ⟨rfl, rfl⟩)
      refine (P.out _).mono ?_
      rintro e w1 ⟨v, rfl, o1, hb⟩
      rw [HK.out] at o1
      obtain ⟨av, cv, rfl⟩ := own_formC o1
      have HB := Lib.hid hb
      clear o1 hb
      go_wp2_with fail
      go_ret2
      exact stNo HB.out

end Go.Proofs.Ythiimllafcfieaa

/- Contracts: the program's stepsOf at what is no track, endOf and EndOf. -/
namespace Go.Proofs.Ythiimllafcfieaa
open Go.ChangeShapes Go.WideShapes Go.ChangeAt Go.RowKit

theorem stepsOf_no (s : ByteArray) (hs : s.size ≤ 1048576) (ht : tkB s = false) (w : World) :
    Calls Try.prog 119 #[.string s] w fun e w' => e = .returned (.tuple #[.slice none 0 0, .bool false]) ∧ w = w' := by
  go_enter Try.func119, Try.ntmps119
  go_wp2_with (go_at_call 132; refine (imIsTrack_any s hs _).mono ?_; rintro e w' ⟨rfl, rfl⟩)
  go_ret2
  exact ⟨rfl, rfl⟩

/-- The end of a track, the step at 0 for what is none. -/
def enS (s : ByteArray) : Sp := cond (tkB s) (fin sp0 s.data.toList) sp0

theorem enS_yes {s : ByteArray} (h : tkB s = true) : enS s = fin sp0 s.data.toList := by simp [enS, h]

theorem enS_no {s : ByteArray} (h : tkB s = false) : enS s = sp0 := by simp [enS, h]

set_option maxRecDepth 100000 in
theorem endOf_any (s : ByteArray) (hs : s.size ≤ 1048576) (w : World) :
    Calls Try.prog 95 #[.string s] w fun e w' => e = .returned (.tuple #[.agg #[.int .i64 (enS s).x0, .int .i64 (enS s).x1, .int .i64 (enS s).x2, .int .i64 (enS s).x3, .int .i64 (enS s).h], .bool (tkB s)]) ∧ Below w.heap.size w w' := by
  cases ht : tkB s
  · have HE := Lib.hid (enS_no ht)
    go_enter Try.func95, Try.ntmps95
    go_wp2_with (go_at_call 119; refine (stepsOf_no s hs ht _).mono ?_; rintro e w' ⟨rfl, rfl⟩)
    refine bodyPost_ret (by simp [results, Try.results95, go_sem, *]; try rfl) rfl ?_
    exact ⟨by rw [HE.out]; rfl, by go_grown⟩
  · have h40 := tkB_size ht
    have hL := lays_at s s.size (Nat.le_refl _)
    have hn := lays_len s s.size (Nat.le_refl _)
    rw [take_all s (by omega)] at hL hn
    have HE := Lib.hid (enS_yes ht)
    generalize hf : fin sp0 s.data.toList = p at HE hL
    have HN := Lib.hid hn
    have HL := Lib.hid hL
    clear hf hn hL
    obtain ⟨x0, x1, x2, x3, h⟩ := p
    go_enter Try.func95, Try.ntmps95
    go_wp2_with fail
    refine (stepsOf_yes s ht _).mono ?_
    rintro e w1 ⟨g, cap, rfl, hO, hb1⟩
    obtain ⟨c0, c1, c2, c3, c4⟩ := own_sp hO HN.out HL.out
    have HB := Lib.hid (ba (by go_grown) hb1 : Below w.heap.size w w1)
    obtain ⟨hc1, hf1⟩ := bcell hb1
    have hz := hb1.size
    simp at hz
    have hz0 : w.heap.size < w1.heap.size := by omega
    clear hO hb1
    go_wp2_with fail
    refine bodyPost_ret (by simp [results, Try.results95, go_sem, *]; try rfl) rfl ?_
    have hB := HB.out
    exact ⟨by rw [HE.out], by go_grown⟩

end Go.Proofs.Ythiimllafcfieaa

/- Contracts: the ends of tracks in the model, and ends compared. -/
namespace Go.Proofs.Ythiimllafcfieaa
open Go.ChangeShapes Go.WideShapes Go.ChangeAt Go.RowKit

theorem own_pt {W : World} {B n g cap i : Nat} {e : TypeId} {l : List Sp} {s : Sp} (h : W.ownsRow B e 4 (.slice (some ⟨g, 0, none⟩) n cap) n (ptCells l)) (hn : l.length = n) (hs : l[i]? = some s) :
    W.cell? ⟨g, i * 4, none⟩ = some (.int .i64 s.x0) ∧ W.cell? ⟨g, i * 4 + 1, none⟩ = some (.int .i64 s.x1) ∧ W.cell? ⟨g, i * 4 + 2, none⟩ = some (.int .i64 s.x2) ∧ W.cell? ⟨g, i * 4 + 3, none⟩ = some (.int .i64 s.x3) := by
  have hi : i < n := by rw [← hn]; exact (List.getElem?_eq_some_iff.1 hs).1
  have a := fun j (hj : j < 4) => (h.cellAt (i * 4 + j) (by omega)).trans ((by rw [Nat.mul_comm]) : _ = (ptCells l)[4 * i + j]?) |>.trans (ptCells_at l hs j hj)
  exact ⟨a 0 (by omega), a 1 (by omega), a 2 (by omega), a 3 (by omega)⟩

theorem own_hd {W : World} {B n g cap i : Nat} {e : TypeId} {l : List Sp} {s : Sp} (h : W.ownsRow B e 1 (.slice (some ⟨g, 0, none⟩) n cap) n (hdCells l)) (hn : l.length = n) (hs : l[i]? = some s) :
    W.cell? ⟨g, i, none⟩ = some (.int .i64 s.h) := by
  have hi : i < n := by rw [← hn]; exact (List.getElem?_eq_some_iff.1 hs).1
  rw [h.cellAt i (by omega)]
  simp [hdCells, hs]

theorem lays_lenA (a : Sp) (s : ByteArray) : (lays a s.data.toList).length = s.size + 1 := by rw [lays_length, size_list]

theorem lays_atA (a : Sp) (s : ByteArray) : (lays a s.data.toList)[s.size]? = some (fin a s.data.toList) := by
  have h := lays_last a s.data.toList
  rwa [size_list] at h

set_option maxRecDepth 100000 in
set_option maxHeartbeats 800000 in
theorem tkEnd_yes (s : ByteArray) (ht : tkB s = true) (w : World) :
    Calls Try.prog 75 #[.string s] w fun e w' => e = .returned (.tuple #[.agg #[.int .i64 (enS s).x0, .int .i64 (enS s).x1, .int .i64 (enS s).x2, .int .i64 (enS s).x3], .int .i64 (enS s).h]) ∧ Below w.heap.size w w' := by
  have h40 := tkB_size ht
  have hL := lays_atA sp0 s
  have HN := Lib.hid (lays_lenA sp0 s)
  have HE := Lib.hid (enS_yes ht)
  generalize hf : fin sp0 s.data.toList = p at HE hL
  have HL := Lib.hid hL
  clear hf hL
  obtain ⟨x0, x1, x2, x3, h⟩ := p
  have hc := tkLay_any s ht sp0 (sp0_ok.mono (by decide))
  have HC := Lib.hid hc
  clear hc
  go_enter Try.func75, Try.ntmps75
  go_wp2_with fail
  refine (HC.out _).mono ?_
  rintro e w1 ⟨gj, cj, gh, ch, rfl, hJ, hH, hb1⟩
  obtain ⟨c0, c1, c2, c3⟩ := own_pt hJ HN.out HL.out
  have c4 := own_hd hH HN.out HL.out
  have HB := Lib.hid (ba (by go_grown) hb1 : Below w.heap.size w w1)
  obtain ⟨hc1, hf1⟩ := bcell hb1
  have hz := hb1.size
  simp at hz
  have hz0 : w.heap.size < w1.heap.size := by omega
  have g1 := (hJ.lt gj rfl).1
  have g2 := (hH.lt gh rfl).1
  simp at g1 g2
  have n1 : ¬ gj = w.heap.size := by omega
  have n2 : ¬ gh = w.heap.size := by omega
  have n3 : ¬ w.heap.size = gj := by omega
  have n4 : ¬ w.heap.size = gh := by omega
  clear hJ hH hb1
  go_wp2_with fail
  go_region
  all_goals
    go_wp2_with fail
    refine bodyPost_ret (by simp [results, Try.results75, go_sem, *]; try rfl) rfl ?_
    have hB := HB.out
    exact ⟨by rw [HE.out], by go_grown⟩

/-- '==' on two steps. -/
@[go_sem high] theorem eqSt (a0 a1 a2 a3 a4 b0 b1 b2 b3 b4 : Int) (w : World) : (binOp .eql 63 (.agg #[.int .i64 a0, .int .i64 a1, .int .i64 a2, .int .i64 a3, .int .i64 a4]) (.agg #[.int .i64 b0, .int .i64 b1, .int .i64 b2, .int .i64 b3, .int .i64 b4])).run Try.prog w = .ok (.bool ((a0 == b0 && (a1 == b1 && (a2 == b2 && a3 == b3))) && a4 == b4)) w := by
  have hS : Try.prog.underlying 63 = some (.struct (Try.prog.fieldsOf 63)) := by kernel_rfl
  have hp : Try.prog.stoodInHeld 63 = false := by kernel_rfl
  rw [run_eql_struct, show (10000 : Nat) = 9999 + 1 from rfl, run_equalIn_agg w 9999 63 _ _ hS hp]
  simp only [Program.fieldsOf, Try.underlying63]
  go_simp
  by_cases h0 : a0 = b0 <;> by_cases h1 : a1 = b1 <;> by_cases h2 : a2 = b2 <;> by_cases h3 : a3 = b3 <;> by_cases h4 : a4 = b4 <;> simp [h0, h1, h2, h3, h4]

end Go.Proofs.Ythiimllafcfieaa

/- Contracts: whether two tracks have the same end. -/
namespace Go.Proofs.Ythiimllafcfieaa
open Go.ChangeShapes Go.WideShapes Go.ChangeAt Go.RowKit

def saG (a b : ByteArray) : Bool := tkB a && tkB b

def saR (a b : ByteArray) : Bool := saG a b && (((enS a).x0 == (enS b).x0 && ((enS a).x1 == (enS b).x1 && ((enS a).x2 == (enS b).x2 && (enS a).x3 == (enS b).x3))) && (enS a).h == (enS b).h)

theorem ret_sa {a b : ByteArray} {r g : Bool} (hg : saG a b = g) (hr : saR a b = r) : Ending.returned (.tuple #[.bool r, .bool g]) = Ending.returned (.tuple #[.bool (saR a b), .bool (saG a b)]) := by rw [hg, hr]

end Go.Proofs.Ythiimllafcfieaa

/- Contracts: whether a track is closed. -/
namespace Go.Proofs.Ythiimllafcfieaa
open Go.ChangeShapes Go.WideShapes Go.ChangeAt Go.RowKit

def zP (s : ByteArray) : Bool := (enS s).x0 == 0 && ((enS s).x1 == 0 && ((enS s).x2 == 0 && (enS s).x3 == 0))

def zS (s : ByteArray) : Bool := zP s && (enS s).h == 0

def clB (s : ByteArray) : Bool := tkB s && (decide (0 < s.size) && zS s)

theorem clB_tk {s : ByteArray} (h : clB s = true) : tkB s = true := by
  simp only [clB, Bool.and_eq_true] at h
  exact h.1

theorem clB_no {s : ByteArray} (h : tkB s = false) : clB s = false := by simp [clB, h]

theorem clB_yes {s : ByteArray} (h : tkB s = true) : clB s = (decide (0 < s.size) && zS s) := by simp [clB, h]

set_option maxRecDepth 100000 in
set_option maxHeartbeats 800000 in
theorem clClosed_any (s : ByteArray) (ht : tkB s = true) (w : World) :
    Calls Try.prog 59 #[.string s] w fun e w' => e = .returned (.bool (clB s)) ∧ Below w.heap.size w w' := by
  have hc := tkEnd_yes s ht
  have hR := clB_yes ht
  unfold zS zP at hR
  generalize enS s = p at hR hc
  obtain ⟨x0, x1, x2, x3, x4⟩ := p
  simp only at hR
  have HC := Lib.hid hc
  clear hc
  by_cases h0 : 0 < s.size
  · cases hq : (x0 == 0 && (x1 == 0 && (x2 == 0 && x3 == 0)))
    all_goals
      rw [hq] at hR
      have R := Lib.hid hR
      clear hR
      go_enter Try.func59, Try.ntmps59
      go_wp2_with fail
      (go_at_call 75; (with_reducible refine (HC.out _).mono ?_); rintro e wA ⟨rfl, h1⟩; (try with_reducible replace h1 := undrew h1); have hB : Below w.heap.size w wA := ba (by go_grown) h1; obtain ⟨hcwA, hfwA⟩ := bcell h1; have hqwA := h1.size; (try simp at hqwA); )
      go_wp2_with fail
      go_ret
      exact ⟨by rw [R.out]; simp [h0], by go_grown⟩
  · have R := Lib.hid hR
    clear hR
    go_enter Try.func59, Try.ntmps59
    go_wp2_with fail
    (go_at_call 75; (with_reducible refine (HC.out _).mono ?_); rintro e wA ⟨rfl, h1⟩; (try with_reducible replace h1 := undrew h1); have hB : Below w.heap.size w wA := ba (by go_grown) h1; obtain ⟨hcwA, hfwA⟩ := bcell h1; have hqwA := h1.size; (try simp at hqwA); )
    go_wp2_with fail
    go_ret
    exact ⟨by rw [R.out]; simp [h0], by go_grown⟩

end Go.Proofs.Ythiimllafcfieaa

/- Contracts: the texts that complete a track, in the model and in the program. -/
namespace Go.Proofs.Ythiimllafcfieaa
open Go.ChangeShapes Go.WideShapes Go.ChangeAt Go.RowKit

set_option linter.unusedVariables false

def coB (s : ByteArray) (n : Int) : Bool := tkB s && (inB n 0 7 && decide ((s.size : Int) + n ≤ 40))

def coL (s : ByteArray) (n : Int) : List (List UInt8) := cond (coB s n) (cond (decide ((s.size : Int) + n = 0)) [] (clsL (enS s) n.toNat)) []

theorem co_no {s : ByteArray} {n : Int} (h : coB s n = false) : coL s n = [] := by simp [coL, h]

theorem co_zero {s : ByteArray} {n : Int} (h : (s.size : Int) + n = 0) : coL s n = [] := by simp [coL, h]

theorem co_yes {s : ByteArray} {n : Int} (h : coB s n = true) (h0 : ¬ (s.size : Int) + n = 0) : coL s n = clsL (enS s) n.toNat := by simp [coL, h, h0]

theorem co_len (s : ByteArray) (n : Int) : (coL s n).length ≤ 2187 := by
  cases h : coB s n
  · rw [co_no h]; exact Nat.zero_le _
  · by_cases h0 : (s.size : Int) + n = 0
    · rw [co_zero h0]; exact Nat.zero_le _
    · rw [co_yes h h0]
      simp only [coB, inB, Bool.and_eq_true, decide_eq_true_eq] at h
      have h1 := cls_len (enS s) n.toNat
      have h2 : 3 ^ n.toNat ≤ 3 ^ 7 := Nat.pow_le_pow_right (by decide) (by omega)
      exact Nat.le_trans h1 h2

theorem enS_ok {s : ByteArray} (h : tkB s = true) : (enS s).okB 80 := by
  rw [enS_yes h]
  have h40 := tkB_size h
  have hl := size_list s
  exact (fin_ok sp0_ok s.data.toList).mono (by omega)

theorem stCo {s : ByteArray} {n : Int} {v : Value} {l : List (List UInt8)} {w w' : World} (hb : coB s n = true) (hl : coL s n = l) (ho : w'.ownsRow w.heap.size 9 1 v l.length (strV l)) (hB : Below w.heap.size w w') :
    STPost (coL s n) (coB s n) w (.returned (.tuple #[v, .bool true])) w' := ⟨v, by rw [hb], by rw [hl]; exact ho, hB⟩

theorem stCoNo {s : ByteArray} {n : Int} {w w' : World} (hb : coB s n = false) (hB : Below w.heap.size w w') :
    STPost (coL s n) (coB s n) w (.returned (.tuple #[.slice none 0 0, .bool false])) w' := by rw [hb, co_no hb]; exact stNo hB

set_option maxRecDepth 100000 in
set_option maxHeartbeats 800000 in
theorem spAdded (s : ByteArray) (n : Int) (hs : s.size ≤ 1048576) (w : World) : Calls Try.prog 55 #[.string s, .int .i64 n] w (STPost (coL s n) (coB s n) w) := by
  cases ht : tkB s
  · have hb := Lib.hid (show coB s n = false by simp [coB, ht])
    go_enter Try.func55, Try.ntmps55
    go_wp2_with (go_at_call 94; refine (tkGood_any s hs _).mono ?_; rintro e w' ⟨rfl, rfl⟩)
    go_ret2
    exact stCoNo hb.out (by go_grown)
  cases h1 : inB n 0 7
  · have hb := Lib.hid (show coB s n = false by simp [coB, h1])
    go_enter Try.func55, Try.ntmps55
    go_wp2_with (first | (go_at_call 94; refine (tkGood_any s hs _).mono ?_; rintro e w' ⟨rfl, rfl⟩) | (go_at_call 52; refine (l1In_any _ _ _ _).mono ?_; rintro e w' ⟨rfl, rfl⟩))
    go_ret2
    exact stCoNo hb.out (by go_grown)
  have g1 : 0 ≤ n ∧ n ≤ 7 := by simpa [inB] using h1
  obtain ⟨m, rfl⟩ : ∃ m : Nat, n = m := ⟨n.toNat, by omega⟩
  have h40 := tkB_size ht
  by_cases h2 : s.size + m ≤ 40
  · have hb := Lib.hid (show coB s m = true by simp [coB, ht, h1]; omega)
    have h2' : ¬ (40 : Int) < (s.size : Int) + (m : Int) := by omega
    by_cases h3 : s.size + m = 0
    · have hl := Lib.hid (co_zero (s := s) (n := (m : Int)) (by omega))
      have h3' : (s.size : Int) + (m : Int) = 0 := by omega
      go_enter Try.func55, Try.ntmps55
      go_wp2_with (first | (go_at_call 94; refine (tkGood_any s hs _).mono ?_; rintro e w' ⟨rfl, rfl⟩) | (go_at_call 52; refine (l1In_any _ _ _ _).mono ?_; rintro e w' ⟨rfl, rfl⟩))
      go_ret2
      exact stCo hb.out hl.out (World.ownsRow_nil _ _ _ _) (by go_grown)
    · have h3' : ¬ (s.size : Int) + (m : Int) = 0 := by omega
      have hl := Lib.hid (co_yes hb.out h3')
      rw [Int.toNat_natCast] at hl
      have hok := enS_ok ht
      have P := Lib.hid (clAll_any m (by omega) (enS s) (hok.mono (by omega)))
      have TE := Lib.hid (tkEnd_yes s ht)
      generalize enS s = p at hl P TE
      obtain ⟨x0, x1, x2, x3, x4⟩ := p
      clear hok
      go_enter Try.func55, Try.ntmps55
      go_wp2_with (first | (go_at_call 94; refine (tkGood_any s hs _).mono ?_; rintro e w' ⟨rfl, rfl⟩) | (go_at_call 52; refine (l1In_any _ _ _ _).mono ?_; rintro e w' ⟨rfl, rfl⟩))
      refine (TE.out _).mono ?_
      rintro e w1 ⟨rfl, hb1⟩
      have HB1 := Lib.hid hb1
      have hz := hb1.size
      clear hb1
      go_wp2_with fail
      refine (P.out _).mono ?_
      rintro e w2 ⟨v, rfl, o2, hb2⟩
      have O2 := Lib.hid (own_lessP o2 (B' := w.heap.size) (by simp; omega))
      have HB2 := Lib.hid ((HB1.out.alloc hz _).trans (hb2.mono (by simp; omega)))
      clear o2 hb2
      go_wp2_with fail
      go_ret2
      exact stCo hb.out hl.out O2.out HB2.out
  · have hb := Lib.hid (show coB s m = false by simp [coB]; omega)
    have h2' : (40 : Int) < (s.size : Int) + (m : Int) := by omega
    go_enter Try.func55, Try.ntmps55
    go_wp2_with (first | (go_at_call 94; refine (tkGood_any s hs _).mono ?_; rintro e w' ⟨rfl, rfl⟩) | (go_at_call 52; refine (l1In_any _ _ _ _).mono ?_; rintro e w' ⟨rfl, rfl⟩))
    go_ret2
    exact stCoNo hb.out (by go_grown)

set_option maxRecDepth 100000 in
set_option maxHeartbeats 800000 in
theorem imCompl (s : ByteArray) (n : Int) (hs : s.size ≤ 1048576) (w : World) : Calls Try.prog 56 #[.string s, .int .i64 n] w (STPost (coL s n) (coB s n) w) := by
  have hc := endOf_any s hs
  cases ht : tkB s
  · have hb := Lib.hid (show coB s n = false by simp [coB, ht])
    rw [ht] at hc
    generalize enS s = p at hc
    obtain ⟨x0, x1, x2, x3, x4⟩ := p
    have HC := Lib.hid hc
    clear hc ht
    go_enter Try.func56, Try.ntmps56
    go_wp2_with fail
    (go_at_call 95; (with_reducible refine (HC.out _).mono ?_); rintro e wA ⟨rfl, h1⟩; (try with_reducible replace h1 := undrew h1); have hB : Below w.heap.size w wA := ba (by go_grown) h1; obtain ⟨hcwA, hfwA⟩ := bcell h1; have hqwA := h1.size; (try simp at hqwA); )
    go_wp2_with fail
    go_ret2
    exact stCoNo hb.out (by go_grown)
  rw [ht] at hc
  have hok := enS_ok ht
  cases h1 : inB n 0 7
  · have hb := Lib.hid (show coB s n = false by simp [coB, h1])
    generalize enS s = p at hc
    obtain ⟨x0, x1, x2, x3, x4⟩ := p
    have HC := Lib.hid hc
    clear hc ht hok
    go_enter Try.func56, Try.ntmps56
    go_wp2_with fail
    (go_at_call 95; (with_reducible refine (HC.out _).mono ?_); rintro e wA ⟨rfl, h1⟩; (try with_reducible replace h1 := undrew h1); have hB : Below w.heap.size w wA := ba (by go_grown) h1; obtain ⟨hcwA, hfwA⟩ := bcell h1; have hqwA := h1.size; (try simp at hqwA); )
    go_wp2_with (go_at_call 50; refine (isInRange_any _ _ _ _).mono ?_; rintro e w' ⟨rfl, rfl⟩)
    go_ret2
    exact stCoNo hb.out (by go_grown)
  have g1 : 0 ≤ n ∧ n ≤ 7 := by simpa [inB] using h1
  obtain ⟨m, rfl⟩ : ∃ m : Nat, n = m := ⟨n.toNat, by omega⟩
  have h40 := tkB_size ht
  by_cases h2 : s.size + m ≤ 40
  · have hb := Lib.hid (show coB s m = true by simp [coB, ht, h1]; omega)
    have h2' : ¬ (40 : Int) < (s.size : Int) + (m : Int) := by omega
    by_cases h3 : s.size + m = 0
    · have hl := Lib.hid (co_zero (s := s) (n := (m : Int)) (by omega))
      have h3' : (s.size : Int) + (m : Int) = 0 := by omega
      generalize enS s = p at hc
      obtain ⟨x0, x1, x2, x3, x4⟩ := p
      have HC := Lib.hid hc
      clear hc ht hok
      go_enter Try.func56, Try.ntmps56
      go_wp2_with fail
      (go_at_call 95; (with_reducible refine (HC.out _).mono ?_); rintro e wA ⟨rfl, h1⟩; (try with_reducible replace h1 := undrew h1); have hB : Below w.heap.size w wA := ba (by go_grown) h1; obtain ⟨hcwA, hfwA⟩ := bcell h1; have hqwA := h1.size; (try simp at hqwA); )
      go_wp2_with (go_at_call 50; refine (isInRange_any _ _ _ _).mono ?_; rintro e w' ⟨rfl, rfl⟩)
      go_ret2
      exact stCo hb.out hl.out (World.ownsRow_nil _ _ _ _) (by go_grown)
    · have h3' : ¬ (s.size : Int) + (m : Int) = 0 := by omega
      have hl := Lib.hid (co_yes hb.out h3')
      rw [Int.toNat_natCast] at hl
      have P := Lib.hid (closings_any (enS s) (hok.mono (by omega)) m (by omega))
      generalize enS s = p at hl P hc
      obtain ⟨x0, x1, x2, x3, x4⟩ := p
      have HC := Lib.hid hc
      clear hok hc ht
      go_enter Try.func56, Try.ntmps56
      go_wp2_with fail
      refine (HC.out _).mono ?_
      rintro e w1 ⟨rfl, hb1⟩
      have HB1 := Lib.hid hb1
      have hz := hb1.size
      clear hb1
      go_wp2_with (go_at_call 50; refine (isInRange_any _ _ _ _).mono ?_; rintro e w' ⟨rfl, rfl⟩)
      refine (P.out _).mono ?_
      rintro e w2 ⟨v, rfl, o2, hb2⟩
      have O2 := Lib.hid (own_lessP o2 (B' := w.heap.size) (by simp; omega))
      have HB2 := Lib.hid ((HB1.out.alloc hz _).trans (hb2.mono (by simp; omega)))
      clear o2 hb2
      go_wp2_with fail
      go_ret2
      exact stCo hb.out hl.out O2.out HB2.out
  · have hb := Lib.hid (show coB s m = false by simp [coB]; omega)
    have h2' : (40 : Int) < (s.size : Int) + (m : Int) := by omega
    generalize enS s = p at hc
    obtain ⟨x0, x1, x2, x3, x4⟩ := p
    have HC := Lib.hid hc
    clear hc ht hok
    go_enter Try.func56, Try.ntmps56
    go_wp2_with fail
    (go_at_call 95; (with_reducible refine (HC.out _).mono ?_); rintro e wA ⟨rfl, h1⟩; (try with_reducible replace h1 := undrew h1); have hB : Below w.heap.size w wA := ba (by go_grown) h1; obtain ⟨hcwA, hfwA⟩ := bcell h1; have hqwA := h1.size; (try simp at hqwA); )
    go_wp2_with (go_at_call 50; refine (isInRange_any _ _ _ _).mono ?_; rintro e w' ⟨rfl, rfl⟩)
    go_ret2
    exact stCoNo hb.out (by go_grown)

end Go.Proofs.Ythiimllafcfieaa

/- Contracts: how many texts complete a track, the first one, the fewest pieces. -/
namespace Go.Proofs.Ythiimllafcfieaa
open Go.ChangeShapes Go.WideShapes Go.ChangeAt Go.RowKit

set_option linter.unusedVariables false

def fcB (s : ByteArray) (n : Int) : Bool := !(coL s n).isEmpty

def fcS (s : ByteArray) (n : Int) : ByteArray := ofL ((coL s n).headD [])

theorem fc_no {s : ByteArray} {n : Int} (h : coL s n = []) : fcB s n = false ∧ fcS s n = ⟨#[]⟩ := by simp [fcB, fcS, h, ofL]

theorem fc_yes {s : ByteArray} {n : Int} {x : List UInt8} {r : List (List UInt8)} (h : coL s n = x :: r) : fcB s n = true ∧ fcS s n = ofL x := by simp [fcB, fcS, h]

theorem co_true {s : ByteArray} {n : Int} {x : List UInt8} {r : List (List UInt8)} (h : coL s n = x :: r) : coB s n = true := by
  cases hb : coB s n
  · rw [co_no hb] at h; cases h
  · rfl

theorem ret_fc {s : ByteArray} {n : Int} {x : ByteArray} {b : Bool} (hb : fcB s n = b) (hs : fcS s n = x) : Ending.returned (.tuple #[.string x, .bool b]) = Ending.returned (.tuple #[.string (fcS s n), .bool (fcB s n)]) := by rw [hb, hs]

theorem spCountCompletions (s : ByteArray) (n : Int) (hs : s.size ≤ 1048576) (w : World) :
    Calls Try.prog 22 #[.string s, .int .i64 n] w fun e w' => e = .returned (.tuple #[.int .i64 ((coL s n).length : Nat), .bool (coB s n)]) ∧ Below w.heap.size w w' := by
  have P := Lib.hid (spAdded s n hs)
  have hl := co_len s n
  go_enter Try.func22, Try.ntmps22
  go_wp2_with fail
  refine (P.out _).mono ?_
  rintro e w1 ⟨v, rfl, o1, hb⟩
  obtain ⟨av, cv, rfl⟩ := own_formC o1
  have HB := Lib.hid hb
  clear o1 hb
  go_wp2_with fail
  go_ret2
  exact ⟨rfl, HB.out⟩

theorem imCountCompletions (s : ByteArray) (n : Int) (hs : s.size ≤ 1048576) (w : World) :
    Calls Try.prog 23 #[.string s, .int .i64 n] w fun e w' => e = .returned (.tuple #[.int .i64 ((coL s n).length : Nat), .bool (coB s n)]) ∧ Below w.heap.size w w' := by
  have P := Lib.hid (imCompl s n hs)
  have hl := co_len s n
  go_enter Try.func23, Try.ntmps23
  go_wp2_with fail
  refine (P.out _).mono ?_
  rintro e w1 ⟨v, rfl, o1, hb⟩
  obtain ⟨av, cv, rfl⟩ := own_formC o1
  have HB := Lib.hid hb
  clear o1 hb
  go_wp2_with fail
  go_ret2
  exact ⟨rfl, HB.out⟩

set_option maxRecDepth 100000 in
theorem spFirstCompletion (s : ByteArray) (n : Int) (hs : s.size ≤ 1048576) (w : World) :
    Calls Try.prog 24 #[.string s, .int .i64 n] w fun e w' => e = .returned (.tuple #[.string (fcS s n), .bool (fcB s n)]) ∧ Below w.heap.size w w' := by
  have P := Lib.hid (spAdded s n hs)
  have hl := co_len s n
  cases hc : coL s n with
  | nil =>
    obtain ⟨r1, r2⟩ := fc_no hc
    have R1 := Lib.hid r1
    have R2 := Lib.hid r2
    rw [hc] at P
    clear r1 r2 hc hl
    cases hb : coB s n
    all_goals
      rw [hb] at P
      clear hb
      go_enter Try.func24, Try.ntmps24
      go_wp2_with fail
      refine (P.out _).mono ?_
      rintro e w1 ⟨v, rfl, o1, hb⟩
      obtain ⟨av, cv, rfl⟩ := own_formC o1
      have HB := Lib.hid hb
      clear o1 hb
      go_wp2_with fail
      go_ret2
      exact ⟨ret_fc R1.out R2.out, HB.out⟩
  | cons x r =>
    obtain ⟨r1, r2⟩ := fc_yes hc
    have R1 := Lib.hid r1
    have R2 := Lib.hid r2
    rw [co_true hc, hc] at P
    rw [hc] at hl
    obtain ⟨k, hk⟩ : ∃ k, (x :: r).length = k := ⟨_, rfl⟩
    have HK := Lib.hid hk
    have hk1 : 1 ≤ k := by rw [← hk, List.length_cons]; omega
    rw [hk] at hl
    clear r1 r2 hc hk
    go_enter Try.func24, Try.ntmps24
    go_wp2_with fail
    refine (P.out _).mono ?_
    rintro e w1 ⟨v, rfl, o1, hb⟩
    rw [HK.out] at o1
    obtain ⟨g, cap, rfl, _⟩ := o1.form hk1
    have c0 := str_of o1 HK.out 0 x rfl
    have HB := Lib.hid hb
    have hkz : ¬ k = 0 := by omega
    clear o1 hb
    go_wp2_with fail
    go_ret2
    exact ⟨ret_fc R1.out R2.out, HB.out⟩

set_option maxRecDepth 100000 in
theorem imFirstCompletion (s : ByteArray) (n : Int) (hs : s.size ≤ 1048576) (w : World) :
    Calls Try.prog 25 #[.string s, .int .i64 n] w fun e w' => e = .returned (.tuple #[.string (fcS s n), .bool (fcB s n)]) ∧ Below w.heap.size w w' := by
  have P := Lib.hid (imCompl s n hs)
  have hl := co_len s n
  cases hc : coL s n with
  | nil =>
    obtain ⟨r1, r2⟩ := fc_no hc
    have R1 := Lib.hid r1
    have R2 := Lib.hid r2
    rw [hc] at P
    clear r1 r2 hc hl
    cases hb : coB s n
    all_goals
      rw [hb] at P
      clear hb
      go_enter Try.func25, Try.ntmps25
      go_wp2_with fail
      refine (P.out _).mono ?_
      rintro e w1 ⟨v, rfl, o1, hb⟩
      obtain ⟨av, cv, rfl⟩ := own_formC o1
      have HB := Lib.hid hb
      clear o1 hb
      go_wp2_with fail
      go_ret2
      exact ⟨ret_fc R1.out R2.out, HB.out⟩
  | cons x r =>
    obtain ⟨r1, r2⟩ := fc_yes hc
    have R1 := Lib.hid r1
    have R2 := Lib.hid r2
    rw [co_true hc, hc] at P
    rw [hc] at hl
    obtain ⟨k, hk⟩ : ∃ k, (x :: r).length = k := ⟨_, rfl⟩
    have HK := Lib.hid hk
    have hk1 : 1 ≤ k := by rw [← hk, List.length_cons]; omega
    rw [hk] at hl
    clear r1 r2 hc hk
    go_enter Try.func25, Try.ntmps25
    go_wp2_with fail
    refine (P.out _).mono ?_
    rintro e w1 ⟨v, rfl, o1, hb⟩
    rw [HK.out] at o1
    obtain ⟨g, cap, rfl, _⟩ := o1.form hk1
    have c0 := str_of o1 HK.out 0 x rfl
    have HB := Lib.hid hb
    have hkz : ¬ k = 0 := by omega
    clear o1 hb
    go_wp2_with fail
    go_ret2
    exact ⟨ret_fc R1.out R2.out, HB.out⟩

def lsG (s : ByteArray) : Nat → Nat → Option (Nat × List UInt8)
  | 0, _ => none
  | f + 1, k => match coL s (k : Int) with
    | [] => lsG s f (k + 1)
    | x :: _ => some (k, x)

def loI (s : ByteArray) : Nat := ((lsG s 8 0).map Prod.fst).getD 0

def loS (s : ByteArray) : ByteArray := ofL (((lsG s 8 0).map Prod.snd).getD [])

def loB (s : ByteArray) : Bool := (lsG s 8 0).isSome

theorem ls_no {s : ByteArray} (h : lsG s 8 0 = none) : loI s = 0 ∧ loS s = ⟨#[]⟩ ∧ loB s = false := by simp [loI, loS, loB, h, ofL]

theorem ls_yes {s : ByteArray} {k : Nat} {x : List UInt8} (h : lsG s 8 0 = some (k, x)) : loI s = k ∧ loS s = ofL x ∧ loB s = true := by simp [loI, loS, loB, h]

theorem lsG_nil {s : ByteArray} {f k : Nat} (h : coL s (k : Int) = []) : lsG s (f + 1) k = lsG s f (k + 1) := by simp [lsG, h]

theorem lsG_cons {s : ByteArray} {f k : Nat} {x : List UInt8} {r : List (List UInt8)} (h : coL s (k : Int) = x :: r) : lsG s (f + 1) k = some (k, x) := by simp [lsG, h]

theorem co_mem {s : ByteArray} {n : Int} {x : List UInt8} (h : x ∈ coL s n) : x.length = n.toNat := by
  cases hb : coB s n
  · rw [co_no hb] at h; cases h
  · by_cases h0 : (s.size : Int) + n = 0
    · rw [co_zero h0] at h; cases h
    · rw [co_yes hb h0] at h
      exact cls_mem h

theorem lsG_len (s : ByteArray) : ∀ (f k : Nat) (n : Nat) (x : List UInt8), lsG s f k = some (n, x) → x.length = n ∧ n < k + f
  | 0, _, _, _, h => by simp [lsG] at h
  | f + 1, k, n, x, h => by
    cases hc : coL s (k : Int) with
    | nil =>
      rw [lsG_nil hc] at h
      have := lsG_len s f (k + 1) n x h
      omega
    | cons y r =>
      rw [lsG_cons hc] at h
      simp only [Option.some.injEq, Prod.mk.injEq] at h
      obtain ⟨rfl, rfl⟩ := h
      have := co_mem (s := s) (n := (k : Int)) (x := y) (by rw [hc]; exact List.mem_cons_self)
      rw [Int.toNat_natCast] at this
      omega

theorem ls_size (s : ByteArray) : (loS s).size = loI s ∧ loI s ≤ 8 := by
  cases h : lsG s 8 0 with
  | none => obtain ⟨h1, h2, _⟩ := ls_no h; rw [h1, h2]; exact ⟨rfl, by omega⟩
  | some p =>
    obtain ⟨k, x⟩ := p
    obtain ⟨h1, h2, _⟩ := ls_yes h
    have := lsG_len s 8 0 k x h
    rw [h1, h2, ofL_size]
    omega

theorem ret_ls {s : ByteArray} {n : Nat} {x : ByteArray} {b : Bool} (h : loI s = n ∧ loS s = x ∧ loB s = b) : Ending.returned (.tuple #[.int .i64 n, .string x, .bool b]) = Ending.returned (.tuple #[.int .i64 (loI s : Nat), .string (loS s), .bool (loB s)]) := by rw [h.1, h.2.1, h.2.2]

theorem ret_cp {s : ByteArray} {n : Nat} {x : ByteArray} {b : Bool} (h : loI s = n ∧ loS s = x ∧ loB s = b) : Ending.returned (.tuple #[.string x, .bool b]) = Ending.returned (.tuple #[.string (loS s), .bool (loB s)]) := by rw [h.2.1, h.2.2]

set_option maxRecDepth 100000 in
set_option maxHeartbeats 800000 in
theorem clLeast_any (s : ByteArray) (hs : s.size ≤ 1048576) (w : World) :
    Calls Try.prog 57 #[.string s] w fun e w' => e = .returned (.tuple #[.int .i64 (loI s : Nat), .string (loS s), .bool (loB s)]) ∧ Below w.heap.size w w' := by
  go_enter Try.func57, Try.ntmps57
  go_wp2_with fail
  go_loopw [5] (fun i wr => ∃ k : Nat, k ≤ 8 ∧ i = .int .i64 (k : Nat) ∧ lsG s 8 0 = lsG s (8 - k) k ∧ Below w.heap.size w wr) (fun i _ => 9 - (intOf i).toNat)
  case atStart => exact ⟨0, by omega, rfl, rfl, Below.refl _ _⟩
  case round =>
    obtain ⟨k, hk, rfl, hl, hb⟩ := hrel
    have HB := Lib.hid hb
    by_cases hlt : k < 8
    · have P := Lib.hid (spAdded s (k : Int) hs)
      have hln := co_len s (k : Int)
      rw [show 8 - k = (8 - (k + 1)) + 1 by omega] at hl
      cases hc : coL s (k : Int) with
      | nil =>
        rw [lsG_nil hc] at hl
        have HL := Lib.hid hl
        rw [hc] at P
        clear hc hl hb hln
        go_wp2_with fail
        refine (P.out _).mono ?_
        rintro e w1 ⟨v, rfl, o1, hb⟩
        obtain ⟨av, cv, rfl⟩ := own_formC o1
        have HB2 := Lib.hid (HB.out.trans (hb.mono HB.out.size))
        clear o1 hb
        generalize coB s (k : Int) = b
        cases b
        all_goals
          go_wp2_with fail
          go_roundw
          case rel => exact ⟨k + 1, by omega, by go_num, HL.out, HB2.out⟩
          case measure => simp [intOf]; omega
      | cons x r =>
        rw [lsG_cons hc] at hl
        have HL := Lib.hid (ls_yes hl)
        rw [co_true hc, hc] at P
        rw [hc] at hln
        obtain ⟨m, hm⟩ : ∃ m, (x :: r).length = m := ⟨_, rfl⟩
        have HK := Lib.hid hm
        have hk1 : 1 ≤ m := by rw [← hm, List.length_cons]; omega
        rw [hm] at hln
        clear hc hl hb hm
        go_wp2_with fail
        refine (P.out _).mono ?_
        rintro e w1 ⟨v, rfl, o1, hb⟩
        rw [HK.out] at o1
        obtain ⟨g, cap, rfl, _⟩ := o1.form hk1
        have c0 := str_of o1 HK.out 0 x rfl
        have HB2 := Lib.hid (HB.out.trans (hb.mono HB.out.size))
        have hkz : 0 < m := by omega
        clear o1 hb
        go_wp2_with fail
        go_quiet (fail)
        go_wp2_with fail
        go_ret3
        exact ⟨ret_ls HL.out, HB2.out.trans ⟨rfl, rfl, rfl, Nat.le_refl _, fun _ _ => rfl⟩⟩
    · obtain rfl : k = 8 := by omega
      have HL := Lib.hid (ls_no (s := s) (by rw [hl]; rfl))
      clear hl hb
      go_wp2_with fail
      go_ret3
      exact ⟨ret_ls HL.out, HB.out⟩

theorem spLeastToClose (s : ByteArray) (hs : s.size ≤ 1048576) (w : World) :
    Calls Try.prog 26 #[.string s] w fun e w' => e = .returned (.tuple #[.int .i64 (loI s : Nat), .bool (loB s)]) ∧ Below w.heap.size w w' := by
  have P := Lib.hid (clLeast_any s hs)
  go_enter Try.func26, Try.ntmps26
  go_wp2_with (go_at_call 57; (with_reducible refine (P.out _).mono ?_); rintro e wA ⟨rfl, h1⟩; (try with_reducible replace h1 := undrew h1); have hB : Below w.heap.size w wA := ba (by go_grown) h1; obtain ⟨hcwA, hfwA⟩ := bcell h1; have hqwA := h1.size; (try simp at hqwA); )
  go_ret2
  exact ⟨rfl, by go_grown⟩

theorem spClosingPieces (s : ByteArray) (hs : s.size ≤ 1048576) (w : World) :
    Calls Try.prog 28 #[.string s] w fun e w' => e = .returned (.tuple #[.string (loS s), .bool (loB s)]) ∧ Below w.heap.size w w' := by
  have P := Lib.hid (clLeast_any s hs)
  go_enter Try.func28, Try.ntmps28
  go_wp2_with (go_at_call 57; (with_reducible refine (P.out _).mono ?_); rintro e wA ⟨rfl, h1⟩; (try with_reducible replace h1 := undrew h1); have hB : Below w.heap.size w wA := ba (by go_grown) h1; obtain ⟨hcwA, hfwA⟩ := bcell h1; have hqwA := h1.size; (try simp at hqwA); )
  go_ret2
  exact ⟨rfl, by go_grown⟩

set_option maxRecDepth 100000 in
set_option maxHeartbeats 800000 in
theorem imClosingPieces (s : ByteArray) (hs : s.size ≤ 1048576) (w : World) :
    Calls Try.prog 29 #[.string s] w fun e w' => e = .returned (.tuple #[.string (loS s), .bool (loB s)]) ∧ Below w.heap.size w w' := by
  go_enter Try.func29, Try.ntmps29
  go_wp2_with fail
  go_loopw [7] (fun i wr => ∃ k : Nat, k ≤ 8 ∧ i = .int .i64 (k : Nat) ∧ lsG s 8 0 = lsG s (8 - k) k ∧ Below w.heap.size w wr) (fun i _ => 9 - (intOf i).toNat)
  case atStart => exact ⟨0, by omega, rfl, rfl, Below.refl _ _⟩
  case round =>
    obtain ⟨k, hk, rfl, hl, hb⟩ := hrel
    have HB := Lib.hid hb
    by_cases hlt : k < 8
    · have P := Lib.hid (imFirstCompletion s (k : Int) hs)
      rw [show 8 - k = (8 - (k + 1)) + 1 by omega] at hl
      cases hc : coL s (k : Int) with
      | nil =>
        rw [lsG_nil hc] at hl
        have HL := Lib.hid hl
        rw [(fc_no hc).1, (fc_no hc).2] at P
        clear hc hl hb
        go_wp2_with fail
        refine (P.out _).mono ?_
        rintro e w1 ⟨rfl, hb⟩
        have HB2 := Lib.hid (HB.out.trans (hb.mono HB.out.size))
        clear hb
        go_wp2_with fail
        go_roundw
        case rel => exact ⟨k + 1, by omega, by go_num, HL.out, HB2.out⟩
        case measure => simp [intOf]; omega
      | cons x r =>
        rw [lsG_cons hc] at hl
        have HL := Lib.hid (ls_yes hl)
        rw [(fc_yes hc).1, (fc_yes hc).2] at P
        clear hc hl hb
        go_wp2_with fail
        refine (P.out _).mono ?_
        rintro e w1 ⟨rfl, hb⟩
        have HB2 := Lib.hid (HB.out.trans (hb.mono HB.out.size))
        clear hb
        go_wp2_with fail
        go_ret2
        exact ⟨ret_cp HL.out, HB2.out⟩
    · obtain rfl : k = 8 := by omega
      have HL := Lib.hid (ls_no (s := s) (by rw [hl]; rfl))
      clear hl hb
      go_wp2_with fail
      go_ret2
      exact ⟨ret_cp HL.out, HB.out⟩

theorem imLeastToClose (s : ByteArray) (hs : s.size ≤ 1048576) (w : World) :
    Calls Try.prog 27 #[.string s] w fun e w' => e = .returned (.tuple #[.int .i64 (loI s : Nat), .bool (loB s)]) ∧ Below w.heap.size w w' := by
  have P := Lib.hid (imClosingPieces s hs)
  obtain ⟨h1, h2⟩ := ls_size s
  rw [← h1] at h2 ⊢
  generalize loS s = x at *
  generalize loB s = b at *
  clear h1
  go_enter Try.func27, Try.ntmps27
  go_wp2_with (go_at_call 29; (with_reducible refine (P.out _).mono ?_); rintro e wA ⟨rfl, h1⟩; (try with_reducible replace h1 := undrew h1); have hB : Below w.heap.size w wA := ba (by go_grown) h1; obtain ⟨hcwA, hfwA⟩ := bcell h1; have hqwA := h1.size; (try simp at hqwA); )
  go_ret2
  exact ⟨rfl, by go_grown⟩

end Go.Proofs.Ythiimllafcfieaa

/- Contracts: half turns. -/
namespace Go.Proofs.Ythiimllafcfieaa
open Go.ChangeShapes Go.WideShapes Go.ChangeAt Go.RowKit

set_option linter.unusedVariables false

def hbW (w : List UInt8) : Bool := clB (ofL (w ++ w))

def htL (n : Int) : List (List UInt8) := cond (inB n 0 6) ((words n.toNat).filter hbW) []

def htB (n : Int) : Bool := inB n 0 6

theorem HalfTurns_len (n : Int) : (htL n).length ≤ 900000 := by
  cases h : inB n 0 6
  · simp [htL, h]
  · have g : 0 ≤ n ∧ n ≤ 6 := by simpa [inB] using h
    simp only [htL, h, cond_true]
    have h1 := List.length_filter_le hbW (words n.toNat)
    rw [words_count] at h1
    have h2 : 3 ^ n.toNat ≤ 3 ^ 6 := Nat.pow_le_pow_right (by decide) (by omega)
    have h3 : (3 : Nat) ^ 6 = 729 := by decide
    omega

theorem tkB_of {l : List UInt8} (h1 : l.all pcb = true) (h2 : l.length ≤ 40) : tkB (ofL l) = true := by
  simp only [tkB, ofL_size, Bool.and_eq_true, decide_eq_true_eq]
  exact ⟨h2, h1⟩

theorem hb_tk {n : Nat} (hn : n ≤ 6) {u : List UInt8} (h : u ∈ words n) : tkB (ofL (u ++ u)) = true :=
  tkB_of (by rw [List.all_append, words_pcb n u h]; rfl) (by rw [List.length_append, words_len n u h]; omega)

/-- The program asks whether the end is its own way back. -/
theorem hb_back {n : Nat} (hn : n ≤ 6) (h0 : 0 < n) {u : List UInt8} (h : u ∈ words n) : hbW u = spE (fin sp0 u) (wayB (fin sp0 u)) := by
  have ht := hb_tk hn h
  have hl := words_len n u h
  have hok := fin_ok sp0_ok u
  simp only [Sp.okB] at hok
  have hb := fin_back (fin sp0 u) hok.2.2.2.2.1 hok.2.2.2.2.2 u
  rw [← fin_append] at hb
  rw [hbW, clB_yes ht, ofL_size, decide_eq_true (by rw [List.length_append]; omega), Bool.true_and]
  have he : enS (ofL (u ++ u)) = fin sp0 (u ++ u) := enS_yes ht
  have hz : zS (ofL (u ++ u)) = spE (fin sp0 (u ++ u)) sp0 := by
    rw [zS, zP, he]
    rfl
  rw [hz, Bool.eq_iff_iff, spE_iff, spE_iff, hb]

theorem ht_zero : htL 0 = [] := by
  have : hbW [] = false := by simp [hbW, clB, ofL, ByteArray.size]
  simp [htL, words, this]

theorem filt_take {α : Type} {l : List α} {j : Nat} {x : α} (f : α → Bool) (h : l[j]? = some x) : (l.take (j + 1)).filter f = (l.take j).filter f ++ cond (f x) [x] [] := by
  rw [List.take_add_one, h, List.filter_append]
  cases hf : f x <;> simp [hf]

set_option maxRecDepth 100000 in
set_option maxHeartbeats 1600000 in
theorem spHalfTurns (n : Int) (w : World) : Calls Try.prog 30 #[.int .i64 n] w (STPost (htL n) (htB n) w) := by
  obtain ⟨i0, hi, iz0, iz1, iz2⟩ := info_parts srInfo
  cases h1 : inB n 0 6
  · have hb : htB n = false := h1
    have hl : htL n = [] := by simp [htL, h1]
    rw [hl, hb]
    go_enter Try.func30, Try.ntmps30
    go_wp2_with (go_at_call 52; refine (l1In_any _ _ _ _).mono ?_; rintro e w' ⟨rfl, rfl⟩)
    go_ret2
    exact stNo (by go_grown)
  · have g1 : 0 ≤ n ∧ n ≤ 6 := by simpa [inB] using h1
    obtain ⟨m, rfl⟩ : ∃ m : Nat, n = m := ⟨n.toNat, by omega⟩
    have hm6 : m ≤ 6 := by omega
    have hb : htB (m : Int) = true := h1
    have hl : htL (m : Int) = (words m).filter hbW := by simp [htL, h1]
    rw [hl, hb]
    have P := Lib.hid (clWords_any m (by omega))
    have hct : ∀ u ∈ words m, ∀ w : World, Calls Try.prog 59 #[.string (ofL (u ++ u))] w fun e w' => e = .returned (.bool (hbW u)) ∧ Below w.heap.size w w' := fun u hu w => clClosed_any _ (hb_tk hm6 hu) w
    have hul : ∀ u ∈ words m, u.length ≤ 10 := fun u hu => by rw [words_len m u hu]; omega
    have hlen := words_count m
    obtain ⟨M, hM⟩ : ∃ M, 3 ^ m = M := ⟨_, rfl⟩
    have hM1 : M ≤ 729 := by rw [← hM]; exact Nat.pow_le_pow_right (by decide) hm6
    rw [hM] at hlen
    generalize words m = l at *
    have HCT := Lib.hid hct
    have HUL := Lib.hid hul
    have HL := Lib.hid hlen
    clear hl hb hct hul hlen hM
    go_enter Try.func30, Try.ntmps30
    go_wp2_with (go_at_call 52; refine (l1In_any _ _ _ _).mono ?_; rintro e w' ⟨rfl, rfl⟩)
    refine (P.out _).mono ?_
    rintro e w1 ⟨v1, rfl, o1, hb1⟩
    rw [HL.out] at o1
    obtain ⟨av, cv, rfl⟩ := own_formC o1
    have HB1 := Lib.hid hb1
    have O1 := Lib.hid o1
    clear hb1 o1
    go_wp2_with fail
    go_loopw [4, 13] (fun t j wr => ∃ (jj : Nat) (v : Value), jj ≤ M ∧ j = .int .i64 jj ∧ v = t ∧ wr.ownsRow w1.heap.size 9 1 v ((l.take jj).filter hbW).length (strV ((l.take jj).filter hbW)) ∧ Below w1.heap.size w1 wr) (fun _ j _ => M - (intOf j).toNat)
    case atStart => exact ⟨0, _, Nat.zero_le _, rfl, rfl, World.ownsRow_nil _ _ _ _, Below.refl _ _⟩
    case round =>
      obtain ⟨j, v, hj, rfl, rfl, hN, hb2⟩ := hrel
      have hz2 := hb2.size
      have hfl := List.length_filter_le hbW (l.take j)
      rw [List.length_take] at hfl
      by_cases hlj : j < M
      · obtain ⟨u, hu⟩ : ∃ u, l[j]? = some u := ⟨_, List.getElem?_eq_getElem (by rw [HL.out]; exact hlj)⟩
        have hmu := List.mem_of_getElem? hu
        obtain ⟨g, rfl⟩ : ∃ g, av = some ⟨g, 0, none⟩ := by
          rcases O1.out.2 with ⟨h, h0⟩ | ⟨g, cap, _, h, _⟩
          · omega
          · injection h with h; exact ⟨g, h⟩
        have c0 := (str_of O1.out HL.out).below (O1.out.lt g rfl).2 hb2 j u hu
        have hul := HUL.out u hmu
        have CL := Lib.hid (HCT.out u hmu)
        have HF := Lib.hid (filt_take hbW hu)
        obtain ⟨T, hT⟩ : ∃ T, ofL u = T := ⟨_, rfl⟩
        obtain ⟨T2, hT2⟩ : ∃ T, ofL (u ++ u) = T := ⟨_, rfl⟩
        have k1 : ∀ w : World, (Op.stringOp .add T T).run Try.prog w = .ok (.string T2) w := fun w => concat_run (by rw [← hT2, ← hT]; exact ofL_append u u) (by rw [← hT, ofL_size]; omega) w
        rw [hT2] at CL
        rw [hT] at c0
        have HT := Lib.hid hT
        have HN := Lib.hid hN
        have HB2 := Lib.hid hb2
        generalize (l.take j).filter hbW = A at *
        clear hu hmu hN hb2 hT hT2
        cases hv : hbW u
        · rw [hv] at CL HF
          go_wp2_with fail
          refine (CL.out _).mono ?_
          rintro e w2 ⟨rfl, hb3⟩
          have HN3 := Lib.hid (HN.out.kept (below_grown hb3) (by cases v.ownBlock <;> simp))
          have HB3 := Lib.hid (HB2.out.trans (hb3.mono hz2))
          clear hb3
          go_wp2_with fail
          go_roundw
          case rel => exact ⟨j + 1, v, by omega, by go_num, rfl, by rw [HF.out, cond_false, List.append_nil]; exact HN3.out, HB3.out⟩
          case measure => simp [intOf]; omega
        · rw [hv] at CL HF
          go_wp2_with fail
          refine (CL.out _).mono ?_
          rintro e w2 ⟨rfl, hb3⟩
          have HN3 := Lib.hid ((HN.out.kept (below_grown hb3) (by cases v.ownBlock <;> simp)).alloc (.cells #[.string T] 9))
          have HB3 := Lib.hid ((HB2.out.trans (hb3.mono hz2)).alloc (Nat.le_trans hz2 hb3.size) (.cells #[.string T] 9))
          have hz3 := hb3.size
          clear hb3
          go_wp2_with (at_builtin; refine wpList_append_own_at _ rfl _ _ 25 rfl w1.heap.size 9 i0 (.string ByteArray.empty) 1 16 Try.underlying25 hi iz0 iz1 iz2 rfl (by decide) v _ _ rfl HN3.out ⟨w2.heap.size, 0, none⟩ 1 1 [.string T] rfl rfl (cell_one_new _ _ _) (by intro u hu; simp at hu; subst hu; rfl) (by unfold maxLen; omega) (by omega) (by simp; omega) ?_; intro v' w3 hown' hgrow hnil hloc)
          have hlt' := HN3.out.lt
          have HB8 := Lib.hid (HB3.out.grown hgrow (by simp; omega) (fun k hk => (hlt' k hk).1))
          have HO8 := Lib.hid hown'
          clear hlt' hgrow hown' hnil hloc
          go_roundw
          case rel => exact ⟨j + 1, v', by omega, by go_num, rfl, by rw [HF.out, cond_true, strV_append, List.length_append]; simp only [strV, List.map_cons, List.map_nil, HT.out]; exact HO8.out, HB8.out⟩
          case measure => simp [intOf]; omega
      · obtain rfl : j = M := by omega
        have hta : l.take j = l := List.take_of_length_le (by rw [HL.out]; exact Nat.le_refl _)
        rw [hta] at hN
        have HN := Lib.hid (own_lessP hN HB1.out.size)
        have HB2 := Lib.hid (HB1.out.trans (hb2.mono HB1.out.size))
        clear hN hb2 hta
        go_wp2_with fail
        go_ret2
        exact ⟨_, rfl, HN.out, HB2.out⟩

/-- What the program keeps of its parts. -/
def keepP (m : Nat) (p : Sp × List UInt8) : Bool := decide (0 < m) && spE p.1 (wayB p.1)

theorem keep_eq {m : Nat} (hm : m ≤ 6) : ((parts sp0 m).filter (keepP m)).map Prod.snd = (words m).filter hbW := by
  rw [parts, List.filter_map, List.map_map]
  have e1 : ((Prod.snd : Sp × List UInt8 → List UInt8) ∘ fun w => (fin sp0 w, w)) = id := rfl
  rw [e1, List.map_id]
  apply List.filter_congr
  intro u hu
  by_cases h0 : 0 < m
  · rw [hb_back hm h0 hu]
    simp [keepP, h0]
  · obtain rfl : m = 0 := by omega
    simp only [words, List.mem_cons, List.not_mem_nil, or_false] at hu
    subst hu
    simp [keepP, hbW, clB, ofL, ByteArray.size]

set_option maxRecDepth 100000 in
set_option maxHeartbeats 3200000 in
theorem imHalfTurns (n : Int) (w : World) : Calls Try.prog 31 #[.int .i64 n] w (STPost (htL n) (htB n) w) := by
  obtain ⟨i0, hi, iz0, iz1, iz2⟩ := info_parts srInfo
  cases h1 : inB n 0 6
  · have hb : htB n = false := h1
    have hl : htL n = [] := by simp [htL, h1]
    rw [hl, hb]
    go_enter Try.func31, Try.ntmps31
    go_wp2_with (go_at_call 50; refine (isInRange_any _ _ _ _).mono ?_; rintro e w' ⟨rfl, rfl⟩)
    go_ret2
    exact stNo (by go_grown)
  · have g1 : 0 ≤ n ∧ n ≤ 6 := by simpa [inB] using h1
    obtain ⟨m, rfl⟩ : ∃ m : Nat, n = m := ⟨n.toNat, by omega⟩
    have hm6 : m ≤ 6 := by omega
    have hb : htB (m : Int) = true := h1
    have hl : htL (m : Int) = ((parts sp0 m).filter (keepP m)).map Prod.snd := by rw [keep_eq hm6]; simp [htL, h1]
    rw [hl, hb]
    have P := Lib.hid (fun w => (partsFrom_any sp0 (sp0_ok.mono (by decide)) m (by omega) w : Calls Try.prog 60 #[.agg #[.int .i64 0, .int .i64 0, .int .i64 0, .int .i64 0, .int .i64 0], .int .i64 (m : Nat)] w (PrtPost sp0 m w)))
    have hok : ∀ p ∈ parts sp0 m, p.1.okB 1000 ∧ p.2.length ≤ 10 := fun p hp => ⟨(parts_ok sp0_ok hp).1.mono (by omega), by rw [(parts_ok sp0_ok hp).2]; omega⟩
    have hlen := parts_len sp0 m
    obtain ⟨M, hM⟩ : ∃ M, 3 ^ m = M := ⟨_, rfl⟩
    have hM1 : M ≤ 729 := by rw [← hM]; exact Nat.pow_le_pow_right (by decide) hm6
    rw [hM] at hlen
    generalize hpl : parts sp0 m = l at *
    have HPL := Lib.hid hpl
    have HOK := Lib.hid hok
    have HL := Lib.hid hlen
    have HM := Lib.hid hM
    clear hl hb hok hlen hM hpl
    go_enter Try.func31, Try.ntmps31
    go_wp2_with (go_at_call 50; refine (isInRange_any _ _ _ _).mono ?_; rintro e w' ⟨rfl, rfl⟩)
    refine (P.out _).mono ?_
    rintro e w1 ⟨g, cap, rfl, o1, hb1⟩
    rw [HM.out, HPL.out] at o1
    rw [HM.out]
    have HP := Lib.hid (prt_of o1 HL.out)
    have hg := (o1.lt g rfl).2
    have HB1 := Lib.hid hb1
    clear hb1 o1
    go_wp2_with fail
    go_loopw [4, 14] (fun t j wr => ∃ (jj : Nat) (v : Value), jj ≤ M ∧ j = .int .i64 jj ∧ v = t ∧ wr.ownsRow w1.heap.size 9 1 v (((l.take jj).filter (keepP m)).map Prod.snd).length (strV (((l.take jj).filter (keepP m)).map Prod.snd)) ∧ Below w1.heap.size w1 wr) (fun _ j _ => M - (intOf j).toNat)
    case atStart => exact ⟨0, _, Nat.zero_le _, rfl, rfl, World.ownsRow_nil _ _ _ _, Below.refl _ _⟩
    case round =>
      obtain ⟨j, v, hj, rfl, rfl, hN, hb2⟩ := hrel
      have hz2 := hb2.size
      have hfl := List.length_filter_le (keepP m) (l.take j)
      rw [List.length_take] at hfl
      by_cases hlj : j < M
      · obtain ⟨p, hp⟩ : ∃ p, l[j]? = some p := ⟨_, List.getElem?_eq_getElem (by rw [HL.out]; exact hlj)⟩
        obtain ⟨c0, c1, c2, c3, c4, c5⟩ := (HP.out.below hg hb2) j p hp
        obtain ⟨hpo, hpl⟩ := HOK.out p (List.mem_of_getElem? hp)
        have hF := filt_take (keepP m) hp
        obtain ⟨s, u⟩ := p
        simp only at c0 c1 c2 c3 c4 c5 hpo hpl
        have WB := Lib.hid (wayBack_any s (hpo.mono (by decide)))
        have hA : (((l.take j).filter (keepP m)).map Prod.snd).length ≤ j := by rw [List.length_map]; omega
        have hF2 : ((l.take (j + 1)).filter (keepP m)).map Prod.snd = ((l.take j).filter (keepP m)).map Prod.snd ++ cond (keepP m (s, u)) [u] [] := by
          rw [hF, List.map_append]
          cases keepP m (s, u) <;> rfl
        have HF := Lib.hid hF2
        have HN := Lib.hid hN
        have HB2 := Lib.hid hb2
        obtain ⟨T, hT⟩ : ∃ T, ofL u = T := ⟨_, rfl⟩
        rw [hT] at c5
        have HT := Lib.hid hT
        generalize ((l.take j).filter (keepP m)).map Prod.snd = A at *
        obtain ⟨wi, rfl⟩ : ∃ wi : World, wi = wr := ⟨_, rfl⟩
        clear hp hF hF2 hN hb2 hT hpo hfl
        by_cases hm0 : m = 0
        · have HV := Lib.hid (show keepP m (s, u) = false by simp [keepP, hm0])
          rw [HV.out] at HF
          subst hm0
          have HN3 := Lib.hid (HN.out.alloc (.cells #[.int .i64 s.x0, .int .i64 s.x1, .int .i64 s.x2, .int .i64 s.x3, .int .i64 s.h, .string T] 73))
          have HB3 := Lib.hid (HB2.out.alloc hz2 (.cells #[.int .i64 s.x0, .int .i64 s.x1, .int .i64 s.x2, .int .i64 s.x3, .int .i64 s.h, .string T] 73))
          go_wp2_with fail
          go_region
          all_goals
            go_wp2_with fail
            go_roundw
            case rel => exact ⟨j + 1, v, by omega, by go_num, rfl, by rw [HF.out, cond_false, List.append_nil]; exact HN3.out, HB3.out.trans ⟨rfl, rfl, rfl, Nat.le_refl _, fun _ _ => rfl⟩⟩
            case measure => simp [intOf]; omega
        · have hm1 : (0 : Int) < (m : Int) := by omega
          have hm1n : 0 < m := by omega
          have hK : keepP m (s, u) = ((s.x0 == (wayB s).x0 && (s.x1 == (wayB s).x1 && (s.x2 == (wayB s).x2 && s.x3 == (wayB s).x3))) && s.h == (wayB s).h) := by simp [keepP, spE, show 0 < m by omega]
          generalize wayB s = q at hK WB
          have HK := Lib.hid hK
          clear hK
          have hS0 := blk6 (heap_alloc_new wi (.cells #[.int .i64 s.x0, .int .i64 s.x1, .int .i64 s.x2, .int .i64 s.x3, .int .i64 s.h, .string T] 73))
          go_wp2_with fail
          go_region_held3 (fun w' => w'.cell? ⟨wi.heap.size, 0, none⟩ = some (.int .i64 s.x0) ∧ w'.cell? ⟨wi.heap.size, 1, none⟩ = some (.int .i64 s.x1) ∧ w'.cell? ⟨wi.heap.size, 2, none⟩ = some (.int .i64 s.x2) ∧ w'.cell? ⟨wi.heap.size, 3, none⟩ = some (.int .i64 s.x3) ∧ w'.cell? ⟨wi.heap.size, 4, none⟩ = some (.int .i64 s.h) ∧ w'.cell? ⟨wi.heap.size, 5, none⟩ = some (.string T))
            (first | (with_reducible assumption) | (with_reducible exact pr_drew hS0) | (with_reducible exact pr_drew (pr_alloc hS0 _)) | (with_reducible exact pr_alloc (pr_drew hS0) _) | (with_reducible refine pr_drew ?_; with_reducible assumption) | (with_reducible refine pr_alloc ?_ _; with_reducible assumption) | (with_reducible refine pr_re (by with_reducible assumption) ?_ _; (focus first | (with_reducible assumption) | omega | (simp; done) | (simp; omega))) | (with_reducible refine pr_below ?_ ?_ h1; (focus first | (with_reducible assumption) | (with_reducible refine pr_undrew ?_; with_reducible assumption)); (focus first | (with_reducible assumption) | omega | (simp; done) | (simp; omega))) | ((repeat (with_reducible refine pr_set ?_ _ _ ?_; rotate_left 1; (focus first | (with_reducible assumption) | omega | (simp; done) | (simp; omega)))); with_reducible assumption))
            (((with_reducible refine (WB.out _).mono ?_); rintro e wA ⟨rfl, h1⟩; (try with_reducible replace h1 := undrew h1)))
          all_goals
            have hAA := (HB2.out.alloc hz2 (.cells #[.int .i64 s.x0, .int .i64 s.x1, .int .i64 s.x2, .int .i64 s.x3, .int .i64 s.h, .string T] 73)).trans (h1.mono (by simp; omega))
            have HNA := Lib.hid ((HN.out.alloc (.cells #[.int .i64 s.x0, .int .i64 s.x1, .int .i64 s.x2, .int .i64 s.x3, .int .i64 s.h, .string T] 73)).kept (below_grown h1) (by cases v.ownBlock <;> simp))
            have c5' : wA.cell? ⟨wi.heap.size, 5, none⟩ = some (.string T) := cl_below hS0.2.2.2.2.2 (by simp) h1
            have HAA := Lib.hid hAA
            have hzA := hAA.size
            clear hS0 h1 hAA
            cases hv : ((s.x0 == q.x0 && (s.x1 == q.x1 && (s.x2 == q.x2 && s.x3 == q.x3))) && s.h == q.h)
            · have HV := Lib.hid (HK.out.trans hv)
              rw [HV.out] at HF
              go_wp2_with fail
              go_roundw
              case rel => exact ⟨j + 1, v, by omega, by go_num, rfl, by rw [HF.out, cond_false, List.append_nil]; exact HNA.out, HAA.out⟩
              case measure => simp [intOf]; omega
            · have HV := Lib.hid (HK.out.trans hv)
              rw [HV.out] at HF
              have HNB := Lib.hid (HNA.out.alloc (.cells #[.string T] 9))
              have HAB := Lib.hid (HAA.out.alloc hzA (.cells #[.string T] 9))
              go_wp2_with (at_builtin; refine wpList_append_own_at _ rfl _ _ 25 rfl w1.heap.size 9 i0 (.string ByteArray.empty) 1 16 Try.underlying25 hi iz0 iz1 iz2 rfl (by decide) v _ _ rfl HNB.out ⟨wA.heap.size, 0, none⟩ 1 1 [.string T] rfl rfl (cell_one_new _ _ _) (by intro u hu; simp at hu; subst hu; rfl) (by unfold maxLen; omega) (by omega) (by simp; omega) ?_; intro v' w3 hown' hgrow hnil hloc)
              have hlt' := HNB.out.lt
              have HB8 := Lib.hid (HAB.out.grown hgrow (by simp; omega) (fun k hk => (hlt' k hk).1))
              have HO8 := Lib.hid hown'
              clear hlt' hgrow hown' hnil hloc
              go_roundw
              case rel => exact ⟨j + 1, v', by omega, by go_num, rfl, by rw [HF.out, cond_true, strV_append, List.length_append]; simp only [strV, List.map_cons, List.map_nil, HT.out]; exact HO8.out, HB8.out⟩
              case measure => simp [intOf]; omega
      · obtain rfl : j = M := by omega
        have hta : l.take j = l := List.take_of_length_le (by rw [HL.out]; exact Nat.le_refl _)
        rw [hta] at hN
        have HN := Lib.hid (own_lessP hN HB1.out.size)
        have HB2 := Lib.hid (HB1.out.trans (hb2.mono HB1.out.size))
        clear hN hb2 hta
        go_wp2_with fail
        go_ret2
        exact ⟨_, rfl, HN.out, HB2.out⟩

end Go.Proofs.Ythiimllafcfieaa

/- An argument that is a box, opened to its numbers; boxes copied and compared in the laws. -/
namespace Go.Proofs.Ythiimllafcfieaa
open Go.ChangeShapes Go.WideShapes Go.ChangeAt Go.RowKit Go.Joins

/-- Two numbers: a box, or a surd. -/
structure Bq where
  x : Int
  r : Int

abbrev bv (b : Bq) : Value := .agg #[.int .i64 b.x, .int .i64 b.r]

set_option maxRecDepth 100000 in
theorem open_box {H : Type} {enc : TypeId × Value → H} {W : World} {base : Nat} {spare : Nat → Bool} {held : Bool} {r : Reach} {b0 : Nat} {v : Value} {d : DataW H} {p : List MemPlace}
    (hv : Value.okWide Try.prog W r b0 38 v) (h : DataW.Trod enc Try.prog W base spare held 38 v d p) : ∃ s0 s1 : Int, v = .agg #[.int .i64 s0, .int .i64 s1] := by
  obtain ⟨c0, c1, y0, y1, m, rfl, _, _, hy0, hy1⟩ := open_agg2 Try.underlying38 (by kernel_rfl) (by kernel_rfl) hv h
  obtain ⟨s0, e0, _, _⟩ := DataW.trod_int Try.underlying3 hy0
  obtain ⟨s1, e1, _, _⟩ := DataW.trod_int Try.underlying3 hy1
  simp at e0 e1
  subst e0 e1
  exact ⟨s0, s1, rfl⟩

set_option maxRecDepth 100000 in
set_option maxHeartbeats 400000 in
theorem eqBox_same (s0 s1 : Int) (w : World) :
    Calls Try.prog 47 #[.agg #[.int .i64 s0, .int .i64 s1], .agg #[.int .i64 s0, .int .i64 s1]] w fun e w' => e = .returned (.bool true) ∧ Below w.heap.size w w' := by
  go_enter Try.func47, Try.ntmps47
  go_wp2
  go_returns
  exact ⟨rfl, by go_grown⟩

set_option maxRecDepth 100000 in
set_option maxHeartbeats 400000 in
theorem toBox_any (s0 s1 : Int) (w : World) :
    Calls Try.prog 33 #[.agg #[.int .i64 s0, .int .i64 s1]] w fun e w' => e = .returned (.agg #[.int .i64 s0, .int .i64 s1]) ∧ Below w.heap.size w w' := by
  go_enter Try.func33, Try.ntmps33
  go_wp2
  go_returns
  exact ⟨rfl, by go_grown⟩

end Go.Proofs.Ythiimllafcfieaa

/- Rings spun: from each beginning, their least ones, their periods. Nothing of the program. -/
namespace Go.Proofs.Ythiimllafcfieaa

set_option linter.unusedSimpArgs false

def spn (l : List UInt8) (k : Nat) : List UInt8 := l.drop k ++ l.take k

theorem spn_len (l : List UInt8) (k : Nat) : (spn l k).length = l.length := by simp [spn]; omega

theorem spn_zero (l : List UInt8) : spn l 0 = l := by simp [spn]

theorem spn_full (l : List UInt8) : spn l l.length = l := by simp [spn]

theorem spn_at (l : List UInt8) (k j : Nat) (hk : k ≤ l.length) (hj : j < l.length) : (spn l k)[j]? = l[(k + j) % l.length]? := by
  unfold spn
  rw [List.getElem?_append, List.length_drop]
  by_cases h : j < l.length - k
  · rw [if_pos h, List.getElem?_drop, Nat.mod_eq_of_lt (by omega)]
  · rw [if_neg h, List.getElem?_take, if_pos (by omega)]
    congr 1
    rw [Nat.mod_eq_sub_mod (by omega), Nat.mod_eq_of_lt (by omega)]
    omega

theorem spn_mod (l : List UInt8) (k : Nat) (hk : k ≤ l.length) : spn l k = spn l (k % l.length) := by
  by_cases h : k = l.length
  · rw [h, Nat.mod_self, spn_full, spn_zero]
  · rw [Nat.mod_eq_of_lt (by omega)]

theorem spn_spn (l : List UInt8) (k j : Nat) (hk : k ≤ l.length) (hj : j ≤ l.length) : spn (spn l k) j = spn l ((k + j) % l.length) := by
  by_cases h0 : l.length = 0
  · have : l = [] := List.eq_nil_of_length_eq_zero h0
    subst this; simp [spn]
  apply List.ext_getElem?
  intro t
  by_cases ht : t < l.length
  · rw [spn_at (spn l k) j t (by rw [spn_len]; exact hj) (by rw [spn_len]; exact ht), spn_len, spn_at l k _ hk (Nat.mod_lt _ (by omega)),
      spn_at l _ t (Nat.le_of_lt (Nat.mod_lt _ (by omega))) ht]
    congr 1
    rw [Nat.add_mod_mod, Nat.mod_add_mod, Nat.add_assoc]
  · rw [List.getElem?_eq_none (by rw [spn_len, spn_len]; omega), List.getElem?_eq_none (by rw [spn_len]; omega)]

/-- One from another beginning. -/
def orb (a b : List UInt8) : Prop := ∃ k, k ≤ a.length ∧ b = spn a k

theorem orb_refl (a : List UInt8) : orb a a := ⟨0, Nat.zero_le _, (spn_zero a).symm⟩

theorem orb_len {a b : List UInt8} (h : orb a b) : b.length = a.length := by obtain ⟨k, _, rfl⟩ := h; exact spn_len a k

theorem orb_trans {a b c : List UInt8} (h : orb a b) (g : orb b c) : orb a c := by
  obtain ⟨k, hk, rfl⟩ := h
  obtain ⟨j, hj, rfl⟩ := g
  rw [spn_len] at hj
  refine ⟨(k + j) % a.length, ?_, spn_spn a k j hk hj⟩
  by_cases h0 : a.length = 0
  · rw [h0] at hk hj ⊢
    have : k = 0 := by omega
    have : j = 0 := by omega
    subst k j; simp
  · exact Nat.le_of_lt (Nat.mod_lt _ (by omega))

theorem orb_symm {a b : List UInt8} (h : orb a b) : orb b a := by
  obtain ⟨k, hk, rfl⟩ := h
  refine ⟨a.length - k, by rw [spn_len]; omega, ?_⟩
  rw [spn_spn a k _ hk (by omega), show k + (a.length - k) = a.length by omega, Nat.mod_self, spn_zero]

/-- The order of texts. -/
theorem lt_irr (a : List UInt8) : ¬ a < a := List.lt_irrefl a

theorem lt_tri (a b : List UInt8) : a < b ∨ a = b ∨ b < a := by
  by_cases h1 : a < b
  · exact .inl h1
  by_cases h2 : b < a
  · exact .inr (.inr h2)
  · exact .inr (.inl (List.le_antisymm (List.not_lt.1 h2) (List.not_lt.1 h1)))

theorem lt_asy {a b : List UInt8} (h : a < b) : ¬ b < a := List.lt_asymm h

theorem lt_trn {a b c : List UInt8} (h : a < b) (g : b < c) : a < c := List.lt_trans h g

/-- The least of some: the first one that none is less than. -/
def mn (x : List UInt8) (ys : List (List UInt8)) : List UInt8 := ys.foldl (fun m y => if y < m then y else m) x

theorem mn_cons (x y : List UInt8) (ys : List (List UInt8)) : mn x (y :: ys) = mn (if y < x then y else x) ys := rfl

theorem mn_mem : ∀ (ys : List (List UInt8)) (x : List UInt8), mn x ys ∈ x :: ys
  | [], x => by simp [mn]
  | y :: ys, x => by
    rw [mn_cons]
    have := mn_mem ys (if y < x then y else x)
    split at this <;> rename_i h
    · rw [if_pos h]
      exact List.mem_cons_of_mem _ this
    · rw [if_neg h]
      rcases List.mem_cons.1 this with h | h
      · rw [h]; exact List.mem_cons_self
      · exact List.mem_cons_of_mem _ (List.mem_cons_of_mem _ h)

theorem mn_le : ∀ (ys : List (List UInt8)) (x : List UInt8), ∀ y ∈ x :: ys, ¬ y < mn x ys
  | [], x, y, hy => by
    have : y = x := by simpa using hy
    subst this
    exact lt_irr y
  | z :: ys, x, y, hy => by
    rw [mn_cons]
    have ih := mn_le ys (if z < x then z else x)
    have h0 := ih _ List.mem_cons_self
    rcases List.mem_cons.1 hy with rfl | hy
    · intro h
      split at h0 <;> rename_i hz
      · rw [if_pos hz] at h
        exact h0 (lt_trn hz h)
      · rw [if_neg hz] at h
        exact h0 h
    rcases List.mem_cons.1 hy with rfl | hy
    · intro h
      split at h0 <;> rename_i hz
      · rw [if_pos hz] at h
        exact h0 h
      · rw [if_neg hz] at h
        rcases lt_tri y x with g | g | g
        · exact hz g
        · subst g; exact h0 h
        · exact h0 (lt_trn g h)
    · exact ih y (List.mem_cons_of_mem _ hy)

/-- What is least is one alone. -/
theorem least_one {S T : List (List UInt8)} (h : ∀ x, x ∈ S ↔ x ∈ T) {m n : List UInt8} (hm : m ∈ S) (hn : n ∈ T) (h1 : ∀ x ∈ S, ¬ x < m) (h2 : ∀ x ∈ T, ¬ x < n) : m = n := by
  rcases lt_tri m n with g | g | g
  · exact absurd g (h2 m ((h m).1 hm))
  · exact g
  · exact absurd g (h1 n ((h n).2 hn))

def rotA (l : List UInt8) : List (List UInt8) := (List.range l.length).map (spn l)

theorem rot_mem {l a : List UInt8} (h0 : 0 < l.length) : a ∈ rotA l ↔ orb l a := by
  simp only [rotA, List.mem_map, List.mem_range, orb]
  constructor
  · rintro ⟨k, hk, rfl⟩; exact ⟨k, by omega, rfl⟩
  · rintro ⟨k, hk, rfl⟩
    exact ⟨k % l.length, Nat.mod_lt _ h0, (spn_mod l k hk).symm⟩

def leastL (l : List UInt8) : List UInt8 := mn l (rotA l)

theorem rot_cons {l a : List UInt8} (h0 : 0 < l.length) : a ∈ l :: rotA l ↔ orb l a := by
  rw [List.mem_cons, rot_mem h0]
  constructor
  · rintro (rfl | h)
    · exact orb_refl a
    · exact h
  · exact .inr

theorem leastL_orb {l : List UInt8} (h0 : 0 < l.length) : orb l (leastL l) := (rot_cons h0).1 (mn_mem (rotA l) l)

theorem leastL_le {l a : List UInt8} (h0 : 0 < l.length) (h : orb l a) : ¬ a < leastL l := mn_le (rotA l) l a ((rot_cons h0).2 h)

theorem leastL_len {l : List UInt8} (h0 : 0 < l.length) : (leastL l).length = l.length := orb_len (leastL_orb h0)

theorem leastL_eq {a b : List UInt8} (h0 : 0 < a.length) (h : orb a b) : leastL a = leastL b := by
  have hb : 0 < b.length := by rw [orb_len h]; exact h0
  refine least_one (S := a :: rotA a) (T := b :: rotA b) (fun x => ?_) (mn_mem _ _) (mn_mem _ _) (mn_le _ _) (mn_le _ _)
  rw [rot_cons h0, rot_cons hb]
  exact ⟨fun g => orb_trans (orb_symm h) g, fun g => orb_trans h g⟩

theorem leastL_iff {a b : List UInt8} (h0 : 0 < a.length) (hb : 0 < b.length) : leastL a = leastL b ↔ orb a b := by
  refine ⟨fun h => ?_, leastL_eq h0⟩
  have h1 := leastL_orb h0
  rw [h] at h1
  exact orb_trans h1 (orb_symm (leastL_orb hb))

/-- The program's order of the spun ones: by 1, 2, .., up to all pieces. -/
def rot1 (l : List UInt8) : List (List UInt8) := (List.range l.length).map fun i => spn l (i + 1)

theorem rot1_mem {l a : List UInt8} (h0 : 0 < l.length) : a ∈ rot1 l ↔ orb l a := by
  simp only [rot1, List.mem_map, List.mem_range, orb]
  constructor
  · rintro ⟨k, hk, rfl⟩; exact ⟨k + 1, by omega, rfl⟩
  · rintro ⟨k, hk, rfl⟩
    by_cases h : k = 0
    · subst h
      exact ⟨l.length - 1, by omega, by rw [show l.length - 1 + 1 = l.length by omega, spn_full, spn_zero]⟩
    · exact ⟨k - 1, by omega, by rw [show k - 1 + 1 = k by omega]⟩

theorem rot1_len (l : List UInt8) : (rot1 l).length = l.length := by simp [rot1]

/-- The order of bytes as the library tells it. -/
theorem cmpB_lt : ∀ (a b : List UInt8), Lib.compareBytes a b < 0 ↔ a < b
  | [], [] => by simp [Lib.compareBytes]
  | [], _ :: _ => by simp [Lib.compareBytes]
  | _ :: _, [] => by simp [Lib.compareBytes]
  | x :: a, y :: b => by
    have ih := cmpB_lt a b
    rw [Lib.compareBytes, List.cons_lt_cons_iff]
    by_cases h1 : x < y
    · simp [h1]
    · by_cases h2 : y < x
      · have : ¬ x = y := fun e => by subst e; exact h1 h2
        simp [h1, h2, this]
      · have : x = y := UInt8.le_antisymm (UInt8.not_lt.1 h2) (UInt8.not_lt.1 h1)
        simp [h1, h2, this, ih]

end Go.Proofs.Ythiimllafcfieaa

/- Tracks that are laid whole from a box: all of them in order, the rings among them. Nothing of the program. -/
namespace Go.Proofs.Ythiimllafcfieaa

set_option linter.unusedVariables false
set_option linter.unusedSimpArgs false

theorem words_iffB : ∀ (n : Nat) (w : List UInt8), w ∈ words n ↔ w.length = n ∧ ∀ c ∈ w, c ∈ ltr
  | 0, w => by
    simp only [words, List.mem_cons, List.not_mem_nil, or_false, List.length_eq_zero_iff]
    constructor
    · rintro rfl; simp
    · exact fun h => h.1
  | n + 1, [] => by simp [words_cons]
  | n + 1, c :: w => by
    rw [words_cons]
    simp only [List.mem_flatMap, List.mem_map, List.cons.injEq, List.length_cons, Nat.add_right_cancel_iff, List.mem_cons, forall_eq_or_imp]
    constructor
    · rintro ⟨d, hd, u, hu, rfl, rfl⟩
      have := (words_iffB n u).1 hu
      exact ⟨this.1, hd, this.2⟩
    · rintro ⟨h1, h2, h3⟩
      exact ⟨c, h2, w, (words_iffB n w).2 ⟨h1, h3⟩, rfl, rfl⟩

theorem cls_iffB {n : Nat} {w : List UInt8} : w ∈ clsL sp0 n ↔ (w.length = n ∧ ∀ c ∈ w, c ∈ ltr) ∧ fin sp0 w = sp0 := by
  rw [clsL, List.mem_filter, words_iffB, spE_iff]

theorem words_ltB : ∀ n, (words n).Pairwise fun a b => a < b
  | 0 => by simp [words]
  | n + 1 => by
    rw [words_cons, List.pairwise_flatMap]
    constructor
    · intro c _
      exact List.Pairwise.map _ (fun a b h => List.cons_lt_cons_iff.2 (.inr ⟨rfl, h⟩)) (words_ltB n)
    · have hl : ltr.Pairwise fun a b => a < b := by decide
      refine hl.imp fun {a b} hab x hx y hy => ?_
      obtain ⟨u, _, rfl⟩ := List.mem_map.1 hx
      obtain ⟨v, _, rfl⟩ := List.mem_map.1 hy
      exact List.cons_lt_cons_iff.2 (.inl hab)

theorem cls_ltB (a : Sp) (n : Nat) : (clsL a n).Pairwise fun a b => a < b := (words_ltB n).filter _

theorem cnt3B : ∀ {w : List UInt8}, (∀ c ∈ w, c ∈ ltr) → cnt 83 w + cnt 76 w + cnt 82 w = w.length
  | [], _ => rfl
  | c :: w, h => by
    have ih := cnt3B (w := w) (fun d hd => h d (by simp [hd]))
    have hc := h c (by simp)
    have e : ∀ d : UInt8, cnt d (c :: w) = cnt d w + (if c == d then 1 else 0) := fun d => by simp [cnt, List.count_cons]
    rw [e, e, e, List.length_cons]
    simp only [ltr, List.mem_cons, List.not_mem_nil, or_false] at hc
    rcases hc with rfl | rfl | rfl <;> simp <;> omega

/-- The texts of pieces that are laid whole from s straights and c curves, in order. -/
def bxW (s c : Nat) : List (List UInt8) := (words (s + c)).filter fun w => cnt 83 w == s

def bxL (s c : Nat) (u : List UInt8) : List (List UInt8) := (bxW s c).map fun v => u ++ v

theorem cnt_cons (d c : UInt8) (w : List UInt8) : cnt d (c :: w) = cnt d w + (if c == d then 1 else 0) := by simp [cnt, List.count_cons]

theorem filt_word (n s : Nat) : (words (n + 1)).filter (fun w => cnt 83 w == s) = ((words n).filter fun w => cnt 83 w == s).map (fun v => 76 :: v) ++ (((words n).filter fun w => cnt 83 w == s).map (fun v => 82 :: v) ++ ((words n).filter fun w => cnt 83 w + 1 == s).map (fun v => 83 :: v)) := by
  rw [words_cons]
  simp only [ltr, List.flatMap_cons, List.flatMap_nil, List.append_nil, List.filter_append, List.filter_map, Function.comp_def, cnt_cons]
  congr 1

theorem filt_none (n s : Nat) (h : n < s) : (words n).filter (fun w => cnt 83 w == s) = [] := by
  rw [List.filter_eq_nil_iff]
  intro w hw
  have h1 := words_len n w hw
  have h2 : cnt 83 w ≤ w.length := List.count_le_length
  simp only [beq_iff_eq]
  omega

theorem bxL_zero (u : List UInt8) : bxL 0 0 u = [u] := by simp [bxL, bxW, words, cnt]

theorem bxW_curve (s c : Nat) : bxW s (c + 1) = (bxW s c).map (fun v => 76 :: v) ++ ((bxW s c).map (fun v => 82 :: v) ++ match s with | 0 => [] | s + 1 => (bxW s (c + 1)).map fun v => 83 :: v) := by
  unfold bxW
  rw [show s + (c + 1) = (s + c) + 1 from rfl, filt_word]
  congr 2
  cases s with
  | zero => simp
  | succ s =>
    rw [show s + 1 + c = s + (c + 1) by omega]
    congr 1
    apply List.filter_congr
    intro v _
    simp

theorem bxW_last (s : Nat) : bxW (s + 1) 0 = (bxW s 0).map fun v => 83 :: v := by
  unfold bxW
  rw [show s + 1 + 0 = s + 1 from rfl, filt_word, filt_none s (s + 1) (by omega)]
  simp only [List.map_nil, List.nil_append, Nat.add_zero]
  congr 1
  apply List.filter_congr
  intro v _
  simp

theorem map_cons_app (u : List UInt8) (d : UInt8) (l : List (List UInt8)) : (l.map fun v => d :: v).map (fun v => u ++ v) = l.map fun v => (u ++ [d]) ++ v := by
  rw [List.map_map]
  congr 1
  funext v
  simp

theorem bxL_C (c : Nat) (u : List UInt8) : bxL 0 (c + 1) u = bxL 0 c (u ++ [76]) ++ bxL 0 c (u ++ [82]) := by
  unfold bxL
  rw [bxW_curve, List.map_append, List.map_append, map_cons_app, map_cons_app]
  simp

theorem bxL_B (s c : Nat) (u : List UInt8) : bxL (s + 1) (c + 1) u = bxL (s + 1) c (u ++ [76]) ++ bxL (s + 1) c (u ++ [82]) ++ bxL s (c + 1) (u ++ [83]) := by
  unfold bxL
  rw [bxW_curve, List.map_append, List.map_append, map_cons_app, map_cons_app, map_cons_app, List.append_assoc]

theorem bxL_S (s : Nat) (u : List UInt8) : bxL (s + 1) 0 u = bxL s 0 (u ++ [83]) := by
  unfold bxL
  rw [bxW_last, map_cons_app]

theorem bxW_nil (s c : Nat) : bxL s c [] = bxW s c := by simp [bxL]

theorem bxW_iff {s c : Nat} {w : List UInt8} : w ∈ bxW s c ↔ (w.length = s + c ∧ ∀ d ∈ w, d ∈ ltr) ∧ cnt 83 w = s := by
  rw [bxW, List.mem_filter, words_iffB, beq_iff_eq]

theorem bxW_lt (s c : Nat) : (bxW s c).Pairwise fun a b => a < b := (words_ltB _).filter _

theorem bxW_le (s c : Nat) : (bxW s c).length ≤ 3 ^ (s + c) := by
  rw [← words_count]
  exact List.length_filter_le _ _

/-- A ring, as its pieces. -/
def rgb (w : List UInt8) : Bool := decide (0 < w.length) && spE (fin sp0 w) sp0

def bxR (s c : Nat) : List (List UInt8) := (bxW s c).filter rgb

theorem bxR_iff {s c : Nat} {w : List UInt8} : w ∈ bxR s c ↔ ((w.length = s + c ∧ ∀ d ∈ w, d ∈ ltr) ∧ cnt 83 w = s) ∧ (0 < w.length ∧ fin sp0 w = sp0) := by
  rw [bxR, List.mem_filter, bxW_iff, rgb, Bool.and_eq_true, decide_eq_true_eq, spE_iff]

theorem bxR_cls {s c : Nat} (h : 0 < s + c) : bxR s c = (clsL sp0 (s + c)).filter fun w => cnt 83 w == s := by
  rw [bxR, bxW, clsL, List.filter_filter, List.filter_filter]
  apply List.filter_congr
  intro w hw
  have h1 := words_len _ w hw
  rw [rgb, show decide (0 < w.length) = true by simp; omega, Bool.true_and, Bool.and_comm]

theorem bxR_zero : bxR 0 0 = [] := by simp [bxR, bxW, words, rgb, cnt]

theorem bxR_le (s c : Nat) : (bxR s c).length ≤ 3 ^ (s + c) := Nat.le_trans (List.length_filter_le _ _) (bxW_le s c)

theorem bxR_lt (s c : Nat) : (bxR s c).Pairwise fun a b => a < b := (bxW_lt s c).filter _

end Go.Proofs.Ythiimllafcfieaa

/- The first greatest one of some; the longest ring of a box, on both sides; how many tracks; boxes of rings; different ends. Nothing of the program. -/
namespace Go.Proofs.Ythiimllafcfieaa

set_option linter.unusedVariables false
set_option linter.unusedSimpArgs false

/-- One more: it takes the place of the greatest if it is greater. -/
def fgS {α : Type} (gt : α → α → Bool) (o : Option α) (x : α) : Option α := match o with | none => some x | some g => some (if gt x g then x else g)

def fgO {α : Type} (gt : α → α → Bool) (l : List α) : Option α := l.foldl (fgS gt) none

theorem fgO_nil {α : Type} (gt : α → α → Bool) : fgO gt ([] : List α) = none := rfl

theorem fgO_snoc {α : Type} (gt : α → α → Bool) (l : List α) (x : α) : fgO gt (l ++ [x]) = fgS gt (fgO gt l) x := by simp [fgO]

theorem fgO_some {α : Type} (gt : α → α → Bool) (l : List α) (h : l ≠ []) : ∃ g, fgO gt l = some g := by
  rcases List.eq_nil_or_concat l with rfl | ⟨m, x, rfl⟩
  · exact absurd rfl h
  · rw [List.concat_eq_append, fgO_snoc]
    cases fgO gt m
    · exact ⟨x, rfl⟩
    · exact ⟨_, rfl⟩

theorem fgO_isSome {α : Type} (gt : α → α → Bool) (l : List α) : (fgO gt l).isSome = decide (0 < l.length) := by
  cases l with
  | nil => rfl
  | cons a l =>
    obtain ⟨g, hg⟩ := fgO_some gt (a :: l) (by simp)
    rw [hg]; simp

theorem fgO_mem {α : Type} (gt : α → α → Bool) (l : List α) (g : α) (h : fgO gt l = some g) : g ∈ l := by
  rcases List.eq_nil_or_concat l with rfl | ⟨m, x, rfl⟩
  · cases h
  · rw [List.concat_eq_append] at h ⊢
    rw [fgO_snoc] at h
    cases hm : fgO gt m with
    | none => rw [hm] at h; simp only [fgS, Option.some.injEq] at h; simp [h]
    | some g' =>
      have := fgO_mem gt m g' hm
      rw [hm] at h
      simp only [fgS, Option.some.injEq] at h
      split at h
      · simp [← h]
      · simp [← h, this]
termination_by l.length
decreasing_by simp_all

/-- The rings that are laid from s straights and c curves, by their numbers of pieces. -/
def cvr (s c : Nat) (w : List UInt8) : Bool := decide (cnt 83 w ≤ s) && decide (w.length ≤ cnt 83 w + c)

def lgN (s c n : Nat) : List (List UInt8) := (clsL sp0 n).filter (cvr s c)

def lgL (s c k : Nat) : List (List UInt8) := (List.range k).flatMap fun i => lgN s c (i + 1)

theorem lgL_succ (s c k : Nat) : lgL s c (k + 1) = lgL s c k ++ lgN s c (k + 1) := by simp [lgL, List.range_succ]

theorem lgN_iff {s c n : Nat} {w : List UInt8} : w ∈ lgN s c n ↔ ((w.length = n ∧ ∀ d ∈ w, d ∈ ltr) ∧ fin sp0 w = sp0) ∧ (cnt 83 w ≤ s ∧ w.length ≤ cnt 83 w + c) := by
  rw [lgN, List.mem_filter, cls_iffB, cvr, Bool.and_eq_true, decide_eq_true_eq, decide_eq_true_eq]

theorem lgL_iff {s c k : Nat} {w : List UInt8} : w ∈ lgL s c k ↔ 0 < w.length ∧ w.length ≤ k ∧ w ∈ lgN s c w.length := by
  rw [lgL, List.mem_flatMap]
  constructor
  · rintro ⟨i, hi, hw⟩
    have h := (lgN_iff.1 hw).1.1.1
    have := List.mem_range.1 hi
    refine ⟨by omega, by omega, ?_⟩
    rw [h]; exact hw
  · rintro ⟨h0, hk, hw⟩
    exact ⟨w.length - 1, List.mem_range.2 (by omega), by rw [show w.length - 1 + 1 = w.length by omega]; exact hw⟩

def ltl (a b : List UInt8) : Prop := a.length < b.length ∨ (a.length = b.length ∧ a < b)

theorem lgL_lt (s c : Nat) : ∀ k, (lgL s c k).Pairwise ltl
  | 0 => by simp [lgL]
  | k + 1 => by
    rw [lgL_succ, List.pairwise_append]
    refine ⟨lgL_lt s c k, ?_, fun a ha b hb => ?_⟩
    · refine List.Pairwise.imp_of_mem (fun {a b} ha hb h => .inr ⟨?_, h⟩) ((cls_ltB sp0 (k + 1)).filter (cvr s c))
      have h1 := (cls_iffB.1 (List.mem_filter.1 ha).1).1.1
      have h2 := (cls_iffB.1 (List.mem_filter.1 hb).1).1.1
      omega
    · have h1 := (lgL_iff.1 ha).2.1
      have h2 := (lgN_iff.1 hb).1.1.1
      exact .inl (by omega)

/-- The first one of those with the most pieces. -/
def IsLg (l : List (List UInt8)) (o : Option (List UInt8)) : Prop := match o with | none => l = [] | some w => w ∈ l ∧ ∀ v ∈ l, v.length < w.length ∨ (v.length = w.length ∧ ¬ v < w)

def lgt (x g : List UInt8) : Bool := decide (g.length < x.length)

theorem lg_fg {l : List (List UInt8)} (h : l.Pairwise ltl) : IsLg l (fgO lgt l) := by
  rcases List.eq_nil_or_concat l with rfl | ⟨m, x, rfl⟩
  · rfl
  · rw [List.concat_eq_append] at h ⊢
    rw [List.pairwise_append] at h
    have ih := lg_fg h.1
    rw [fgO_snoc]
    cases hm : fgO lgt m with
    | none =>
      rw [hm] at ih
      simp only [IsLg] at ih
      subst ih
      simp only [IsLg, fgS, List.nil_append, List.mem_singleton, forall_eq, true_and]
      exact .inr (lt_irr x)
    | some g =>
      rw [hm] at ih
      obtain ⟨i1, i2⟩ := ih
      have hgx := h.2.2 g i1 x (by simp)
      simp only [fgS, lgt, decide_eq_true_eq, IsLg]
      by_cases hc : g.length < x.length
      · rw [if_pos hc]
        refine ⟨by simp, fun v hv => ?_⟩
        rcases List.mem_append.1 hv with hv | hv
        · have := i2 v hv
          exact .inl (by omega)
        · rw [List.mem_singleton.1 hv]; exact .inr ⟨rfl, lt_irr x⟩
      · rw [if_neg hc]
        refine ⟨by simp [i1], fun v hv => ?_⟩
        rcases List.mem_append.1 hv with hv | hv
        · exact i2 v hv
        · rw [List.mem_singleton.1 hv]
          rcases hgx with g1 | ⟨g1, g2⟩
          · omega
          · exact .inr ⟨g1.symm, lt_asy g2⟩
termination_by l.length
decreasing_by simp_all

theorem lg_one {l : List (List UInt8)} {o p : Option (List UInt8)} (h : IsLg l o) (g : IsLg l p) : o = p := by
  cases o with
  | none =>
    simp only [IsLg] at h
    subst h
    cases p with
    | none => rfl
    | some w => simp [IsLg] at g
  | some w =>
    cases p with
    | none => simp only [IsLg] at g; subst g; simp [IsLg] at h
    | some v =>
      obtain ⟨h1, h2⟩ := h
      obtain ⟨g1, g2⟩ := g
      have a := h2 v g1
      have b := g2 w h1
      have e : v.length = w.length := by omega
      have a : ¬ v < w := by rcases a with a | a; omega; exact a.2
      have b : ¬ w < v := by rcases b with b | b; omega; exact b.2
      rcases lt_tri v w with t | t | t
      · exact absurd t a
      · rw [t]
      · exact absurd t b

def lgO (s c : Nat) : Option (List UInt8) := fgO lgt (lgL s c (s + c))

/-- The model's search: the least ring of n pieces with at most s straights and c curves. -/
def IsLs (X : List UInt8 → Prop) (b : List UInt8) : Prop := (b = [] ∧ ∀ w, ¬ X w) ∨ (X b ∧ 0 < b.length ∧ ∀ v, X v → ¬ v < b)

theorem isLs_start : IsLs (fun _ => False) [] := .inl ⟨rfl, fun _ h => h⟩

theorem isLs_ext {X Y : List UInt8 → Prop} {b : List UInt8} (h : IsLs X b) (e : ∀ w, X w ↔ Y w) : IsLs Y b := by
  have : X = Y := funext fun w => propext (e w)
  rw [← this]; exact h

/-- One more: it is taken if it is the first or less. -/
def lsN (b x : List UInt8) : List UInt8 := if b = [] ∨ x < b then x else b

theorem isLs_next {X : List UInt8 → Prop} {b x : List UInt8} (h : IsLs X b) (hx : 0 < x.length) : IsLs (fun w => X w ∨ w = x) (lsN b x) := by
  unfold lsN
  rcases h with ⟨rfl, h⟩ | ⟨h1, h2, h3⟩
  · rw [if_pos (.inl rfl)]
    refine .inr ⟨.inr rfl, hx, fun v hv => ?_⟩
    rcases hv with hv | rfl
    · exact absurd hv (h v)
    · exact lt_irr v
  · by_cases hlt : x < b
    · rw [if_pos (.inr hlt)]
      refine .inr ⟨.inr rfl, hx, fun v hv => ?_⟩
      rcases hv with hv | rfl
      · exact fun g => h3 v hv (lt_trn g hlt)
      · exact lt_irr v
    · rw [if_neg (by rintro (rfl | g); exact absurd h2 (by simp); exact hlt g)]
      refine .inr ⟨.inl h1, h2, fun v hv => ?_⟩
      rcases hv with hv | rfl
      · exact h3 v hv
      · exact hlt

/-- The least one of n pieces, when nothing longer is there. -/
theorem isLs_long {s c n : Nat} {b : List UInt8} (h : IsLs (fun w => w ∈ lgN s c n) b) (hn : 0 < n) (hns : n ≤ s + c) (hno : ∀ m, n < m → m ≤ s + c → lgN s c m = []) (hb : b ≠ []) : lgO s c = some b := by
  refine lg_one (lg_fg (lgL_lt s c (s + c))) ?_
  rcases h with ⟨rfl, _⟩ | ⟨h1, h2, h3⟩
  · exact absurd rfl hb
  · have hl := (lgN_iff.1 h1).1.1.1
    refine ⟨lgL_iff.2 ⟨h2, by omega, by rw [hl]; exact h1⟩, fun v hv => ?_⟩
    have hv := lgL_iff.1 hv
    rcases Nat.lt_trichotomy v.length n with g | g | g
    · exact .inl (by omega)
    · exact .inr ⟨by omega, h3 v (g ▸ hv.2.2)⟩
    · rw [hno _ g hv.2.1] at hv; simp at hv

theorem isLs_none {s c : Nat} (hno : ∀ m, 0 < m → m ≤ s + c → lgN s c m = []) : lgO s c = none := by
  refine lg_one (lg_fg (lgL_lt s c (s + c))) ?_
  show lgL s c (s + c) = []
  rw [List.eq_nil_iff_forall_not_mem]
  intro v hv
  have hv := lgL_iff.1 hv
  rw [hno _ hv.1 hv.2.1] at hv; simp at hv

theorem lgN_box {s c n : Nat} (hn : 0 < n) {w : List UInt8} : w ∈ lgN s c n ↔ ∃ k, n - c ≤ k ∧ k ≤ s ∧ k ≤ n ∧ w ∈ bxR k (n - k) := by
  rw [lgN_iff]
  constructor
  · rintro ⟨⟨⟨h1, h2⟩, h3⟩, h4, h5⟩
    have h6 : cnt 83 w ≤ w.length := List.count_le_length
    exact ⟨cnt 83 w, by omega, h4, by omega, bxR_iff.2 ⟨⟨⟨by omega, h2⟩, rfl⟩, by omega, h3⟩⟩
  · rintro ⟨k, k1, k2, k3, hw⟩
    have h := bxR_iff.1 hw
    exact ⟨⟨⟨by omega, h.1.1.2⟩, h.2.2⟩, by omega, by omega⟩

/-- How many tracks: the model's product and the program's. -/
def ctM (s c : Nat) : Nat → Nat
  | 0 => 1
  | k + 1 => ctM s c k * (c + (k + 1)) / (k + 1)

def ctP (s c : Nat) : Nat → Nat
  | 0 => 1
  | k + 1 => 2 * ctP s c k * (s + (k + 1)) / (k + 1)

theorem ct_all : ∀ s < 13, ∀ c < 13, s + c ≤ 12 → ctM s c s * 2 ^ c = ctP s c c ∧ (∀ k ≤ s, ctM s c k ≤ 1000) ∧ ∀ k ≤ c, ctP s c k ≤ 1000000 := by decide +kernel

theorem ct_same {s c : Nat} (h : s + c ≤ 12) : ctM s c s * 2 ^ c = ctP s c c := (ct_all s (by omega) c (by omega) h).1

theorem ctM_le {s c k : Nat} (h : s + c ≤ 12) (hk : k ≤ s) : ctM s c k ≤ 1000 := (ct_all s (by omega) c (by omega) h).2.1 k hk

theorem ctP_le {s c k : Nat} (h : s + c ≤ 12) (hk : k ≤ c) : ctP s c k ≤ 1000000 := (ct_all s (by omega) c (by omega) h).2.2 k hk

/-- The numbers of straights of the boxes of n pieces from which a ring is laid whole. -/
def hasR (n s : Nat) : Bool := decide (0 < (bxR s (n - s)).length)

def rbL (n k : Nat) : List Nat := (List.range k).filter (hasR n)

theorem rbL_succ (n k : Nat) : rbL n (k + 1) = rbL n k ++ (if hasR n k then [k] else []) := by
  simp only [rbL, List.range_succ, List.filter_append, List.filter_cons, List.filter_nil]

theorem rbL_le (n k : Nat) : (rbL n k).length ≤ k := by
  have := List.length_filter_le (hasR n) (List.range k)
  rw [List.length_range] at this
  exact this

theorem hasR_iff {n s : Nat} (hn : 0 < n) (hs : s ≤ n) : hasR n s = true ↔ ∃ w ∈ clsL sp0 n, cnt 83 w = s := by
  rw [hasR, decide_eq_true_eq, bxR_cls (by omega), show s + (n - s) = n by omega, List.length_pos_iff_exists_mem]
  constructor
  · rintro ⟨w, hw⟩
    rw [List.mem_filter, beq_iff_eq] at hw
    exact ⟨w, hw⟩
  · rintro ⟨w, hw⟩
    exact ⟨w, by rw [List.mem_filter, beq_iff_eq]; exact hw⟩

/-- The different ones of some. -/
def ddS (l : List Sp) (x : Sp) : List Sp := if l.any (fun y => spE y x) then l else l ++ [x]

def ddL (l : List Sp) : List Sp := l.foldl ddS []

theorem ddL_snoc (l : List Sp) (x : Sp) : ddL (l ++ [x]) = ddS (ddL l) x := by simp [ddL]

theorem ddL_le (l : List Sp) : (ddL l).length ≤ l.length := by
  rcases List.eq_nil_or_concat l with rfl | ⟨m, x, rfl⟩
  · exact Nat.le_refl _
  · rw [List.concat_eq_append, ddL_snoc, ddS]
    have := ddL_le m
    split <;> simp <;> omega
termination_by l.length
decreasing_by simp_all

end Go.Proofs.Ythiimllafcfieaa

/- Contracts: boxes and what tracks need, in the model and in the program: which boxes there are, what is laid from them, what is missing, sums and prices. -/
namespace Go.Proofs.Ythiimllafcfieaa
open Go.ChangeShapes Go.WideShapes Go.ChangeAt Go.RowKit

set_option linter.unusedVariables false
set_option linter.unusedSimpArgs false

/-- A box of at most m pieces. -/
def bxB (m : Int) (b : Bq) : Bool := inB b.x 0 m && inB b.r 0 (m - b.x)

theorem bxB_yes {m : Int} {b : Bq} (h : bxB m b = true) : 0 ≤ b.x ∧ 0 ≤ b.r ∧ b.x + b.r ≤ m := by simp [bxB, inB] at h; omega

theorem bxB_nat {m : Nat} {b : Bq} (h : bxB m b = true) : ∃ s c : Nat, b = ⟨s, c⟩ ∧ s + c ≤ m := by
  obtain ⟨h0, h1, h2⟩ := bxB_yes h
  obtain ⟨x, r⟩ := b
  simp only at h0 h1 h2
  exact ⟨x.toNat, r.toNat, by rw [Int.toNat_of_nonneg h0, Int.toNat_of_nonneg h1], by omega⟩

theorem bxB_of {m : Nat} {s c : Nat} (h : s + c ≤ m) : bxB m ⟨s, c⟩ = true := by simp [bxB, inB]; omega

set_option maxRecDepth 100000 in
theorem spBox_any (b : Bq) (w : World) : Calls Try.prog 102 #[bv b] w fun e w' => e = .returned (.bool (bxB 40 b)) ∧ Below w.heap.size w w' := by
  obtain ⟨x, r⟩ := b
  cases h0 : inB x 0 40
  · go_enter Try.func102, Try.ntmps102
    go_wp2_with (go_at_call 52; refine (l1In_any _ _ _ _).mono ?_; rintro e w' ⟨rfl, rfl⟩)
    go_returns
    exact ⟨by simp [bxB, h0], by go_grown⟩
  · have hx : 0 ≤ x ∧ x ≤ 40 := by simpa [inB] using h0
    have e : (40 : Int) + wrap64 (-1 * x) = 40 - x := by rw [IntWalk.wrap64_in _ ⟨by omega, by omega⟩]; omega
    cases h1 : inB r 0 (40 - x)
    all_goals
      go_enter Try.func102, Try.ntmps102
      go_wp2_with (go_at_call 52; refine (l1In_any _ _ _ _).mono ?_; rintro e w' ⟨rfl, rfl⟩)
      go_returns
      exact ⟨by simp [bxB, h0, h1], by go_grown⟩

set_option maxRecDepth 100000 in
theorem isWithinB_any (b : Bq) (m : Int) (h : 0 ≤ m) (hm : m ≤ 1000) (w : World) : Calls Try.prog 66 #[bv b, .int .i64 m] w fun e w' => e = .returned (.bool (bxB m b)) ∧ Below w.heap.size w w' := by
  obtain ⟨x, r⟩ := b
  cases h0 : inB x 0 m
  · go_enter Try.func66, Try.ntmps66
    go_wp2_with (go_at_call 50; refine (isInRange_any _ _ _ _).mono ?_; rintro e w' ⟨rfl, rfl⟩)
    go_returns
    exact ⟨by simp [bxB, h0], by go_grown⟩
  · have hx : 0 ≤ x ∧ x ≤ m := by simpa [inB] using h0
    cases h1 : inB r 0 (m - x)
    all_goals
      go_enter Try.func66, Try.ntmps66
      go_wp2_with (go_at_call 50; refine (isInRange_any _ _ _ _).mono ?_; rintro e w' ⟨rfl, rfl⟩)
      go_returns
      exact ⟨by simp [bxB, h0, h1], by go_grown⟩

/-- How many straights and curves a track has. -/
def stN (s : ByteArray) : Nat := cnt 83 s.data.toList

def cvN (s : ByteArray) : Nat := s.size - cnt 83 s.data.toList

theorem st_cv (s : ByteArray) : stN s + cvN s = s.size := by
  have := cnt_le 83 s.data.toList
  rw [size_list] at this
  unfold stN cvN; omega

theorem lr_cv {s : ByteArray} (h : tkB s = true) : cnt 76 s.data.toList + cnt 82 s.data.toList = cvN s := by
  have := cnt3B (w := s.data.toList) fun c hc => by
    have := pcb_cases (tkB_list h c hc)
    rcases this with rfl | rfl | rfl <;> simp [ltr]
  rw [size_list] at this
  unfold cvN; omega

set_option maxRecDepth 100000 in
theorem tallyOf_any (s : ByteArray) (ht : tkB s = true) (w : World) : Calls Try.prog 105 #[.string s] w fun e w' => e = .returned (.agg #[.int .i64 (stN s : Nat), .int .i64 (cnt 76 s.data.toList : Nat), .int .i64 (cnt 82 s.data.toList : Nat)]) ∧ Below w.heap.size w w' := by
  have P := Lib.hid (fun c w => count_any s c w)
  go_enter Try.func105, Try.ntmps105
  go_wp2_with (go_at_call 122; refine (P.out _ _).mono ?_; rintro e w' ⟨rfl, rfl⟩)
  refine bodyPost_ret (by simp [results, Try.results105, go_sem, *]; try rfl) rfl ?_
  exact ⟨rfl, by go_grown⟩

set_option maxRecDepth 100000 in
theorem needsOf_any (s : ByteArray) (ht : tkB s = true) (w : World) : Calls Try.prog 70 #[.string s] w fun e w' => e = .returned (bv ⟨stN s, cvN s⟩) ∧ Below w.heap.size w w' := by
  have h40 := tkB_size ht
  have hs := st_cv s
  have hl := lr_cv ht
  have P := Lib.hid (fun w => tallyOf_any s ht w)
  generalize stN s = a at *
  generalize cvN s = c at *
  generalize cnt 76 s.data.toList = x at *
  generalize cnt 82 s.data.toList = y at *
  have e : (x : Int) + (y : Int) = (c : Int) := by omega
  go_enter Try.func70, Try.ntmps70
  go_wp2_with (go_at_call 105; refine (P.out _).mono ?_; rintro e w1 ⟨rfl, h1⟩; have hB : Below w.heap.size w w1 := ba (by go_grown) h1; obtain ⟨hc1, hf1⟩ := bcell h1; have hq := h1.size; (try simp at hq); have hz0 : w.heap.size < w1.heap.size := (by omega); have HK1 := Lib.hid h1; clear h1 hq)
  refine bodyPost_ret (by simp [results, Try.results70, go_sem, *]; try rfl) rfl ?_
  exact ⟨rfl, by go_grown⟩

set_option maxRecDepth 100000 in
theorem boxSupply_any (b : Bq) (w : World) : Calls Try.prog 68 #[bv b] w fun e w' => e = .returned (bv b) ∧ Below w.heap.size w w' := by
  obtain ⟨x, r⟩ := b
  go_enter Try.func68, Try.ntmps68
  go_wp2_with fail
  refine bodyPost_ret (by simp [results, Try.results68, go_sem, *]; try rfl) rfl ?_
  exact ⟨rfl, by go_grown⟩

set_option maxRecDepth 100000 in
theorem most_any (a b : Bq) (w : World) : Calls Try.prog 104 #[bv a, bv b] w fun e w' => e = .returned (bv ⟨max a.x b.x, max a.r b.r⟩) ∧ Below w.heap.size w w' := by
  obtain ⟨x, r⟩ := a
  obtain ⟨y, s⟩ := b
  go_enter Try.func104, Try.ntmps104
  go_wp2_with fail
  refine wp_loop_rounds 3 ?_
  rw [rounds_succ]
  have x0 : ∀ w : World, (Instr.index 80 (.agg #[.int .i64 y, .int .i64 s]) (.int .i64 0)).run Try.prog w = .ok (.int .i64 y) w := fun _ => by kernel_rfl
  have x1 : ∀ w : World, (Instr.index 80 (.agg #[.int .i64 y, .int .i64 s]) (.int .i64 1)).run Try.prog w = .ok (.int .i64 s) w := fun _ => by kernel_rfl
  go_wp2_with fail
  rw [rounds_succ]
  go_wp2_with fail
  rw [rounds_succ]
  go_wp2_with fail
  refine bodyPost_ret (by simp [results, Try.results104, go_sem, *]; try rfl) rfl ?_
  exact ⟨rfl, by go_grown⟩

/-- '==' on two supplies. -/
theorem supUnder : Try.prog.underlying 80 = some (.array 2 3) := by kernel_rfl

theorem intOne : Try.prog.cellsOf 3 = 1 := by kernel_rfl

theorem eqSupAt (d : Nat) (x y z u : Int) (w : World) : (Op.equalIn (d + 1 + 1) 80 (.agg #[.int .i64 x, .int .i64 y]) (.agg #[.int .i64 z, .int .i64 u])).run Try.prog w = .ok (x == z && y == u) w := by
  cases hq : Try.prog.info? 3 with
  | none =>
    have h : (Try.prog.info? 3).isSome = true := by kernel_rfl
    rw [hq] at h
    cases h
  | some i =>
    have e0 := run_equalIn_int (P := Try.prog) w d 3 .i64 .i64 x z Try.underlying3
    have e1 := run_equalIn_int (P := Try.prog) w d 3 .i64 .i64 y u Try.underlying3
    rw [run_equalIn_array w (d + 1) _ _ supUnder hq, intOne]
    simp only [List.range, List.range.loop, Op.eqItems, Sem.run_bind]
    have p0 : ∀ (a b : Int), (part 3 #[.int .i64 a, .int .i64 b] (0 * 1)).run Try.prog w = .ok (.int .i64 a) w := fun a b => by simp [go_sem]
    have p1 : ∀ (a b : Int), (part 3 #[.int .i64 a, .int .i64 b] (1 * 1)).run Try.prog w = .ok (.int .i64 b) w := fun a b => by simp [go_sem]
    rw [p0 x y, Result.andThen_ok, p0 z u, Result.andThen_ok, e0, Result.andThen_ok]
    cases h0 : (x == z)
    · simp
    · simp only [Bool.not_true, Bool.false_eq_true, if_false, Bool.true_and, Sem.run_bind]
      rw [p1 x y, Result.andThen_ok, p1 z u, Result.andThen_ok, e1, Result.andThen_ok]
      cases h1 : (y == u) <;> simp

@[go_sem high] theorem eqSup (x y z u : Int) (w : World) : (binOp .eql 80 (.agg #[.int .i64 x, .int .i64 y]) (.agg #[.int .i64 z, .int .i64 u])).run Try.prog w = .ok (.bool (x == z && y == u)) w := by
  rw [run_eql_struct, show (10000 : Nat) = 9998 + 1 + 1 from rfl, eqSupAt]
  rfl

end Go.Proofs.Ythiimllafcfieaa

/- Contract of the model: all tracks that are laid whole from a box, in order. -/
namespace Go.Proofs.Ythiimllafcfieaa
open Go.ChangeShapes Go.WideShapes Go.ChangeAt Go.RowKit

set_option linter.unusedVariables false
set_option linter.unusedSimpArgs false

/-- Block F is a variable that holds a list of texts; its row lies behind it. -/
def LkAt (w : World) (F : Nat) (v : Value) (L : List (List UInt8)) : Prop :=
  w.heap[F]? = some (.cells #[v] 25 (0, 0)) ∧ w.ownsRow (F + 1) 9 1 v L.length (strV L)

structure LkFr (w w' : World) (F : Nat) (v : Value) : Prop where
  os : w'.os = w.os
  tape : w'.tape = w.tape
  output : w'.output = w.output
  size : w.heap.size ≤ w'.heap.size
  block : ∀ k, k < w.heap.size → k ≠ F → v.ownBlock ≠ some k → w'.heap[k]? = w.heap[k]?

/-- A row that lies where it lay, or in a new block. -/
def LkSt (m : Nat) (v v' : Value) : Prop := v'.ownBlock = v.ownBlock ∨ ∀ k, v'.ownBlock = some k → m ≤ k

theorem LkSt.refl (m : Nat) (v : Value) : LkSt m v v := .inl rfl

theorem LkSt.trans {m m2 : Nat} {v v1 v2 : Value} (h : LkSt m v v1) (g : LkSt m2 v1 v2) (hm : m ≤ m2) : LkSt m v v2 := by
  rcases g with g | g
  · rcases h with h | h
    · exact .inl (g.trans h)
    · exact .inr fun k hk => h k (g ▸ hk)
  · exact .inr fun k hk => Nat.le_trans hm (g k hk)

theorem LkSt.mono {m m2 : Nat} {v v1 : Value} (h : LkSt m2 v v1) (hm : m ≤ m2) : LkSt m v v1 := h.imp id fun h k hk => Nat.le_trans hm (h k hk)

theorem LkFr.of_below {w w' : World} {F : Nat} {v : Value} (h : Below w.heap.size w w') : LkFr w w' F v := ⟨h.os, h.tape, h.output, h.size, fun k hk _ _ => h.block k hk⟩

theorem LkFr.trans {w w1 w2 : World} {F : Nat} {v v1 : Value} (h : LkFr w w1 F v) (g : LkFr w1 w2 F v1) (hs : LkSt w.heap.size v v1) : LkFr w w2 F v :=
  ⟨g.os.trans h.os, g.tape.trans h.tape, g.output.trans h.output, Nat.le_trans h.size g.size, fun k hk hF hv => by
    have hv1 : v1.ownBlock ≠ some k := fun e => by
      rcases hs with hs | hs
      · exact hv (hs ▸ e)
      · have := hs k e; omega
    rw [g.block k (Nat.lt_of_lt_of_le hk h.size) hF hv1, h.block k hk hF hv]⟩

theorem LkFr.then {w w1 w2 : World} {F : Nat} {v : Value} (h : LkFr w w1 F v) (g : Below w1.heap.size w1 w2) : LkFr w w2 F v := h.trans (LkFr.of_below g) (.refl _ _)

theorem LkFr.below {w w' : World} {F m : Nat} {v : Value} (h : LkFr w w' F v) (hF : m ≤ F) (hv : ∀ k, v.ownBlock = some k → m ≤ k) (hm : m ≤ w.heap.size) : Below m w w' :=
  ⟨h.os, h.tape, h.output, h.size, fun k hk => h.block k (by omega) (by omega) (fun e => by have := hv k e; omega)⟩

theorem LkAt.lt {w : World} {F : Nat} {v : Value} {L : List (List UInt8)} (h : LkAt w F v L) : F < w.heap.size := (Array.getElem?_eq_some_iff.1 h.1).1

theorem LkAt.own {w : World} {F : Nat} {v : Value} {L : List (List UInt8)} (h : LkAt w F v L) : ∀ k, v.ownBlock = some k → F + 1 ≤ k ∧ k < w.heap.size := fun k hk => ⟨(h.2.lt k hk).1, (h.2.lt k hk).2⟩

theorem LkAt.below {w w' : World} {F : Nat} {v : Value} {L : List (List UInt8)} (h : LkAt w F v L) (hb : Below w.heap.size w w') : LkAt w' F v L :=
  ⟨(hb.block F h.lt).trans h.1, h.2.kept (row := none) ⟨hb.os, hb.tape, hb.output, hb.size, fun k hk _ => hb.block k hk⟩ (by cases v.ownBlock <;> simp)⟩

theorem LkAt.cells {w : World} {F : Nat} {v : Value} {L : List (List UInt8)} (h : LkAt w F v L) : w.cell? ⟨F, 0, none⟩ = some v ∧ w.frozen? ⟨F, 0, none⟩ = false := by
  simp [World.cell?, World.frozen?, h.1]

def LkPost (w : World) (F : Nat) (v : Value) (L : List (List UInt8)) (e : Ending) (w' : World) : Prop :=
  e = .returned (.tuple #[]) ∧ ∃ v', LkAt w' F v' L ∧ LkSt w.heap.size v v' ∧ LkFr w w' F v

theorem lk_store {w w1 w2 : World} {F : Nat} {v v' : Value} {L L' : List (List UInt8)} (h : LkAt w F v L) (hw : Below w.heap.size w w1) (hg : w1.grownBy w2 v.ownBlock) (ho : w2.ownsRow (F + 1) 9 1 v' L'.length (strV L')) (hs : v'.ownBlock = v.ownBlock ∨ v'.ownBlock = some w1.heap.size) :
    LkPost w F v L' (.returned (.tuple #[])) (w2.setCell ⟨F, 0, none⟩ v') := by
  have hF := h.lt
  have hvF : v.ownBlock ≠ some F := fun e => by have := (h.2.lt F e).1; omega
  have hvF' : v'.ownBlock ≠ some F := fun e => by have := (ho.lt F e).1; omega
  have hb2 : w2.heap[F]? = some (.cells #[v] 25 (0, 0)) := by
    rw [hg.block F (Nat.lt_of_lt_of_le hF hw.size) (fun e => hvF e.symm), hw.block F hF, h.1]
  refine ⟨rfl, v', ⟨?_, ?_⟩, ?_, ?_⟩
  · simp [World.setCell, Array.getElem?_modify, hb2]
  · refine ho.kept (row := some F) ⟨rfl, rfl, rfl, by simp [World.setCell], fun k hk hne => ?_⟩ (.inr fun e => hvF' e)
    have : ¬ F = k := fun e => hne (by rw [e])
    simp [World.setCell, Array.getElem?_modify, this]
  · rcases hs with hs | hs
    · exact .inl hs
    · exact .inr fun k hk => by rw [hs] at hk; injection hk with hk; have := hw.size; omega
  · refine ⟨hg.os.trans hw.os, hg.tape.trans hw.tape, hg.output.trans hw.output, ?_, fun k hk hkF hv => ?_⟩
    · have h1 := hw.size
      have h2 := hg.size
      simp [World.setCell]; omega
    · have : ¬ F = k := fun e => hkF e.symm
      have e1 : (w2.setCell ⟨F, 0, none⟩ v').heap[k]? = w2.heap[k]? := by simp [World.setCell, Array.getElem?_modify, this]
      rw [e1, hg.block k (Nat.lt_of_lt_of_le hk hw.size) (fun e => hv e.symm), hw.block k hk]

theorem lk_mid {w w1 w2 : World} {F : Nat} {v : Value} {L : List (List UInt8)} (h : LkAt w F v L) (hw : Below w.heap.size w w1) (hg : w1.grownBy w2 v.ownBlock) : w2.cell? ⟨F, 0, none⟩ = some v ∧ w2.frozen? ⟨F, 0, none⟩ = false := by
  have hF := h.lt
  have hvF : v.ownBlock ≠ some F := fun e => by have := (h.2.lt F e).1; omega
  have hb2 : w2.heap[F]? = some (.cells #[v] 25 (0, 0)) := by
    rw [hg.block F (Nat.lt_of_lt_of_le hF hw.size) (fun e => hvF e.symm), hw.block F hF, h.1]
  simp [World.cell?, World.frozen?, hb2]

theorem blk2 {W : World} {g : Nat} {t : TypeId} {fz : Nat × Nat} {a0 a1 : Value} (h : W.heap[g]? = some (.cells #[a0, a1] t fz)) :
    W.cell? ⟨g, 0, none⟩ = some a0 ∧ W.cell? ⟨g, 1, none⟩ = some a1 := by
  simp [World.cell?, h]

set_option maxRecDepth 100000 in
set_option maxHeartbeats 800000 in
theorem spLook_leaf (F : Nat) (u : List UInt8) (L : List (List UInt8)) (hL : L.length + 1 ≤ 1000000) (w : World) (v : Value) (hF : LkAt w F v L) :
    Calls Try.prog 103 #[bv ⟨0, 0⟩, .string (ofL u), .pointer (some ⟨F, 0, none⟩)] w (LkPost w F v (L ++ [u])) := by
  obtain ⟨i0, hi, iz0, iz1, iz2⟩ := info_parts srInfo
  have hzF := hF.lt
  have HFA := Lib.hid hF
  have hB : Below w.heap.size w (w.alloc (.cells #[.int .i64 0, .int .i64 0] 40)) := Below.alloc (Below.refl _ _) (Nat.le_refl _) _
  have hFw := hF.below hB
  obtain ⟨f0, f1⟩ := hFw.cells
  obtain ⟨U, hU⟩ : ∃ U, ofL u = U := ⟨_, rfl⟩
  have HU := Lib.hid hU
  rw [hU]
  have HO := Lib.hid (hFw.2.alloc (.cells #[.string U] 9))
  have hnews := cell_one_new (w.alloc (.cells #[.int .i64 0, .int .i64 0] 40)) (.string U) 9
  have HB2 := Lib.hid (hB.alloc hB.size (.cells #[.string U] 9))
  have e1 : (w.alloc (.cells #[.int .i64 0, .int .i64 0] 40)).heap.size = w.heap.size + 1 := by simp
  rw [e1] at hnews
  clear hF hFw hB hU e1
  go_enter Try.func103, Try.ntmps103
  go_wp2_with (at_builtin; refine wpList_append_own_at _ rfl _ _ 25 rfl (F + 1) 9 i0 (.string ByteArray.empty) 1 16 Try.underlying25 hi iz0 iz1 iz2 rfl (by decide) v _ _ rfl HO.out ⟨w.heap.size + 1, 0, none⟩ 1 1 [.string U] rfl rfl hnews (by intro u hu; simp at hu; subst hu; rfl) (by unfold maxLen; omega) (by omega) (by simp; omega) ?_; intro v' w2 hown' hgrow hnil hloc; obtain ⟨av', cv', rfl⟩ := own_formC hown'; obtain ⟨k1, k2⟩ := lk_mid HFA.out HB2.out hgrow)
  have HP := Lib.hid (lk_store (L' := L ++ [u]) HFA.out HB2.out hgrow (by rw [strV_append, List.length_append]; simp only [strV, List.map_cons, List.map_nil, HU.out]; exact hown') (hloc.imp id fun h => by rw [h]))
  go_returns
  exact HP.out

theorem lk_concat (u : List UInt8) (c : UInt8) (h : u.length ≤ 900000) (w : World) : (Op.stringOp .add (ofL u) ⟨#[c]⟩).run Try.prog w = .ok (.string (ofL (u ++ [c]))) w :=
  concat_run (ofL_snoc u c) (by rw [ofL_size]; show _ + 1 ≤ _; omega) w

/-- What the search answers for every box of n pieces. -/
def LkAll (F n : Nat) : Prop := ∀ (s c : Nat), s + c = n → ∀ (u : List UInt8), u.length + n ≤ 1000 → ∀ (L : List (List UInt8)), L.length + 3 ^ n ≤ 1000000 → ∀ (w : World) (v : Value), LkAt w F v L →
  Calls Try.prog 103 #[bv ⟨(s : Nat), (c : Nat)⟩, .string (ofL u), .pointer (some ⟨F, 0, none⟩)] w (LkPost w F v (L ++ bxL s c u))

theorem bxL_le (s c : Nat) (u : List UInt8) : (bxL s c u).length ≤ 3 ^ (s + c) := by rw [bxL, List.length_map]; exact bxW_le s c

theorem lk_own_ne {w : World} {F k : Nat} {v : Value} {L : List (List UInt8)} (h : LkAt w F v L) (hk : w.heap.size ≤ k) : k ≠ F ∧ v.ownBlock ≠ some k := ⟨by have := h.lt; omega, fun e => by have := (h.own k e).2; omega⟩

set_option maxRecDepth 100000 in
set_option maxHeartbeats 1600000 in
theorem spLook_S (F s n : Nat) (hn : s + 1 = n + 1) (ih : LkAll F n) (u : List UInt8) (hu : u.length + (n + 1) ≤ 1000) (L : List (List UInt8)) (hL : L.length + 3 ^ (n + 1) ≤ 1000000) (w : World) (v : Value) (hF : LkAt w F v L) :
    Calls Try.prog 103 #[bv ⟨((s + 1 : Nat) : Int), 0⟩, .string (ofL u), .pointer (some ⟨F, 0, none⟩)] w (LkPost w F v (L ++ bxL (s + 1) 0 u)) := by
  rw [Nat.pow_succ] at hL
  rw [bxL_S]
  obtain ⟨m, hm⟩ : ∃ m : Nat, s + 1 = m := ⟨_, rfl⟩
  have P0 : ∀ (w : World) (v : Value), LkAt w F v L → Calls Try.prog 103 #[bv ⟨(s : Int), 0⟩, .string (ofL (u ++ [83])), .pointer (some ⟨F, 0, none⟩)] w (LkPost w F v (L ++ bxL s 0 (u ++ [83]))) := fun w v h => ih s 0 (by omega) (u ++ [83]) (by rw [List.length_append]; simp; omega) L (by have := Nat.pow_pos (n := n) (show 0 < 3 by decide); omega) w v h
  have P := Lib.hid P0
  clear P0
  have k1 := lk_concat u 83 (by omega)
  generalize bxL s 0 (u ++ [83]) = R at *
  generalize ofL (u ++ [83]) = U at *
  generalize ofL u = V at *
  have e1 : (m : Int) - 1 = (s : Int) := by omega
  have ew1 : wrap64 ((s : Int)) = (s : Int) := IntWalk.wrap64_in _ ⟨by omega, by omega⟩
  have e2 : ¬ (m : Int) = 0 := by omega
  have ew : wrap64 (m : Int) = (m : Int) := IntWalk.wrap64_in _ ⟨by omega, by omega⟩
  have e3 : (0 : Int) < (m : Int) := by omega
  have HF := Lib.hid hF
  rw [hm]
  clear ih hF hu hL hm hn
  go_enter Try.func103, Try.ntmps103
  go_wp2_with fail
  have hB : Below w.heap.size w (w.alloc (.cells #[.int .i64 (m : Int), .int .i64 0] 40)) := Below.alloc (Below.refl _ _) (Nat.le_refl _) _
  (with_reducible refine Calls.mono (P.out _ v (HF.out.below hB)) ?_)
  rintro e w1 ⟨rfl, v1, hA, hs, hf⟩
  have HP := Lib.hid (show LkPost w F v (L ++ R) (.returned (.tuple #[])) w1 from ⟨rfl, v1, hA, hs.mono hB.size, (LkFr.of_below hB).trans hf (.refl _ _)⟩)
  clear hA hs hf hB
  go_wp2_with fail
  refine ⟨rfl, .tuple #[], by first | rfl | (simp [results, Try.results103, go_sem]; done), ?_⟩
  exact HP.out

theorem LkFr.blk {w w' : World} {F k : Nat} {v : Value} {o : Obj} (h : LkFr w w' F v) (hk : w.heap[k]? = some o) (h1 : k ≠ F) (h2 : v.ownBlock ≠ some k) : w'.heap[k]? = some o := (h.block k (Array.getElem?_eq_some_iff.1 hk).1 h1 h2).trans hk

theorem LkSt.ne {m k : Nat} {v v' : Value} (h : LkSt m v v') (hk : k < m) (h2 : v.ownBlock ≠ some k) : v'.ownBlock ≠ some k := fun e => by
  rcases h with h | h
  · exact h2 (h ▸ e)
  · have := h k e; omega

set_option maxRecDepth 100000 in
set_option maxHeartbeats 1600000 in
theorem spLook_C (F c n : Nat) (hn : c + 1 = n + 1) (ih : LkAll F n) (u : List UInt8) (hu : u.length + (n + 1) ≤ 1000) (L : List (List UInt8)) (hL : L.length + 3 ^ (n + 1) ≤ 1000000) (w : World) (v : Value) (hF : LkAt w F v L) :
    Calls Try.prog 103 #[bv ⟨0, ((c + 1 : Nat) : Int)⟩, .string (ofL u), .pointer (some ⟨F, 0, none⟩)] w (LkPost w F v (L ++ bxL 0 (c + 1) u)) := by
  rw [Nat.pow_succ] at hL
  rw [bxL_C]
  obtain ⟨m, hm⟩ : ∃ m : Nat, c + 1 = m := ⟨_, rfl⟩
  have hp3 := Nat.pow_pos (n := n) (show 0 < 3 by decide)
  have hl1 := bxL_le 0 c (u ++ [76])
  rw [show 0 + c = n by omega] at hl1
  have P0 : ∀ (w : World) (v : Value), LkAt w F v L → Calls Try.prog 103 #[bv ⟨0, (c : Int)⟩, .string (ofL (u ++ [76])), .pointer (some ⟨F, 0, none⟩)] w (LkPost w F v (L ++ bxL 0 c (u ++ [76]))) := fun w v h => ih 0 c (by omega) (u ++ [76]) (by rw [List.length_append]; simp; omega) L (by omega) w v h
  have Q0 : ∀ (w : World) (v : Value), LkAt w F v (L ++ bxL 0 c (u ++ [76])) → Calls Try.prog 103 #[bv ⟨0, (c : Int)⟩, .string (ofL (u ++ [82])), .pointer (some ⟨F, 0, none⟩)] w (LkPost w F v (L ++ bxL 0 c (u ++ [76]) ++ bxL 0 c (u ++ [82]))) := fun w v h => ih 0 c (by omega) (u ++ [82]) (by rw [List.length_append]; simp; omega) _ (by rw [List.length_append]; omega) w v h
  have P := Lib.hid P0
  have Q := Lib.hid Q0
  clear P0 Q0 hl1
  have k1 := lk_concat u 76 (by omega)
  have k2 := lk_concat u 82 (by omega)
  rw [← List.append_assoc]
  generalize L ++ bxL 0 c (u ++ [76]) = R1 at *
  generalize R1 ++ bxL 0 c (u ++ [82]) = R2 at *
  generalize ofL (u ++ [76]) = U1 at *
  generalize ofL (u ++ [82]) = U2 at *
  generalize ofL u = V at *
  have e1 : (m : Int) - 1 = (c : Int) := by omega
  have ew1 : wrap64 ((c : Int)) = (c : Int) := IntWalk.wrap64_in _ ⟨by omega, by omega⟩
  have e2 : ¬ (m : Int) = 0 := by omega
  have ew : wrap64 (m : Int) = (m : Int) := IntWalk.wrap64_in _ ⟨by omega, by omega⟩
  have e3 : (0 : Int) < (m : Int) := by omega
  have HF := Lib.hid hF
  rw [hm]
  clear ih hF hu hL hm hn
  go_enter Try.func103, Try.ntmps103
  go_wp2_with fail
  have hz : (w.alloc (.cells #[.int .i64 0, .int .i64 (m : Int)] 40)).heap.size = w.heap.size + 1 := by simp
  have hB : Below w.heap.size w ((w.alloc (.cells #[.int .i64 0, .int .i64 (m : Int)] 40)).alloc (.cells #[.int .i64 0, .int .i64 (c : Int)] 40)) := (Below.alloc (Below.refl _ _) (Nat.le_refl _) _).alloc (by simp) _
  have b0 : ((w.alloc (.cells #[.int .i64 0, .int .i64 (m : Int)] 40)).alloc (.cells #[.int .i64 0, .int .i64 (c : Int)] 40)).heap[w.heap.size]? = some (.cells #[.int .i64 0, .int .i64 (m : Int)] 40 (0, 0)) := (Below.heap_alloc _ _ _ (by simp)).trans (heap_alloc_new _ _)
  have b1 : ((w.alloc (.cells #[.int .i64 0, .int .i64 (m : Int)] 40)).alloc (.cells #[.int .i64 0, .int .i64 (c : Int)] 40)).heap[w.heap.size + 1]? = some (.cells #[.int .i64 0, .int .i64 (c : Int)] 40 (0, 0)) := by rw [← hz]; exact heap_alloc_new _ _
  have hA0 := HF.out.below hB
  obtain ⟨n0, n0'⟩ := lk_own_ne HF.out (Nat.le_refl w.heap.size)
  obtain ⟨n1, n1'⟩ := lk_own_ne HF.out (Nat.le_succ w.heap.size)
  (with_reducible refine Calls.mono (P.out _ v hA0) ?_)
  rintro e w1 ⟨rfl, v1, hA1, hs1, hf1⟩
  have hz1 := hf1.size
  simp only [World.size_alloc] at hz1
  have d0 := hf1.blk b0 n0 n0'
  have d1 := hf1.blk b1 n1 n1'
  obtain ⟨c0, c1⟩ := blk2 d0
  obtain ⟨c2, c3⟩ := blk2 d1
  have HS1 := Lib.hid (hs1.mono hB.size)
  have HS1' := Lib.hid (And.intro (hs1.ne (k := w.heap.size) (by simp; omega) n0') (hs1.ne (k := w.heap.size + 1) (by simp) n1'))
  have HF1 := Lib.hid ((LkFr.of_below (F := F) (v := v) hB).trans hf1 (.refl _ _))
  have HA1 := Lib.hid hA1
  have HD := Lib.hid (And.intro d0 d1)
  have HN := Lib.hid (And.intro n0 n1)
  clear hA0 hA1 hs1 hf1 d0 d1 b0 b1 hB hz n0 n1 n0' n1'
  go_wp2_with fail
  (with_reducible refine Calls.mono (Q.out _ v1 HA1.out) ?_)
  rintro e w2 ⟨rfl, v2, hA2, hs2, hf2⟩
  have e0 := hf2.blk HD.out.1 HN.out.1 HS1'.out.1
  obtain ⟨g0, g1⟩ := blk2 e0
  have HP := Lib.hid (show LkPost w F v R2 (.returned (.tuple #[])) w2 from ⟨rfl, v2, hA2, HS1.out.trans hs2 (by omega), HF1.out.trans hf2 HS1.out⟩)
  clear hA2 hs2 hf2 e0 c0 c1 c2 c3
  go_wp2_with fail
  refine ⟨rfl, .tuple #[], by first | rfl | (simp [results, Try.results103, go_sem]; done), ?_⟩
  exact HP.out

set_option maxRecDepth 100000 in
set_option maxHeartbeats 1600000 in
theorem spLook_B (F s c n : Nat) (hn : (s + 1) + (c + 1) = n + 1) (ih : LkAll F n) (u : List UInt8) (hu : u.length + (n + 1) ≤ 1000) (L : List (List UInt8)) (hL : L.length + 3 ^ (n + 1) ≤ 1000000) (w : World) (v : Value) (hF : LkAt w F v L) :
    Calls Try.prog 103 #[bv ⟨((s + 1 : Nat) : Int), ((c + 1 : Nat) : Int)⟩, .string (ofL u), .pointer (some ⟨F, 0, none⟩)] w (LkPost w F v (L ++ bxL (s + 1) (c + 1) u)) := by
  rw [Nat.pow_succ] at hL
  rw [bxL_B]
  obtain ⟨m, hm⟩ : ∃ m : Nat, c + 1 = m := ⟨_, rfl⟩
  obtain ⟨q, hq⟩ : ∃ q : Nat, s + 1 = q := ⟨_, rfl⟩
  have hp3 := Nat.pow_pos (n := n) (show 0 < 3 by decide)
  have hl1 := bxL_le (s + 1) c (u ++ [76])
  rw [show s + 1 + c = n by omega] at hl1
  have hl2 := bxL_le (s + 1) c (u ++ [82])
  rw [show s + 1 + c = n by omega] at hl2
  have P0 : ∀ (w : World) (v : Value), LkAt w F v L → Calls Try.prog 103 #[bv ⟨(q : Int), (c : Int)⟩, .string (ofL (u ++ [76])), .pointer (some ⟨F, 0, none⟩)] w (LkPost w F v (L ++ bxL (s + 1) c (u ++ [76]))) := fun w v h => by
    rw [← hq]
    exact ih (s + 1) c (by omega) (u ++ [76]) (by rw [List.length_append]; simp; omega) L (by omega) w v h
  have Q0 : ∀ (w : World) (v : Value), LkAt w F v (L ++ bxL (s + 1) c (u ++ [76])) → Calls Try.prog 103 #[bv ⟨(q : Int), (c : Int)⟩, .string (ofL (u ++ [82])), .pointer (some ⟨F, 0, none⟩)] w (LkPost w F v (L ++ bxL (s + 1) c (u ++ [76]) ++ bxL (s + 1) c (u ++ [82]))) := fun w v h => by
    rw [← hq]
    exact ih (s + 1) c (by omega) (u ++ [82]) (by rw [List.length_append]; simp; omega) _ (by rw [List.length_append]; omega) w v h
  have S0 : ∀ (w : World) (v : Value), LkAt w F v (L ++ bxL (s + 1) c (u ++ [76]) ++ bxL (s + 1) c (u ++ [82])) → Calls Try.prog 103 #[bv ⟨(s : Int), (m : Int)⟩, .string (ofL (u ++ [83])), .pointer (some ⟨F, 0, none⟩)] w (LkPost w F v (L ++ bxL (s + 1) c (u ++ [76]) ++ bxL (s + 1) c (u ++ [82]) ++ bxL s (c + 1) (u ++ [83]))) := fun w v h => by
    rw [← hm]
    exact ih s (c + 1) (by omega) (u ++ [83]) (by rw [List.length_append]; simp; omega) _ (by rw [List.length_append, List.length_append]; omega) w v h
  have S := Lib.hid S0
  have P := Lib.hid P0
  have Q := Lib.hid Q0
  clear P0 Q0 S0 hl1 hl2 hL hp3
  have k1 := lk_concat u 76 (by omega)
  have k2 := lk_concat u 82 (by omega)
  have k3 := lk_concat u 83 (by omega)
  rw [← List.append_assoc, ← List.append_assoc]
  generalize L ++ bxL (s + 1) c (u ++ [76]) = R1 at *
  generalize R1 ++ bxL (s + 1) c (u ++ [82]) = R2 at *
  generalize R2 ++ bxL s (c + 1) (u ++ [83]) = R3 at *
  rw [hm, hq]
  generalize ofL (u ++ [83]) = U3 at *
  generalize ofL (u ++ [76]) = U1 at *
  generalize ofL (u ++ [82]) = U2 at *
  generalize ofL u = V at *
  have e1 : (m : Int) - 1 = (c : Int) := by omega
  have f1 : (q : Int) - 1 = (s : Int) := by omega
  have fw1 : wrap64 ((s : Int)) = (s : Int) := IntWalk.wrap64_in _ ⟨by omega, by omega⟩
  have ew1 : wrap64 ((c : Int)) = (c : Int) := IntWalk.wrap64_in _ ⟨by omega, by omega⟩
  have e2 : ¬ (q : Int) + (m : Int) = 0 := by omega
  have ew : wrap64 ((q : Int) + (m : Int)) = (q : Int) + (m : Int) := IntWalk.wrap64_in _ ⟨by omega, by omega⟩
  have f3 : (0 : Int) < (q : Int) := by omega
  have e3 : (0 : Int) < (m : Int) := by omega
  have HF := Lib.hid hF
  clear ih hF hu hn
  go_enter Try.func103, Try.ntmps103
  go_wp2_with fail
  have hz : (w.alloc (.cells #[.int .i64 (q : Int), .int .i64 (m : Int)] 40)).heap.size = w.heap.size + 1 := by simp
  have hB : Below w.heap.size w ((w.alloc (.cells #[.int .i64 (q : Int), .int .i64 (m : Int)] 40)).alloc (.cells #[.int .i64 (q : Int), .int .i64 (c : Int)] 40)) := (Below.alloc (Below.refl _ _) (Nat.le_refl _) _).alloc (by simp) _
  have b0 : ((w.alloc (.cells #[.int .i64 (q : Int), .int .i64 (m : Int)] 40)).alloc (.cells #[.int .i64 (q : Int), .int .i64 (c : Int)] 40)).heap[w.heap.size]? = some (.cells #[.int .i64 (q : Int), .int .i64 (m : Int)] 40 (0, 0)) := (Below.heap_alloc _ _ _ (by simp)).trans (heap_alloc_new _ _)
  have b1 : ((w.alloc (.cells #[.int .i64 (q : Int), .int .i64 (m : Int)] 40)).alloc (.cells #[.int .i64 (q : Int), .int .i64 (c : Int)] 40)).heap[w.heap.size + 1]? = some (.cells #[.int .i64 (q : Int), .int .i64 (c : Int)] 40 (0, 0)) := by rw [← hz]; exact heap_alloc_new _ _
  have hA0 := HF.out.below hB
  obtain ⟨n0, n0'⟩ := lk_own_ne HF.out (Nat.le_refl w.heap.size)
  obtain ⟨n1, n1'⟩ := lk_own_ne HF.out (Nat.le_succ w.heap.size)
  (with_reducible refine Calls.mono (P.out _ v hA0) ?_)
  rintro e w1 ⟨rfl, v1, hA1, hs1, hf1⟩
  have hz1 := hf1.size
  simp only [World.size_alloc] at hz1
  have d0 := hf1.blk b0 n0 n0'
  have d1 := hf1.blk b1 n1 n1'
  obtain ⟨c0, c1⟩ := blk2 d0
  obtain ⟨c2, c3⟩ := blk2 d1
  have HS1 := Lib.hid (hs1.mono hB.size)
  have HS1' := Lib.hid (And.intro (hs1.ne (k := w.heap.size) (by simp; omega) n0') (hs1.ne (k := w.heap.size + 1) (by simp) n1'))
  have HF1 := Lib.hid ((LkFr.of_below (F := F) (v := v) hB).trans hf1 (.refl _ _))
  have HA1 := Lib.hid hA1
  have HD := Lib.hid (And.intro d0 d1)
  have HN := Lib.hid (And.intro n0 n1)
  clear hA0 hA1 hs1 hf1 d0 d1 b0 b1 hB hz n0 n1 n0' n1'
  go_wp2_with fail
  (with_reducible refine Calls.mono (Q.out _ v1 HA1.out) ?_)
  rintro e w2 ⟨rfl, v2, hA2, hs2, hf2⟩
  have e0 := hf2.blk HD.out.1 HN.out.1 HS1'.out.1
  obtain ⟨g0, g1⟩ := blk2 e0
  have HS2 := Lib.hid (HS1.out.trans hs2 (by omega))
  have HF2 := Lib.hid (HF1.out.trans hf2 HS1.out)
  have HA2 := Lib.hid hA2
  clear hA2 hs2 hf2 e0 c0 c1 c2 c3
  go_wp2_with fail
  (with_reducible refine Calls.mono (S.out _ v2 HA2.out) ?_)
  rintro e w3 ⟨rfl, v3, hA3, hs3, hf3⟩
  have hz3 := HF2.out.size
  have HP := Lib.hid (show LkPost w F v R3 (.returned (.tuple #[])) w3 from ⟨rfl, v3, hA3, HS2.out.trans hs3 (by omega), HF2.out.trans hf3 HS2.out⟩)
  clear hA3 hs3 hf3 g0 g1
  go_wp2_with fail
  refine ⟨rfl, .tuple #[], by first | rfl | (simp [results, Try.results103, go_sem]; done), ?_⟩
  exact HP.out

theorem spLook_all (F : Nat) : ∀ n, LkAll F n
  | 0 => fun s c h u hu L hL w v hA => by
    obtain rfl : s = 0 := by omega
    obtain rfl : c = 0 := by omega
    rw [bxL_zero]
    exact spLook_leaf F u L (by omega) w v hA
  | n + 1 => fun s c h u hu L hL w v hA => by
    have ih := spLook_all F n
    match s, c, h with
    | 0, c + 1, h => exact spLook_C F c n (by omega) ih u hu L hL w v hA
    | s + 1, 0, h => exact spLook_S F s n (by omega) ih u hu L hL w v hA
    | s + 1, c + 1, h => exact spLook_B F s c n (by omega) ih u hu L hL w v hA

def AllPost (s c : Nat) (w : World) (e : Ending) (w' : World) : Prop :=
  ∃ v, e = .returned v ∧ w'.ownsRow w.heap.size 9 1 v (bxW s c).length (strV (bxW s c)) ∧ Below w.heap.size w w'

set_option maxRecDepth 100000 in
theorem spAll_any (s c : Nat) (h : s + c ≤ 12) (w : World) : Calls Try.prog 64 #[bv ⟨(s : Int), (c : Int)⟩] w (AllPost s c w) := by
  have hb : ∀ w0 : World, LkAt (w0.alloc (.cells #[.slice none 0 0] 25)) w0.heap.size (.slice none 0 0) [] := fun w0 => ⟨heap_alloc_new _ _, World.ownsRow_nil _ _ _ _⟩
  have P0 : ∀ (w : World) (F : Nat) (v : Value), LkAt w F v [] → Calls Try.prog 103 #[bv ⟨(s : Int), (c : Int)⟩, .string ⟨#[]⟩, .pointer (some ⟨F, 0, none⟩)] w (LkPost w F v (bxW s c)) := fun w F v hA => by
    have := spLook_all F (s + c) s c rfl [] (by simp; omega) [] (by have := Nat.pow_le_pow_right (show 0 < 3 by decide) h; simp; omega) w v hA
    rw [bxW_nil, List.nil_append] at this
    exact this
  have P := Lib.hid P0
  have HB := Lib.hid hb
  clear P0 hb
  unfold AllPost
  generalize bxW s c = R at *
  go_enter Try.func64, Try.ntmps64
  go_wp2_with fail
  have hA := HB.out (w.alloc (.cells #[.int .i64 (s : Int), .int .i64 (c : Int)] 40))
  have hz : (w.alloc (.cells #[.int .i64 (s : Int), .int .i64 (c : Int)] 40)).heap.size = w.heap.size + 1 := by simp
  rw [hz] at hA
  (with_reducible refine Calls.mono (P.out _ _ _ hA) ?_)
  rintro e w1 ⟨rfl, v1, hA1, hs1, hf1⟩
  obtain ⟨c0, c1⟩ := hA1.cells
  have hBB : Below w.heap.size w ((w.alloc (.cells #[.int .i64 (s : Int), .int .i64 (c : Int)] 40)).alloc (.cells #[.slice none 0 0] 25)) := (Below.alloc (Below.refl _ _) (Nat.le_refl _) _).alloc (by simp) _
  have HBB := Lib.hid (hBB.trans (hf1.below (by omega) (fun k hk => by cases hk) hBB.size))
  have HO := Lib.hid (own_lessP hA1.2 (show w.heap.size ≤ w.heap.size + 1 + 1 by omega))
  obtain ⟨av, cv, rfl⟩ := own_formC hA1.2
  clear hA hA1 hs1 hf1 hBB
  go_wp2_with fail
  go_ret
  exact ⟨_, rfl, HO.out, HBB.out⟩

end Go.Proofs.Ythiimllafcfieaa

/- Contracts: whether a text is a ring. -/
namespace Go.Proofs.Ythiimllafcfieaa
open Go.ChangeShapes Go.WideShapes Go.ChangeAt Go.RowKit

set_option maxRecDepth 100000 in
set_option maxHeartbeats 800000 in
theorem csRing_any (s : ByteArray) (hs : s.size ≤ 1048576) (w : World) :
    Calls Try.prog 65 #[.string s] w fun e w' => e = .returned (.bool (clB s)) ∧ Below w.heap.size w w' := by
  cases ht : tkB s
  · have R := Lib.hid (clB_no ht)
    go_enter Try.func65, Try.ntmps65
    go_wp2_with (go_at_call 94; refine (tkGood_any s hs _).mono ?_; rintro e w' ⟨rfl, rfl⟩)
    go_ret
    exact ⟨by rw [R.out]; rfl, by go_grown⟩
  · have hc := tkEnd_yes s ht
    have hR := clB_yes ht
    unfold zS zP at hR
    generalize enS s = p at hR hc
    obtain ⟨x0, x1, x2, x3, x4⟩ := p
    simp only at hR
    have HC := Lib.hid hc
    clear hc
    by_cases h0 : s.size = 0
    · have R := Lib.hid hR
      have he : s.toList = [] := by rw [ByteArray.toList_eq]; exact List.eq_nil_of_length_eq_zero (by rw [size_list]; exact h0)
      clear hR
      go_enter Try.func65, Try.ntmps65
      go_wp2_with (go_at_call 94; refine (tkGood_any s hs _).mono ?_; rintro e w' ⟨rfl, rfl⟩)
      go_ret
      exact ⟨by rw [R.out]; simp [h0], by go_grown⟩
    · have hp : 0 < s.size := by omega
      have he : ¬ s.toList = [] := fun h => h0 (by rw [ByteArray.toList_eq] at h; rw [← size_list, h]; rfl)
      have hi : s.toList.isEmpty = false := by cases hl : s.toList with
        | nil => exact absurd hl he
        | cons a l => rfl
      cases hq : (x0 == 0 && (x1 == 0 && (x2 == 0 && x3 == 0)))
      all_goals
        rw [hq] at hR
        have R := Lib.hid hR
        clear hR
        go_enter Try.func65, Try.ntmps65
        go_wp2_with (first | (go_at_call 94; refine (tkGood_any s hs _).mono ?_; rintro e w' ⟨rfl, rfl⟩) | (go_at_call 75; (with_reducible refine (HC.out _).mono ?_); rintro e wA ⟨rfl, h1⟩; (try with_reducible replace h1 := undrew h1); have hB : Below w.heap.size w wA := ba (by go_grown) h1; obtain ⟨hcwA, hfwA⟩ := bcell h1; have hqwA := h1.size; (try simp at hqwA); ))
        go_ret
        exact ⟨by rw [R.out]; simp [hp], by go_grown⟩

end Go.Proofs.Ythiimllafcfieaa

/- A region that draws its order: loads and calls that leave what was there as it was, walked once in the order of the text; behind them operations that wait for all (a store of the result, an alloc), one after another. -/
namespace Go.Proofs.Ythiimllafcfieaa
open Go.ChangeShapes Go.WideShapes Go.ChangeAt Go.RowKit Go.Sort

section
variable {P : Program} {ops : Array Oper} {md : Region.Mode} {C : World → Prop}

/-- Of the head's operations f are still to come, in whatever order; behind them L. -/
def headQ (P : Program) (md : Region.Mode) (ops : Array Oper) (C : World → Prop) (n : Nat) (L : Array Bool → Act → Prop) : Nat → Array Bool → Act → Prop
  | 0, listed, a => L listed a
  | f + 1, listed, a => Region.ready md ops listed ≠ [] ∧ ∀ i ∈ Region.ready md ops listed, i < n ∧ qOp P ops C i (headQ P md ops C n L f (listed.setIfInBounds i true)) a

theorem any_of_headQ {n g : Nat} {L : Array Bool → Act → Prop} {Q' : Exit → Act → World → Prop} (hL : ∀ listed a w, C w → L listed a → wpAny P md ops Q' g listed a w) (f : Nat) :
    ∀ (listed : Array Bool) (a : Act) (w : World), C w → headQ P md ops C n L f listed a → wpAny P md ops Q' (f + g) listed a w := by
  induction f with
  | zero => intro listed a w hw h; rw [Nat.zero_add]; exact hL _ _ _ hw h
  | succ f ih =>
    intro listed a w hw h
    rw [Nat.add_right_comm]
    exact ⟨fun h0 => absurd h0 h.1, fun i hi => wpOp_of_qOp hw (fun a' w' hw' h' => ih _ a' w' hw' h') (h.2 i hi).2⟩

theorem headQ_first {n i : Nat} {oi : Oper} {v : Value} {L : Array Bool → Act → Prop} (hi : ops[i]? = some oi) (hsel : ∀ (j : Nat) (o : Oper) cs b, ops[j]? = some o → o.op ≠ .select cs b)
    (hs : Region.sinkB md ops n = true) (hc : Region.chainB md ops n = true) (hn : n < ops.size) (hin : i < n)
    (hdone : ∀ listed a, L listed a → ∀ j ∈ Region.ready md ops listed, n ≤ j) (f : Nat) :
    ∀ (listed : Array Bool) (a : Act), HeadInv md ops n listed →
      (∀ j oj, ops[j]? = some oj → j ≠ i → listed.getD j true = false → (∀ e ∈ oj.after, Region.binds md e = true → e.on ≠ i) → oi.apart ops oj = true) →
      i ∈ Region.ready md ops listed → YieldsIn P ops C oi v a →
      headQ P md ops C n L f (listed.setIfInBounds i true) (a.put oi.dst v) → headQ P md ops C n L (f + 1) listed a := by
  induction f with
  | zero =>
    intro listed a inv _ hr hy H
    have hun := (mem_ready.1 hr).1
    refine ⟨List.ne_nil_of_mem hr, fun j hj => ?_⟩
    have hjn : j < n := by
      by_cases h : j < n
      · exact h
      · exact absurd hj (tail_waits hs hc hn inv _ i rfl hin hun j (Nat.le_of_not_lt h))
    by_cases hji : j = i
    · subst hji; exact ⟨hjn, hy.qOp hi H⟩
    · have := hdone _ _ H j (ready_mono hj hji)
      omega
  | succ f ih =>
    intro listed a inv hfree hr hy H
    have hun := (mem_ready.1 hr).1
    refine ⟨List.ne_nil_of_mem hr, fun j hj => ?_⟩
    have hjn : j < n := by
      by_cases h : j < n
      · exact h
      · exact absurd hj (tail_waits hs hc hn inv _ i rfl hin hun j (Nat.le_of_not_lt h))
    by_cases hji : j = i
    · subst hji; exact ⟨hjn, hy.qOp hi H⟩
    · obtain ⟨hjun, oj, hoj, hall⟩ := mem_ready.1 hj
      have hnot : ∀ e ∈ oj.after, Region.binds md e = true → e.on ≠ i := fun e he hb heq => by
        have h1 := hall e he hb
        rw [heq, getD_both hun] at h1
        cases h1
      have h2 := qOp_put hoj (hfree j oj hoj hji hjun hnot) (fun cs b => hsel i oi cs b hi) (fun cs b => hsel j oj cs b hoj) hy (H.2 j (ready_mono hj hji)).2
      refine ⟨hjn, qOp_mono (fun a' h3 => ih (listed.setIfInBounds j true) a' (inv.set hj hjn) (fun k ok hk hki hunk hno => ?_) (ready_mono hr (Ne.symm hji)) h3.1 ?_) h2⟩
      · refine hfree k ok hk hki ?_ hno
        by_cases hjk : j = k
        · subst hjk; exact hjun
        · rw [getD_set_ne true hjk] at hunk; exact hunk
      · rw [Array.setIfInBounds_comm _ _ hji]
        exact h3.2

theorem headQ_lex {n g : Nat} {Lq : Act → Prop} (hsel : Region.noSelect ops = true) (hs : Region.sinkB md ops n = true) (hc : Region.chainB md ops n = true) (hn : n < ops.size) (l : List Oper) :
    ∀ (k : Nat) (listed : Array Bool) (a : Act), (∀ j, j < l.length → l[j]? = ops[k + j]?) → k + l.length = n → HeadInv md ops n listed →
    Region.lexHead md ops g l.length k listed = true → wpQuiet P ops C Lq l a →
    headQ P md ops C n (fun listed' a' => Region.seqB md ops g n listed' = true ∧ Lq a') l.length listed a := by
  induction l with
  | nil =>
    intro k listed a _ hk _ hB h
    have : k = n := by simpa using hk
    subst this
    exact ⟨by simpa [Region.lexHead] using hB, h⟩
  | cons o l ih =>
    intro k listed a hl hk inv hB h
    simp only [List.length_cons] at hk
    have h0 : ops[k]? = some o := by simpa using (hl 0 (by simp)).symm
    simp only [List.length_cons, Region.lexHead, Bool.and_eq_true] at hB
    obtain ⟨⟨hr, hf⟩, hB'⟩ := hB
    have hr' : k ∈ Region.ready md ops listed := by simpa using hr
    have hq : qOp P ops C k (wpQuiet P ops C Lq l) a := by unfold qOp; simp only [h0]; exact h
    obtain ⟨v, hy, hK⟩ := yieldsIn_of_qOp h0 hq
    refine headQ_first h0 (Region.noSelect_spec hsel) hs hc hn (by omega) (fun _ _ hL => seqB_ready hL.1) l.length listed a inv (Region.free_spec h0 hf) hr' hy (ih (k + 1) _ _ (fun j hj => ?_) (by omega) (inv.set hr' (by omega)) hB' hK)
    have := hl (j + 1) (by simp; omega)
    simpa [Nat.add_assoc, Nat.add_comm 1 j] using this

/-- The head once, in the order of the text, every operation quiet in the class; behind it the tail, from every world of the class. -/
theorem region_quiet_tail {id : Nat} {Q : Exit → Act → World → Prop} {a : Act} {w : World} {l : List Oper} (n : Nat) (hm : P.follows .mixedOrders = true) (hB : Region.lexTailB .any l.toArray n = true) (hC : C w.drew)
    (h : wpQuiet P l.toArray C (fun a' => ∀ w', C w' → wpList P l.toArray Q (l.drop n) a' w') (l.take n) a) : (Code.region id l.toArray true).wp P Q a w := by
  simp only [Region.lexTailB, Bool.and_eq_true, decide_eq_true_eq] at hB
  obtain ⟨⟨⟨⟨hsel, hn⟩, hs⟩, hc⟩, hlex⟩ := hB
  have hn' : n < l.length := by simpa using hn
  have htl : (l.take n).length = n := by simp; omega
  have hdl : (l.drop n).length = l.toArray.size - n := by simp
  have H := headQ_lex (C := C) (md := .any) (g := l.toArray.size - n) hsel hs hc hn (l.take n) 0 (Array.replicate l.toArray.size false) a (fun j hj => by
    rw [htl] at hj; simp [hj]) (by simpa using htl)
    ⟨by simp, fun j oj _ hl => (by rw [getD_replicate_false] at hl; cases hl), fun t _ ht => getD_in (by simpa using ht) (getD_replicate_false _ _)⟩ (by rw [htl]; exact hlex) h
  refine wp_region_any hm ?_
  have := any_of_headQ (Q' := Q) (g := l.toArray.size - n) (fun listed a' w' hw' hL => by
    have := wpAny_of_seq (md := .any) (Q' := Q) (l.drop n) n listed a' w' (fun j => by simp [List.getElem?_drop]) (by rw [hdl]; exact hL.1) (hL.2 w' hw')
    rwa [hdl] at this) _ _ _ _ hC H
  rw [htl, show n + (l.toArray.size - n) = l.toArray.size by omega] at this
  exact this
end

/-- The class: what was there is as it was; how often the tape was asked, and what was made behind, is left open. -/
theorem region_below_tail {P : Program} {id : Nat} {Q : Exit → Act → World → Prop} {a : Act} {w : World} {l : List Oper} (n : Nat) (hm : P.follows .mixedOrders = true) (hB : Region.lexTailB .any l.toArray n = true)
    (h : wpQuiet P l.toArray (fun w' => ∃ p : Regrown, w' = grow (redrawn w p.d) p.os) (fun a' => ∀ w', (∃ p : Regrown, w' = grow (redrawn w p.d) p.os) → wpList P l.toArray Q (l.drop n) a' w') (l.take n) a) : (Code.region id l.toArray true).wp P Q a w :=
  region_quiet_tail n hm hB ⟨⟨w.drawn + 1, #[]⟩, by rw [grow_empty]; rfl⟩ h

end Go.Proofs.Ythiimllafcfieaa

/- The world at hand behind a letter; calls that leave the world alone, in regions that draw. -/
namespace Go.Proofs.Ythiimllafcfieaa
open Go.ChangeShapes Go.WideShapes Go.ChangeAt Go.RowKit Go.Sort

theorem absWB {F : World → Prop} {P : Program} {c : Code} {Q : Exit → Act → World → Prop} {a : Act} {W : World} (hF : F W) (h : ∀ W, F W → c.wp P Q a W) : c.wp P Q a W := h W hF

theorem absEB {F : World → Prop} {K : Act → World → Prop} {Q : Exit → Act → World → Prop} {a : Act} {W : World} (hF : F W) (h : ∀ W, F W → Exit.then K Q .normal a W) : Exit.then K Q .normal a W := h W hF

theorem same_regrownB {P : Program} {f : FuncId} {args : Array Value} {w : World} {d : Nat} {os : Array Obj} {v : Value}
    (h : Calls P f args (grow (redrawn w d) os) fun e w' => e = .returned v ∧ grow (redrawn w d) os = w') : Calls P f args (grow (redrawn w d) os) fun e w'' => e = .returned v ∧ ∃ p : Regrown, w'' = grow (redrawn w p.d) p.os :=
  h.mono fun _ _ ⟨he, hb⟩ => ⟨he, ⟨d, os⟩, hb.symm⟩

end Go.Proofs.Ythiimllafcfieaa

/- Contracts: what is laid from a box, what is missing, sums and prices of boxes, in the model and in the program. -/
namespace Go.Proofs.Ythiimllafcfieaa
open Go.ChangeShapes Go.WideShapes Go.ChangeAt Go.RowKit Go.Sort

set_option linter.unusedVariables false
set_option linter.unusedSimpArgs false

def boxOfX (s : ByteArray) : Int := cond (tkB s) (stN s : Int) 0

def boxOfR (s : ByteArray) : Int := cond (tkB s) (cvN s : Int) 0

/-- A box and a track, both good. -/
def btG (b : Bq) (s : ByteArray) : Bool := bxB 40 b && tkB s

def clR (b : Bq) (s : ByteArray) : Bool := btG b s && (decide ((stN s : Int) ≤ b.x) && decide ((cvN s : Int) ≤ b.r))

def msR (b : Bq) (s : ByteArray) : Bq := cond (btG b s) ⟨max 0 ((stN s : Int) - b.x), max 0 ((cvN s : Int) - b.r)⟩ ⟨0, 0⟩

theorem btG_no1 {b : Bq} (h : bxB 40 b = false) (s : ByteArray) : btG b s = false := by simp [btG, h]

theorem btG_no2 (b : Bq) {s : ByteArray} (h : tkB s = false) : btG b s = false := by simp [btG, h]

theorem btG_yes {b : Bq} {s : ByteArray} (h : bxB 40 b = true) (k : tkB s = true) : btG b s = true := by simp [btG, h, k]

theorem most_le {a b c d : Int} : ((max a c == a) && (max b d == b)) = (decide (c ≤ a) && decide (d ≤ b)) := by
  rw [Bool.eq_iff_iff]; simp; omega

set_option maxRecDepth 100000 in
theorem l1Most_any (a b : Int) (w : World) : Calls Try.prog 63 #[.int .i64 a, .int .i64 b] w fun e w' => e = .returned (.int .i64 (max a b)) ∧ w = w' := by
  by_cases h : b < a
  · rw [show max a b = a by omega]
    go_enter Try.func63, Try.ntmps63
    go_wp2_with fail
    all_goals go_ret
    all_goals exact ⟨by first | rfl | (congr 2; omega), rfl⟩
  · rw [show max a b = b by omega]
    go_enter Try.func63, Try.ntmps63
    go_wp2_with fail
    all_goals go_ret
    all_goals exact ⟨by first | rfl | (congr 2; omega), rfl⟩

set_option maxRecDepth 100000 in
theorem covers_any (a b : Bq) (w : World) : Calls Try.prog 69 #[bv a, bv b] w fun e w' => e = .returned (.bool (decide (b.x ≤ a.x) && decide (b.r ≤ a.r))) ∧ Below w.heap.size w w' := by
  have P := Lib.hid (most_any a b)
  rw [← most_le]
  generalize max a.x b.x = m at *
  generalize max a.r b.r = n at *
  go_enter Try.func69, Try.ntmps69
  go_wp2_with fail
  refine absWB (F := fun W => (W.cell? ⟨w.heap.size, 0, none⟩ = some (.int .i64 (a).x) ∧ W.cell? ⟨w.heap.size, 1, none⟩ = some (.int .i64 (a).r)) ∧ (W.cell? ⟨w.heap.size + 1, 0, none⟩ = some (.int .i64 (b).x) ∧ W.cell? ⟨w.heap.size + 1, 1, none⟩ = some (.int .i64 (b).r)) ∧ Below w.heap.size w W ∧ W.heap.size = w.heap.size + 1 + 1) ⟨⟨by go_simp, by go_simp⟩, ⟨by go_simp, by go_simp⟩, by go_grown, by first | (simp; done) | (simp; omega)⟩ ?_
  rintro W ⟨⟨c0_0, c0_1⟩, ⟨c1_0, c1_1⟩, HB, hz⟩
  have k0_0 := fun d os => cell_regrown c0_0 d os
  have k0_1 := fun d os => cell_regrown c0_1 d os
  have k1_0 := fun d os => cell_regrown c1_0 d os
  have k1_1 := fun d os => cell_regrown c1_1 d os
  refine wp_region_quiet_below (by kernel_rfl) (by kernel_rfl) ?_
  repeat (quiet_step (first | (go_at_call 104; with_reducible exact Calls.regrown_of (P.out _))))
  refine wpQuiet_nil ?_
  rintro _ ⟨⟨dq, osq⟩, rfl⟩
  have hbw1 := below_regrown W dq osq
  generalize grow (redrawn W dq) osq = w1 at hbw1 ⊢
  obtain ⟨hcw1, hfw1⟩ := bcell hbw1
  have hlw1 := hbw1.size
  replace HB := ba HB hbw1
  go_wp2_with fail
  go_returns
  exact ⟨rfl, by go_grown⟩

/-- The boxes' sum, if there is one. -/
def adG (a b : Bq) : Bool := bxB 40 a && bxB 40 b && bxB 40 ⟨a.x + b.x, a.r + b.r⟩

def adR (a b : Bq) : Bq := cond (adG a b) ⟨a.x + b.x, a.r + b.r⟩ ⟨0, 0⟩

theorem wrSum {a b : Int} (h : 0 ≤ a ∧ a ≤ 1000) (k : 0 ≤ b ∧ b ≤ 1000) : wrap64 (a + b) = a + b := IntWalk.wrap64_in _ ⟨by omega, by omega⟩

def prG (b : Bq) (s c : Int) : Bool := bxB 40 b && (inB s 0 1000 && inB c 0 1000)

def prR (b : Bq) (s c : Int) : Int := cond (prG b s c) (b.x * s + b.r * c) 0

theorem pr_bd {x s : Int} (hx : 0 ≤ x) (hx2 : x ≤ 40) (hs : 0 ≤ s) (hs2 : s ≤ 1000) : 0 ≤ x * s ∧ x * s ≤ 40000 :=
  ⟨Int.mul_nonneg hx hs, Int.le_trans (Int.mul_le_mul hx2 hs2 hs (by decide)) (by decide)⟩

theorem price_any (b : Bq) (s c : Int) (hb : bxB 40 b = true) (hs : inB s 0 1000 = true) (hc : inB c 0 1000 = true) (w : World) : Calls Try.prog 87 #[bv b, .int .i64 s, .int .i64 c] w fun e w' => e = .returned (.int .i64 (b.x * s + b.r * c)) ∧ Below w.heap.size w w' := by
  obtain ⟨b0, b1, b2⟩ := bxB_yes hb
  have hs' : 0 ≤ s ∧ s ≤ 1000 := by simpa [inB] using hs
  have hc' : 0 ≤ c ∧ c ≤ 1000 := by simpa [inB] using hc
  obtain ⟨x, r⟩ := b
  simp only at b0 b1 b2 ⊢
  obtain ⟨p0, p1⟩ := pr_bd b0 (by omega) hs'.1 hs'.2
  obtain ⟨q0, q1⟩ := pr_bd b1 (by omega) hc'.1 hc'.2
  have e0 : wrap64 (x * s) = x * s := IntWalk.wrap64_in _ ⟨by omega, by omega⟩
  have e1 : wrap64 (r * c) = r * c := IntWalk.wrap64_in _ ⟨by omega, by omega⟩
  have e2 : wrap64 (x * s + r * c) = x * s + r * c := IntWalk.wrap64_in _ ⟨by omega, by omega⟩
  clear hb hs hc
  go_enter Try.func87, Try.ntmps87
  go_wp2_with fail
  go_returns
  exact ⟨rfl, by go_grown⟩

theorem spPrices_any (s c : Int) (w : World) : Calls Try.prog 83 #[.int .i64 s, .int .i64 c] w fun e w' => e = .returned (.bool (inB s 0 1000 && inB c 0 1000)) ∧ w = w' := by
  cases h0 : inB s 0 1000
  all_goals
    go_enter Try.func83, Try.ntmps83
    go_wp2_with (go_at_call 52; refine (l1In_any _ _ _ _).mono ?_; rintro e w' ⟨rfl, rfl⟩)
    go_ret
    exact ⟨rfl, rfl⟩

theorem arePrices_any (s c : Int) (w : World) : Calls Try.prog 84 #[.int .i64 s, .int .i64 c] w fun e w' => e = .returned (.bool (inB s 0 1000 && inB c 0 1000)) ∧ w = w' := by
  cases h0 : inB s 0 1000
  all_goals
    go_enter Try.func84, Try.ntmps84
    go_wp2_with (go_at_call 50; refine (isInRange_any _ _ _ _).mono ?_; rintro e w' ⟨rfl, rfl⟩)
    go_ret
    exact ⟨rfl, rfl⟩

end Go.Proofs.Ythiimllafcfieaa

/- Contracts: how many tracks are laid whole from a box, in the model and in the program. -/
namespace Go.Proofs.Ythiimllafcfieaa
open Go.ChangeShapes Go.WideShapes Go.ChangeAt Go.RowKit

set_option linter.unusedVariables false
set_option linter.unusedSimpArgs false

def ctG (b : Bq) : Bool := bxB 12 b

def ctR (b : Bq) : Int := cond (ctG b) ((ctP b.x.toNat b.r.toNat b.r.toNat : Nat) : Int) 0

theorem w64N (n : Nat) (h : n ≤ 1000000000) : wrap64 (n : Int) = (n : Int) := IntWalk.wrap64_in _ ⟨by omega, by omega⟩

theorem tdivN (P K : Nat) : (P : Int).tdiv (K : Int) = ((P / K : Nat) : Int) := by rw [Int.tdiv_eq_ediv_of_nonneg (by omega), Int.natCast_ediv]

theorem ctM_succ (s c k : Nat) : ctM s c (k + 1) = ctM s c k * (c + (k + 1)) / (k + 1) := rfl

theorem ctP_succ (s c k : Nat) : ctP s c (k + 1) = 2 * ctP s c k * (s + (k + 1)) / (k + 1) := rfl

set_option maxRecDepth 100000 in
theorem spSmB_any (b : Bq) (m : Int) (hm : m ≤ 40) (w : World) : Calls Try.prog 62 #[bv b, .int .i64 m] w fun e w' => e = .returned (.bool (bxB m b)) ∧ Below w.heap.size w w' := by
  have PB := Lib.hid (spBox_any b)
  cases hb : bxB 40 b
  · have e : bxB m b = false := by
      rw [← Bool.not_eq_true] at hb ⊢
      intro h
      apply hb
      simp [bxB, inB] at h ⊢
      omega
    rw [hb] at PB
    rw [e]
    clear hb e
    go_enter Try.func62, Try.ntmps62
    go_wp2_with (go_at_call 102; refine (PB.out _).mono ?_; rintro e w1 ⟨rfl, h1⟩; have hB : Below w.heap.size w w1 := ba (by go_grown) h1; obtain ⟨hc1, hf1⟩ := bcell h1; have hq := h1.size; (try simp at hq); have hz0 : w.heap.size < w1.heap.size := (by omega); have HK1 := Lib.hid h1; clear h1 hq)
    go_returns
    exact ⟨rfl, by go_grown⟩
  · obtain ⟨b0, b1, b2⟩ := bxB_yes hb
    have e : bxB m b = decide (b.x + b.r ≤ m) := by
      rw [Bool.eq_iff_iff]
      simp [bxB, inB]
      omega
    rw [hb] at PB
    rw [e]
    obtain ⟨x, r⟩ := b
    simp only at b0 b1 b2 ⊢
    have e0 := wrSum (a := x) (b := r) (by omega) (by omega)
    clear hb e
    cases hc : decide (x + r ≤ m)
    all_goals
      go_enter Try.func62, Try.ntmps62
      go_wp2_with (go_at_call 102; (with_reducible refine (PB.out _).mono ?_); rintro e wA ⟨rfl, h1⟩; (try with_reducible replace h1 := undrew h1); have hB : Below w.heap.size w wA := ba (by go_grown) h1; obtain ⟨hcwA, hfwA⟩ := bcell h1; have hqwA := h1.size; (try simp at hqwA); (try have hz0wA : w.heap.size < wA.heap.size := (by omega)); (try have he0wA : w.heap.size ≤ wA.heap.size := (by omega)))
      go_returns
      exact ⟨by first | rfl | simp_all | (simp; omega), by go_grown⟩

end Go.Proofs.Ythiimllafcfieaa

/- Contracts of the model: how many rings are laid whole from a box, and the boxes of n pieces that have one. -/
namespace Go.Proofs.Ythiimllafcfieaa
open Go.ChangeShapes Go.WideShapes Go.ChangeAt Go.RowKit

set_option linter.unusedVariables false
set_option linter.unusedSimpArgs false

theorem ltr_pcb {c : UInt8} (h : c ∈ ltr) : pcb c = true := by
  simp only [ltr, List.mem_cons, List.not_mem_nil, or_false] at h
  rcases h with rfl | rfl | rfl <;> rfl

theorem tkB_ltr {l : List UInt8} (h1 : l.length ≤ 40) (h2 : ∀ c ∈ l, c ∈ ltr) : tkB (ofL l) = true := by
  have e : (ofL l).data.toList = l := by simp [ofL]
  simp only [tkB, Bool.and_eq_true, decide_eq_true_eq, ofL_size, e]
  exact ⟨h1, List.all_eq_true.2 fun c hc => ltr_pcb (h2 c hc)⟩

theorem clB_rgb {w : List UInt8} (h1 : w.length ≤ 40) (h2 : ∀ c ∈ w, c ∈ ltr) : clB (ofL w) = rgb w := by
  have ht := tkB_ltr h1 h2
  have e : (ofL w).data.toList = w := by simp [ofL]
  rw [clB_yes ht, rgb, ofL_size]
  congr 1
  unfold zS zP
  rw [enS_yes ht, e]
  simp only [spE, sp0]

theorem bxW_tk {s c : Nat} (h : s + c ≤ 40) {w : List UInt8} (hw : w ∈ bxW s c) : tkB (ofL w) = true ∧ clB (ofL w) = rgb w ∧ w.length = s + c := by
  have h1 := bxW_iff.1 hw
  exact ⟨tkB_ltr (by omega) h1.1.2, clB_rgb (by omega) h1.1.2, h1.1.1⟩

/-- The first j of them that are rings. -/
def rgU (R : List (List UInt8)) (j : Nat) : List (List UInt8) := (R.take j).filter rgb

theorem rgU_end (R : List (List UInt8)) : rgU R R.length = R.filter rgb := by rw [rgU, List.take_length]

theorem rgU_next {R : List (List UInt8)} {j : Nat} {r : List UInt8} (h : R[j]? = some r) : rgU R (j + 1) = if rgb r then rgU R j ++ [r] else rgU R j := by
  simp only [rgU, List.take_add_one, h, Option.toList_some, List.filter_append, List.filter_cons, List.filter_nil]
  split <;> simp

theorem rgU_le (R : List (List UInt8)) (j : Nat) : (rgU R j).length ≤ j := Nat.le_trans (List.length_filter_le _ _) (List.length_take_le _ _)

set_option maxRecDepth 100000 in
set_option maxHeartbeats 800000 in
theorem spRings_any (s c : Nat) (h : s + c ≤ 12) (w : World) : Calls Try.prog 107 #[bv ⟨(s : Int), (c : Int)⟩] w fun e w' => e = .returned (.int .i64 ((bxR s c).length : Nat)) ∧ Below w.heap.size w w' := by
  have P := Lib.hid (spAll_any s c h)
  have hlen : (bxW s c).length ≤ 531441 := Nat.le_trans (bxW_le s c) (Nat.pow_le_pow_right (by decide) h)
  have hE : (rgU (bxW s c) (bxW s c).length).length = (bxR s c).length := by rw [rgU_end]; rfl
  have htk : ∀ r ∈ bxW s c, tkB (ofL r) = true ∧ clB (ofL r) = rgb r ∧ r.length = s + c := fun r hr => bxW_tk (by omega) hr
  unfold AllPost at P
  generalize bxW s c = R at *
  generalize bxR s c = RR at *
  obtain ⟨N, hN⟩ : ∃ N, R.length = N := ⟨_, rfl⟩
  have HN := Lib.hid hN
  have HTK := Lib.hid htk
  rw [hN] at hlen hE
  have HE := Lib.hid hE
  clear hN hE htk
  go_enter Try.func107, Try.ntmps107
  go_wp2_with fail
  (with_reducible refine Calls.mono (P.out _) ?_)
  rintro e w1 ⟨v, rfl, hO, hb1⟩
  rw [HN.out] at hO
  obtain ⟨av, cv, rfl⟩ := own_formC hO
  have HO := Lib.hid hO
  have HB1 := Lib.hid (ba (by go_grown) hb1 : Below w.heap.size w w1)
  clear hb1 hO
  go_wp2_with fail
  go_loopw [3, 9] (fun t i wr => ∃ j : Nat, j ≤ N ∧ i = .int .i64 j ∧ t = .int .i64 ((rgU R j).length : Nat) ∧ Below w1.heap.size w1 wr) (fun _ i _ => N - (intOf i).toNat)
  case atStart => exact ⟨0, Nat.zero_le _, rfl, by simp [rgU], Below.refl _ _⟩
  case round =>
    obtain ⟨j, hj, rfl, rfl, hb⟩ := hrel
    have hle := rgU_le R j
    have HB := Lib.hid hb
    by_cases hlt : j < N
    · obtain ⟨r, hr⟩ : ∃ r, R[j]? = some r := ⟨_, List.getElem?_eq_getElem (by rw [HN.out]; exact hlt)⟩
      obtain ⟨h1, h2, h3⟩ := HTK.out r (List.mem_of_getElem? hr)
      obtain ⟨g, rfl⟩ : ∃ g, av = some ⟨g, 0, none⟩ := by
        rcases HO.out.2 with ⟨h, h0⟩ | ⟨g, cap, _, h, _⟩
        · omega
        · injection h with h; exact ⟨g, h⟩
      have c0 := (str_of HO.out HN.out).below (HO.out.lt g rfl).2 hb j r hr
      have CR := Lib.hid (csRing_any (ofL r) (by rw [ofL_size]; omega))
      rw [h2] at CR
      have HNX := Lib.hid (rgU_next hr)
      cases hq : rgb r
      all_goals
        rw [hq] at CR HNX
        have HQ := Lib.hid hq
        have hBw : Below w.heap.size w wr := HB1.out.trans (hb.mono HB1.out.size)
        clear hb hr h1 h2 hq
        go_wp2_with fail
        (go_at_call 65; (with_reducible refine (CR.out _).mono ?_); rintro e wA ⟨rfl, h1⟩; (try with_reducible replace h1 := undrew h1); have hB : Below w.heap.size w wA := ba (by go_grown) h1; obtain ⟨hcwA, hfwA⟩ := bcell h1; have hqwA := h1.size; (try simp at hqwA); )
        have HB2 := Lib.hid (HB.out.trans (h1.mono HB.out.size))
        clear h1 hcwA hfwA c0 hBw hB
        go_wp2_with fail
        go_roundw
        case rel => exact ⟨j + 1, by omega, by go_num, by rw [HNX.out]; first | rfl | (simp; done) | (simp; go_num), HB2.out⟩
        case measure => simp [intOf]; omega
    · obtain rfl : j = N := by omega
      rw [HE.out]
      have HB2 := Lib.hid (HB1.out.trans (hb.mono HB1.out.size))
      clear hb
      go_wp2_with fail
      go_ret
      exact ⟨rfl, HB2.out⟩

/-- Boxes, one behind the other. -/
def bxC (b : Bq) : List Value := [.int .i64 b.x, .int .i64 b.r]

def bxCells (l : List Bq) : List Value := l.flatMap bxC

theorem bxCells_append (l m : List Bq) : bxCells (l ++ m) = bxCells l ++ bxCells m := by simp [bxCells]

def BoxAt (w : World) (g : Nat) (l : List Bq) : Prop := ∀ (j : Nat) (b : Bq), l[j]? = some b → w.cell? ⟨g, j * 2, none⟩ = some (.int .i64 b.x) ∧ w.cell? ⟨g, j * 2 + 1, none⟩ = some (.int .i64 b.r)

theorem BoxAt.below {w w' : World} {g m : Nat} {l : List Bq} (h : BoxAt w g l) (hg : g < m) (hb : Below m w w') : BoxAt w' g l := fun j b hj => by
  obtain ⟨a, c⟩ := h j b hj
  rw [hb.cell (p := ⟨g, j * 2, none⟩) hg, hb.cell (p := ⟨g, j * 2 + 1, none⟩) hg]
  exact ⟨a, c⟩

theorem box_of {W : World} {B n g cap : Nat} {e : TypeId} {l : List Bq} (h : W.ownsRow B e 2 (.slice (some ⟨g, 0, none⟩) n cap) n (bxCells l)) (hn : l.length = n) : BoxAt W g l := by
  intro i p hp
  have hi : i < n := by rw [← hn]; exact (List.getElem?_eq_some_iff.1 hp).1
  have a := fun j (hj : j < 2) => (h.cellAt (i * 2 + j) (by omega)).trans ((by rw [Nat.mul_comm]) : _ = (bxCells l)[2 * i + j]?) |>.trans (flat_at bxC 2 (fun _ => rfl) l i p hp j hj)
  exact ⟨a 0 (by omega), a 1 (by omega)⟩

theorem bxInfo : (Try.prog.info? 40).map (fun i => (i.zero, i.size, i.bytes)) = some (some (.agg #[.int .i64 0, .int .i64 0]), 2, 16) := by kernel_rfl

/-- The boxes of n pieces from which a ring is laid whole, of fewer than k straights. -/
def rbQ (n k : Nat) : List Bq := (rbL n k).map fun (s : Nat) => ⟨(s : Int), ((n - s : Nat) : Int)⟩

theorem rbQ_zero (n : Nat) : rbQ n 0 = [] := rfl

theorem rbQ_succ (n k : Nat) : rbQ n (k + 1) = if hasR n k then rbQ n k ++ [⟨(k : Int), ((n - k : Nat) : Int)⟩] else rbQ n k := by
  rw [rbQ, rbL_succ]
  split <;> simp [rbQ]

theorem rbQ_le (n k : Nat) : (rbQ n k).length ≤ k := by rw [rbQ, List.length_map]; exact rbL_le n k

def BoxPost (l : List Bq) (w : World) (e : Ending) (w' : World) : Prop :=
  ∃ v, e = .returned v ∧ w'.ownsRow w.heap.size 40 2 v l.length (bxCells l) ∧ Below w.heap.size w w'

set_option maxRecDepth 100000 in
set_option maxHeartbeats 800000 in
theorem spRingBoxes_any (n : Nat) (hn : n ≤ 12) (w : World) : Calls Try.prog 74 #[.int .i64 (n : Nat)] w (BoxPost (rbQ n (n + 1)) w) := by
  obtain ⟨i0, hi, iz0, iz1, iz2⟩ := info_parts bxInfo
  go_enter Try.func74, Try.ntmps74
  go_wp2_with fail
  go_loopw [3, 4] (fun t i wr => ∃ (j : Nat) (v : Value), j ≤ n + 1 ∧ i = .int .i64 j ∧ v = t ∧ wr.ownsRow w.heap.size 40 2 v (rbQ n j).length (bxCells (rbQ n j)) ∧ Below w.heap.size w wr) (fun _ i _ => n + 1 - (intOf i).toNat)
  case atStart => exact ⟨0, _, Nat.zero_le _, rfl, rfl, World.ownsRow_nil _ _ _ _, Below.refl _ _⟩
  case round =>
    obtain ⟨j, v, hj, rfl, rfl, hO, hb⟩ := hrel
    have hz : w.heap.size ≤ wr.heap.size := hb.size
    have hle := rbQ_le n j
    have HO := Lib.hid hO
    have HB := Lib.hid hb
    obtain ⟨wi, rfl⟩ : ∃ wi : World, wi = wr := ⟨_, rfl⟩
    by_cases hlt : j < n + 1
    · have hjn : j ≤ n := by omega
      have hji : (j : Int) ≤ (n : Int) := by omega
      obtain ⟨d, hd⟩ : ∃ d : Nat, n - j = d := ⟨_, rfl⟩
      have hnj : (n : Int) - (j : Int) = (d : Int) := by omega
      have hwd : wrap64 (d : Int) = (d : Int) := w64N d (by omega)
      have hS := rbQ_succ n j
      have PR := Lib.hid (spRings_any j d (by omega))
      have hq : hasR n j = decide (0 < (bxR j d).length) := by rw [hasR, hd]
      have hrl := Nat.le_trans (bxR_le j d) (Nat.pow_le_pow_right (show 0 < 3 by decide) (show j + d ≤ 12 by omega))
      rw [hd] at hS
      generalize (bxR j d).length = L at *
      generalize hA : rbQ n j = A at *
      have HA := Lib.hid hA
      by_cases h0 : 0 < L
      · rw [hq, decide_eq_true h0] at hS
        have HS := Lib.hid hS
        have h0i : (0 : Int) < (L : Int) := by omega
        clear hO hS hA hq hrl hd
        go_wp2_with fail
        (go_at_call 107; (with_reducible refine (PR.out _).mono ?_); rintro e wA ⟨rfl, h1⟩; (try with_reducible replace h1 := undrew h1); have hB : Below w.heap.size w wA := ba (by go_grown) h1; obtain ⟨hcwA, hfwA⟩ := bcell h1; have hqwA := h1.size; (try simp at hqwA); (try have hz0wA : wi.heap.size < wA.heap.size := (by omega)); (try have he0wA : wi.heap.size ≤ wA.heap.size := (by omega)))
        have hbA : Below w.heap.size w wA := (HB.out.alloc hz (.cells #[.int .i64 (j : Int), .int .i64 (d : Int)] 40)).trans (h1.mono (by simp; omega))
        have HOA := Lib.hid (((HO.out.alloc (.cells #[.int .i64 (j : Int), .int .i64 (d : Int)] 40)).kept (below_grown h1) (by cases v.ownBlock <;> simp)).alloc (.cells #[.int .i64 (j : Int), .int .i64 (d : Int)] 40))
        have hzA := hbA.size
        have HBA := Lib.hid (hbA.alloc hzA (.cells #[.int .i64 (j : Int), .int .i64 (d : Int)] 40))
        have hnews := World.news_of_block (heap_alloc_new wA (.cells #[.int .i64 (j : Int), .int .i64 (d : Int)] 40))
        clear h1 hbA hb hB
        go_wp2_with (at_builtin; refine wpList_append_own_at _ rfl _ _ 43 rfl w.heap.size 40 i0 (.agg #[.int .i64 0, .int .i64 0]) 2 16 Try.underlying43 hi iz0 iz1 iz2 rfl (by decide) v _ _ rfl HOA.out ⟨wA.heap.size, 0, none⟩ 1 1 [.int .i64 (j : Int), .int .i64 (d : Int)] rfl rfl hnews (by intro u hu; simp at hu; rcases hu with rfl | rfl <;> rfl) (by unfold maxLen; omega) (by omega) (by simp; omega) ?_; intro v' w4 hown' hgrow hnil hloc)
        have hlt' := HOA.out.lt
        have HB8 := Lib.hid (HBA.out.grown hgrow (by simp; omega) (fun k hk => (hlt' k hk).1))
        have HO8 := Lib.hid hown'
        clear hlt' hgrow hown' hnil hloc hnews
        go_roundw
        case rel => exact ⟨j + 1, v', by omega, by go_num, rfl, by rw [HS.out]; simp only [if_true, bxCells_append, List.length_append]; exact HO8.out, HB8.out⟩
        case measure => simp [intOf]; omega
      · rw [hq, decide_eq_false h0] at hS
        have HS := Lib.hid hS
        obtain rfl : L = 0 := by omega
        clear hO hS hA hq hrl hd
        go_wp2_with fail
        (go_at_call 107; (with_reducible refine (PR.out _).mono ?_); rintro e wA ⟨rfl, h1⟩; (try with_reducible replace h1 := undrew h1); have hB : Below w.heap.size w wA := ba (by go_grown) h1; obtain ⟨hcwA, hfwA⟩ := bcell h1; have hqwA := h1.size; (try simp at hqwA); (try have hz0wA : wi.heap.size < wA.heap.size := (by omega)); (try have he0wA : wi.heap.size ≤ wA.heap.size := (by omega)))
        have HBA := Lib.hid ((HB.out.alloc hz (.cells #[.int .i64 (j : Int), .int .i64 (d : Int)] 40)).trans (h1.mono (by simp; omega)))
        have HOA := Lib.hid ((HO.out.alloc (.cells #[.int .i64 (j : Int), .int .i64 (d : Int)] 40)).kept (below_grown h1) (by cases v.ownBlock <;> simp))
        clear h1 hb hB
        go_wp2_with fail
        go_roundw
        case rel => exact ⟨j + 1, v, by omega, by go_num, rfl, by rw [HS.out]; exact HOA.out, HBA.out⟩
        case measure => simp [intOf]; omega
    · obtain rfl : j = n + 1 := by omega
      have hji : ¬ ((n + 1 : Nat) : Int) ≤ (n : Int) := by omega
      clear hO hb
      go_wp2_with fail
      go_ret
      exact ⟨_, rfl, HO.out, HB.out⟩

end Go.Proofs.Ythiimllafcfieaa

/- A label to which the run jumps ahead: a scope at whose end the label stands. -/
namespace Go.Proofs.Ythiimllafcfieaa

section
variable {P : Program} {a : Act} {w : World} {Q : Exit → Act → World → Prop} {l : Nat} {J : Act → World → Prop}
@[go_sem] theorem jump_normal : Exit.jump l J Q .normal a w = Q .normal a w := rfl

@[go_sem] theorem jump_exit (id : Nat) : Exit.jump l J Q (.exit id) a w = Q (.exit id) a w := rfl

@[go_sem] theorem jump_ret : Exit.jump l J Q .ret a w = Q .ret a w := rfl

@[go_sem] theorem jump_goto (l' : Nat) : Exit.jump l J Q (.goto l') a w = (l' = l ∧ J a w) := rfl

/-- The label stands at the scope's end: who jumps to it, goes on behind the scope. -/
theorem wp_scope_ahead {c : Code} (l : Nat) (hf : findLabel c l = some Code.skip) (first : c.wp P (Exit.jump l (fun a w => Q .normal a w) Q) a w) : (Code.scope c).wp P Q a w :=
  wp_scope_jumps l (fun a w => Q .normal a w) (fun _ _ => 0) hf first fun _ _ h => wp_skip h
end

end Go.Proofs.Ythiimllafcfieaa

/- Contracts: boxes of n pieces from which a ring is laid whole, in the model and in the program. -/
namespace Go.Proofs.Ythiimllafcfieaa
open Go.ChangeShapes Go.WideShapes Go.ChangeAt Go.RowKit Go.Sort

set_option linter.unusedVariables false
set_option linter.unusedSimpArgs false

/-- A list of boxes, perhaps none, and whether there is one. -/
def BXPost (l : List Bq) (b : Bool) (w : World) (e : Ending) (w' : World) : Prop :=
  ∃ v, e = .returned (.tuple #[v, .bool b]) ∧ w'.ownsRow w.heap.size 40 2 v l.length (bxCells l) ∧ Below w.heap.size w w'

theorem bxNo {w w' : World} (h : Below w.heap.size w w') : BXPost [] false w (.returned (.tuple #[.slice none 0 0, .bool false])) w' := ⟨_, rfl, World.ownsRow_nil _ _ _ _, h⟩

def rbG (n : Int) : Bool := inB n 1 12

def rbR (n : Int) : List Bq := cond (rbG n) (rbQ n.toNat (n.toNat + 1)) []

theorem rb_num {n : Int} (h : rbG n = true) : ∃ m : Nat, n = m ∧ 0 < m ∧ m ≤ 12 := by
  have g1 : 1 ≤ n ∧ n ≤ 12 := by simpa [rbG, inB] using h
  exact ⟨n.toNat, by omega, by omega, by omega⟩

theorem rbR_le (n : Int) : (rbR n).length ≤ 13 := by
  cases h : rbG n
  · simp [rbR, h]
  · obtain ⟨m, rfl, _, hm⟩ := rb_num h
    rw [rbR, h, Int.toNat_natCast]
    exact Nat.le_trans (rbQ_le m (m + 1)) (by omega)

theorem cls_ok {n : Nat} (hn : n ≤ 40) {r : List UInt8} (h : r ∈ clsL sp0 n) : tkB (ofL r) = true ∧ stN (ofL r) = cnt 83 r ∧ cvN (ofL r) = n - cnt 83 r ∧ cnt 83 r ≤ n := by
  have h1 := cls_iffB.1 h
  have e : (ofL r).data.toList = r := by simp [ofL]
  have := cnt_le 83 r
  refine ⟨tkB_ltr (by omega) h1.1.2, by rw [stN, e], by rw [cvN, e, ofL_size, h1.1.1], by omega⟩

theorem clsB_le {n : Nat} (hn : n ≤ 12) : (clsL sp0 n).length ≤ 531441 := by
  refine Nat.le_trans (List.length_filter_le _ _) ?_
  rw [words_count]
  exact Nat.pow_le_pow_right (by decide) hn

theorem fits_iff {n a k : Nat} (ha : a ≤ n) (hk : k ≤ n) : (((a : Int) == (k : Int)) && (((n - a : Nat) : Int) == ((n - k : Nat) : Int))) = decide (a = k) := by
  rw [Bool.eq_iff_iff]
  simp
  omega

set_option maxRecDepth 100000 in
theorem spRingBoxes (n : Int) (w : World) : Calls Try.prog 35 #[.int .i64 n] w (BXPost (rbR n) (rbG n) w) := by
  unfold rbR
  cases h : rbG n
  · have h1 : inB n 1 12 = false := h
    go_enter Try.func35, Try.ntmps35
    go_wp2_with (go_at_call 52; refine (l1In_any _ _ _ _).mono ?_; rintro e w' ⟨rfl, rfl⟩)
    go_ret2
    exact bxNo (by go_grown)
  · have h1 : inB n 1 12 = true := h
    obtain ⟨m, rfl, h0, hm⟩ := rb_num h
    rw [Int.toNat_natCast, cond_true]
    have P := Lib.hid (spRingBoxes_any m hm)
    unfold BoxPost at P
    generalize rbQ m (m + 1) = R at *
    go_enter Try.func35, Try.ntmps35
    go_wp2_with (go_at_call 52; refine (l1In_any _ _ _ _).mono ?_; rintro e w' ⟨rfl, rfl⟩)
    (with_reducible refine Calls.mono (P.out _) ?_)
    rintro e w1 ⟨v, rfl, hO, hb⟩
    have HO := Lib.hid hO
    have HB := Lib.hid hb
    obtain ⟨av, cv, rfl⟩ := own_formC hO
    clear hO hb
    go_wp2_with fail
    go_ret2
    exact ⟨_, rfl, HO.out, HB.out⟩

set_option maxRecDepth 100000 in
set_option maxHeartbeats 3200000 in
theorem imRingBoxes_any (n : Nat) (h0 : 0 < n) (hn : n ≤ 12) (w : World) : Calls Try.prog 36 #[.int .i64 (n : Nat)] w (BXPost (rbQ n (n + 1)) true w) := by
  obtain ⟨i0, hi, iz0, iz1, iz2⟩ := info_parts bxInfo
  have h1 : inB (n : Int) 1 12 = true := by simp [inB]; omega
  have CL := Lib.hid (fun w => (closings_any sp0 (sp0_ok.mono (by omega)) n (by omega) w : Calls Try.prog 51 #[.agg #[.int .i64 0, .int .i64 0, .int .i64 0, .int .i64 0, .int .i64 0], .int .i64 (n : Nat)] w (StrPost (clsL sp0 n) w)))
  have HR := Lib.hid (fun k (hk : k ≤ n) => hasR_iff h0 hk)
  have HOK := Lib.hid (fun r (hr : r ∈ clsL sp0 n) => cls_ok (by omega) hr)
  have hlen := clsB_le hn
  generalize clsL sp0 n = R at *
  obtain ⟨N, hN⟩ : ∃ N, R.length = N := ⟨_, rfl⟩
  have HN := Lib.hid hN
  rw [hN] at hlen
  clear hN
  go_enter Try.func36, Try.ntmps36
  go_wp2_with (go_at_call 50; refine (isInRange_any _ _ _ _).mono ?_; rintro e w' ⟨rfl, rfl⟩)
  refine (CL.out _).mono ?_
  rintro e w1 ⟨vR, rfl, oR, hb1⟩
  rw [HN.out] at oR
  obtain ⟨av, cv, rfl⟩ := own_formC oR
  have HB1 := Lib.hid hb1
  have HOR := Lib.hid oR
  clear hb1 oR
  go_wp2_with fail
  go_loopw [5, 18] (fun t i wr => ∃ (j : Nat) (v : Value), j ≤ n + 1 ∧ i = .int .i64 j ∧ v = t ∧ wr.ownsRow w1.heap.size 40 2 v (rbQ n j).length (bxCells (rbQ n j)) ∧ Below w1.heap.size w1 wr) (fun _ i _ => n + 1 - (intOf i).toNat)
  case atStart => exact ⟨0, _, Nat.zero_le _, rfl, rfl, World.ownsRow_nil _ _ _ _, Below.refl _ _⟩
  case round =>
    obtain ⟨j, v, hj, rfl, rfl, hO, hb⟩ := hrel
    have hz : w1.heap.size ≤ wr.heap.size := hb.size
    have hle := rbQ_le n j
    have HO := Lib.hid hO
    have HB := Lib.hid hb
    obtain ⟨wi, rfl⟩ : ∃ wi : World, wi = wr := ⟨_, rfl⟩
    clear hO hb
    by_cases hlt : j < n + 1
    · have hjn : j ≤ n := by omega
      have hdj : decide ((j : Int) < (n : Int) + 1) = true := by simp; omega
      obtain ⟨d, hd⟩ : ∃ d : Nat, n - j = d := ⟨_, rfl⟩
      have hnj : (n : Int) - (j : Int) = (d : Int) := by omega
      have hwd : wrap64 (d : Int) = (d : Int) := w64N d (by omega)
      have HS := Lib.hid (rbQ_succ n j)
      have HRJ := Lib.hid (HR.out j hjn)
      have HD := Lib.hid hd
      have hnb : v.ownBlock ≠ some wi.heap.size := own_nb HO.out
      have HNB := Lib.hid hnb
      have HO0 := Lib.hid (HO.out.alloc (.cells #[.int .i64 (j : Int), .int .i64 (d : Int)] 40))
      have HB0 := Lib.hid (HB.out.alloc hz (.cells #[.int .i64 (j : Int), .int .i64 (d : Int)] 40))
      have b0 := heap_alloc_new wi (.cells #[.int .i64 (j : Int), .int .i64 (d : Int)] 40)
      have HBK := Lib.hid b0
      clear hd hnb b0
      go_wp2_with fail
      refine wp_scope_ahead 0 (by rfl) ?_
      go_wp2_with fail
      generalize hW0 : wi.alloc (.cells #[.int .i64 (j : Int), .int .i64 (d : Int)] 40) = W0 at *
      have hzW : W0.heap.size = wi.heap.size + 1 := by rw [← hW0]; simp
      obtain ⟨B, hB⟩ : ∃ B, wi.heap.size = B := ⟨_, rfl⟩
      rw [hB] at HBK HNB hzW ⊢
      have hBW : B < W0.heap.size := by omega
      have hzB : w1.heap.size ≤ B := by omega
      clear hW0 hzW hB
      go_loopw [5, 28] (fun u i wr => ∃ q : Nat, q ≤ N ∧ i = .int .i64 q ∧ v = u ∧ (∀ t r, t < q → R[t]? = some r → cnt 83 r ≠ j) ∧ Below W0.heap.size W0 wr) (fun _ i _ => N - (intOf i).toNat)
      case atStart => exact ⟨0, Nat.zero_le _, rfl, rfl, fun t r ht => absurd ht (by omega), Below.refl _ _⟩
      case round =>
        obtain ⟨q, hq, rfl, rfl, hno, hbq⟩ := hrel
        have HNO := Lib.hid hno
        have HBQ := Lib.hid hbq
        have hzq := hbq.size
        obtain ⟨c0, c1⟩ := blk2 ((hbq.block B hBW).trans HBK.out)
        by_cases hql : q < N
        · obtain ⟨r, hr⟩ : ∃ r, R[q]? = some r := ⟨_, List.getElem?_eq_getElem (by rw [HN.out]; exact hql)⟩
          obtain ⟨t1, t2, t3, t4⟩ := HOK.out r (List.mem_of_getElem? hr)
          obtain ⟨g, rfl⟩ : ∃ g, av = some ⟨g, 0, none⟩ := by
            rcases HOR.out.2 with ⟨h, h0⟩ | ⟨g, cap, _, h, _⟩
            · omega
            · injection h with h; exact ⟨g, h⟩
          have hgl := (HOR.out.lt g rfl).2
          have cr := ((str_of HOR.out HN.out).below (HOR.out.lt g rfl).2 (HB0.out.trans (hbq.mono HB0.out.size)) q r hr)
          have NO := needsOf_any (ofL r) t1
          rw [t2, t3] at NO
          have NOH := Lib.hid NO
          have SU := Lib.hid (boxSupply_any ⟨(j : Int), (d : Int)⟩)
          have hfit := fits_iff t4 hjn
          rw [HD.out] at hfit
          have HRR := Lib.hid hr
          have HMM := Lib.hid (List.mem_of_getElem? hr)
          obtain ⟨wq, rfl⟩ : ∃ wq : World, wq = wr := ⟨_, rfl⟩
          have hBq : B < wq.heap.size := by omega
          have hBw : Below w.heap.size w wq := HB1.out.trans ((HB0.out.trans (hbq.mono HB0.out.size)).mono HB1.out.size)
          have HOq := Lib.hid (HO0.out.kept (below_grown hbq) (by cases v.ownBlock <;> simp))
          have HBq := Lib.hid (HB0.out.trans (hbq.mono HB0.out.size))
          have hzq1 : w1.heap.size ≤ wq.heap.size := HBq.out.size
          by_cases hc : cnt 83 r = j
          · have NO2 : ∀ w, Calls Try.prog 70 #[.string (ofL r)] w fun e w' => e = .returned (bv ⟨(j : Int), (d : Int)⟩) ∧ Below w.heap.size w w' := fun w => by
              have := NOH.out w
              rw [hc, HD.out] at this
              exact this
            have HC := Lib.hid hc
            have NOH := Lib.hid NO2
            clear hno hbq hr NO NO2 t1 t2 t3 t4 hc hfit
            go_wp2_with fail
            refine absWB (F := fun X => (X.cell? ⟨B, 0, none⟩ = some (.int .i64 (j : Int))) ∧ (X.cell? ⟨B, 1, none⟩ = some (.int .i64 (d : Int))) ∧ (Below wq.heap.size wq X) ∧ Below w.heap.size w X) ⟨by go_simp, by go_simp, Below.refl _ _, by go_grown⟩ ?_
            rintro X ⟨cb0_0, cb1_1, hqX, HB⟩
            have kb0_0 := fun d os => cell_regrown cb0_0 d os
            have kb1_1 := fun d os => cell_regrown cb1_1 d os
            refine wp_region_quiet_below (by kernel_rfl) (by kernel_rfl) ?_
            repeat (quiet_step (first | (go_at_call 70; with_reducible exact Calls.regrown_of (NOH.out _)) | (go_at_call 68; with_reducible exact Calls.regrown_of (SU.out _))))
            refine wpQuiet_nil ?_
            rintro _ ⟨⟨dq, osq⟩, rfl⟩
            have hbwz := below_regrown X dq osq
            generalize grow (redrawn X dq) osq = wz at hbwz ⊢
            obtain ⟨hcwz, hfwz⟩ := bcell hbwz
            have hlwz := hbwz.size
            replace HB := ba HB hbwz
            have hqz := ba hqX hbwz
            have hzz := hqz.size
            have HOA := Lib.hid ((HOq.out.kept (below_grown hqz) (by cases v.ownBlock <;> simp)).alloc (.cells #[.int .i64 (j : Int), .int .i64 (d : Int)] 40))
            have HBA := Lib.hid ((HBq.out.trans (hqz.mono hzq1)).alloc (by omega) (.cells #[.int .i64 (j : Int), .int .i64 (d : Int)] 40))
            have hnews := World.news_of_block (heap_alloc_new wz (.cells #[.int .i64 (j : Int), .int .i64 (d : Int)] 40))
            have e0 : wz.cell? ⟨B, 0, none⟩ = some (.int .i64 (j : Int)) := by rw [hqz.cell (p := ⟨B, 0, none⟩) hBq]; exact c0
            have e1 : wz.cell? ⟨B, 1, none⟩ = some (.int .i64 (d : Int)) := by rw [hqz.cell (p := ⟨B, 1, none⟩) hBq]; exact c1
            clear hcwz hfwz hqX hqz hbwz hBw HB kb0_0 kb1_1 cb0_0 cb1_1
            go_wp2_with (at_builtin; refine wpList_append_own_at _ rfl _ _ 43 rfl w1.heap.size 40 i0 (.agg #[.int .i64 0, .int .i64 0]) 2 16 Try.underlying43 hi iz0 iz1 iz2 rfl (by decide) v _ _ rfl HOA.out ⟨wz.heap.size, 0, none⟩ 1 1 [.int .i64 (j : Int), .int .i64 (d : Int)] rfl rfl hnews (by intro u hu; simp at hu; rcases hu with rfl | rfl <;> rfl) (by unfold maxLen; omega) (by omega) (by simp; omega) ?_; intro v' w4 hown' hgrow hnil hloc)
            have hlt' := HOA.out.lt
            have HB8 := Lib.hid (HBA.out.grown hgrow (by simp; omega) (fun k hk => (hlt' k hk).1))
            have HO8 := Lib.hid hown'
            have HSY := Lib.hid (show rbQ n (j + 1) = rbQ n j ++ [⟨(j : Int), (d : Int)⟩] by
              rw [HS.out, HRJ.out.2 ⟨r, HMM.out, HC.out⟩, HD.out]; rfl)
            clear hlt' hgrow hown' hnil hloc hnews
            go_step3
            go_wp2_with fail
            rw [jump_goto]
            refine ⟨rfl, ?_⟩
            go_wp2_with fail
            go_roundw
            case rel => exact ⟨j + 1, v', by omega, by go_num, rfl, by rw [HSY.out, bxCells_append, List.length_append]; exact HO8.out, HB8.out⟩
            case measure => simp [intOf]; omega
          · have HC := Lib.hid hc
            have hab : ((cnt 83 r : Int) == (j : Int)) = false := by simp; omega
            have hab2 : ¬ cnt 83 r = j := hc
            clear hfit
            generalize hca : cnt 83 r = a at *
            have HCA := Lib.hid hca
            generalize n - a = e at *
            clear hno hbq hr NO t1 t2 t3 t4 hc hca
            go_wp2_with fail
            refine absWB (F := fun X => (X.cell? ⟨B, 0, none⟩ = some (.int .i64 (j : Int))) ∧ (X.cell? ⟨B, 1, none⟩ = some (.int .i64 (d : Int))) ∧ (Below wq.heap.size wq X) ∧ Below w.heap.size w X) ⟨by go_simp, by go_simp, Below.refl _ _, by go_grown⟩ ?_
            rintro X ⟨cb0_0, cb1_1, hqX, HB⟩
            have kb0_0 := fun d os => cell_regrown cb0_0 d os
            have kb1_1 := fun d os => cell_regrown cb1_1 d os
            refine wp_region_quiet_below (by kernel_rfl) (by kernel_rfl) ?_
            repeat (quiet_step (first | (go_at_call 70; with_reducible exact Calls.regrown_of (NOH.out _)) | (go_at_call 68; with_reducible exact Calls.regrown_of (SU.out _))))
            refine wpQuiet_nil ?_
            rintro _ ⟨⟨dq, osq⟩, rfl⟩
            have hbwz := below_regrown X dq osq
            generalize grow (redrawn X dq) osq = wz at hbwz ⊢
            obtain ⟨hcwz, hfwz⟩ := bcell hbwz
            have hlwz := hbwz.size
            replace HB := ba HB hbwz
            have hqz := Lib.hid (HBQ.out.trans ((ba hqX hbwz).mono hzq))
            clear hcwz hfwz hqX hbwz hBw HB kb0_0 kb1_1 cb0_0 cb1_1
            go_wp2_with fail
            go_roundw
            case rel =>
              refine ⟨q + 1, by omega, ?_, rfl, fun t x ht hx => ?_, hqz.out⟩
              · go_num
              · by_cases hq2 : t = q
                · subst hq2
                  rw [HRR.out] at hx
                  injection hx with hx
                  subst hx
                  rw [HCA.out]; exact HC.out
                · exact HNO.out t x (by omega) hx
            case measure => simp [intOf]; omega
        · obtain rfl : q = N := by omega
          have hf : hasR n j = false := by
            cases hh : hasR n j
            · rfl
            · obtain ⟨x, hx, hxc⟩ := HRJ.out.1 hh
              obtain ⟨t, ht⟩ := List.mem_iff_getElem?.1 hx
              exact absurd hxc (HNO.out t x (by have := (List.getElem?_eq_some_iff.1 ht).1; rw [HN.out] at this; exact this) ht)
          have HSF := Lib.hid (show rbQ n (j + 1) = rbQ n j by rw [HS.out, hf]; rfl)
          have HO8 := Lib.hid (HO0.out.kept (below_grown hbq) (by cases v.ownBlock <;> simp))
          have HB8 := Lib.hid (HB0.out.trans (hbq.mono HB0.out.size))
          clear hno hbq hf c0 c1
          go_wp2_with fail
          go_step3
          go_wp2_with fail
          rw [jump_normal]
          go_wp2_with fail
          go_roundw
          case rel => exact ⟨j + 1, v, by omega, by go_num, rfl, by rw [HSF.out]; exact HO8.out, HB8.out⟩
          case measure => simp [intOf]; omega
    · obtain rfl : j = n + 1 := by omega
      have HO2 := Lib.hid (own_lessP HO.out HB1.out.size)
      have HBF := Lib.hid (HB1.out.trans (HB.out.mono HB1.out.size))
      obtain ⟨av', cv', rfl⟩ := own_formC HO.out
      go_wp2_with fail
      go_ret2
      exact ⟨_, rfl, HO2.out, HBF.out⟩

theorem imRingBoxes (n : Int) (w : World) : Calls Try.prog 36 #[.int .i64 n] w (BXPost (rbR n) (rbG n) w) := by
  unfold rbR
  cases h : rbG n
  · have h1 : inB n 1 12 = false := h
    go_enter Try.func36, Try.ntmps36
    go_wp2_with (go_at_call 50; refine (isInRange_any _ _ _ _).mono ?_; rintro e w' ⟨rfl, rfl⟩)
    go_ret2
    exact bxNo (by go_grown)
  · obtain ⟨m, rfl, h0, hm⟩ := rb_num h
    rw [Int.toNat_natCast, cond_true]
    exact imRingBoxes_any m h0 hm w

end Go.Proofs.Ythiimllafcfieaa

/- Contracts: prices, missing pieces and counts of tracks, in the model and in the program. -/
namespace Go.Proofs.Ythiimllafcfieaa
open Go.ChangeShapes Go.WideShapes Go.ChangeAt Go.RowKit Go.Sort

set_option linter.unusedVariables false
set_option linter.unusedSimpArgs false

end Go.Proofs.Ythiimllafcfieaa

/- Contracts: the first one of the boxes of rings with the least price, in the model and in the program. -/
namespace Go.Proofs.Ythiimllafcfieaa
open Go.ChangeShapes Go.WideShapes Go.ChangeAt Go.RowKit Go.Sort

set_option linter.unusedVariables false
set_option linter.unusedSimpArgs false

def cmpI (a b : Int) : Int := if a < b then -1 else if b < a then 1 else 0

set_option maxRecDepth 100000 in
theorem cmpInt_any (a b : Int) (w : World) : Calls Try.prog 73 #[.int .i64 a, .int .i64 b] w fun e w' => e = .returned (.int .i64 (cmpI a b)) ∧ w = w' := by
  unfold cmpI
  by_cases h1 : a < b
  · rw [if_pos h1]
    go_enter Try.func73, Try.ntmps73
    go_wp2
    all_goals go_ret
    all_goals exact ⟨rfl, rfl⟩
  · rw [if_neg h1]
    by_cases h2 : b < a
    · rw [if_pos h2]
      go_enter Try.func73, Try.ntmps73
      go_wp2
      all_goals go_ret
      all_goals exact ⟨rfl, rfl⟩
    · rw [if_neg h2]
      go_enter Try.func73, Try.ntmps73
      go_wp2
      all_goals go_ret
      all_goals exact ⟨rfl, rfl⟩

/-- Two numbers in a block, neither of them frozen. -/
structure TwoAt (w : World) (B : Nat) (b : Bq) : Prop where
  c0 : w.cell? ⟨B, 0, none⟩ = some (.int .i64 b.x)
  c1 : w.cell? ⟨B, 1, none⟩ = some (.int .i64 b.r)
  f0 : w.frozen? ⟨B, 0, none⟩ = false
  f1 : w.frozen? ⟨B, 1, none⟩ = false

theorem TwoAt.below {w w' : World} {B m : Nat} {b : Bq} (h : TwoAt w B b) (hB : B < m) (hb : Below m w w') : TwoAt w' B b :=
  ⟨by rw [hb.cell (p := ⟨B, 0, none⟩) hB]; exact h.c0, by rw [hb.cell (p := ⟨B, 1, none⟩) hB]; exact h.c1, by rw [hb.frozen (p := ⟨B, 0, none⟩) hB]; exact h.f0, by rw [hb.frozen (p := ⟨B, 1, none⟩) hB]; exact h.f1⟩

theorem TwoAt.put {w : World} {B : Nat} {b : Bq} (h : TwoAt w B b) (d : Bq) : TwoAt ((w.setCell ⟨B, 0, none⟩ (.int .i64 d.x)).setCell ⟨B, 1, none⟩ (.int .i64 d.r)) B d := by
  have n01 : (⟨B, 1, none⟩ : Addr) ≠ ⟨B, 0, none⟩ := by simp
  refine ⟨?_, ?_, by simp [h.f0], by simp [h.f1]⟩
  · rw [World.cell?_setCell_other (h := n01), World.cell?_setCell_same (h := h.c0)]
  · have h1 : (w.setCell ⟨B, 0, none⟩ (.int .i64 d.x)).cell? ⟨B, 1, none⟩ = some (.int .i64 b.r) := by rw [World.cell?_setCell_other (h := fun e => n01 e.symm)]; exact h.c1
    rw [World.cell?_setCell_same (h := h1)]

theorem TwoAt.other {w : World} {B : Nat} {b : Bq} (h : TwoAt w B b) {a : Addr} (ha : B ≠ a.block) (v : Value) : TwoAt (w.setCell a v) B b :=
  ⟨by rw [World.cell?_setCell_other (h := fun q => ha (by rw [q]))]; exact h.c0, by rw [World.cell?_setCell_other (h := fun q => ha (by rw [q]))]; exact h.c1, by rw [World.frozen?_setCell]; exact h.f0, by rw [World.frozen?_setCell]; exact h.f1⟩

theorem TwoAt.new (w : World) (b : Bq) (t : TypeId) : TwoAt (w.alloc (.cells #[.int .i64 b.x, .int .i64 b.r] t)) w.heap.size b := by
  have h := heap_alloc_new w (.cells #[.int .i64 b.x, .int .i64 b.r] t)
  exact ⟨by rw [Lib.cell_of_heap h 0]; rfl, by rw [Lib.cell_of_heap h 1]; rfl, by simp only [World.frozen?, h]; rfl, by simp only [World.frozen?, h]; rfl⟩

def prI (s c : Int) (b : Bq) : Int := b.x * s + b.r * c

/-- Cheaper. -/
def chp (s c : Int) (x g : Bq) : Bool := decide (prI s c x < prI s c g)

def o2 (o : Option Bq) : Bq := o.getD ⟨0, 0⟩

theorem cmp_chp (s c : Int) (x g : Bq) : decide (0 < cmpI (prI s c g) (prI s c x)) = chp s c x g := by
  unfold cmpI chp
  by_cases h1 : prI s c g < prI s c x
  · rw [if_pos h1]; simp; omega
  · rw [if_neg h1]
    by_cases h2 : prI s c x < prI s c g
    · rw [if_pos h2]; simp [h2]
    · rw [if_neg h2]; simp [h2]

set_option maxRecDepth 100000 in
theorem priceCmp_any (a b : Bq) (s c : Int) (ha : bxB 40 a = true) (hb : bxB 40 b = true) (hs : inB s 0 1000 = true) (hc : inB c 0 1000 = true) (p q : Nat) (w : World) (hp : p < w.heap.size) (hq : q < w.heap.size)
    (k0 : w.cell? ⟨p, 0, none⟩ = some (.int .i64 s)) (k1 : w.cell? ⟨q, 0, none⟩ = some (.int .i64 c)) :
    Calls Try.prog 86 #[bv a, bv b, .pointer (some ⟨p, 0, none⟩), .pointer (some ⟨q, 0, none⟩)] w fun e w' => e = .returned (.int .i64 (cmpI (prI s c b) (prI s c a))) ∧ Below w.heap.size w w' := by
  have PA0 : ∀ w, Calls Try.prog 87 #[bv a, .int .i64 s, .int .i64 c] w fun e w' => e = .returned (.int .i64 (prI s c a)) ∧ Below w.heap.size w w' := fun w => price_any a s c ha hs hc w
  have PA := Lib.hid PA0
  clear PA0
  have PB0 : ∀ w, Calls Try.prog 87 #[bv b, .int .i64 s, .int .i64 c] w fun e w' => e = .returned (.int .i64 (prI s c b)) ∧ Below w.heap.size w w' := fun w => price_any b s c hb hs hc w
  have PB := Lib.hid PB0
  clear PB0
  have PC := Lib.hid (cmpInt_any (prI s c b) (prI s c a))
  generalize prI s c a = x at *
  generalize prI s c b = y at *
  clear ha hb hs hc
  go_enter Try.func86, Try.ntmps86
  go_wp2_with fail
  refine absWB (F := fun W => (W.cell? ⟨w.heap.size, 0, none⟩ = some (.int .i64 (a).x) ∧ W.cell? ⟨w.heap.size, 1, none⟩ = some (.int .i64 (a).r)) ∧ (W.cell? ⟨w.heap.size + 1, 0, none⟩ = some (.int .i64 (b).x) ∧ W.cell? ⟨w.heap.size + 1, 1, none⟩ = some (.int .i64 (b).r)) ∧ (W.cell? ⟨p, 0, none⟩ = some (.int .i64 s)) ∧ (W.cell? ⟨q, 0, none⟩ = some (.int .i64 c)) ∧ Below w.heap.size w W ∧ W.heap.size = w.heap.size + 1 + 1) ⟨⟨by go_simp, by go_simp⟩, ⟨by go_simp, by go_simp⟩, by go_simp, by go_simp, by go_grown, by first | (simp; done) | (simp; omega)⟩ ?_
  rintro W ⟨⟨c0_0, c0_1⟩, ⟨c1_0, c1_1⟩, cp_0, cq_0, HB, hz⟩
  have k0_0 := fun d os => cell_regrown c0_0 d os
  have k0_1 := fun d os => cell_regrown c0_1 d os
  have k1_0 := fun d os => cell_regrown c1_0 d os
  have k1_1 := fun d os => cell_regrown c1_1 d os
  have kp_0 := fun d os => cell_regrown cp_0 d os
  have kq_0 := fun d os => cell_regrown cq_0 d os
  refine wp_region_quiet_below (by kernel_rfl) (by kernel_rfl) ?_
  repeat (quiet_step (first | (go_at_call 87; with_reducible exact Calls.regrown_of (PA.out _)) | (go_at_call 87; with_reducible exact Calls.regrown_of (PB.out _)) | (go_at_call 73; with_reducible exact same_regrownB (PC.out _))))
  refine wpQuiet_nil ?_
  rintro _ ⟨⟨dq, osq⟩, rfl⟩
  have hbw1 := below_regrown W dq osq
  generalize grow (redrawn W dq) osq = w1 at hbw1 ⊢
  obtain ⟨hcw1, hfw1⟩ := bcell hbw1
  have hlw1 := hbw1.size
  replace HB := ba HB hbw1
  go_wp2_with fail
  go_returns
  exact ⟨rfl, by go_grown⟩

/-- The first j boxes: the first cheapest one of them. -/
def chO (s c : Int) (l : List Bq) (j : Nat) : Option Bq := fgO (chp s c) (l.take j)

theorem chO_next {s c : Int} {l : List Bq} {j : Nat} {b : Bq} (h : l[j]? = some b) : chO s c l (j + 1) = fgS (chp s c) (chO s c l j) b := by
  rw [chO, List.take_add_one, h]
  exact fgO_snoc _ _ _

theorem chO_zero (s c : Int) (l : List Bq) : chO s c l 0 = none := rfl

theorem chO_some {s c : Int} {l : List Bq} {j : Nat} (h0 : 0 < j) (h : j ≤ l.length) : ∃ g, chO s c l j = some g ∧ g ∈ l := by
  obtain ⟨g, hg⟩ := fgO_some (chp s c) (l.take j) (fun e => by
    have h1 := congrArg List.length e
    rw [List.length_take] at h1
    have h2 : min j l.length = 0 := h1
    omega)
  exact ⟨g, hg, List.mem_of_mem_take (fgO_mem _ _ _ hg)⟩

def FbPost (l : List Bq) (o : Option Bq) (w : World) (e : Ending) (w' : World) : Prop :=
  e = .returned (.tuple #[bv (o2 o), .bool (decide (0 < l.length))]) ∧ Below w.heap.size w w'

set_option maxRecDepth 100000 in
set_option maxHeartbeats 1600000 in
theorem fgBox_any (v : Value) (l : List Bq) (hl : l.length ≤ 1000) (hok : ∀ b ∈ l, bxB 40 b = true) (s c : Int) (hs : inB s 0 1000 = true) (hc : inB c 0 1000 = true) (p q : Nat) (w : World) (hp : p < w.heap.size) (hq : q < w.heap.size)
    (k0 : w.cell? ⟨p, 0, none⟩ = some (.int .i64 s)) (k1 : w.cell? ⟨q, 0, none⟩ = some (.int .i64 c)) (hv : ∃ av cap, v = .slice av l.length cap ∧ (l = [] ∨ ∃ g, av = some ⟨g, 0, none⟩ ∧ g < w.heap.size ∧ BoxAt w g l)) :
    Calls Try.prog 85 #[v, .func (.func 86) #[] #[.pointer (some ⟨p, 0, none⟩), .pointer (some ⟨q, 0, none⟩)]] w (FbPost l (chO s c l l.length) w) := by
  obtain ⟨av, cap, rfl, hv⟩ := hv
  unfold FbPost
  obtain ⟨N, hN⟩ : ∃ N, l.length = N := ⟨_, rfl⟩
  have HN := Lib.hid hN
  have HV := Lib.hid hv
  have HOK := Lib.hid hok
  have HS := Lib.hid (And.intro hs hc)
  have HK := Lib.hid (And.intro k0 k1)
  rw [hN] at hl ⊢
  have T0 := Lib.hid (TwoAt.new w ⟨0, 0⟩ 40)
  have T1 := Lib.hid (TwoAt.new (w.alloc (.cells #[.int .i64 0, .int .i64 0] 40)) ⟨0, 0⟩ 40)
  clear hN hv hok hs hc k0 k1
  go_enter Try.func85, Try.ntmps85
  go_wp2_with fail
  go_loopw [11] (fun i wr => ∃ j : Nat, j ≤ N ∧ i = .int .i64 j ∧ TwoAt wr w.heap.size ⟨0, 0⟩ ∧ TwoAt wr (w.heap.size + 1) (o2 (chO s c l j)) ∧ w.heap.size + 1 < wr.heap.size ∧ Below w.heap.size w wr) (fun i _ => N - (intOf i).toNat)
  case atStart =>
    refine ⟨0, Nat.zero_le _, rfl, ?_, ?_, by simp, by go_grown⟩
    · exact T0.out.below (by simp) (Below.alloc (Below.refl _ _) (Nat.le_refl _) _)
    · have := T1.out
      rw [show (w.alloc (.cells #[.int .i64 0, .int .i64 0] 40)).heap.size = w.heap.size + 1 by simp] at this
      exact this
  case round =>
    obtain ⟨j, hj, rfl, t0, t1, hz, hb⟩ := hrel
    have A0 := Lib.hid t0
    have A1 := Lib.hid t1
    have HB := Lib.hid hb
    obtain ⟨wi, rfl⟩ : ∃ wi : World, wi = wr := ⟨_, rfl⟩
    have hzw : w.heap.size ≤ wi.heap.size := hb.size
    by_cases hlt : j < N
    · obtain ⟨b, hb1⟩ : ∃ b, l[j]? = some b := ⟨_, List.getElem?_eq_getElem (by rw [HN.out]; exact hlt)⟩
      have hbok := HOK.out b (List.mem_of_getElem? hb1)
      have HNX := Lib.hid (chO_next (s := s) (c := c) hb1)
      obtain ⟨g, rfl, hg, hBA⟩ := HV.out.resolve_left (fun e => by have := HN.out; rw [e] at this; simp at this; omega)
      obtain ⟨d0, d1⟩ := (hBA.below hg hb) j b hb1
      by_cases hj0 : j = 0
      · subst hj0
        have HP := Lib.hid ((A1.out.put b).below (by simp; omega) (Below.alloc (Below.refl _ _) (Nat.le_refl _) (.cells #[.int .i64 b.x, .int .i64 b.r] 40)))
        have H0 := Lib.hid (((A0.out.other (a := ⟨w.heap.size + 1, 0, none⟩) (by simp) (.int .i64 b.x)).other (a := ⟨w.heap.size + 1, 1, none⟩) (by simp) (.int .i64 b.r)).below (by simp; omega) (Below.alloc (Below.refl _ _) (Nat.le_refl _) (.cells #[.int .i64 b.x, .int .i64 b.r] 40)))
        obtain ⟨x0, x1, x2, x3⟩ := A1.out
        clear t0 t1 hb1 hBA
        go_wp2_with fail
        go_roundw
        case rel => exact ⟨1, by omega, by go_num, H0.out, by rw [HNX.out]; exact HP.out, by simp; omega, by go_grown⟩
        case measure => simp [intOf]; omega
      · obtain ⟨r, hr, hrm⟩ := chO_some (s := s) (c := c) (Nat.pos_of_ne_zero hj0) (show j ≤ l.length by rw [HN.out]; exact hj)
        have hrok := HOK.out r hrm
        rw [hr] at HNX
        have hnx : chO s c l (j + 1) = some (if chp s c b r then b else r) := HNX.out
        have A1' := A1.out
        rw [hr] at A1'
        have HA1 := Lib.hid A1'
        obtain ⟨x0, x1, x2, x3⟩ := A1'
        have CP := Lib.hid (fun (W : World) (h : Below w.heap.size w W) => priceCmp_any b r s c hbok hrok HS.out.1 HS.out.2 p q W (Nat.lt_of_lt_of_le hp h.size) (Nat.lt_of_lt_of_le hq h.size) (by rw [h.cell (p := ⟨p, 0, none⟩) hp]; exact HK.out.1) (by rw [h.cell (p := ⟨q, 0, none⟩) hq]; exact HK.out.2))
        have hcg := cmp_chp s c b r
        have hz1 : w.heap.size + 1 < wi.heap.size := hz
        simp only [o2, Option.getD_some] at x0 x1 x2 x3
        have hji : ((j : Int) == 0) = false := by simp; omega
        have hjn : ¬ (j : Int) = 0 := by omega
        generalize cmpI (prI s c r) (prI s c b) = z at *
        clear t0 t1 hb1 hBA hr hrm hbok hrok A1
        cases hqc : chp s c b r
        · rw [hqc] at hcg hnx
          have hz0 : ¬ 0 < z := by simpa using hcg
          have HNX2 := Lib.hid (show chO s c l (j + 1) = some r from hnx)
          clear hcg hqc hnx
          go_wp2_with fail
          have hBA : Below w.heap.size w (wi.alloc (.cells #[.int .i64 b.x, .int .i64 b.r] 40)) := by go_grown
          (with_reducible refine Calls.mono (CP.out _ hBA) ?_)
          rintro e w1 ⟨rfl, h1⟩
          have hz2 := h1.size
          simp only [World.size_alloc] at hz2
          have hbw := Below.alloc (Below.refl wi.heap.size wi) (Nat.le_refl _) (.cells #[.int .i64 b.x, .int .i64 b.r] 40)
          have F1 := Lib.hid ((HA1.out.below hz1 hbw).below (by simp; omega) h1)
          have F0 := Lib.hid ((A0.out.below (by omega) hbw).below (by simp; omega) h1)
          have FB := Lib.hid (ba hBA h1)
          clear h1 hbw hBA
          go_wp2_with fail
          go_roundw
          case rel => exact ⟨j + 1, by omega, by go_num, F0.out, by rw [HNX2.out]; exact F1.out, by omega, FB.out⟩
          case measure => simp [intOf]; omega
        · rw [hqc] at hcg hnx
          have hz0 : 0 < z := by simpa using hcg
          have HNX2 := Lib.hid (show chO s c l (j + 1) = some b from hnx)
          clear hcg hqc hnx
          go_wp2_with fail
          have hBA : Below w.heap.size w (wi.alloc (.cells #[.int .i64 b.x, .int .i64 b.r] 40)) := by go_grown
          (with_reducible refine Calls.mono (CP.out _ hBA) ?_)
          rintro e w1 ⟨rfl, h1⟩
          have hz2 := h1.size
          simp only [World.size_alloc] at hz2
          have hbw := Below.alloc (Below.refl wi.heap.size wi) (Nat.le_refl _) (.cells #[.int .i64 b.x, .int .i64 b.r] 40)
          have fa1 := (HA1.out.below hz1 hbw).below (by simp; omega) h1
          have F1 := Lib.hid (fa1.put b)
          have F0 := Lib.hid ((((A0.out.below (by omega) hbw).below (by simp; omega) h1).other (a := ⟨w.heap.size + 1, 0, none⟩) (by simp) (.int .i64 b.x)).other (a := ⟨w.heap.size + 1, 1, none⟩) (by simp) (.int .i64 b.r))
          have FB := Lib.hid (ba hBA h1)
          have s0 : w1.cell? ⟨wi.heap.size, 0, none⟩ = some (.int .i64 b.x) := by rw [h1.cell (p := ⟨wi.heap.size, 0, none⟩) (by simp)]; go_simp
          have s1 : w1.cell? ⟨wi.heap.size, 1, none⟩ = some (.int .i64 b.r) := by rw [h1.cell (p := ⟨wi.heap.size, 1, none⟩) (by simp)]; go_simp
          obtain ⟨z0, z1, z2, z3⟩ := fa1
          clear h1 hbw hBA x0 x1 x2 x3
          go_wp2_with fail
          go_roundw
          case rel => exact ⟨j + 1, by omega, by go_num, F0.out, by rw [HNX2.out]; exact F1.out, by simp; omega, (FB.out.setCell (by show _ ≤ w.heap.size + 1; omega) _).setCell (by show _ ≤ w.heap.size + 1; omega) _⟩
          case measure => simp [intOf]; omega
    · obtain rfl : j = N := by omega
      obtain ⟨x0, x1, x2, x3⟩ := A1.out
      obtain ⟨y0, y1, y2, y3⟩ := A0.out
      clear t0 t1
      go_wp2_with fail
      refine bodyPost_ret (by simp [results, Try.results85, go_sem, *]; try rfl) rfl ?_
      exact ⟨by first | rfl | (congr 3; simp), by go_grown⟩

end Go.Proofs.Ythiimllafcfieaa
