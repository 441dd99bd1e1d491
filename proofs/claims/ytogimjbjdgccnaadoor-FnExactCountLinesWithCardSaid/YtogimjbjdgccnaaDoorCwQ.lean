/- Lines counted: the program's contract. -/
import Derived.Test.YtogimjbjdgccnaaDoorCwD
import Derived.Test.YtogimjbjdgccnaaDoorCoJ
import Derived.Maps.AppendAt
namespace Go.Proofs.YtogimjbjdgccnaaDoor
open Go.ChangeShapes Go.WideShapes Go.ChangeAt Go.RowKit
open Ln

set_option linter.unusedVariables false

def alV (ls : List (List UInt8)) : List Value := ls.map fun l => .string (ofL l)

def two (ls : List (List UInt8)) : List (List UInt8) := ls.flatMap fun l => [l ++ [46], l ++ [84]]

theorem two_len (ls : List (List UInt8)) : (two ls).length = 2 * ls.length := by
  induction ls with
  | nil => rfl
  | cons l ls ih => simp only [two, List.flatMap_cons, List.length_append, List.length_cons, List.length_nil] at ih ⊢; omega

theorem two_snoc {ls : List (List UInt8)} {k : Nat} {l : List UInt8} (h : ls[k]? = some l) : alV (two (ls.take (k + 1))) = alV (two (ls.take k)) ++ [.string (ofL (l ++ [46])), .string (ofL (l ++ [84]))] := by
  rw [List.take_add_one, h, two, List.flatMap_append, alV, List.map_append, ← two]
  rfl

theorem own_lessL {W : World} {B B' : Nat} {e : TypeId} {size n : Nat} {v : Value} {xs : List Value} (h : W.ownsRow B' e size v n xs) (hb : B ≤ B') : W.ownsRow B e size v n xs := by
  refine ⟨h.1, ?_⟩
  rcases h.2 with h | ⟨g, cap, cur, h1, h2, h3⟩
  · exact .inl h
  · exact .inr ⟨g, cap, cur, h1, Nat.le_trans hb h2, h3⟩

theorem own_someL {W : World} {B : Nat} {e : TypeId} {n : Nat} {v : Value} {xs : List Value} (h : W.ownsRow B e 1 v n xs) (hn : 0 < n) : ∃ g cap, v = .slice (some ⟨g, 0, none⟩) n cap ∧ B ≤ g ∧ g < W.heap.size ∧ n ≤ cap ∧ ∀ i x, xs[i]? = some x → W.cell? ⟨g, i, none⟩ = some x := by
  have h0 := h
  rcases h.2 with ⟨_, h0⟩ | ⟨g, cap, cur, rfl, hb, hg, hnc, _⟩
  · omega
  · refine ⟨g, cap, rfl, hb, (Array.getElem?_eq_some_iff.1 hg).1, hnc, fun i x hx => ?_⟩
    have := h0.cells (g := g) rfl i x hx
    rwa [Addr.add_lit, Nat.zero_add] at this

theorem cells_two (W : World) (x y : Value) (e : TypeId) : ∀ (j : Nat) u, [x, y][j]? = some u → (W.alloc (.cells #[x, y] e)).cell? ((⟨W.heap.size, 0, none⟩ : Addr).add j) = some u := by
  intro j u hu
  match j, hu with
  | 0, hu => simp at hu; subst hu; simp [go_sem, Addr.add]
  | 1, hu => simp at hu; subst hu; simp [go_sem, Addr.add]

set_option maxRecDepth 100000 in
set_option maxHeartbeats 3200000 in
theorem linesOf_any (n : Nat) (hn : n ≤ 10) (w : World) :
    Calls Tryd.prog 78 #[.int .i64 n] w fun e w' => (∃ g cap, e = .returned (.slice (some ⟨g, 0, none⟩) (2 ^ n) cap) ∧ w.heap.size ≤ g ∧ g < w'.heap.size ∧ 2 ^ n ≤ cap ∧ ∀ i x, (alV (allL n))[i]? = some x → w'.cell? ⟨g, i, none⟩ = some x) ∧ Below w.heap.size w w' := by
  obtain ⟨i0, hi, iz0, iz1, iz2⟩ := info_parts strInfo'
  have A0 := Lib.hid (own_new w w.heap.size (.string ⟨#[]⟩) 9 (Nat.le_refl _))
  have LE := Lib.hid (fun k => allL_len k)
  have PB := Lib.hid (fun k (hk : k ≤ n) => show 2 ^ k ≤ 1024 from Nat.pow_le_pow_right (n := 2) (by decide) (Nat.le_trans hk hn))
  have PP := Lib.hid (fun k => show 0 < 2 ^ k from Nat.pow_pos (by decide))
  have OKL := Lib.hid (fun k l (hl : l ∈ allL k) => show l.length = k by obtain ⟨m, rfl⟩ := allL_in hl; exact dgL_len k m)
  have SU := Lib.hid (fun k => show allL (k + 1) = two (allL k) from rfl)
  go_enter Tryd.func78, Tryd.ntmps78
  go_wp2_with fail
  go_loopw [3, 9] (fun v i wr => ∃ k : Nat, k ≤ n ∧ i = .int .i64 k ∧ wr.ownsRow w.heap.size 9 1 v (2 ^ k) (alV (allL k)) ∧ Below w.heap.size w wr) (fun _ i _ => n - (intOf i).toNat)
  case atStart => exact ⟨0, Nat.zero_le _, rfl, A0.out, by go_grown⟩
  case round =>
    obtain ⟨k, hk, rfl, hO, hB⟩ := hrel
    obtain ⟨wo, rfl⟩ : ∃ wo, wo = wr := ⟨_, rfl⟩
    obtain ⟨g, cap, rfl, hg1, hg2, hgc, hcell⟩ := own_someL hO (PP.out k)
    have HO := Lib.hid hO
    have HB := Lib.hid hB
    have HC := Lib.hid hcell
    have zb := hB.size
    have k0 : (0 : Int) ≤ (k : Int) := by omega
    have pb := PB.out k hk
    have LEk := Lib.hid (LE.out k)
    have OKk := Lib.hid (OKL.out k)
    have SUk := Lib.hid (SU.out k)
    have P2 := Lib.hid (show 2 ^ (k + 1) = 2 * 2 ^ k from Nat.pow_succ')
    clear hO hB hcell
    by_cases hlt : k < n
    · generalize allL k = L at *
      obtain ⟨N, hN⟩ : ∃ N, 2 ^ k = N := ⟨_, rfl⟩
      rw [hN] at HO LEk P2 hgc pb ⊢
      clear hN
      go_wp2_with fail
      go_loopw [4, 13] (fun v i WX => ∃ j : Nat, j ≤ N ∧ i = .int .i64 j ∧ WX.ownsRow wo.heap.size 9 1 v (2 * j) (alV (two (L.take j))) ∧ Below wo.heap.size wo WX) (fun _ i _ => N - (intOf i).toNat)
      case atStart => exact ⟨0, Nat.zero_le _, rfl, World.ownsRow_nil _ _ _ _, Below.refl _ _⟩
      case round =>
        obtain ⟨j, hj, rfl, hY, hX⟩ := hrel
        have HY := Lib.hid hY
        have HX := Lib.hid hX
        have zx := hX.size
        obtain ⟨av, cv, rfl⟩ := own_slice_n hY
        have j0 : (0 : Int) ≤ (j : Int) := by omega
        by_cases hjn : j < N
        · obtain ⟨l, hl⟩ : ∃ l, L[j]? = some l := ⟨_, List.getElem?_eq_getElem (by rw [LEk.out]; exact hjn)⟩
          have hll := OKk.out l (List.mem_of_getElem? hl)
          have hcell := (hX.cell (p := ⟨g, j, none⟩) hg2).trans (HC.out j (.string (ofL l)) (by rw [alV, List.getElem?_map, hl]; rfl))
          have TS := Lib.hid (two_snoc hl)
          have lsz : (ofL l).size ≤ 24 := by rw [ofL_size, hll]; omega
          have E1 : ofL l ++ ⟨#[46]⟩ = ofL (l ++ [46]) := ofL_snoc _ _
          have E2 : ofL l ++ ⟨#[84]⟩ = ofL (l ++ [84]) := ofL_snoc _ _
          have HO2 := Lib.hid (HY.out.alloc (.cells #[.string (ofL (l ++ [46])), .string (ofL (l ++ [84]))] 9))
          have hnews := cells_two wr (.string (ofL (l ++ [46]))) (.string (ofL (l ++ [84]))) 9
          clear hY hX hl hll
          go_wp2_with (at_builtin; refine wpList_append_own_at _ rfl _ _ 61 rfl wo.heap.size 9 i0 (.string ByteArray.empty) 1 16 Tryd.underlying61 hi iz0 iz1 iz2 rfl (by decide) _ _ _ rfl HO2.out ⟨wr.heap.size, 0, none⟩ 2 2 [.string (ofL (l ++ [46])), .string (ofL (l ++ [84]))] rfl rfl hnews (by intro u hu; simp at hu; rcases hu with rfl | rfl <;> rfl) (by unfold maxLen; omega) (by omega) (by simp; omega) ?_; intro v' W4 hown' hgr hnil hloc; have HV4 := Lib.hid hown'; have HB4 := Lib.hid ((HX.out.alloc zx (.cells #[.string (ofL (l ++ [46])), .string (ofL (l ++ [84]))] 9)).grown hgr (by simp; omega) (fun b hb => (HO2.out.lt b hb).1)); clear hown' hgr hnil hloc)
          go_roundw
          case rel => exact ⟨j + 1, by omega, by go_num, by rw [TS.out]; exact HV4.out, HB4.out⟩
          case measure => simp [intOf]; omega
        · obtain rfl : j = N := by omega
          have hta : L.take j = L := List.take_of_length_le (by rw [LEk.out]; exact Nat.le_refl _)
          rw [hta] at hY
          have HY2 := Lib.hid (own_lessL hY zb)
          have HB2 := Lib.hid (HB.out.trans (HX.out.mono zb))
          clear hY hX hta
          go_wp2_with fail
          go_roundw
          case rel => exact ⟨k + 1, by omega, by go_num, by rw [P2.out, SUk.out]; exact HY2.out, HB2.out⟩
          case measure => simp [intOf]; omega
    · obtain rfl : k = n := by omega
      go_wp2_with fail
      go_ret
      exact ⟨⟨g, cap, rfl, hg1, hg2, hgc, HC.out⟩, HB.out⟩

end Go.Proofs.YtogimjbjdgccnaaDoor
