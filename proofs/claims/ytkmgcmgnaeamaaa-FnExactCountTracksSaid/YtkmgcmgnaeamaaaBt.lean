/- Contracts: how many tracks are laid whole from a box, in the model and in the program. -/
import Derived.Test.YtkmgcmgnaeamaaaBn
namespace Go.Proofs.Ytkmgcmgnaeamaaa
open Go.ChangeShapes Go.WideShapes Go.ChangeAt Go.RowKit

set_option linter.unusedVariables false
set_option linter.unusedSimpArgs false

def ctG (b : Bq) : Bool := bxB 12 b

def ctR (b : Bq) : Int := cond (ctG b) ((ctP b.x.toNat b.r.toNat b.r.toNat : Nat) : Int) 0

theorem w64N (n : Nat) (h : n ≤ 1000000000) : wrap64 (n : Int) = (n : Int) := IntWalk.wrap64_in _ ⟨by omega, by omega⟩

theorem tdivN (P K : Nat) : (P : Int).tdiv (K : Int) = ((P / K : Nat) : Int) := by rw [Int.tdiv_eq_ediv_of_nonneg (by omega), Int.natCast_ediv]

theorem ctM_succ (s c k : Nat) : ctM s c (k + 1) = ctM s c k * (c + (k + 1)) / (k + 1) := rfl

theorem ctP_succ (s c k : Nat) : ctP s c (k + 1) = 2 * ctP s c k * (s + (k + 1)) / (k + 1) := rfl

set_option maxRecDepth 100000 in
theorem spSmB_any (b : Bq) (m : Int) (hm : m ≤ 40) (w : World) : Calls Try.prog 64 #[bv b, .int .i64 m] w fun e w' => e = .returned (.bool (bxB m b)) ∧ Below w.heap.size w w' := by
  have PB := Lib.hid (spBox_any b)
  cases hb : bxB 40 b
  · have e : bxB m b = false := by
      rw [← Bool.not_eq_true] at hb ⊢
      intro h
      apply hb
      simp [bxB, inB] at h ⊢
      omega
    rw [hb] at PB
    rw [e]
    clear hb e
    go_enter Try.func64, Try.ntmps64
    go_wp2_with (go_at_call 51; refine (PB.out _).mono ?_; rintro e w1 ⟨rfl, h1⟩; have hB : Below w.heap.size w w1 := ba (by go_grown) h1; obtain ⟨hc1, hf1⟩ := bcell h1; have hq := h1.size; (try simp at hq); have hz0 : w.heap.size < w1.heap.size := (by omega); have HK1 := Lib.hid h1; clear h1 hq)
    go_returns
    exact ⟨rfl, by go_grown⟩
  · obtain ⟨b0, b1, b2⟩ := bxB_yes hb
    have e : bxB m b = decide (b.x + b.r ≤ m) := by
      rw [Bool.eq_iff_iff]
      simp [bxB, inB]
      omega
    rw [hb] at PB
    rw [e]
    obtain ⟨x, r⟩ := b
    simp only at b0 b1 b2 ⊢
    have e0 := wrSum (a := x) (b := r) (by omega) (by omega)
    clear hb e
    cases hc : decide (x + r ≤ m)
    all_goals
      go_enter Try.func64, Try.ntmps64
      go_wp2_with (go_at_call 51; (with_reducible refine (PB.out _).mono ?_); rintro e wA ⟨rfl, h1⟩; (try with_reducible replace h1 := undrew h1); have hB : Below w.heap.size w wA := ba (by go_grown) h1; obtain ⟨hcwA, hfwA⟩ := bcell h1; have hqwA := h1.size; (try simp at hqwA); (try have hz0wA : w.heap.size < wA.heap.size := (by omega)); (try have he0wA : w.heap.size ≤ wA.heap.size := (by omega)))
      go_returns
      exact ⟨by first | rfl | simp_all | (simp; omega), by go_grown⟩

set_option maxRecDepth 100000 in
set_option maxHeartbeats 800000 in
theorem spCountTracks (b : Bq) (w : World) : Calls Try.prog 31 #[bv b] w fun e w' => e = .returned (.tuple #[.int .i64 (ctR b), .bool (ctG b)]) ∧ Below w.heap.size w w' := by
  have PS := Lib.hid (spSmB_any b 12 (by decide))
  unfold ctR ctG
  cases hb : bxB 12 b
  · rw [hb] at PS
    clear hb
    go_enter Try.func31, Try.ntmps31
    go_wp2_with (go_at_call 64; refine (PS.out _).mono ?_; rintro e w1 ⟨rfl, h1⟩; have hB : Below w.heap.size w w1 := ba (by go_grown) h1; obtain ⟨hc1, hf1⟩ := bcell h1; have hq := h1.size; (try simp at hq); have hz0 : w.heap.size < w1.heap.size := (by omega); have HK1 := Lib.hid h1; clear h1 hq)
    go_returns
    exact ⟨rfl, by go_grown⟩
  · rw [hb] at PS
    obtain ⟨s, c, rfl, hsc⟩ := bxB_nat (m := 12) hb
    simp only [Int.toNat_natCast, cond_true]
    rw [← ct_same hsc]
    have HM := Lib.hid (fun k (hk : k ≤ s) => ctM_le hsc hk)
    have hC : 2 ^ c ≤ 4096 := Nat.pow_le_pow_right (show 0 < 2 by decide) (show c ≤ 12 by omega)
    have hT : ((2 ^ c : Nat) : Int) = (2 : Int) ^ c := by push_cast; rfl
    have HSH := Lib.hid (fun (M : Nat) (h : M ≤ 1000) => show wrap64 ((M : Int) * 2 ^ c) = ((M * 2 ^ c : Nat) : Int) by
      have h1 : M * 2 ^ c ≤ 1000 * 4096 := Nat.mul_le_mul h hC
      have h2 : ((M * 2 ^ c : Nat) : Int) = (M : Int) * 2 ^ c := by push_cast; rfl
      rw [← h2]
      generalize M * 2 ^ c = V at *
      exact IntWalk.wrap64_in _ ⟨by omega, by omega⟩)
    have HF := Lib.hid (rfl : ctM s c s * 2 ^ c = ctM s c s * 2 ^ c)
    obtain ⟨Z, hZ⟩ : ∃ Z : Nat, ctM s c s * 2 ^ c = Z := ⟨_, rfl⟩
    have HZ := Lib.hid hZ
    rw [hZ]
    clear hC hT hZ HF
    clear hb
    go_enter Try.func31, Try.ntmps31
    go_wp2_with fail
    (go_at_call 64; (with_reducible refine (PS.out _).mono ?_); rintro e wA ⟨rfl, h1⟩; (try with_reducible replace h1 := undrew h1); have hB : Below w.heap.size w wA := ba (by go_grown) h1; obtain ⟨hcwA, hfwA⟩ := bcell h1; have hqwA := h1.size; (try simp at hqwA); (try have hz0wA : w.heap.size < wA.heap.size := (by omega)); (try have he0wA : w.heap.size ≤ wA.heap.size := (by omega)))
    go_wp2_with fail
    have c0 : wA.cell? ⟨w.heap.size, 0, none⟩ = some (.int .i64 (s : Int)) := by go_simp
    have c1 : wA.cell? ⟨w.heap.size, 1, none⟩ = some (.int .i64 (c : Int)) := by go_simp
    have HB := Lib.hid hB
    clear hcwA hfwA hB
    go_loop [4, 5] (fun t i => ∃ k : Nat, k ≤ s ∧ i = .int .i64 ((k + 1 : Nat) : Int) ∧ t = .int .i64 (ctM s c k : Nat)) (fun _ i => s + 1 - (intOf i).toNat)
    case atStart => exact ⟨0, Nat.zero_le _, rfl, rfl⟩
    case round =>
      obtain ⟨k, hk, rfl, rfl⟩ := hrel
      have hmk := HM.out k hk
      obtain ⟨K, hK⟩ : ∃ K : Nat, k + 1 = K := ⟨_, rfl⟩
      obtain ⟨M, hM⟩ : ∃ M : Nat, ctM s c k = M := ⟨_, rfl⟩
      rw [hK]
      rw [hM] at hmk ⊢
      by_cases hlt : k < s
      · have hK0 : ¬ (K : Int) = 0 := by omega
        have hKs : (K : Int) ≤ (s : Int) := by omega
        have hKsN : K ≤ s := by omega
        have hcK : wrap64 ((c : Int) + (K : Int)) = (c : Int) + (K : Int) := IntWalk.wrap64_in _ ⟨by omega, by omega⟩
        obtain ⟨P, hP⟩ : ∃ P : Nat, M * (c + K) = P := ⟨_, rfl⟩
        have hle : P ≤ 1000 * 100 := by rw [← hP]; exact Nat.mul_le_mul (by omega) (by omega)
        have hPI : (M : Int) * ((c : Int) + (K : Int)) = (P : Int) := by rw [← hP, Int.natCast_mul, Int.natCast_add]
        have hmul := w64N P (Nat.le_trans hle (by decide))
        have hq := tdivN P K
        obtain ⟨Q, hQ⟩ : ∃ Q : Nat, P / K = Q := ⟨_, rfl⟩
        rw [hQ] at hq
        have HST := Lib.hid (show ctM s c (k + 1) = Q by rw [ctM_succ, hK, hM, hP, hQ])
        have hQ2 : Q ≤ P := by rw [← hQ]; exact Nat.div_le_self _ _
        have hwq := w64N Q (Nat.le_trans hQ2 (Nat.le_trans hle (by decide)))
        have HKS := Lib.hid hK
        have HQ2 := Lib.hid (Nat.le_trans hQ2 hle)
        clear hK hM hP hQ hQ2 hle
        go_wp2_with fail
        go_round
        case rel => exact ⟨k + 1, by omega, by have := HKS.out; rw [this]; go_num, by rw [HST.out, hwq]⟩
        case measure => have := HKS.out; simp [intOf]; omega
      · obtain rfl : k = s := by omega
        have hKs : ¬ (K : Int) ≤ (k : Int) := by omega
        have hKsN : ¬ K ≤ k := by omega
        have hsh := HSH.out M hmk
        have hz := HZ.out
        rw [hM] at hz
        rw [hz] at hsh
        clear hz
        go_wp2_with fail
        go_ret2
        exact ⟨rfl, HB.out⟩

set_option maxRecDepth 100000 in
set_option maxHeartbeats 800000 in
theorem imCountTracks (b : Bq) (w : World) : Calls Try.prog 32 #[bv b] w fun e w' => e = .returned (.tuple #[.int .i64 (ctR b), .bool (ctG b)]) ∧ Below w.heap.size w w' := by
  have PS := Lib.hid (isWithinB_any b 12 (by decide) (by decide))
  unfold ctR ctG
  cases hb : bxB 12 b
  · rw [hb] at PS
    clear hb
    go_enter Try.func32, Try.ntmps32
    go_wp2_with (go_at_call 52; refine (PS.out _).mono ?_; rintro e w1 ⟨rfl, h1⟩; have hB : Below w.heap.size w w1 := ba (by go_grown) h1; obtain ⟨hc1, hf1⟩ := bcell h1; have hq := h1.size; (try simp at hq); have hz0 : w.heap.size < w1.heap.size := (by omega); have HK1 := Lib.hid h1; clear h1 hq)
    go_returns
    exact ⟨rfl, by go_grown⟩
  · rw [hb] at PS
    obtain ⟨s, c, rfl, hsc⟩ := bxB_nat (m := 12) hb
    simp only [Int.toNat_natCast, cond_true]
    have HM := Lib.hid (fun k (hk : k ≤ c) => ctP_le hsc hk)
    have HZ := Lib.hid (rfl : ctP s c c = ctP s c c)
    obtain ⟨Z, hZ⟩ : ∃ Z : Nat, ctP s c c = Z := ⟨_, rfl⟩
    have HZ := Lib.hid hZ
    rw [hZ]
    clear hb hZ
    go_enter Try.func32, Try.ntmps32
    go_wp2_with fail
    (go_at_call 52; (with_reducible refine (PS.out _).mono ?_); rintro e wA ⟨rfl, h1⟩; (try with_reducible replace h1 := undrew h1); have hB : Below w.heap.size w wA := ba (by go_grown) h1; obtain ⟨hcwA, hfwA⟩ := bcell h1; have hqwA := h1.size; (try simp at hqwA); (try have hz0wA : w.heap.size < wA.heap.size := (by omega)); (try have he0wA : w.heap.size ≤ wA.heap.size := (by omega)))
    go_wp2_with fail
    have c0 : wA.cell? ⟨w.heap.size, 0, none⟩ = some (.int .i64 (s : Int)) := by go_simp
    have c1 : wA.cell? ⟨w.heap.size, 1, none⟩ = some (.int .i64 (c : Int)) := by go_simp
    have HB := Lib.hid hB
    clear hcwA hfwA hB
    go_wp2_with fail
    go_loop [4, 12] (fun t i => ∃ k : Nat, k ≤ c ∧ i = .int .i64 k ∧ t = .int .i64 (ctP s c k : Nat)) (fun _ i => c - (intOf i).toNat)
    case atStart => exact ⟨0, Nat.zero_le _, rfl, rfl⟩
    case round =>
      obtain ⟨k, hk, rfl, rfl⟩ := hrel
      have hmk := HM.out k hk
      obtain ⟨K, hK⟩ : ∃ K : Nat, k + 1 = K := ⟨_, rfl⟩
      obtain ⟨M, hM⟩ : ∃ M : Nat, ctP s c k = M := ⟨_, rfl⟩
      rw [hM] at hmk ⊢
      by_cases hlt : k < c
      · have hK0 : ¬ (K : Int) = 0 := by omega
        have hkK : (k : Int) + 1 = (K : Int) := by omega
        have hKw : wrap64 (K : Int) = (K : Int) := w64N K (by omega)
        have hcK : wrap64 ((s : Int) + (K : Int)) = (s : Int) + (K : Int) := IntWalk.wrap64_in _ ⟨by omega, by omega⟩
        obtain ⟨P, hP⟩ : ∃ P : Nat, 2 * M * (s + K) = P := ⟨_, rfl⟩
        have hle : P ≤ 2000000 * 100 := by rw [← hP]; exact Nat.mul_le_mul (by omega) (by omega)
        have h2M : wrap64 (2 * (M : Int)) = 2 * (M : Int) := IntWalk.wrap64_in _ ⟨by omega, by omega⟩
        have hPI : 2 * (M : Int) * ((s : Int) + (K : Int)) = (P : Int) := by rw [← hP, Int.natCast_mul, Int.natCast_mul, Int.natCast_add]; rfl
        have hmul := w64N P (Nat.le_trans hle (by decide))
        have hq := tdivN P K
        obtain ⟨Q, hQ⟩ : ∃ Q : Nat, P / K = Q := ⟨_, rfl⟩
        rw [hQ] at hq
        have HST := Lib.hid (show ctP s c (k + 1) = Q by rw [ctP_succ, hK, hM, hP, hQ])
        have hQ2 : Q ≤ P := by rw [← hQ]; exact Nat.div_le_self _ _
        have hwq := w64N Q (Nat.le_trans hQ2 (Nat.le_trans hle (by decide)))
        have HKS := Lib.hid hK
        clear hK hM hP hQ hQ2 hle
        go_wp2_with fail
        go_round
        case rel => exact ⟨k + 1, by omega, by first | rfl | go_num, by rw [HST.out, hwq]⟩
        case measure => have := HKS.out; simp [intOf]; omega
      · obtain rfl : k = c := by omega
        have hz := HZ.out
        rw [hM] at hz
        subst hz
        clear hK
        go_wp2_with fail
        go_ret2
        exact ⟨rfl, HB.out⟩

end Go.Proofs.Ytkmgcmgnaeamaaa
