/- Contracts: whether two tracks have the same end. -/
import Derived.Test.YtpaimngepmfemabSe
namespace Go.Proofs.Ytpaimngepmfemab
open Go.ChangeShapes Go.WideShapes Go.ChangeAt Go.RowKit

def saG (a b : ByteArray) : Bool := tkB a && tkB b
def saR (a b : ByteArray) : Bool := saG a b && (((enS a).x0 == (enS b).x0 && ((enS a).x1 == (enS b).x1 && ((enS a).x2 == (enS b).x2 && (enS a).x3 == (enS b).x3))) && (enS a).h == (enS b).h)

theorem ret_sa {a b : ByteArray} {r g : Bool} (hg : saG a b = g) (hr : saR a b = r) : Ending.returned (.tuple #[.bool r, .bool g]) = Ending.returned (.tuple #[.bool (saR a b), .bool (saG a b)]) := by rw [hg, hr]

set_option maxRecDepth 100000 in
set_option maxHeartbeats 800000 in
theorem spAreSameEnds (a b : ByteArray) (ha : a.size ≤ 1048576) (hb : b.size ≤ 1048576) (w : World) :
    Calls Try.prog 37 #[.string a, .string b] w fun e w' => e = .returned (.tuple #[.bool (saR a b), .bool (saG a b)]) ∧ Below w.heap.size w w' := by
  cases ta : tkB a
  · have R1 := Lib.hid (show saG a b = false by simp [saG, ta])
    have R2 := Lib.hid (show saR a b = false by simp [saR, R1.out])
    go_enter Try.func37, Try.ntmps37
    go_wp2_with (go_at_call 39; refine (tkGood_any a ha _).mono ?_; rintro e w' ⟨rfl, rfl⟩)
    go_ret2
    exact ⟨ret_sa R1.out R2.out, Below.refl _ _⟩
  cases tb : tkB b
  · have R1 := Lib.hid (show saG a b = false by simp [saG, tb])
    have R2 := Lib.hid (show saR a b = false by simp [saR, R1.out])
    go_enter Try.func37, Try.ntmps37
    go_wp2_with (go_at_call 39; first | ((with_reducible refine (tkGood_any a ha _).mono ?_); rintro e w' ⟨rfl, rfl⟩) | ((with_reducible refine (tkGood_any b hb _).mono ?_); rintro e w' ⟨rfl, rfl⟩))
    go_ret2
    exact ⟨ret_sa R1.out R2.out, Below.refl _ _⟩
  have R1 := Lib.hid (show saG a b = true by simp [saG, ta, tb])
  have hR : saR a b = (((enS a).x0 == (enS b).x0 && ((enS a).x1 == (enS b).x1 && ((enS a).x2 == (enS b).x2 && (enS a).x3 == (enS b).x3))) && (enS a).h == (enS b).h) := by simp [saR, R1.out]
  have hca := tkEnd_yes a ta
  have hcb := tkEnd_yes b tb
  generalize enS a = p at hR hca
  generalize enS b = q at hR hcb
  obtain ⟨x0, x1, x2, x3, x4⟩ := p
  obtain ⟨y0, y1, y2, y3, y4⟩ := q
  simp only at hR
  have HA := Lib.hid hca
  have HC := Lib.hid hcb
  clear hca hcb
  cases hq : (x0 == y0 && (x1 == y1 && (x2 == y2 && x3 == y3)))
  all_goals
    rw [hq] at hR
    have R2 := Lib.hid hR
    clear hR
    go_enter Try.func37, Try.ntmps37
    go_wp2_with (go_at_call 39; first | ((with_reducible refine (tkGood_any a ha _).mono ?_); rintro e w' ⟨rfl, rfl⟩) | ((with_reducible refine (tkGood_any b hb _).mono ?_); rintro e w' ⟨rfl, rfl⟩))
    (go_at_call 43; (with_reducible refine (HA.out _).mono ?_); rintro e wA ⟨rfl, h1⟩; (try with_reducible replace h1 := undrew h1); have hB : Below w.heap.size w wA := ba (by go_grown) h1; obtain ⟨hcwA, hfwA⟩ := bcell h1; have hqwA := h1.size; (try simp at hqwA); )
    go_wp2_with fail
    (go_at_call 43; (with_reducible refine (HC.out _).mono ?_); rintro e wC ⟨rfl, h1⟩; (try with_reducible replace h1 := undrew h1); have hB : Below w.heap.size w wC := ba (by go_grown) h1; obtain ⟨hcwC, hfwC⟩ := bcell h1; have hqwC := h1.size; (try simp at hqwC); (try have hz0wC : wA.heap.size < wC.heap.size := (by omega)); (try have he0wC : wA.heap.size ≤ wC.heap.size := (by omega)))
    go_wp2_with fail
    go_ret2
    exact ⟨ret_sa R1.out (R2.out.trans (by simp)), by go_grown⟩

set_option maxRecDepth 100000 in
set_option maxHeartbeats 800000 in
theorem imAreSameEnds (a b : ByteArray) (ha : a.size ≤ 1048576) (hb : b.size ≤ 1048576) (w : World) :
    Calls Try.prog 38 #[.string a, .string b] w fun e w' => e = .returned (.tuple #[.bool (saR a b), .bool (saG a b)]) ∧ Below w.heap.size w w' := by
  have hca := endOf_any a ha
  have hcb := endOf_any b hb
  cases ta : tkB a
  · have R1 := Lib.hid (show saG a b = false by simp [saG, ta])
    have R2 := Lib.hid (show saR a b = false by simp [saR, R1.out])
    rw [ta] at hca
    generalize enS a = p at hca
    generalize enS b = q at hcb
    generalize tkB b = tb at hcb
    obtain ⟨x0, x1, x2, x3, x4⟩ := p
    obtain ⟨y0, y1, y2, y3, y4⟩ := q
    have HA := Lib.hid hca
    have HC := Lib.hid hcb
    clear hca hcb ta
    go_enter Try.func38, Try.ntmps38
    go_wp2_with fail
    (go_at_call 44; (with_reducible refine (HA.out _).mono ?_); rintro e wA ⟨rfl, h1⟩; (try with_reducible replace h1 := undrew h1); have hB : Below w.heap.size w wA := ba (by go_grown) h1; obtain ⟨hcwA, hfwA⟩ := bcell h1; have hqwA := h1.size; (try simp at hqwA); )
    go_wp2_with fail
    (go_at_call 44; (with_reducible refine (HC.out _).mono ?_); rintro e wC ⟨rfl, h1⟩; (try with_reducible replace h1 := undrew h1); have hB : Below w.heap.size w wC := ba (by go_grown) h1; obtain ⟨hcwC, hfwC⟩ := bcell h1; have hqwC := h1.size; (try simp at hqwC); (try have hz0wC : wA.heap.size < wC.heap.size := (by omega)); (try have he0wC : wA.heap.size ≤ wC.heap.size := (by omega)))
    go_wp2_with fail
    go_ret2
    exact ⟨ret_sa R1.out R2.out, by go_grown⟩
  cases tb : tkB b
  · have R1 := Lib.hid (show saG a b = false by simp [saG, tb])
    have R2 := Lib.hid (show saR a b = false by simp [saR, R1.out])
    rw [ta] at hca
    rw [tb] at hcb
    generalize enS a = p at hca
    generalize enS b = q at hcb
    obtain ⟨x0, x1, x2, x3, x4⟩ := p
    obtain ⟨y0, y1, y2, y3, y4⟩ := q
    have HA := Lib.hid hca
    have HC := Lib.hid hcb
    clear hca hcb ta tb
    go_enter Try.func38, Try.ntmps38
    go_wp2_with fail
    (go_at_call 44; (with_reducible refine (HA.out _).mono ?_); rintro e wA ⟨rfl, h1⟩; (try with_reducible replace h1 := undrew h1); have hB : Below w.heap.size w wA := ba (by go_grown) h1; obtain ⟨hcwA, hfwA⟩ := bcell h1; have hqwA := h1.size; (try simp at hqwA); )
    go_wp2_with fail
    (go_at_call 44; (with_reducible refine (HC.out _).mono ?_); rintro e wC ⟨rfl, h1⟩; (try with_reducible replace h1 := undrew h1); have hB : Below w.heap.size w wC := ba (by go_grown) h1; obtain ⟨hcwC, hfwC⟩ := bcell h1; have hqwC := h1.size; (try simp at hqwC); (try have hz0wC : wA.heap.size < wC.heap.size := (by omega)); (try have he0wC : wA.heap.size ≤ wC.heap.size := (by omega)))
    go_wp2_with fail
    go_ret2
    exact ⟨ret_sa R1.out R2.out, by go_grown⟩
  have R1 := Lib.hid (show saG a b = true by simp [saG, ta, tb])
  have hR : saR a b = (((enS a).x0 == (enS b).x0 && ((enS a).x1 == (enS b).x1 && ((enS a).x2 == (enS b).x2 && (enS a).x3 == (enS b).x3))) && (enS a).h == (enS b).h) := by simp [saR, R1.out]
  rw [ta] at hca
  rw [tb] at hcb
  generalize enS a = p at hR hca
  generalize enS b = q at hR hcb
  obtain ⟨x0, x1, x2, x3, x4⟩ := p
  obtain ⟨y0, y1, y2, y3, y4⟩ := q
  simp only at hR
  have R2 := Lib.hid hR
  have HA := Lib.hid hca
  have HC := Lib.hid hcb
  clear hca hcb ta tb hR
  go_enter Try.func38, Try.ntmps38
  go_wp2_with fail
  (go_at_call 44; (with_reducible refine (HA.out _).mono ?_); rintro e wA ⟨rfl, h1⟩; (try with_reducible replace h1 := undrew h1); have hB : Below w.heap.size w wA := ba (by go_grown) h1; obtain ⟨hcwA, hfwA⟩ := bcell h1; have hqwA := h1.size; (try simp at hqwA); )
  go_wp2_with fail
  (go_at_call 44; (with_reducible refine (HC.out _).mono ?_); rintro e wC ⟨rfl, h1⟩; (try with_reducible replace h1 := undrew h1); have hB : Below w.heap.size w wC := ba (by go_grown) h1; obtain ⟨hcwC, hfwC⟩ := bcell h1; have hqwC := h1.size; (try simp at hqwC); (try have hz0wC : wA.heap.size < wC.heap.size := (by omega)); (try have he0wC : wA.heap.size ≤ wC.heap.size := (by omega)))
  go_wp2_with fail
  go_ret2
  exact ⟨ret_sa R1.out R2.out, by go_grown⟩

end Go.Proofs.Ytpaimngepmfemab
