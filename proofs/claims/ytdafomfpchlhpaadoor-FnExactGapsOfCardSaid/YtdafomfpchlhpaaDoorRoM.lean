/- A track laid from a point with a heading: turned and moved. -/
import Derived.Test.YtdafomfpchlhpaaDoorStM
namespace Go.Proofs.YtdafomfpchlhpaaDoor

theorem tS0 (k h : Int) (k0 : 0 ≤ k) (k7 : k ≤ 7) (h0 : 0 ≤ h) (h7 : h ≤ 7) : tu0 ((k + h) % 8) 1 0 0 0 = tu0 k (tu0 h 1 0 0 0) (tu1 h 1 0 0 0) (tu2 h 1 0 0 0) (tu3 h 1 0 0 0) := by
  rcases eight k k0 k7 with rfl | rfl | rfl | rfl | rfl | rfl | rfl | rfl <;> rcases eight h h0 h7 with rfl | rfl | rfl | rfl | rfl | rfl | rfl | rfl <;> decide

theorem tS1 (k h : Int) (k0 : 0 ≤ k) (k7 : k ≤ 7) (h0 : 0 ≤ h) (h7 : h ≤ 7) : tu1 ((k + h) % 8) 1 0 0 0 = tu1 k (tu0 h 1 0 0 0) (tu1 h 1 0 0 0) (tu2 h 1 0 0 0) (tu3 h 1 0 0 0) := by
  rcases eight k k0 k7 with rfl | rfl | rfl | rfl | rfl | rfl | rfl | rfl <;> rcases eight h h0 h7 with rfl | rfl | rfl | rfl | rfl | rfl | rfl | rfl <;> decide

theorem tS2 (k h : Int) (k0 : 0 ≤ k) (k7 : k ≤ 7) (h0 : 0 ≤ h) (h7 : h ≤ 7) : tu2 ((k + h) % 8) 1 0 0 0 = tu2 k (tu0 h 1 0 0 0) (tu1 h 1 0 0 0) (tu2 h 1 0 0 0) (tu3 h 1 0 0 0) := by
  rcases eight k k0 k7 with rfl | rfl | rfl | rfl | rfl | rfl | rfl | rfl <;> rcases eight h h0 h7 with rfl | rfl | rfl | rfl | rfl | rfl | rfl | rfl <;> decide

theorem tS3 (k h : Int) (k0 : 0 ≤ k) (k7 : k ≤ 7) (h0 : 0 ≤ h) (h7 : h ≤ 7) : tu3 ((k + h) % 8) 1 0 0 0 = tu3 k (tu0 h 1 0 0 0) (tu1 h 1 0 0 0) (tu2 h 1 0 0 0) (tu3 h 1 0 0 0) := by
  rcases eight k k0 k7 with rfl | rfl | rfl | rfl | rfl | rfl | rfl | rfl <;> rcases eight h h0 h7 with rfl | rfl | rfl | rfl | rfl | rfl | rfl | rfl <;> decide

theorem tuA0 (k a0 a1 a2 a3 b0 b1 b2 b3 : Int) : tu0 k (a0 + b0) (a1 + b1) (a2 + b2) (a3 + b3) = tu0 k a0 a1 a2 a3 + tu0 k b0 b1 b2 b3 := by unfold tu0; repeat' split <;> omega

theorem tuA1 (k a0 a1 a2 a3 b0 b1 b2 b3 : Int) : tu1 k (a0 + b0) (a1 + b1) (a2 + b2) (a3 + b3) = tu1 k a0 a1 a2 a3 + tu1 k b0 b1 b2 b3 := by unfold tu1; repeat' split <;> omega

theorem tuA2 (k a0 a1 a2 a3 b0 b1 b2 b3 : Int) : tu2 k (a0 + b0) (a1 + b1) (a2 + b2) (a3 + b3) = tu2 k a0 a1 a2 a3 + tu2 k b0 b1 b2 b3 := by unfold tu2; repeat' split <;> omega

theorem tuA3 (k a0 a1 a2 a3 b0 b1 b2 b3 : Int) : tu3 k (a0 + b0) (a1 + b1) (a2 + b2) (a3 + b3) = tu3 k a0 a1 a2 a3 + tu3 k b0 b1 b2 b3 := by unfold tu3; repeat' split <;> omega

theorem tuM0 (k a0 a1 a2 a3 b0 b1 b2 b3 : Int) : tu0 k (a0 - b0) (a1 - b1) (a2 - b2) (a3 - b3) = tu0 k a0 a1 a2 a3 - tu0 k b0 b1 b2 b3 := by unfold tu0; repeat' split <;> omega

theorem tuM1 (k a0 a1 a2 a3 b0 b1 b2 b3 : Int) : tu1 k (a0 - b0) (a1 - b1) (a2 - b2) (a3 - b3) = tu1 k a0 a1 a2 a3 - tu1 k b0 b1 b2 b3 := by unfold tu1; repeat' split <;> omega

theorem tuM2 (k a0 a1 a2 a3 b0 b1 b2 b3 : Int) : tu2 k (a0 - b0) (a1 - b1) (a2 - b2) (a3 - b3) = tu2 k a0 a1 a2 a3 - tu2 k b0 b1 b2 b3 := by unfold tu2; repeat' split <;> omega

theorem tuM3 (k a0 a1 a2 a3 b0 b1 b2 b3 : Int) : tu3 k (a0 - b0) (a1 - b1) (a2 - b2) (a3 - b3) = tu3 k a0 a1 a2 a3 - tu3 k b0 b1 b2 b3 := by unfold tu3; repeat' split <;> omega

theorem turn8 (k h n : Int) : ((k + h) % 8 + n) % 8 = (k + (h + n) % 8) % 8 := by omega

theorem ddR (c : UInt8) (k h : Int) (k0 : 0 ≤ k) (k7 : k ≤ 7) (h0 : 0 ≤ h) (h7 : h ≤ 7) :
    dd0 c ((k + h) % 8) = tu0 k (dd0 c h) (dd1 c h) (dd2 c h) (dd3 c h) ∧ dd1 c ((k + h) % 8) = tu1 k (dd0 c h) (dd1 c h) (dd2 c h) (dd3 c h) ∧
    dd2 c ((k + h) % 8) = tu2 k (dd0 c h) (dd1 c h) (dd2 c h) (dd3 c h) ∧ dd3 c ((k + h) % 8) = tu3 k (dd0 c h) (dd1 c h) (dd2 c h) (dd3 c h) := by
  have q := fun n (hn : 0 ≤ (h + n) % 8 ∧ (h + n) % 8 ≤ 7) => And.intro (tS0 k ((h + n) % 8) k0 k7 hn.1 hn.2) (And.intro (tS1 k ((h + n) % 8) k0 k7 hn.1 hn.2) (And.intro (tS2 k ((h + n) % 8) k0 k7 hn.1 hn.2) (tS3 k ((h + n) % 8) k0 k7 hn.1 hn.2)))
  obtain ⟨a0, a1, a2, a3⟩ := q 7 (by omega)
  obtain ⟨b0, b1, b2, b3⟩ := q 6 (by omega)
  obtain ⟨c0, c1, c2, c3⟩ := q 1 (by omega)
  obtain ⟨d0, d1, d2, d3⟩ := q 2 (by omega)
  unfold dd0 dd1 dd2 dd3
  by_cases e1 : c == 76
  · simp only [e1, if_true, turn8, tuM0, tuM1, tuM2, tuM3]
    exact ⟨by rw [a0, b0], by rw [a1, b1], by rw [a2, b2], by rw [a3, b3]⟩
  by_cases e2 : c == 82
  · simp only [e1, e2, if_true, if_false, Bool.false_eq_true, turn8, tuM0, tuM1, tuM2, tuM3]
    exact ⟨by rw [c0, d0], by rw [c1, d1], by rw [c2, d2], by rw [c3, d3]⟩
  · simp only [e1, e2, if_false, Bool.false_eq_true]
    exact ⟨tS0 k h k0 k7 h0 h7, tS1 k h k0 k7 h0 h7, tS2 k h k0 k7 h0 h7, tS3 k h k0 k7 h0 h7⟩

/-- The step s, turned by a's heading and moved to a. -/
def rot (a s : Sp) : Sp := ⟨a.x0 + tu0 a.h s.x0 s.x1 s.x2 s.x3, a.x1 + tu1 a.h s.x0 s.x1 s.x2 s.x3, a.x2 + tu2 a.h s.x0 s.x1 s.x2 s.x3, a.x3 + tu3 a.h s.x0 s.x1 s.x2 s.x3, (a.h + s.h) % 8⟩

set_option linter.unusedSimpArgs false in
theorem nhR (c : UInt8) (k h : Int) : nh c ((k + h) % 8) % 8 = (k + nh c h) % 8 := by
  unfold nh
  by_cases e1 : c == 76 <;> by_cases e2 : c == 82 <;> simp only [e1, e2, if_true, if_false, Bool.false_eq_true] <;> omega

theorem nh_mod (c : UInt8) (h : Int) (h0 : 0 ≤ h) (h7 : h ≤ 7) : nh c h % 8 = nh c h := by have := nh_bd c h h0 h7; omega

theorem rot_next (a s : Sp) (c : UInt8) (k0 : 0 ≤ a.h) (k7 : a.h ≤ 7) (h0 : 0 ≤ s.h) (h7 : s.h ≤ 7) : (rot a s).next c = rot a (s.next c) := by
  obtain ⟨r0, r1, r2, r3⟩ := ddR c a.h s.h k0 k7 h0 h7
  have r4 := nhR c a.h s.h
  rw [nh_mod c ((a.h + s.h) % 8) (by omega) (by omega)] at r4
  simp only [rot, Sp.next, r0, r1, r2, r3, r4, tuA0, tuA1, tuA2, tuA3, Int.add_assoc]

theorem rot_fin (a : Sp) (k0 : 0 ≤ a.h) (k7 : a.h ≤ 7) : ∀ (l : List UInt8) (s : Sp), 0 ≤ s.h → s.h ≤ 7 → fin (rot a s) l = rot a (fin s l)
  | [], _, _, _ => rfl
  | c :: l, s, h0, h7 => by
    have hb := nh_bd c s.h h0 h7
    have ih := rot_fin a k0 k7 l (s.next c) hb.1 hb.2
    simp only [fin, List.foldl_cons] at ih ⊢
    rw [rot_next a s c k0 k7 h0 h7]
    exact ih

theorem rot_zero (a : Sp) (k0 : 0 ≤ a.h) (k7 : a.h ≤ 7) : rot a sp0 = a := by
  have z0 : tu0 a.h 0 0 0 0 = 0 := by unfold tu0; repeat' split <;> omega
  have z1 : tu1 a.h 0 0 0 0 = 0 := by unfold tu1; repeat' split <;> omega
  have z2 : tu2 a.h 0 0 0 0 = 0 := by unfold tu2; repeat' split <;> omega
  have z3 : tu3 a.h 0 0 0 0 = 0 := by unfold tu3; repeat' split <;> omega
  have z4 : a.h % 8 = a.h := by omega
  simp [rot, sp0, z0, z1, z2, z3, z4]

/-- Laid from a: as laid from 0, turned and moved. -/
theorem fin_rot (a : Sp) (k0 : 0 ≤ a.h) (k7 : a.h ≤ 7) (l : List UInt8) : fin a l = rot a (fin sp0 l) := by
  have := rot_fin a k0 k7 l sp0 (by decide) (by decide)
  rwa [rot_zero a k0 k7] at this

end Go.Proofs.YtdafomfpchlhpaaDoor
