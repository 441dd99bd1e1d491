/- Contracts of the program: how long a period is, the signals behind so many ticks, a line without signals. -/
import Derived.Test.YtogimjbjdgccnaaDoorTkP
import Derived.Test.YtogimjbjdgccnaaDoorClY
import Derived.Test.YtogimjbjdgccnaaDoorRn
import Derived.Test.YtogimjbjdgccnaaDoorShL
import Derived.Lib.SplitLaws
import Derived.BigQuiet
namespace Go.Proofs.YtogimjbjdgccnaaDoor
open Go.ChangeShapes Go.WideShapes Go.ChangeAt Go.RowKit
open Ln

set_option linter.unusedVariables false

set_option maxRecDepth 100000 in
theorem period_any (av : Option Addr) (p cap q : Nat) (hq : q ≤ p) (hp : p ≤ 16777216) (w : World) :
    Calls Tryd.prog 70 #[.agg #[.slice av p cap, .int .i64 q]] w fun e w' => e = .returned (.int .i64 ((p : Int) - (q : Int))) ∧ Below w.heap.size w w' := by
  have ww : IntKind.i64.wrap ((p : Int) - (q : Int)) = (p : Int) - (q : Int) := by rw [IntKind.wrap_i64]; omega
  go_enter Tryd.func70, Tryd.ntmps70
  go_wp2_with fail
  go_ret
  exact ⟨by simp, by go_grown⟩

set_option maxRecDepth 100000 in
theorem behind_any (g p cap q t : Nat) (l : List UInt8) (gp : Nat) (hq : q < p) (hp : p ≤ 16777216) (ht : t ≤ 10000) (w : World) (hg : g < w.heap.size)
    (hc : ∀ i, i < p → w.cell? ⟨g, i, none⟩ = some (.string (sgT l gp i))) :
    Calls Tryd.prog 66 #[.agg #[.slice (some ⟨g, 0, none⟩) p cap, .int .i64 q], .int .i64 t] w fun e w' => e = .returned (.string (sgT l gp (rdT p q t))) ∧ Below w.heap.size w w' := by
  have hS0 := show (w.alloc (.cells #[.slice (some ⟨g, 0, none⟩) p cap, .int .i64 q] 63)).cell? ⟨w.heap.size, 0, none⟩ = some (.slice (some ⟨g, 0, none⟩) p cap) ∧ (w.alloc (.cells #[.slice (some ⟨g, 0, none⟩) p cap, .int .i64 q] 63)).cell? ⟨w.heap.size, 1, none⟩ = some (.int .i64 q) from by simp [go_sem]
  by_cases h : t < q
  · have hr : rdT p q t = t := by rw [rdT, if_neg (by omega)]
    have hcell := hc t (by omega)
    rw [hr]
    have HR := Lib.hid hr
    clear hr hc
    generalize sgT l gp t = S at *
    go_enter Tryd.func66, Tryd.ntmps66
    go_wp2_with fail
    go_ret
    exact ⟨rfl, by go_grown⟩
  · obtain ⟨r, hr⟩ : ∃ r, (t - q) % (p - q) = r := ⟨_, rfl⟩
    have hlt : r < p - q := hr ▸ Nat.mod_lt _ (by omega)
    have hd : rdT p q t = q + r := by rw [rdT, if_pos (by omega), hr]
    have hcell := hc (q + r) (by omega)
    have e1 : ((t : Int) - (q : Int)).tmod ((p : Int) - (q : Int)) = (r : Int) := by
      have : ((t : Int) - (q : Int)) = ((t - q : Nat) : Int) := by omega
      rw [this, show ((p : Int) - (q : Int)) = ((p - q : Nat) : Int) by omega, rem_nat, hr]
    have w1 : IntKind.i64.wrap ((t : Int) - (q : Int)) = (t : Int) - (q : Int) := by rw [IntKind.wrap_i64]; omega
    have w2 : IntKind.i64.wrap (((t : Int) - (q : Int)).tmod ((p : Int) - (q : Int))) = (r : Int) := by rw [e1, IntKind.wrap_i64]; omega
    have w3 : IntKind.i64.wrap ((q : Int) + (r : Int)) = (q : Int) + (r : Int) := by rw [IntKind.wrap_i64]; omega
    have hne : ¬ ((p : Int) - (q : Int)) = 0 := by omega
    rw [hd]
    clear hd hc hr
    generalize sgT l gp (q + r) = S at *
    go_enter Tryd.func66, Tryd.ntmps66
    go_wp2_with fail
    go_region_held3 (fun w' => w'.cell? ⟨w.heap.size, 0, none⟩ = some (.slice (some ⟨g, 0, none⟩) p cap) ∧ w'.cell? ⟨w.heap.size, 1, none⟩ = some (.int .i64 q))
      (first | (with_reducible assumption) | (with_reducible exact y1_drew hS0) | (with_reducible exact y1_drew (y1_alloc hS0 _)) | (with_reducible exact y1_alloc (y1_drew hS0) _) | (with_reducible refine y1_drew ?_; with_reducible assumption) | (with_reducible refine y1_alloc ?_ _; with_reducible assumption) | (with_reducible refine y1_re (by with_reducible assumption) ?_ _; (focus first | (with_reducible assumption) | omega | (simp; done) | (simp; omega))) | (with_reducible refine y1_below ?_ ?_ h1; (focus first | (with_reducible assumption) | (with_reducible refine y1_undrew ?_; with_reducible assumption)); (focus first | (with_reducible assumption) | omega | (simp; done) | (simp; omega))) | ((repeat (with_reducible refine y1_set ?_ _ _ ?_; rotate_left 1; (focus first | (with_reducible assumption) | omega | (simp; done) | (simp; omega)))); with_reducible assumption))
      (first | (go_at_call 70; (with_reducible refine (period_any _ p cap q (by omega) hp _).mono ?_); rintro e wB ⟨rfl, h1⟩; (try with_reducible replace h1 := undrew h1); have hB : Below w.heap.size w wB := ba (by go_grown) h1; obtain ⟨hcwB, hfwB⟩ := bcell h1; have hqwB := h1.size; (try simp at hqwB); (try have hz0wB : w.heap.size < wB.heap.size := (by omega)); (try have he0wB : w.heap.size ≤ wB.heap.size := (by omega))))
    go_wp2_with fail
    go_ret
    exact ⟨rfl, by go_grown⟩

theorem rep_any (s : ByteArray) (a b : UInt8) (hab : a ≠ b) (hs : s.size ≤ 24) (m : Int) (w : World) (hm : w.cell? ⟨0, 0, none⟩ = some (.int .i64 m)) :
    Calls Tryd.prog 93 #[.string s, .string ⟨#[a]⟩, .string ⟨#[b]⟩] w fun e w' => e = .returned (.string (ofL (swp a b s.data.toList))) ∧ Below w.heap.size w w' := by
  have hle : Lib.countB s ⟨#[a]⟩ ≤ s.size := Lib.countB_le ⟨#[a]⟩ (Nat.le_refl _) _ s (Nat.le_refl _)
  refine (Tryd.strings_ReplaceAll s ⟨#[a]⟩ ⟨#[b]⟩ m w (by omega) hm (Nat.le_refl _) (by show s.size + Lib.countB s ⟨#[a]⟩ * 1 ≤ _; omega)).mono ?_
  rintro e w1 ⟨rfl, h1⟩
  exact ⟨by rw [show (ByteArray.mk #[a]).data.toList = [a] from rfl, show (ByteArray.mk #[b]).data.toList = [b] from rfl, rep_all a b _ hab]; rfl, h1⟩

set_option maxRecDepth 100000 in
theorem wo_any (l : List UInt8) (hl : l.length ≤ 24) (m : Int) (w : World) (hm : w.cell? ⟨0, 0, none⟩ = some (.int .i64 m)) (hz : 0 < w.heap.size) :
    Calls Tryd.prog 65 #[.string (ofL l)] w fun e w' => e = .returned (.string (ofL (wo l))) ∧ Below w.heap.size w w' := by
  have R1 := rep_any (ofL l) 103 84 (by decide) (by rw [ofL_size]; exact hl) m
  rw [ofL_list] at R1
  have R2 := rep_any (ofL (swp 103 84 l)) 114 84 (by decide) (by rw [ofL_size, swp_len]; exact hl) m
  rw [ofL_list, swp_wo] at R2
  generalize ofL (swp 103 84 l) = T at *
  generalize ofL (wo l) = U at *
  generalize ofL l = S at *
  clear hl
  go_enter Tryd.func65, Tryd.ntmps65
  go_wp2_with fail
  refine (R1 w hm).mono ?_
  rintro e w1 ⟨rfl, h1⟩
  have hm1 := (h1.cell (p := ⟨0, 0, none⟩) hz).trans hm
  have HB := Lib.hid h1
  clear h1
  go_wp2_with fail
  refine (R2 _ hm1).mono ?_
  rintro e w2 ⟨rfl, h2⟩
  have HB2 := Lib.hid (HB.out.trans (h2.mono HB.out.size))
  clear h2
  go_wp2_with fail
  go_ret
  exact ⟨rfl, HB2.out⟩

end Go.Proofs.YtogimjbjdgccnaaDoor
