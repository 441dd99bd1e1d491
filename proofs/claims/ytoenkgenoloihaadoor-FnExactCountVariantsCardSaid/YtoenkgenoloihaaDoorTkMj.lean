/- Contracts: tracks mirrored and laid backward, in the program. -/
import Derived.Test.YtoenkgenoloihaaDoorTkMi
import Derived.Laws.IdiomStrings
import Derived.Lib.Builder
namespace Go.Proofs.YtoenkgenoloihaaDoor
open Go.ChangeShapes Go.WideShapes Go.ChangeAt Go.RowKit

/-- Block B holds the bytes l, none of them frozen. -/
def Bys (w : World) (B : Nat) (l : List UInt8) : Prop :=
  (∀ j (hj : j < l.length), w.cell? ⟨B, j, none⟩ = some (.int .u8 (l[j].toNat : Int))) ∧ ∀ j, j < l.length → w.frozen? ⟨B, j, none⟩ = false

theorem Bys.new (w : World) (s : ByteArray) (cap : Nat) (e : TypeId) :
    Bys (w.alloc (.cells (bytesRow s cap) e ((bytesRow s cap).size, (bytesRow s cap).size + 1))) w.heap.size s.data.toList := by
  have hsz : s.size ≤ (bytesRow s cap).size := by
    simp only [bytesRow, Array.size_append, Array.size_map]
    exact Nat.le_add_right _ _
  have hat := bytesRow_at s cap
  generalize bytesRow s cap = cs at hsz hat ⊢
  have hb := heap_alloc_new w (.cells cs e (cs.size, cs.size + 1))
  generalize w.alloc (.cells cs e (cs.size, cs.size + 1)) = W at hb ⊢
  refine ⟨fun j hj => ?_, fun j hj => ?_⟩
  · rw [Lib.cell_of_heap hb]
    have hj' : j < s.data.size := by simpa using hj
    rw [hat j hj']
    simp
  · have hj' : j < s.size := by simpa using hj
    have ho : decide (cs.size ≤ j) = false := by simp; omega
    simp [World.frozen?, hb, ho]

theorem Bys.set {w : World} {B : Nat} {l : List UInt8} (h : Bys w B l) {k : Nat} (hk : k < l.length) (c : UInt8) (v : Value) (hv : v = .int .u8 (c.toNat : Int)) : Bys (w.setCell ⟨B, k, none⟩ v) B (l.set k c) := by
  subst hv
  refine ⟨fun j hj => ?_, fun j hj => ?_⟩
  · have hj' : j < l.length := by simpa using hj
    by_cases e : k = j
    · subst e
      rw [World.cell?_setCell_same (h := h.1 k hk)]
      simp
    · rw [World.cell?_setCell_other (h := fun h => e (by injection h)), h.1 j hj']
      simp [e]
  · rw [World.frozen?_setCell]
    exact h.2 j (by simpa using hj)

theorem Bys.below {w w' : World} {B n : Nat} {l : List UInt8} (h : Bys w B l) (hB : B < n) (hb : Below n w w') : Bys w' B l :=
  ⟨fun j hj => by rw [hb.cell (p := ⟨B, j, none⟩) hB]; exact h.1 j hj, fun j hj => by rw [hb.frozen (p := ⟨B, j, none⟩) hB]; exact h.2 j hj⟩

/-- The first k bytes mirrored, the others as they were. -/
def mixL (l : List UInt8) (k : Nat) : List UInt8 := (l.take k).map mir ++ l.drop k

theorem mixL_length (l : List UInt8) (k : Nat) : (mixL l k).length = l.length := by
  simp only [mixL, List.length_append, List.length_map, List.length_take, List.length_drop]; omega

theorem mixL_at (l : List UInt8) (k : Nat) (hk : k < l.length) : (mixL l k)[k]'(by rw [mixL_length]; exact hk) = l[k] := by
  have hl : ((l.take k).map mir).length = k := by rw [List.length_map, List.length_take]; omega
  simp only [mixL]
  rw [List.getElem_append_right (by omega), List.getElem_drop]
  congr 1
  omega

theorem mixL_succ (l : List UInt8) (k : Nat) (hk : k < l.length) : mixL l (k + 1) = (mixL l k).set k (mir l[k]) := by
  have hl : ((l.take k).map mir).length = k := by rw [List.length_map, List.length_take]; omega
  simp only [mixL]
  rw [List.set_append_right _ _ (by omega), hl, Nat.sub_self, List.drop_eq_getElem_cons hk, List.set_cons_zero, List.take_succ_eq_append_getElem hk, List.map_append, List.append_assoc]
  rfl

theorem mixL_same (l : List UInt8) (k : Nat) (hk : k < l.length) (h : mir l[k] = l[k]) : mixL l (k + 1) = mixL l k := by
  rw [mixL_succ l k hk, h]
  have := mixL_at l k hk
  apply List.ext_getElem
  · simp
  · intro i h1 h2
    by_cases e : k = i
    · subst e; simp [this]
    · simp [e]

theorem mixL_all (l : List UInt8) (k : Nat) (hk : ¬ k < l.length) : mixL l k = l.map mir := by
  simp only [mixL]
  rw [List.take_of_length_le (by omega), List.drop_of_length_le (by omega), List.append_nil]

set_option maxRecDepth 100000 in
set_option maxHeartbeats 800000 in
theorem mirrored_any (s : ByteArray) (hs : s.size ≤ 40) (w : World) :
    Calls Tryd.prog 99 #[.string s] w fun e w' => e = .returned (.slice (some ⟨w.heap.size, 0, none⟩) s.size (grownCap w s.size 0 5)) ∧ Bys w' w.heap.size (s.data.toList.map mir) ∧ Below w.heap.size w w' ∧ w.heap.size < w'.heap.size := by
  have q := run_bytes_of_string (P := Tryd.prog) w 9 77 5 s Tryd.underlying9 Tryd.underlying77 Tryd.underlying5
  have h0 := Lib.hid (Bys.new w s (grownCap w s.size 0 5) 5)
  obtain ⟨cap, hcap⟩ : ∃ cap, cap = grownCap w s.size 0 5 := ⟨_, rfl⟩
  rw [← hcap] at q h0 ⊢
  obtain ⟨R, hR⟩ : ∃ R, R = Obj.cells (bytesRow s cap) 5 ((bytesRow s cap).size, (bytesRow s cap).size + 1) := ⟨_, rfl⟩
  rw [← hR] at q h0
  have hls := size_list s
  have HL := Lib.hid hls
  clear hcap hR hls
  go_enter Tryd.func99, Tryd.ntmps99
  go_wp2_with fail
  go_loopw [10] (fun i wr => ∃ k : Nat, k ≤ s.size ∧ i = .int .i64 k ∧ Bys wr w.heap.size (mixL s.data.toList k) ∧ Below w.heap.size w wr ∧ w.heap.size < wr.heap.size) (fun i _ => s.size - (intOf i).toNat)
  case atStart => exact ⟨0, Nat.zero_le _, rfl, h0.out, by go_grown, by simp⟩
  case round =>
    obtain ⟨k, hk, rfl, hM, hb, hz⟩ := hrel
    have HM := Lib.hid hM
    have HB := Lib.hid hb
    by_cases hlt : k < s.size
    · have hk' : k < s.data.toList.length := by rw [HL.out]; exact hlt
      have hk2 : k < (mixL s.data.toList k).length := by rw [mixL_length]; exact hk'
      obtain ⟨c, hc⟩ : ∃ c, c = s.data.toList[k] := ⟨_, rfl⟩
      have hcell : wr.cell? ⟨w.heap.size, k, none⟩ = some (.int .u8 (c.toNat : Int)) := by rw [hM.1 k hk2, mixL_at _ _ hk', hc]
      have hfz : wr.frozen? ⟨w.heap.size, k, none⟩ = false := hM.2 k hk2
      have HC := Lib.hid hc
      clear hM hb hc
      by_cases h1 : c = 76
      · subst h1
        go_wp2_with fail
        go_roundw
        case rel => exact ⟨k + 1, by omega, by go_num, by rw [mixL_succ _ _ hk']; exact HM.out.set hk2 _ _ (by rw [← HC.out]; rfl), HB.out.setCell (Nat.le_refl _) _, by simpa using hz⟩
        case measure => simp [intOf]; omega
      by_cases h2 : c = 82
      · subst h2
        go_wp2_with fail
        go_roundw
        case rel => exact ⟨k + 1, by omega, by go_num, by rw [mixL_succ _ _ hk']; exact HM.out.set hk2 _ _ (by rw [← HC.out]; rfl), HB.out.setCell (Nat.le_refl _) _, by simpa using hz⟩
        case measure => simp [intOf]; omega
      have HS := Lib.hid (mixL_same s.data.toList k hk' (by rw [← HC.out]; simp [mir, h1, h2]))
      have b1 : ((c.toNat : Int) == 76) = false := by
        simp only [beq_eq_false_iff_ne]
        intro h
        exact h1 (UInt8.toNat_inj.1 (by show c.toNat = 76; omega))
      have b2 : ((c.toNat : Int) == 82) = false := by
        simp only [beq_eq_false_iff_ne]
        intro h
        exact h2 (UInt8.toNat_inj.1 (by show c.toNat = 82; omega))
      clear h1 h2
      go_wp2_with fail
      go_roundw
      case rel => exact ⟨k + 1, by omega, by go_num, by rw [HS.out]; exact HM.out, HB.out, hz⟩
      case measure => simp [intOf]; omega
    · have HE := Lib.hid (mixL_all s.data.toList k (by rw [HL.out]; exact hlt))
      clear hM hb
      go_wp2_with fail
      go_ret
      exact ⟨rfl, by rw [← HE.out]; exact HM.out, HB.out, hz⟩

end Go.Proofs.YtoenkgenoloihaaDoor
