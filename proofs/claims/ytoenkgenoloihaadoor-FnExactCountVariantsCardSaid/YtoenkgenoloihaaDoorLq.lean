/- Contracts: arrays out of texts, and texts out of them. -/
import Derived.Test.YtoenkgenoloihaaDoorLp
import Derived.Test.YtoenkgenoloihaaDoorShelf
import Derived.Test.YtoenkgenoloihaaDoorRi
import Derived.Lib.BytesEntry
import Derived.Deep.QuietTactic
import Derived.BigQuiet
import Derived.Laws.Externs
import Derived.Lib.Bytealg
namespace Go.Proofs.YtoenkgenoloihaaDoor
open Go.ChangeShapes Go.WideShapes Go.ChangeAt Go.RowKit

theorem LpAt.loadK {W : World} {b K : Nat} {x : Lp} (hK : K = 40) (h : LpAt W b x) : Sem.run Tryd.prog (loadCellsFrom ⟨b, 0, none⟩ 0 K #[]) W = .ok (arr x) W := by subst hK; exact h.load

theorem zK {K : Nat} (hK : K = 40) : ∀ w, Sem.run Tryd.prog (Go.sizeOf 45) w = .ok K w := by subst hK; exact Tryd.sizeOf45

theorem aK {K : Nat} (hK : K = 40) (x : Lp) : (arr x).size = K := by rw [hK, arr_size]

set_option maxRecDepth 100000 in
set_option maxHeartbeats 800000 in
theorem loopFrom_any (l : List UInt8) (hl : l.length ≤ 40) (w : World) :
    Calls Tryd.prog 67 #[.string (ofL l)] w fun e w' => e = .returned (.agg (arr (mkLp l))) ∧ Below w.heap.size w w' := by
  have hz := (zero_of_info (P := Tryd.prog) lpInfo).1
  have hcp := fun ty => copy_text (w.alloc (.cells (arr zLp) 45)) l hl ty
  have hsz : (w.alloc (.cells (arr zLp) 45)).heap.size = w.heap.size + 1 := by simp
  simp only [hsz] at hcp
  have a1 := LpAt.new (w.alloc (.cells (arr zLp) 45)) (mkLp l)
  rw [hsz] at a1
  have a0 := (LpAt.new w zLp).alloc (.cells (arr (mkLp l)) 45)
  obtain ⟨K, hK⟩ : ∃ K, K = 40 := ⟨_, rfl⟩
  have hld := a1.loadK hK
  have hst := a0.store (mkLp l)
  have hl2 := (a0.set (mkLp l)).loadK hK
  have zE := zK hK
  have hA := aK hK (mkLp l)
  have HB := Lib.hid (((((Below.refl w.heap.size w).alloc (Nat.le_refl _) (.cells (arr zLp) 45)).alloc (by simp) (.cells (arr (mkLp l)) 45)).trans (below_setRow (Below.refl _ _) (Nat.le_refl _) (arr (mkLp l)))) : Below w.heap.size w _)
  clear hK hsz a1 a0
  generalize arr (mkLp l) = A at *
  generalize arr zLp = Z at *
  generalize ofL l = s at *
  go_enter Tryd.func67, Tryd.ntmps67
  go_wp2_with fail
  refine bodyPost_ret (by simp [results, Tryd.results67, go_sem, *]; try rfl) rfl ?_
  exact ⟨rfl, HB.out⟩

/-- The text of an array: without the zeros at its end. -/
def txt (x : Lp) : List UInt8 := Lib.trimRightB x.1 0

theorem txt_mk {l : List UInt8} (hl : l.length ≤ 40) (h0 : ∀ c ∈ l, c ≠ 0) : txt (mkLp l) = l := by
  have h1 : (mkLp l).1 = l ++ List.replicate (40 - l.length) 0 := by
    simp only [mkLp]
    rw [List.take_append, List.take_of_length_le hl, List.take_replicate]
    congr 2
    omega
  rw [txt, Lib.trimRightB, h1, List.reverse_append, List.reverse_replicate]
  have h2 : ∀ n : Nat, (List.replicate n (0 : UInt8) ++ l.reverse).dropWhile (· == 0) = l.reverse := by
    intro n
    induction n with
    | zero =>
      simp only [List.replicate_zero, List.nil_append]
      cases hr : l.reverse with
      | nil => rfl
      | cons a r =>
        have : a ∈ l := by rw [← List.mem_reverse, hr]; exact List.mem_cons_self
        rw [List.dropWhile_cons, if_neg (by simpa using h0 a this)]
    | succ n ih => rw [List.replicate_succ, List.cons_append, List.dropWhile_cons, if_pos (by decide)]; exact ih
  rw [h2, List.reverse_reverse]

theorem txt_le (x : Lp) : (txt x).length ≤ 40 := by
  have := x.2
  rw [txt, Lib.trimRightB, List.length_reverse]
  have h := (List.dropWhile_sublist (· == (0 : UInt8)) (l := x.1.reverse)).length_le
  rw [List.length_reverse] at h
  omega

theorem conv_arr {W : World} {b : Nat} {x : Lp} (h : LpAt W b x) : (convert 77 9 (.slice (some ⟨b, 0, none⟩) 40 40)).run Tryd.prog W = .ok (.string (ofL x.1)) W := by
  have := run_convert_bytes_back W 77 9 5 ⟨b, 0, none⟩ 40 x.1 Tryd.underlying77 Tryd.underlying5 Tryd.underlying9 (fun j hj => by
    rw [Addr.add_lit, Nat.zero_add, cell_of_row _ _ j _ _ (0, 0) h]
    simp [arr, encLp, byV, hj])
  rw [x.2] at this
  exact this

set_option maxRecDepth 100000 in
set_option maxHeartbeats 800000 in
theorem text_any (x : Lp) (w : World) :
    Calls Tryd.prog 51 #[.agg (arr x)] w fun e w' => e = .returned (.string (ofL (txt x))) ∧ Below w.heap.size w w' := by
  have hc := conv_arr (LpAt.new w x)
  have hT := fun W => Tryd.strings_TrimRight_one (ofL x.1) 0 (by decide) W (by rw [ofL_size, x.2]; decide)
  have hR : (⟨(Lib.trimRightB (ofL x.1).data.toList 0).toArray⟩ : ByteArray) = ofL (txt x) := rfl
  rw [hR] at hT
  have HT := Lib.hid hT
  clear hT hR
  obtain ⟨K, hK⟩ : ∃ K, K = 40 := ⟨_, rfl⟩
  have zE := zK hK
  have hA := aK hK x
  clear hK
  generalize arr x = A at *
  generalize ofL x.1 = s at *
  generalize ofL (txt x) = t at *
  go_enter Tryd.func51, Tryd.ntmps51
  go_wp2_with (go_at_call 75; refine (HT.out _).mono ?_; rintro e w' ⟨rfl, rfl⟩)
  go_ret
  exact ⟨rfl, by go_grown⟩

theorem loadB {W : World} {b : Nat} {x : Lp} (h : LpAt W b x) : (Extern.Bytes.bytesOf (.slice (some ⟨b, 0, none⟩) 40 40)).run Tryd.prog W = .ok (ofL x.1) W := by
  have hb : Lib.bytesOf (x.1.map fun c => (c.toNat : Int)) = x.1 := by
    simp only [Lib.bytesOf, List.map_map]
    conv => rhs; rw [← List.map_id x.1]
    exact List.map_congr_left fun c _ => by simp
  have := Lib.run_loadBytesX (P := Tryd.prog) W (x.1.map fun c => (c.toNat : Int)) ⟨b, 0, none⟩ ByteArray.empty (fun j y hy => by
    rw [Addr.add_lit, Nat.zero_add, cell_of_row _ _ j _ _ (0, 0) h]
    simp only [List.getElem?_map, Option.map_eq_some_iff] at hy
    obtain ⟨c, hc, rfl⟩ := hy
    simp [arr, encLp, byV, hc])
  rw [hb, List.length_map, x.2] at this
  refine this.trans ?_
  congr 1
  apply ByteArray.ext
  show (#[] : Array UInt8) ++ x.1.toArray = x.1.toArray
  simp

theorem cmp_def (a b : Value) : Extern.BytealgCompare.compare #[a, b] = (do pure (goInt (Extern.BytealgCompare.cmp (← Extern.Bytes.bytesOf a) (← Extern.Bytes.bytesOf b)))) := rfl

set_option maxRecDepth 100000 in
theorem run_cmpLp {W : World} {b c : Nat} {x y : Lp} (hx : LpAt W b x) (hy : LpAt W c y) :
    (Extern.BytealgCompare.compare #[.slice (some ⟨b, 0, none⟩) 40 40, .slice (some ⟨c, 0, none⟩) 40 40]).run Tryd.prog W = .ok (.int .i64 (Lib.compareBytes x.1 y.1)) W := by
  have h := Lib.cmp_eq (ofL x.1) (ofL y.1)
  rw [cmp_def, Sem.run_bind, loadB hx, Result.andThen_ok, Sem.run_bind, loadB hy, Result.andThen_ok, Sem.run_pure]
  have ex : (ofL x.1).data.toList = x.1 := rfl
  have ey : (ofL y.1).data.toList = y.1 := rfl
  rw [ex, ey] at h
  rw [h, goInt]

set_option maxRecDepth 100000 in
theorem bytesCompare_any (b c : Nat) (x y : Lp) (w : World) (hx : LpAt w b x) (hy : LpAt w c y) :
    Calls Tryd.prog 74 #[.slice (some ⟨b, 0, none⟩) 40 40, .slice (some ⟨c, 0, none⟩) 40 40] w fun e w' => e = .returned (.int .i64 (Lib.compareBytes x.1 y.1)) ∧ w' = w := by
  have hr := run_cmpLp hx hy
  clear hx hy
  generalize Lib.compareBytes x.1 y.1 = r at *
  go_enter Tryd.func74, Tryd.ntmps74
  go_wp2
  rw [run_callFunc_extern Tryd.func91 (by kernel_rfl) (by kernel_rfl) (by kernel_rfl) (e := Extern.BytealgCompare.compare) (by kernel_rfl), hr]
  simp only [Result.andThen]
  rw [Oper.upon_value]
  go_wp2
  go_ret
  exact ⟨rfl, rfl⟩

set_option maxRecDepth 100000 in
set_option maxHeartbeats 800000 in
theorem compare_any (x y : Lp) (w : World) :
    Calls Tryd.prog 50 #[.agg (arr x), .agg (arr y)] w fun e w' => e = .returned (.int .i64 (Lib.compareBytes x.1 y.1)) ∧ ∃ q, w' = ((w.alloc (.cells (arr x) 45)).alloc (.cells (arr y) 45)).drewN q := by
  have hsz : (w.alloc (.cells (arr x) 45)).heap.size = w.heap.size + 1 := by simp
  have a1 := LpAt.new (w.alloc (.cells (arr x) 45)) y
  rw [hsz] at a1
  have HC := Lib.hid (fun q => bytesCompare_any w.heap.size (w.heap.size + 1) x y (((w.alloc (.cells (arr x) 45)).alloc (.cells (arr y) 45)).drewN q) (((LpAt.new w x).alloc _).drewN q) (a1.drewN q))
  obtain ⟨K, hK⟩ : ∃ K, K = 40 := ⟨_, rfl⟩
  have zE := zK hK
  have hA := aK hK x
  have hB := aK hK y
  clear hK a1 hsz
  generalize Lib.compareBytes x.1 y.1 = r at *
  generalize arr x = A at *
  generalize arr y = B at *
  go_enter Tryd.func50, Tryd.ntmps50
  go_wp2_with fail
  go_quiet (exact Calls.quiet_of_same (HC.out _))
  go_wp2_with fail
  go_ret
  exact ⟨rfl, _, rfl⟩

end Go.Proofs.YtoenkgenoloihaaDoor
