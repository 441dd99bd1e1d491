/- Arrays of forty bytes: how they lie, and which texts they are. -/
import Derived.Test.YtoenkgenoloihaaDoorRv
import Derived.Test.YtoenkgenoloihaaDoorRgM
import Derived.Deep.WholeRow
import Derived.Laws.CopyRow
import Derived.Laws.CopyOwn
import Derived.Shelf.GgSortFunc.RowK
import Derived.Shelf.SlicesQ.Load
namespace Go.Proofs.YtoenkgenoloihaaDoor
open Go.ChangeShapes Go.WideShapes Go.ChangeAt Go.RowKit

def Lp : Type := { l : List UInt8 // l.length = 40 }

instance : Inhabited Lp := ⟨⟨List.replicate 40 0, by simp⟩⟩

def encLp (x : Lp) : List Value := x.1.map byV

theorem encLp_len (x : Lp) : (encLp x).length = 40 := by simp [encLp, x.2]

def mkLp (l : List UInt8) : Lp := ⟨(l ++ List.replicate 40 0).take 40, by simp⟩

def arr (x : Lp) : Array Value := (encLp x).toArray

theorem arr_size (x : Lp) : (arr x).size = 40 := by simp [arr, encLp_len]

theorem enc_one (x : Lp) : ∀ v ∈ encLp x, v.oneCell' = true := by
  intro v hv
  simp only [encLp, List.mem_map] at hv
  obtain ⟨c, _, rfl⟩ := hv
  rfl

theorem arr_one (x : Lp) : (arr x).all (·.oneCell') = true := by
  simp only [arr, List.size_toArray, List.all_toArray', List.all_eq_true]
  exact enc_one x

def zLp : Lp := ⟨List.replicate 40 0, by simp⟩

theorem lpInfo : (Tryd.prog.info? 45).map (fun i => (i.zero, i.size)) = some (some (.agg (arr zLp)), 40) := by kernel_rfl

theorem lpSize (x : Lp) : (Tryd.prog.info? 45).map (·.size) = some (arr x).size := by rw [arr_size]; exact (zero_of_info lpInfo).2

theorem lpUnder : Tryd.prog.underlying 45 = some (.array 40 5) := by kernel_rfl

/-- Bytes of a text laid into a block of zeros. -/
theorem copy_text (w : World) (l : List UInt8) (hl : l.length ≤ 40) (ty : TypeId) :
    (Builtin.copy_ #[77, 9] ty #[.slice (some ⟨w.heap.size, 0, none⟩) 40 40, .string (ofL l)]).run Tryd.prog (w.alloc (.cells (arr zLp) 45)) = .ok (goInt l.length) (w.alloc (.cells (arr (mkLp l)) 45)) := by
  have hcs : List.take l.length (List.map (fun b => Value.int .u8 (b.toNat : Int)) (ofL l).data.toList) = l.map byV := by
    show List.take l.length (l.map byV) = l.map byV
    exact List.take_of_length_le (by simp)
  have hst := run_storeCells_at Tryd.prog w.heap.size 0 45 (l.map byV) 0 (arr zLp) (w.alloc (.cells (arr zLp) 45)) (heap_alloc_last w _) (by rw [arr_size]; simpa using hl) (by
    intro v hv
    simp only [List.mem_map] at hv
    obtain ⟨c, _, rfl⟩ := hv
    rfl)
  have hrow : ((arr zLp).toList.take (0 + 0) ++ l.map byV ++ (arr zLp).toList.drop (0 + 0 + (l.map byV).length)).toArray = arr (mkLp l) := by
    simp only [arr, encLp, zLp, mkLp, List.take_zero, Nat.add_zero, Nat.zero_add, List.nil_append, List.length_map]
    congr 1
    rw [← List.map_drop, ← List.map_append]
    congr 1
    rw [List.take_append, List.take_of_length_le hl, List.drop_replicate, List.take_replicate]
    congr 2
    omega
  rw [hrow, World.setRow_alloc_new] at hst
  have hmin : Nat.min l.length 40 = l.length := Nat.min_eq_left hl
  have hz : (ofL l).size = l.length := ofL_size l
  cases hq : Tryd.prog.info? 5 with
  | none =>
    have h : (Tryd.prog.info? 5).isSome = true := by kernel_rfl
    rw [hq] at h
    cases h
  | some i =>
    simp [Builtin.copy_, run_underlying Tryd.underlying77, Builtin.lenOf, Builtin.firstCells, sizeOf, typeInfo, hq, hz, hmin, hcs, hst]

/-- An array loaded from where its cells lie. -/
theorem lp_load (W : World) (b o : Nat) (x : Lp) (h : ∀ j v, (encLp x)[j]? = some v → W.cell? ⟨b, o + j, none⟩ = some v) :
    Sem.run Tryd.prog (loadCellsFrom ⟨b, o, none⟩ 0 40 #[]) W = .ok (arr x) W :=
  run_loadCellsFrom_list Tryd.prog _ _ (encLp x) 40 (encLp_len x) (fun j v hj => by
    rw [Addr.add_lit]
    exact h j v hj)

/-- Block b holds an array. -/
def LpAt (W : World) (b : Nat) (x : Lp) : Prop := W.heap[b]? = some (.cells (arr x) 45 (0, 0))

theorem LpAt.lt {W : World} {b : Nat} {x : Lp} (h : LpAt W b x) : b < W.heap.size := (Array.getElem?_eq_some_iff.1 h).1

theorem LpAt.new (W : World) (x : Lp) : LpAt (W.alloc (.cells (arr x) 45)) W.heap.size x := heap_alloc_last W _

theorem LpAt.alloc {W : World} {b : Nat} {x : Lp} (h : LpAt W b x) (o : Obj) : LpAt (W.alloc o) b x := by
  have hl := h.lt
  show (W.heap.push o)[b]? = _
  rw [Array.getElem?_push, if_neg (by omega)]
  exact h

theorem LpAt.below {W W' : World} {b n : Nat} {x : Lp} (h : LpAt W b x) (hb : Below n W W') (hn : b < n) : LpAt W' b x := (hb.block b hn).trans h

theorem LpAt.drewN {W : World} {b : Nat} {x : Lp} (h : LpAt W b x) (q : Nat) : LpAt (W.drewN q) b x := h

theorem LpAt.load {W : World} {b : Nat} {x : Lp} (h : LpAt W b x) : Sem.run Tryd.prog (loadCellsFrom ⟨b, 0, none⟩ 0 40 #[]) W = .ok (arr x) W :=
  lp_load W b 0 x fun j v hj => by
    rw [Nat.zero_add, cell_of_row _ _ j _ _ (0, 0) h]
    simpa [arr] using hj

theorem LpAt.store {W : World} {b : Nat} {x : Lp} (h : LpAt W b x) (y : Lp) : Sem.run Tryd.prog (storeCells ⟨b, 0, none⟩ (arr y).toList) W = .ok () (W.setRow b (arr y)) := by
  have hst := run_storeCells_at Tryd.prog b 0 45 (encLp y) 0 (arr x) W h (by rw [arr_size, encLp_len]; exact Nat.le_refl _) (enc_one y)
  have hrow : ((arr x).toList.take (0 + 0) ++ encLp y ++ (arr x).toList.drop (0 + 0 + (encLp y).length)).toArray = arr y := by
    simp only [arr, List.take_zero, Nat.add_zero, Nat.zero_add, List.nil_append]
    rw [encLp_len, List.drop_of_length_le (by rw [encLp_len]; exact Nat.le_refl _), List.append_nil]
  rw [hrow] at hst
  simpa [arr] using hst

theorem LpAt.set {W : World} {b : Nat} {x : Lp} (h : LpAt W b x) (y : Lp) : LpAt (W.setRow b (arr y)) b y := by
  unfold LpAt at h ⊢
  simp [World.setRow, Array.getElem?_modify, h]

theorem LpAt.set_other {W : World} {b c : Nat} {x : Lp} (h : LpAt W b x) (A : Array Value) (hne : c ≠ b) : LpAt (W.setRow c A) b x := by
  unfold LpAt at h ⊢
  simp [World.setRow, Array.getElem?_modify, h, hne]

theorem fold_many : ∀ (C : List Value) (o : Nat) (I : Array Value), (C.zipIdx o).foldl (fun (cs : Array Value) (x : Value × Nat) => cs.setIfInBounds x.2 x.1) I = Sort.setMany I o C
  | [], _, _ => rfl
  | v :: C, o, I => by
    rw [List.zipIdx_cons, List.foldl_cons, fold_many C (o + 1)]
    rfl

/-- An array's cells laid over as many: what a literal of one element makes. -/
theorem fold_set {K : Nat} (I C : Array Value) (h1 : I.size = K) (h2 : C.size = K) : Array.foldl (fun (cs : Array Value) (x : Value × Nat) => cs.setIfInBounds x.snd x.fst) I C.zipIdx 0 K = C := by
  have hz : C.zipIdx.size = K := by simp [h2]
  rw [← hz, ← Array.foldl_toList]
  have hl : C.zipIdx.toList = C.toList.zipIdx := by simp
  rw [hl, fold_many]
  refine Sort.ext_get! (by rw [Sort.size_setMany]; omega) fun t ht => ?_
  rw [Sort.size_setMany] at ht
  rw [Sort.get_setMany _ _ _ t ht, if_pos (by simp; omega)]
  have htc : t < C.size := by omega
  simp [htc]

theorem fold_K {K : Nat} (hK : K = 40) (y : Lp) : ∀ f : Nat → Value, Array.foldl (fun (cs : Array Value) (x : Value × Nat) => cs.setIfInBounds x.snd x.fst) (Array.map f (Array.range K)) (arr y).zipIdx 0 K = arr y := fun f => fold_set _ _ (by simp) (by rw [hK, arr_size])

end Go.Proofs.YtoenkgenoloihaaDoor
