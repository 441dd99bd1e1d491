/- Arrays of forty bytes compared: '==' of the model. -/
import Derived.Test.YtoenkgenoloihaaDoorMn
import Derived.ChangeKeysEq
import Derived.Shelf.SlicesE.Kit
namespace Go.Proofs.YtoenkgenoloihaaDoor
open Go.ChangeShapes Go.WideShapes Go.ChangeAt Go.RowKit

def eqL (x y : Lp) : Bool := x.1 == y.1

theorem eqL_iff (x y : Lp) : eqL x y = true ↔ x = y := by
  simp only [eqL, beq_iff_eq]
  exact ⟨fun h => Subtype.ext h, fun h => by rw [h]⟩

theorem u8Plain : Tryd.prog.plainKey 5 = true := by kernel_rfl

theorem u8One : Tryd.prog.cellsOf 5 = 1 := by kernel_rfl

theorem byV_eq (a b : UInt8) : ((a.toNat : Int) == (b.toNat : Int)) = (a == b) := by
  by_cases h : a = b
  · subst h; simp
  · have h2 : ¬ (a.toNat : Int) = (b.toNat : Int) := fun e => h (UInt8.toNat_inj.1 (by omega))
    rw [beq_eq_false_iff_ne.2 h, beq_eq_false_iff_ne.2 h2]

theorem arr_at (x : Lp) (i : Nat) (hi : i < 40) : (arr x)[i]? = some (.int .u8 ((x.1.getD i 0).toNat : Int)) := by
  have h : i < x.1.length := by rw [x.2]; exact hi
  simp [arr, encLp, byV, List.getD, h]

theorem run_items (W : World) (d : Nat) (x y : Lp) : ∀ is : List Nat, (∀ i ∈ is, i < 40) → (Op.eqItems (d + 1) 5 1 (arr x) (arr y) is).run Tryd.prog W = .ok (is.all fun i => x.1.getD i 0 == y.1.getD i 0) W
  | [], _ => rfl
  | i :: is, h => by
    have hi := h i (by simp)
    have p1 := run_part_plain W u8Plain (arr_at x i hi)
    have p2 := run_part_plain W u8Plain (arr_at y i hi)
    have p3 := run_equalIn_int (P := Tryd.prog) W d 5 .u8 .u8 ((x.1.getD i 0).toNat : Int) ((y.1.getD i 0).toNat : Int) Tryd.underlying5
    have ih := run_items W d x y is (fun j hj => h j (by simp [hj]))
    rw [byV_eq] at p3
    simp only [Op.eqItems, Sem.run_bind, Nat.mul_one, p1, p2, p3, Result.andThen_ok, List.all_cons]
    cases hq : (x.1.getD i 0 == y.1.getD i 0)
    · rfl
    · rw [Bool.true_and]; exact ih

theorem all_eq (x y : Lp) : ((List.range 40).all fun i => x.1.getD i 0 == y.1.getD i 0) = eqL x y := by
  rw [Bool.eq_iff_iff, eqL_iff]
  simp only [List.all_eq_true, List.mem_range, beq_iff_eq]
  constructor
  · intro h
    apply Subtype.ext
    apply List.ext_getElem (by rw [x.2, y.2])
    intro i h1 h2
    have := h i (by rw [← x.2]; exact h1)
    simpa [List.getD, h1, h2] using this
  · rintro rfl i _; rfl

theorem eqlLp : EqlAt Tryd.prog 45 (fun x => .agg (encLp x).toArray) eqL := by
  refine ⟨fun x y w => ?_, GuardAt.agg _ (by kernel_rfl)⟩
  have hu : Tryd.prog.underlying 45 = some (.array 40 5) := lpUnder
  have h := run_items w 9998 x y (List.range 40) (fun i hi => by simpa using hi)
  rw [all_eq] at h
  cases hq : Tryd.prog.info? 5 with
  | none =>
    have h : (Tryd.prog.info? 5).isSome = true := by kernel_rfl
    rw [hq] at h
    cases h
  | some i =>
    have hr := run_equalIn_array w 9999 (arr x) (arr y) hu hq
    rw [u8One, h] at hr
    show (binOp .eql 45 (.agg (arr x)) (.agg (arr y))).run Tryd.prog w = _
    rw [run_eql_struct, show (10000 : Nat) = 9999 + 1 from rfl, hr]
    rfl

theorem eql_run (x y : Lp) (w : World) : (binOp .eql 45 (.agg (arr x)) (.agg (arr y))).run Tryd.prog w = .ok (.bool (eqL x y)) w := eqlLp.1 x y w

theorem neq_run (x y : Lp) (w : World) : (binOp .neq 45 (.agg (arr x)) (.agg (arr y))).run Tryd.prog w = .ok (.bool (!eqL x y)) w := by
  have h : (binOp .eql 45 (.agg (arr x)) (.agg (arr y))).run Tryd.prog w = .ok (.bool (eqL x y)) w := eqlLp.1 x y w
  rw [run_eql_struct] at h
  rw [run_neq_struct]
  obtain ⟨r, hr⟩ : ∃ r, (Op.equalIn 10000 45 (.agg (arr x)) (.agg (arr y))).run Tryd.prog w = r := ⟨_, rfl⟩
  rw [hr] at h ⊢
  cases r with
  | ok b w' =>
    simp only [Result.andThen_ok, Result.ok.injEq, Value.bool.injEq] at h ⊢
    obtain ⟨rfl, rfl⟩ := h
    exact ⟨rfl, rfl⟩
  | _ => simp [Result.andThen] at h

end Go.Proofs.YtoenkgenoloihaaDoor
