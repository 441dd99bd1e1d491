/- Contracts: the program's IsPoint, the model's. -/
import Derived.Test.YtdafomfpchlhpaaDoorPt
import Derived.Test.YtdafomfpchlhpaaDoorIn
namespace Go.Proofs.YtdafomfpchlhpaaDoor
open Go.ChangeShapes Go.WideShapes Go.ChangeAt Go.RowKit

theorem good_clip (a0 a1 a2 a3 : Int) : (a0 == max (-999999) (min a0 999999) && (a1 == max (-999999) (min a1 999999) && (a2 == max (-999999) (min a2 999999) && a3 == max (-999999) (min a3 999999)))) = goodB a0 a1 a2 a3 := by
  unfold goodB
  rw [Bool.eq_iff_iff]
  simp only [Bool.and_eq_true, beq_iff_eq, decide_eq_true_eq]
  omega

theorem good_in (a0 a1 a2 a3 : Int) : (inB a0 (-999999) 999999 && (inB a1 (-999999) 999999 && (inB a2 (-999999) 999999 && inB a3 (-999999) 999999))) = goodB a0 a1 a2 a3 := by
  unfold goodB inB
  rw [Bool.eq_iff_iff]
  simp only [Bool.and_eq_true, decide_eq_true_eq]
  omega

end Go.Proofs.YtdafomfpchlhpaaDoor
