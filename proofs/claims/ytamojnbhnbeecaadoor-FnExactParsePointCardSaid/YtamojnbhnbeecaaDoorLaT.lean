/- What a listed table gives a walk: the powers of ten that strconv reads. -/
import Derived.Test.YtamojnbhnbeecaaDoorKit
import Derived.Lib.LaidTab
import Derived.Lib.ItoaNum
import Derived.Stop.LaidErr
import Derived.Stop.Joined
import Derived.LaidMore
import Derived.KernelRfl
namespace Go.Proofs.YtamojnbhnbeecaaDoor

set_option maxRecDepth 100000 in
theorem pow10_data : (Rows.laid_internal_strconv_uint64pow10 : DataW Unit) = Lib.tabData .u64 Lib.pow10Tab := by kernel_rfl

set_option maxRecDepth 100000 in
theorem pow10_laid {W : World} {x1 x2 : String × DataW Unit} {r : List (String × DataW Unit)} (h : laidMet Tryd.prog (x1 :: x2 :: ("internal/strconv.uint64pow10", Rows.laid_internal_strconv_uint64pow10) :: r) W) : Lib.TabIs Tryd.prog W "internal/strconv.uint64pow10" .u64 Lib.pow10Tab := by
  rw [pow10_data] at h
  exact Lib.tabIs_of_head (g := 2) (n := 20) (by kernel_rfl) (t := 92) (by kernel_rfl) Tryd.underlying92 Tryd.underlying73 (by kernel_rfl) (by kernel_rfl) h.tail.tail

end Go.Proofs.YtamojnbhnbeecaaDoor
