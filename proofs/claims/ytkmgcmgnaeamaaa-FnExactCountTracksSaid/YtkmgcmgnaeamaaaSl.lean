/- What is let out: a number, or 0. -/
import Derived.Test.YtkmgcmgnaeamaaaProg
import Derived.WalkKit
namespace Go.Proofs.Ytkmgcmgnaeamaaa
def sel (g : Bool) (a : Int) : Int := cond g a 0
end Go.Proofs.Ytkmgcmgnaeamaaa
