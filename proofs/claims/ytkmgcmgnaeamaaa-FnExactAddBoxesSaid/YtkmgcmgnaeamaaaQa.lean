/- The world at hand behind a letter; calls that leave the world alone, in regions that draw. -/
import Derived.Test.YtkmgcmgnaeamaaaQt
namespace Go.Proofs.Ytkmgcmgnaeamaaa
open Go.ChangeShapes Go.WideShapes Go.ChangeAt Go.RowKit Go.Sort

theorem absWB {F : World → Prop} {P : Program} {c : Code} {Q : Exit → Act → World → Prop} {a : Act} {W : World} (hF : F W) (h : ∀ W, F W → c.wp P Q a W) : c.wp P Q a W := h W hF

theorem absEB {F : World → Prop} {K : Act → World → Prop} {Q : Exit → Act → World → Prop} {a : Act} {W : World} (hF : F W) (h : ∀ W, F W → Exit.then K Q .normal a W) : Exit.then K Q .normal a W := h W hF

theorem same_regrownB {P : Program} {f : FuncId} {args : Array Value} {w : World} {d : Nat} {os : Array Obj} {v : Value}
    (h : Calls P f args (grow (redrawn w d) os) fun e w' => e = .returned v ∧ grow (redrawn w d) os = w') : Calls P f args (grow (redrawn w d) os) fun e w'' => e = .returned v ∧ ∃ p : Regrown, w'' = grow (redrawn w p.d) p.os :=
  h.mono fun _ _ ⟨he, hb⟩ => ⟨he, ⟨d, os⟩, hb.symm⟩

end Go.Proofs.Ytkmgcmgnaeamaaa
