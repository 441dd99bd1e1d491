/- Contracts of the library at this program's own types, laid by the kit's command. -/
import Derived.Shelf.SlicesE.Clone
import Derived.Test.YtppbbcckijcckaaProg
namespace Go.Proofs
open Go.Shelf
def Try.clonePt_ren : Go.Shelf.Ren := ⟨fun | 41 => 88 | n => n, fun | 22 => 47 | 23 => 26 | 4 => 4 | n => n, fun | n => n⟩
theorem Try.clonePt : Go.Proofs.SlLaysE0.n41 Try.prog Try.clonePt_ren := {
  mixed := by kernel_rfl
  f41 := ⟨Try.f88.name, by decide, Try.func88.trans (congrArg some (by kernel_rfl))⟩
  t4 := Try.underlying4
  a4 := Try.isAgg4
  z4 := Try.sizeOf4
  v4 := Try.zeroValue4
  t22 := Try.underlying47
  a22 := Try.isAgg47
  z22 := Try.sizeOf47
  v22 := Try.zeroValue47 }
end Go.Proofs
