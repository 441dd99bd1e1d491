/- Contracts: how often a piece is in a track, in the model and in Go's library. -/
import Derived.Test.YtdafomfpchlhpaaDoorTkL
import Derived.Test.YtdafomfpchlhpaaDoorShelf
import Derived.Deep.QuietTactic
import Derived.BigQuiet
namespace Go.Proofs.YtdafomfpchlhpaaDoor
open Go.ChangeShapes Go.WideShapes Go.ChangeAt Go.RowKit

theorem ext_toList (s : ByteArray) (k : Nat) (h : k < s.size) : (s.extract k (k + 1)).toList = [s[k]] := by
  rw [ext_one s k h, ByteArray.toList_eq]

theorem count_any (s : ByteArray) (c : UInt8) (w : World) :
    Calls Tryd.prog 92 #[.string s, .string ⟨#[c]⟩] w fun e w' => e = .returned (.int .i64 (cnt c s.data.toList : Nat)) ∧ w = w' :=
  (Tryd.strings_Count_one s c w).mono fun _ _ h => ⟨h.1, h.2.symm⟩

def tuR (s : ByteArray) : Int := cond (tkB s) ((cnt 76 s.data.toList : Int) - (cnt 82 s.data.toList : Int)) 0

theorem one_size {s : ByteArray} (h : s.size = 1) : ∃ c, s = ⟨#[c]⟩ := by
  obtain ⟨⟨d⟩⟩ := s
  match d, h with
  | [c], _ => exact ⟨c, rfl⟩

/-- A text is a piece. -/
def pcS (p : ByteArray) : Bool := p.toList == [83] || (p.toList == [76] || p.toList == [82])

def cpR (s p : ByteArray) : Int := cond (tkB s && pcS p) (cnt (p.toList.headD 0) s.data.toList : Int) 0

theorem pcS_one (c : UInt8) : pcS ⟨#[c]⟩ = pcb c := by
  simp [pcS, pcb, ByteArray.toList_eq]

theorem pcS_size {p : ByteArray} (h : pcS p = true) : ∃ c, p = ⟨#[c]⟩ ∧ pcb c = true := by
  simp only [pcS, Bool.or_eq_true, beq_iff_eq, ByteArray.toList_eq] at h
  obtain ⟨⟨l⟩⟩ := p
  rcases h with h | h | h <;> (simp at h; subst h; exact ⟨_, rfl, by decide⟩)

theorem pcS_no {p : ByteArray} (h : pcS p = false) : (p.toList == [83]) = false ∧ (p.toList == [76]) = false ∧ (p.toList == [82]) = false := by
  simpa [pcS, Bool.or_eq_false_iff] using h

end Go.Proofs.YtdafomfpchlhpaaDoor
