/- Contracts: meetings in the model: the first one, and how many. -/
import Derived.Test.YtppbbcckijcckabJt
import Derived.Test.YtppbbcckijcckabMeM
import Derived.Deep.QuietTactic
import Derived.BigQuiet
namespace Go.Proofs.Ytppbbcckijcckab
open Go.ChangeShapes Go.WideShapes Go.ChangeAt Go.RowKit

set_option linter.unusedVariables false

def prsS (s : ByteArray) : List (Nat × Nat) := cond (tkB s) (prs (lays sp0 s.data.toList)) []

theorem prsS_yes {s : ByteArray} (h : tkB s = true) : prsS s = prs (lays sp0 s.data.toList) := by simp [prsS, h]

theorem prsS_no {s : ByteArray} (h : tkB s = false) : prsS s = [] := by simp [prsS, h]

def fI (l : List (Nat × Nat)) : Int := (l.head?.map fun p => (p.1 : Int)).getD 0

def fJ (l : List (Nat × Nat)) : Int := (l.head?.map fun p => (p.2 : Int)).getD 0

def fB (l : List (Nat × Nat)) : Bool := l.head?.isSome

theorem ret_fm {l : List (Nat × Nat)} {i j : Int} {b : Bool} (h1 : fI l = i) (h2 : fJ l = j) (h3 : fB l = b) : Ending.returned (.tuple #[.int .i64 i, .int .i64 j, .bool b]) = Ending.returned (.tuple #[.int .i64 (fI l), .int .i64 (fJ l), .bool (fB l)]) := by rw [h1, h2, h3]

theorem ret_no {l : List (Nat × Nat)} (h : l = []) : Ending.returned (.tuple #[.int .i64 0, .int .i64 0, .bool false]) = Ending.returned (.tuple #[.int .i64 (fI l), .int .i64 (fJ l), .bool (fB l)]) := by subst h; rfl

theorem ret_one {l r : List (Nat × Nat)} {i j : Nat} (h : l = (i, j) :: r) : Ending.returned (.tuple #[.int .i64 (i : Nat), .int .i64 (j : Nat), .bool true]) = Ending.returned (.tuple #[.int .i64 (fI l), .int .i64 (fJ l), .bool (fB l)]) := by subst h; rfl

end Go.Proofs.Ytppbbcckijcckab
