/- Contracts: the sign of a surd, in the program. -/
import Derived.Test.YtfcgglcpphaekaaSqP
import Derived.Shelf.Bits.Mul64
namespace Go.Proofs.Ytfcgglcpphaekaa
open Go.ChangeShapes Go.WideShapes Go.ChangeAt Go.RowKit

def mh (x y : Nat) : Nat := x * y / 18446744073709551616

def ml (x y : Nat) : Nat := x * y % 18446744073709551616

theorem lex (a b : Nat) : (b / 18446744073709551616 < a / 18446744073709551616 ∨ a / 18446744073709551616 = b / 18446744073709551616 ∧ b % 18446744073709551616 < a % 18446744073709551616) ↔ b < a := by omega

end Go.Proofs.Ytfcgglcpphaekaa
