/- Contract: the model's 'clAll'. -/
import Derived.Test.YtadlkmfgjmcgeabCg
import Derived.Test.YtadlkmfgjmcgeabWdN
import Derived.Test.YtadlkmfgjmcgeabLy
import Derived.Test.YtadlkmfgjmcgeabSqL
import Derived.Lib.SlBytesConst
namespace Go.Proofs.Ytadlkmfgjmcgeab
open Go.ChangeShapes Go.WideShapes Go.ChangeAt Go.RowKit

set_option linter.unusedVariables false

theorem one_strC (c : UInt8) (B cap : Nat) (w : World) (h : w.cell? ⟨B, 0, none⟩ = some (.int .u8 ((c.toNat : Nat) : Int))) :
    (convert 82 9 (.slice (some ⟨B, 0, none⟩) 1 cap)).run Try.prog w = .ok (.string (ofL [c])) w := by
  refine run_convert_bytes_back w 82 9 5 ⟨B, 0, none⟩ cap [c] Try.underlying82 Try.underlying5 Try.underlying9 (fun j hj => ?_)
  obtain rfl : j = 0 := by simpa using hj
  have h3 : ((⟨B, 0, none⟩ : Addr).add 0) = ⟨B, 0, none⟩ := by simp [Addr.add]
  rw [h3, h]
  rfl

theorem bytes_at {W : World} {B : Nat} {fz : Nat × Nat} (h : W.heap[B]? = some (.cells #[.int .u8 76, .int .u8 82, .int .u8 83] 5 fz)) {i : Nat} {c : UInt8} (hc : ltr[i]? = some c) : W.cell? ⟨B, i, none⟩ = some (.int .u8 ((c.toNat : Nat) : Int)) := by
  match i, hc with
  | 0, hc => simp [ltr] at hc; subst hc; simp [World.cell?, h]
  | 1, hc => simp [ltr] at hc; subst hc; simp [World.cell?, h]
  | 2, hc => simp [ltr] at hc; subst hc; simp [World.cell?, h]

theorem news_at {W : World} {n : Nat} (hn : W.heap.size = n) (x : Value) (t : TypeId) : ∀ j u, [x][j]? = some u → (W.alloc (.cells #[x] t)).cell? ((⟨n, 0, none⟩ : Addr).add j) = some u := by
  subst hn
  exact cell_one_new W x t
theorem blk4 {W : World} {g : Nat} {t : TypeId} {a0 a1 a2 a3 : Value} (h : W.heap[g]? = some (.cells #[a0, a1, a2, a3] t (0, 0))) :
    W.cell? ⟨g, 0, none⟩ = some a0 ∧ W.cell? ⟨g, 1, none⟩ = some a1 ∧ W.cell? ⟨g, 2, none⟩ = some a2 ∧ W.cell? ⟨g, 3, none⟩ = some a3 := by
  simp [World.cell?, h]

def accA (s : Sp) (n c : Nat) : List (List UInt8) := (ltr.take c).flatMap fun ch => (clsL (s.next ch) n).map fun w => ch :: w
theorem accA_end (s : Sp) (n : Nat) : accA s n 3 = clsL s (n + 1) := by rw [cls_succ]; rfl
theorem accA_next {s : Sp} {n c : Nat} {ch : UInt8} (h : ltr.take (c + 1) = ltr.take c ++ [ch]) : accA s n (c + 1) = accA s n c ++ (clsL (s.next ch) n).map fun w => ch :: w := by
  simp [accA, h, List.flatMap_append]
theorem accA_le (s : Sp) (n : Nat) (c : Nat) (hc : c ≤ 3) : (accA s n c).length ≤ 3 * 3 ^ n := by
  match c, hc with
  | 0, _ => simp [accA]
  | 1, _ => have := cls_len (s.next 76) n; simp [accA, ltr]; omega
  | 2, _ => have := cls_len (s.next 76) n; have := cls_len (s.next 82) n; simp [accA, ltr]; omega
  | 3, _ => have := cls_len (s.next 76) n; have := cls_len (s.next 82) n; have := cls_len (s.next 83) n; simp [accA, ltr]; omega

theorem cls_mem {a : Sp} {n : Nat} {w : List UInt8} (h : w ∈ clsL a n) : w.length = n := words_len n w (List.mem_filter.1 h).1

end Go.Proofs.Ytadlkmfgjmcgeab
