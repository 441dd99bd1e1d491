/- Contract of the program: is there a train in a block? -/
import Derived.Test.YtogimjbjdgccnaaDoorCrL
import Derived.Deep.Cut
import Derived.Outline
namespace Go.Proofs.YtogimjbjdgccnaaDoor
open Go.Conc Go.ChangeShapes Go.WideShapes Go.ChangeAt Go.RowKit
open Ln

set_option linter.unusedVariables false

set_option maxRecDepth 100000 in
theorem hasTrain_no (c s r : Nat) (w : World) (hc : w.heap[c]? = some (Obj.chan 1 #[] false s r false)) :
    Calls Tryd.prog 88 #[.chan (some c)] w fun e w' => e = .returned (.bool false) ∧ w' = w := by
  have HC := Lib.hid hc
  clear hc
  go_enter Tryd.func88, Tryd.ntmps88
  go_upto_region 2 with fail
  refine wp_region_to ?_
  simp only [List.size_toArray, List.length_cons, List.length_nil, Nat.reduceAdd, Nat.zero_add, List.range, List.range.loop]
  refine OpsTo.comm (cases := #[rcase c (.agg #[])]) (blocking := false) (shape := .select) rfl rfl (by simp [go_sem, execOp, rcase, Act.eval]) (fun fr cs es h => step_lone_select_default h HC.out) ?_
  go_simp
  refine OpsTo.op rfl rfl (fun K hK => ?_)
  go_simp
  refine hK _ _ ?_
  clear hK K
  refine OpsTo.op rfl rfl (fun K hK => ?_)
  go_simp
  refine hK _ _ ?_
  clear hK K
  refine OpsTo.nil ?_
  go_wp2_with fail
  go_ret
  exact ⟨rfl, rfl⟩

theorem stInfo : (Tryd.prog.info? 89).map (fun i => (i.zero, i.size, i.bytes)) = some (some (.agg #[]), 0, 0) := by kernel_rfl

set_option maxRecDepth 100000 in
theorem hasTrain_yes (c s r : Nat) (w : World) (hlt : c < w.heap.size) (hc : w.heap[c]? = some (Obj.chan 1 #[.agg #[]] false s r false)) :
    Calls Tryd.prog 88 #[.chan (some c)] w fun e w' => e = .returned (.bool true) ∧ Oth c w w' ∧ ∃ s r, w'.heap[c]? = some (Obj.chan 1 #[.agg #[]] false s r false) := by
  have HC := Lib.hid hc
  clear hc
  go_enter Tryd.func88, Tryd.ntmps88
  go_upto_region 2 with fail
  refine wp_region_to ?_
  simp only [List.size_toArray, List.length_cons, List.length_nil, Nat.reduceAdd, Nat.zero_add, List.range, List.range.loop]
  refine OpsTo.comm (cases := #[rcase c (.agg #[])]) (blocking := false) (shape := .select) rfl rfl (by simp [go_sem, execOp, rcase, Act.eval]) (fun fr cs es h => step_lone_select_recv_buf h HC.out (by simp)) ?_
  go_simp
  refine OpsTo.op rfl rfl (fun K hK => ?_)
  go_simp
  refine hK _ _ ?_
  clear hK K
  refine OpsTo.op rfl rfl (fun K hK => ?_)
  go_simp
  refine hK _ _ ?_
  clear hK K
  refine OpsTo.nil ?_
  go_upto_region 5 with fail
  have HD : ((w.setChan c 1 #[] false s (r + 1) false).alloc (.cells #[] 89)).heap[c]? = some (Obj.chan 1 #[] false s (r + 1) false) := by
    rw [Below.heap_alloc _ _ _ (by rw [size_setChan]; exact hlt)]
    exact heap_setChan w c 1 #[] false s (r + 1) false hlt
  have HO := (Oth.setChan w c 1 #[] false s (r + 1) false).trans (Oth.of_below (w' := (w.setChan c 1 #[] false s (r + 1) false).alloc (.cells #[] 89)) ((Below.refl _ _).alloc (Nat.le_refl _) _) (by rw [size_setChan]; omega))
  have hsz : c < ((w.setChan c 1 #[] false s (r + 1) false).alloc (.cells #[] 89)).heap.size := by rw [World.size_alloc, size_setChan]; omega
  generalize (w.setChan c 1 #[] false s (r + 1) false).alloc (.cells #[] 89) = W1 at *
  have HD1 := Lib.hid HD
  have HO1 := Lib.hid HO
  clear HD HO
  refine wp_region_to ?_
  simp only [List.size_toArray, List.length_cons, List.length_nil, Nat.reduceAdd, Nat.zero_add, List.range, List.range.loop]
  refine OpsTo.op rfl rfl (fun K hK => ?_)
  go_simp
  refine hK _ _ ?_
  clear hK K
  refine OpsTo.op rfl rfl (fun K hK => ?_)
  go_simp
  refine hK _ _ ?_
  clear hK K
  refine OpsTo.comm (cases := #[scase c (.agg #[]) (.tuple #[])]) (blocking := true) (shape := .send) rfl rfl (by simp [go_sem, execOp, scase, Act.eval]) (fun fr cs es h => step_lone_send_room h HD1.out (by simp)) ?_
  go_simp
  refine OpsTo.nil ?_
  go_wp2_with fail
  go_ret
  exact ⟨rfl, HO1.out.trans (Oth.setChan _ _ _ _ _ _ _ _), _, _, heap_setChan W1 c 1 _ false _ _ false hsz⟩

/-- Is there a train in the block i of a line? -/
theorem hasTrain_any (B E g i c : Nat) (cs : List Nat) (l : List UInt8) (w : World) (hC : Cir B E g cs l w) (hc : cs[i]? = some c) :
    Calls Tryd.prog 88 #[.chan (some c)] w fun e w' => e = .returned (.bool (tr l i)) ∧ Cir B E g cs l w' ∧ Turn B E w w' := by
  obtain ⟨s, r, hh⟩ := hC.ch i c hc
  obtain ⟨h1, h2, h3⟩ := hC.cB i c hc
  have hle := hC.le
  cases ht : tr l i
  · rw [ht] at hh
    refine (hasTrain_no c s r w hh).mono ?_
    rintro e w' ⟨rfl, rfl⟩
    exact ⟨rfl, hC, Turn.refl _ _ _⟩
  · rw [ht] at hh
    refine (hasTrain_yes c s r w (by omega) hh).mono ?_
    rintro e w' ⟨rfl, hO, s', r', h'⟩
    exact ⟨rfl, hC.turn1 hc rfl (fun _ _ => rfl) ⟨s', r', by rw [ht]; exact h'⟩ hO.blk hO.low.size, hO.turn h1 h2⟩

end Go.Proofs.YtogimjbjdgccnaaDoor
