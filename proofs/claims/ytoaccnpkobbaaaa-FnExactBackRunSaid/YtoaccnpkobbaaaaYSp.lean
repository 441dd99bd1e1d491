/- Contracts: spots: runs with zeros behind the last state, in the program. -/
import Derived.Test.YtoaccnpkobbaaaaYOw
import Derived.Test.YtoaccnpkobbaaaaYTop
import Derived.Deep.RegionLaw
import Derived.Laws.CopyOwn
import Derived.Deep.RegionHeld3
import Derived.Deep.DeepCutAuto
namespace Go.Proofs.Ytoaccnpkobbaaaa
open Go.ChangeShapes Go.WideShapes Go.ChangeAt Go.RowKit
open Yd

set_option linter.unusedVariables false

theorem heap_cell {w : World} {g : Nat} {c : Array Value} {T : TypeId} (h : w.heap[g]? = some (.cells c T (0, 0))) (j : Nat) : w.cell? ⟨g, j, none⟩ = c[j]? := by simp [World.cell?, h]

def pad6 (ss : List Int) : List Int := ss ++ List.replicate (6 - ss.length) 0

/-- The spot of a run. -/
def spV (a : Nat) (ss : List Int) : Value := .agg ((Value.int .i64 (a : Int) :: (pad6 ss).map (Value.int .i64)).toArray)

theorem pad6_len {ss : List Int} (h : ss.length ≤ 6) : (pad6 ss).length = 6 := by rw [pad6, List.length_append, List.length_replicate]; omega

theorem six_of {l : List Int} (h : l.length = 6) : ∃ x0 x1 x2 x3 x4 x5, l = [x0, x1, x2, x3, x4, x5] := by
  match l, h with
  | [x0, x1, x2, x3, x4, x5], _ => exact ⟨x0, x1, x2, x3, x4, x5, rfl⟩

theorem pad6_get {ss : List Int} {k : Nat} {s : Int} (h : ss[k]? = some s) : (pad6 ss)[k]? = some s := by
  rw [pad6, List.getElem?_append_left (List.getElem?_eq_some_iff.1 h).1]; exact h

theorem pad6_set {ss : List Int} {k : Nat} (h : k < ss.length) (v : Int) : (pad6 ss).set k v = pad6 (ss.set k v) := by
  rw [pad6, pad6, List.set_append_left _ _ h, List.length_set]

theorem pad6_inj {ss tt : List Int} (h : ss.length = tt.length) (e : pad6 ss = pad6 tt) : ss = tt := by
  rw [pad6, pad6] at e
  exact List.append_inj_left e h

set_option maxRecDepth 100000 in
set_option maxHeartbeats 1600000 in
theorem spotFrom_any (a p l u : Nat) (ss : List Int) (hl : ss.length = l) (hl6 : l ≤ 6) (w : World) (h3 : RL w p l ss) :
    Calls Try.prog 74 #[.agg #[.int .i64 (a:Nat), .slice (some ⟨p, 0, none⟩) l u]] w fun e w' => e = .returned (spV a ss) ∧ Below w.heap.size w w' := by
  have hsz : (Try.prog.info? 3).map (·.size) = some 1 := by kernel_rfl
  obtain ⟨x0, x1, x2, x3, x4, x5, hx⟩ := six_of (pad6_len (ss := ss) (by omega))
  rw [spV, hx]
  have hp := h3.lt
  have HL := Lib.hid hl
  have H3 := Lib.hid (fun w' (hw : Below w.heap.size w w') => news_RL hl (h3.keep hw))
  have HN := Lib.hid (show (ss.map (Value.int .i64)).length = Nat.min l 6 by rw [List.length_map, hl]; show l = min l 6; omega)
  have HF := Lib.hid (show 1 + (ss.map (Value.int .i64)).length ≤ [Value.int .i64 (a : Int), .int .i64 0, .int .i64 0, .int .i64 0, .int .i64 0, .int .i64 0, .int .i64 0].length by rw [List.length_map, hl]; simp; omega)
  have HS := Lib.hid (show splice [Value.int .i64 (a : Int), .int .i64 0, .int .i64 0, .int .i64 0, .int .i64 0, .int .i64 0, .int .i64 0] 1 (ss.map (Value.int .i64)) = [Value.int .i64 (a : Int), .int .i64 x0, .int .i64 x1, .int .i64 x2, .int .i64 x3, .int .i64 x4, .int .i64 x5] by
    have e : [Value.int .i64 (a : Int), .int .i64 x0, .int .i64 x1, .int .i64 x2, .int .i64 x3, .int .i64 x4, .int .i64 x5] = Value.int .i64 (a : Int) :: (pad6 ss).map (Value.int .i64) := by rw [hx]; rfl
    rw [e, splice, pad6, List.map_append, List.length_map, hl, List.map_replicate]
    have e2 : ([Value.int .i64 (a : Int), .int .i64 0, .int .i64 0, .int .i64 0, .int .i64 0, .int .i64 0, .int .i64 0] : List Value).drop (1 + l) = List.replicate (6 - l) (Value.int .i64 0) := by
      rw [show ([Value.int .i64 (a : Int), .int .i64 0, .int .i64 0, .int .i64 0, .int .i64 0, .int .i64 0, .int .i64 0] : List Value) = Value.int .i64 (a : Int) :: List.replicate 6 (Value.int .i64 0) from rfl, Nat.add_comm, List.drop_succ_cons, List.drop_replicate]
    rw [e2]; rfl)
  have HO := Lib.hid (one_int ss)
  have HH := Lib.hid (show (((w.alloc (.cells #[.int .i64 (a : Int), .slice (some ⟨p, 0, none⟩) l u] 36)).alloc (.cells #[.int .i64 0, .int .i64 0, .int .i64 0, .int .i64 0, .int .i64 0, .int .i64 0, .int .i64 0] 80)).alloc (.cells #[.int .i64 (a : Int), .int .i64 0, .int .i64 0, .int .i64 0, .int .i64 0, .int .i64 0, .int .i64 0] 80)).heap[w.heap.size + 1 + 1]? = some (.cells [Value.int .i64 (a : Int), .int .i64 0, .int .i64 0, .int .i64 0, .int .i64 0, .int .i64 0, .int .i64 0].toArray 80 (0, 0)) by
    have := heap_alloc_new ((w.alloc (.cells #[.int .i64 (a : Int), .slice (some ⟨p, 0, none⟩) l u] 36)).alloc (.cells #[.int .i64 0, .int .i64 0, .int .i64 0, .int .i64 0, .int .i64 0, .int .i64 0, .int .i64 0] 80)) (.cells #[.int .i64 (a : Int), .int .i64 0, .int .i64 0, .int .i64 0, .int .i64 0, .int .i64 0, .int .i64 0] 80)
    simpa using this)
  have D := Lib.hid (show ∀ j : Nat, j < 7 → (((w.alloc (.cells #[.int .i64 (a : Int), .slice (some ⟨p, 0, none⟩) l u] 36)).alloc (.cells #[.int .i64 0, .int .i64 0, .int .i64 0, .int .i64 0, .int .i64 0, .int .i64 0, .int .i64 0] 80)).alloc (.cells #[.int .i64 (a : Int), .int .i64 0, .int .i64 0, .int .i64 0, .int .i64 0, .int .i64 0, .int .i64 0] 80)).cell? ⟨w.heap.size + 1, j, none⟩ = some (.int .i64 0) ∧ (((w.alloc (.cells #[.int .i64 (a : Int), .slice (some ⟨p, 0, none⟩) l u] 36)).alloc (.cells #[.int .i64 0, .int .i64 0, .int .i64 0, .int .i64 0, .int .i64 0, .int .i64 0, .int .i64 0] 80)).alloc (.cells #[.int .i64 (a : Int), .int .i64 0, .int .i64 0, .int .i64 0, .int .i64 0, .int .i64 0, .int .i64 0] 80)).frozen? ⟨w.heap.size + 1, j, none⟩ = false from fun j hj => by
    match j, hj with
    | 0, _ => simp [go_sem]
    | 1, _ => simp [go_sem]
    | 2, _ => simp [go_sem]
    | 3, _ => simp [go_sem]
    | 4, _ => simp [go_sem]
    | 5, _ => simp [go_sem]
    | 6, _ => simp [go_sem])
  clear hl h3 hx
  go_enter Try.func74, Try.ntmps74
  go_wp2_with fail
  go_region_law (refine step_copy_splice rfl (.tmp 8) (.tmp 10) 22 22 rfl 3 Try.underlying22 hsz (some ⟨w.heap.size + 1 + 1, 1, none⟩) (some ⟨p, 0, none⟩) 6 6 l u (by simp [Act.eval]) (by simp [Act.eval]) (w.heap.size + 1 + 1) 1 [Value.int .i64 (a : Int), .int .i64 0, .int .i64 0, .int .i64 0, .int .i64 0, .int .i64 0, .int .i64 0] 80 (by exact HH.out) (ss.map (Value.int .i64)) HN.out (fun _ => ⟨rfl, _, rfl, H3.out _ (by go_grown)⟩) HF.out HO.out (w.heap.size + 1 + 1) (((w.alloc (.cells #[.int .i64 (a : Int), .slice (some ⟨p, 0, none⟩) l u] 36)).alloc (.cells #[.int .i64 0, .int .i64 0, .int .i64 0, .int .i64 0, .int .i64 0, .int .i64 0, .int .i64 0] 80)).alloc (.cells #[.int .i64 (a : Int), .int .i64 0, .int .i64 0, .int .i64 0, .int .i64 0, .int .i64 0, .int .i64 0] 80)) (by go_grown) (Nat.le_refl _) ?_; intro w3 hH3 hb3)
  all_goals
    have hh := hH3.out
    rw [HS.out] at hh
    have e0 : w3.cell? ⟨w.heap.size + 1 + 1, 0, none⟩ = some (.int .i64 (a : Int)) := by rw [heap_cell hh]; rfl
    have e1 : w3.cell? ⟨w.heap.size + 1 + 1, 1, none⟩ = some (.int .i64 x0) := by rw [heap_cell hh]; rfl
    have e2 : w3.cell? ⟨w.heap.size + 1 + 1, 2, none⟩ = some (.int .i64 x1) := by rw [heap_cell hh]; rfl
    have e3 : w3.cell? ⟨w.heap.size + 1 + 1, 3, none⟩ = some (.int .i64 x2) := by rw [heap_cell hh]; rfl
    have e4 : w3.cell? ⟨w.heap.size + 1 + 1, 4, none⟩ = some (.int .i64 x3) := by rw [heap_cell hh]; rfl
    have e5 : w3.cell? ⟨w.heap.size + 1 + 1, 5, none⟩ = some (.int .i64 x4) := by rw [heap_cell hh]; rfl
    have e6 : w3.cell? ⟨w.heap.size + 1 + 1, 6, none⟩ = some (.int .i64 x5) := by rw [heap_cell hh]; rfl
    have d := fun j (hj : j < 7) => And.intro ((hb3.cell (p := ⟨w.heap.size + 1, j, none⟩) (Nat.lt_succ_self _)).trans (D.out j hj).1) ((hb3.frozen (p := ⟨w.heap.size + 1, j, none⟩) (Nat.lt_succ_self _)).trans (D.out j hj).2)
    obtain ⟨d0, g0⟩ := d 0 (by decide)
    obtain ⟨d1, g1⟩ := d 1 (by decide)
    obtain ⟨d2, g2⟩ := d 2 (by decide)
    obtain ⟨d3, g3⟩ := d 3 (by decide)
    obtain ⟨d4, g4⟩ := d 4 (by decide)
    obtain ⟨d5, g5⟩ := d 5 (by decide)
    obtain ⟨d6, g6⟩ := d 6 (by decide)
    have HB := Lib.hid (Below.trans (by go_grown : Below w.heap.size w _) (hb3.mono (Nat.le_trans (Nat.le_succ _) (Nat.le_succ _))))
    clear hh hH3 d hb3
    go_wp2_with fail
    refine bodyPost_ret (by simp [results, Try.results74, go_sem, *]; try rfl) rfl ?_
    refine ⟨rfl, ?_⟩
    repeat (refine Below.setCell ?_ (by simp <;> omega) _)
    exact HB.out

/-! ### A row of states copied out of a spot -/

theorem news_RLo {w : World} {p o : Nat} {xs : List Int} (h : ∀ (j : Nat) x, xs[j]? = some x → w.cell? ⟨p, o + j, none⟩ = some (.int .i64 x)) : ∀ j u, (xs.map (Value.int .i64))[j]? = some u → w.cell? ((⟨p, o, none⟩ : Addr).add j) = some u := by
  intro j u hj
  rw [List.getElem?_map] at hj
  obtain ⟨x, hx, rfl⟩ := Option.map_eq_some_iff.1 hj
  have ha : ((⟨p, o, none⟩ : Addr).add j) = ⟨p, o + j, none⟩ := by by_cases e : j = 0 <;> simp [Addr.add, e]
  rw [ha]; exact h j x hx

theorem slNil (a : Addr) (n c : Nat) (w : World) : (binOp .eql 22 (.slice (some a) n c) (.slice none 0 0)).run Try.prog w = .ok (.bool false) w := by kernel_rfl

set_option maxRecDepth 100000 in
set_option maxHeartbeats 800000 in
theorem clone_any (p o n q : Nat) (xs : List Int) (hn : xs.length = n) (hb : n ≤ 2000000) (w : World) (hp : p < w.heap.size) (h : ∀ (j : Nat) x, xs[j]? = some x → w.cell? ⟨p, o + j, none⟩ = some (.int .i64 x)) :
    Calls Try.prog 76 #[.slice (some ⟨p, o, none⟩) n q] w (OwnPost n xs w) := by
  obtain ⟨i0, hi, iz0, iz1, iz2⟩ := info_of numInfo
  have HN := Lib.hid hn
  have H1 := Lib.hid (fun (j : Nat) x hx => cl_below (h j x hx) hp ((Below.refl _ _).alloc (Nat.le_refl _) (.cells #[] 3)))
  have hnl := slNil ⟨p, o, none⟩ n q
  clear hn h
  go_enter Try.func76, Try.ntmps76
  go_wp2_with (refine wpList_append_own_at _ rfl _ _ 22 rfl w.heap.size 3 i0 (.int .i64 0) 1 8 Try.underlying22 hi iz0 iz1 iz2 rfl (by decide) (.slice (some ⟨w.heap.size, 0, none⟩) 0 0) 0 [] rfl (own_start w) ⟨p, o, none⟩ n q (xs.map (Value.int .i64)) rfl (by rw [List.length_map, HN.out, Nat.mul_one]) (news_RLo H1.out) (one_int xs) (by unfold maxLen; omega) (by omega) (by simp) ?_; intro v' w2 hown hgrow hnil hloc)
  obtain ⟨g, c, rfl, hg, hR⟩ := own_RL (by simpa using hown) HN.out (by intro e; have := (hnil.1 e).1; cases this)
  have HR := Lib.hid hR
  have HB := Lib.hid (((Below.refl w.heap.size w).alloc (Nat.le_refl _) (.cells #[] 3)).grown hgrow (by simp) (fun k hk => by injection hk with hk; simp at hk; omega))
  clear hR hown hgrow hnil hloc
  go_wp2_with fail
  go_ret
  exact ⟨g, c, rfl, hg, HR.out, HB.out⟩

end Go.Proofs.Ytoaccnpkobbaaaa
