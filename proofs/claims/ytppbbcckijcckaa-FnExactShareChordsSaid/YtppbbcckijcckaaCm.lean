/- Contracts: the program's order of surds and of places, and that their draws add up. -/
import Derived.Test.YtppbbcckijcckaaSgG
import Derived.Test.YtppbbcckijcckaaAt
import Derived.Shelf.SlSortCmp.QuietGrown
namespace Go.Proofs.Ytppbbcckijcckaa
open Go.ChangeShapes Go.WideShapes Go.ChangeAt Go.RowKit Go.Sort

set_option linter.unusedVariables false
set_option linter.unusedSimpArgs false

/-- w' is w with some draws and some blocks laid behind. -/
theorem gr_of {w w' : World} (h : Below w.heap.size w w') (k : w.drawn ≤ w'.drawn) : ∃ q os, w' = grow (w.drewN q) os := by
  obtain ⟨⟨d, os⟩, hp⟩ := regrown_of_below h
  have hd : w'.drawn = d := by rw [hp]; rfl
  refine ⟨d - w.drawn, os, ?_⟩
  rw [hp]
  have : d = w.drawn + (d - w.drawn) := by omega
  show grow (redrawn w d) os = grow (redrawn w (w.drawn + (d - w.drawn))) os
  rw [← this]

theorem below_gr' {w : World} (n : Nat) (os : Array Obj) : Below w.heap.size w (grow (w.drewN n) os) := below_regrown w (w.drawn + n) os

/-- A callee's contract, met in a world of the class. -/
theorem grown_of' {P : Program} {f : FuncId} {args : Array Value} {w : World} {n : Nat} {os : Array Obj} {v : Value}
    (h : Calls P f args (grow (w.drewN n) os) fun e w' => e = .returned v ∧ Below (grow (w.drewN n) os).heap.size (grow (w.drewN n) os) w' ∧ (grow (w.drewN n) os).drawn ≤ w'.drawn) : Calls P f args (grow (w.drewN n) os) fun e w'' => e = .returned v ∧ ∃ p : GrownBy, w'' = grow (w.drewN p.n) p.os :=
  Calls.grown_of (h.mono fun _ _ ⟨he, hb, hd⟩ => ⟨he, gr_of hb hd⟩)

theorem cell_grownc {w : World} {a : Addr} {v : Value} (h : w.cell? a = some v) (n : Nat) (os : Array Obj) : (grow (w.drewN n) os).cell? a = some v := cell_grown (block_lt_of_cell h) h n os

theorem region_grown_tail {P : Program} {id : Nat} {Q : Exit → Act → World → Prop} {a : Act} {w : World} {l : List Oper} (n : Nat) (hm : P.follows .mixedOrders = true) (hB : Region.lexTailB .any l.toArray n = true)
    (h : wpQuiet P l.toArray (fun w' => ∃ p : GrownBy, w' = grow (w.drewN p.n) p.os) (fun a' => ∀ w', (∃ p : GrownBy, w' = grow (w.drewN p.n) p.os) → wpList P l.toArray Q (l.drop n) a' w') (l.take n) a) : (Code.region id l.toArray true).wp P Q a w :=
  region_quiet_tail n hm hB ⟨⟨1, #[]⟩, by rw [grow_empty]; rfl⟩ h

set_option maxRecDepth 100000 in
theorem imXG (p : Pn) (h : Bd 1000000000000000000 p) (w : World) : Calls Try.prog 76 #[pv p] w fun e w' => e = .returned (sv p.tx) ∧ Below w.heap.size w w' ∧ w.drawn ≤ w'.drawn := by
  have e1 := (w64X h).1; have e2 := (w64X h).2
  go_enter Try.func76, Try.ntmps76
  go_wp2
  go_returns
  exact ⟨by simp [Pn.tx, *], by go_grown, Nat.le_refl _⟩

set_option maxRecDepth 100000 in
theorem imYG (p : Pn) (h : Bd 1000000000000000000 p) (w : World) : Calls Try.prog 78 #[pv p] w fun e w' => e = .returned (sv p.ty) ∧ Below w.heap.size w w' ∧ w.drawn ≤ w'.drawn := by
  have e1 := (w64Y h).1; have e2 := (w64Y h).2
  go_enter Try.func78, Try.ntmps78
  go_wp2
  go_returns
  exact ⟨by simp [Pn.ty, *], by go_grown, Nat.le_refl _⟩

theorem sub_w64 {n : Int} {s t : Su} (h : Bs n s) (k : Bs n t) (hn : n ≤ 4000000000000000000) : wrap64 (s.x - t.x) = (s - t).x ∧ wrap64 (s.r - t.r) = (s - t).r := by
  unfold Bs at h k
  exact ⟨w64p _ (by omega) (by omega), w64p _ (by omega) (by omega)⟩

set_option maxRecDepth 100000 in
theorem imSuLess (s t : Su) (h : Bs 4000000000000000000 s) (k : Bs 4000000000000000000 t) (w : World) : Calls Try.prog 71 #[sv s, sv t] w fun e w' => e = .returned (sv (s - t)) ∧ Below w.heap.size w w' ∧ w.drawn ≤ w'.drawn := by
  obtain ⟨e1, e2⟩ := sub_w64 h k (by omega)
  go_enter Try.func71, Try.ntmps71
  go_wp2
  go_returns
  exact ⟨by simp [*], by go_grown, Nat.le_refl _⟩

theorem Bs.sub_bd {n : Int} {s t : Su} (h : Bs n s) (k : Bs n t) : Bs (2 * n) (s - t) := by
  unfold Bs at *
  rw [Su.sub_x, Su.sub_r]; omega

set_option maxRecDepth 100000 in
theorem imCmpG (s t : Su) (h : Bs 2000000000000000 s) (k : Bs 2000000000000000 t) (w : World) : Calls Try.prog 99 #[sv s, sv t] w fun e w' => e = .returned (.int .i64 (s - t).sn) ∧ Below w.heap.size w w' ∧ w.drawn ≤ w'.drawn := by
  have hb : (-4000000000000000 ≤ (s - t).x ∧ (s - t).x ≤ 4000000000000000) ∧ (-4000000000000000 ≤ (s - t).r ∧ (s - t).r ≤ 4000000000000000) := h.sub_bd k
  go_enter Try.func99, Try.ntmps99
  go_wp2_with fail
  (go_at_call 71; (with_reducible refine (imSuLess s t (h.mono (by omega)) (k.mono (by omega)) _).mono ?_); rintro e wA ⟨rfl, h1, d1⟩; have hB : Below w.heap.size w wA := ba (by go_grown) h1; have hdA : w.drawn ≤ wA.drawn := d1)
  go_wp2_with fail
  (go_at_call 111; (with_reducible refine (imSign_gr (s - t).x (s - t).r hb.1.1 hb.1.2 hb.2.1 hb.2.2 _).mono ?_); rintro e wB ⟨rfl, h2, d2⟩; have hB2 : Below w.heap.size w wB := ba hB h2; have hdB : w.drawn ≤ wB.drawn := Nat.le_trans hdA d2)
  go_wp2_with fail
  go_returns
  exact ⟨rfl, hB2, hdB⟩

def orI (x y : Int) : Int := if x = 0 then y else x

set_option maxRecDepth 100000 in
theorem orP (x y : Int) (g : Nat) (w : World) (h0 : w.cell? ⟨g, 0, none⟩ = some (.int .i64 x)) (h1 : w.cell? ⟨g, 1, none⟩ = some (.int .i64 y)) :
    Calls Try.prog 131 #[.slice (some ⟨g, 0, none⟩) 2 2] w fun e w' => e = .returned (.int .i64 (orI x y)) ∧ w = w' := by
  by_cases hx : x = 0
  · subst hx
    by_cases hy : y = 0
    · subst hy
      go_enter Try.func131, Try.ntmps131
      go_wp2_with fail
      refine wp_loop_rounds 3 ?_
      repeat any_goals (rw [rounds_succ]; go_wp2_with fail)
      all_goals go_ret
      all_goals exact ⟨rfl, rfl⟩
    · go_enter Try.func131, Try.ntmps131
      go_wp2_with fail
      refine wp_loop_rounds 3 ?_
      repeat any_goals (rw [rounds_succ]; go_wp2_with fail)
      all_goals go_ret
      all_goals exact ⟨by simp [orI, hy], rfl⟩
  · go_enter Try.func131, Try.ntmps131
    go_wp2_with fail
    refine wp_loop_rounds 3 ?_
    repeat any_goals (rw [rounds_succ]; go_wp2_with fail)
    all_goals go_ret
    all_goals exact ⟨by simp [orI, hx], rfl⟩

/-- The program's order of places. -/
def cmpP (p q : Pn) : Int := orI (p.tx - q.tx).sn (p.ty - q.ty).sn

set_option maxRecDepth 100000 in
set_option maxHeartbeats 800000 in
theorem placesG (p q : Pn) (hp : Bd 100000 p) (hq : Bd 100000 q) (w : World) : Calls Try.prog 90 #[pv p, pv q] w fun e w' => e = .returned (.int .i64 (cmpP p q)) ∧ Below w.heap.size w w' ∧ w.drawn ≤ w'.drawn := by
  have HX := imCmpG p.tx q.tx (hp.tx_bd.mono (by omega)) (hq.tx_bd.mono (by omega))
  have HY := imCmpG p.ty q.ty (hp.ty_bd.mono (by omega)) (hq.ty_bd.mono (by omega))
  unfold cmpP
  generalize (p.tx - q.tx).sn = x at *
  generalize (p.ty - q.ty).sn = y at *
  go_enter Try.func90, Try.ntmps90
  go_wp2_with fail
  refine absW (F := fun W => (W.cell? ⟨w.heap.size, 0, none⟩ = some (.int .i64 (p).a) ∧ W.cell? ⟨w.heap.size, 1, none⟩ = some (.int .i64 (p).b) ∧ W.cell? ⟨w.heap.size, 2, none⟩ = some (.int .i64 (p).c) ∧ W.cell? ⟨w.heap.size, 3, none⟩ = some (.int .i64 (p).d)) ∧ (W.cell? ⟨w.heap.size + 1, 0, none⟩ = some (.int .i64 (q).a) ∧ W.cell? ⟨w.heap.size + 1, 1, none⟩ = some (.int .i64 (q).b) ∧ W.cell? ⟨w.heap.size + 1, 2, none⟩ = some (.int .i64 (q).c) ∧ W.cell? ⟨w.heap.size + 1, 3, none⟩ = some (.int .i64 (q).d)) ∧ Below w.heap.size w W ∧ W.heap.size = w.heap.size + 1 + 1 ∧ w.drawn ≤ W.drawn) ⟨⟨by go_simp, by go_simp, by go_simp, by go_simp⟩, ⟨by go_simp, by go_simp, by go_simp, by go_simp⟩, by go_grown, by first | (simp; done) | (simp; omega), by first | exact Nat.le_refl _ | (simp [World.drewN]; done) | omega⟩ ?_
  rintro W ⟨⟨c0_0, c0_1, c0_2, c0_3⟩, ⟨c1_0, c1_1, c1_2, c1_3⟩, HB, hz, HD⟩
  have k0_0 := fun d os => cell_grownc c0_0 d os
  have k0_1 := fun d os => cell_grownc c0_1 d os
  have k0_2 := fun d os => cell_grownc c0_2 d os
  have k0_3 := fun d os => cell_grownc c0_3 d os
  have k1_0 := fun d os => cell_grownc c1_0 d os
  have k1_1 := fun d os => cell_grownc c1_1 d os
  have k1_2 := fun d os => cell_grownc c1_2 d os
  have k1_3 := fun d os => cell_grownc c1_3 d os
  refine region_grown_tail 10 (by kernel_rfl) (by kernel_rfl) ?_
  simp only [List.take_succ_cons, List.take_zero, List.drop_succ_cons, List.drop_zero]
  repeat (quiet_step (first | (go_at_call 76; with_reducible exact grown_of' (imXG p (hp.mono (by omega)) _)) | (go_at_call 76; with_reducible exact grown_of' (imXG q (hq.mono (by omega)) _)) | (go_at_call 78; with_reducible exact grown_of' (imYG p (hp.mono (by omega)) _)) | (go_at_call 78; with_reducible exact grown_of' (imYG q (hq.mono (by omega)) _)) | (go_at_call 99; with_reducible exact grown_of' (HX _)) | (go_at_call 99; with_reducible exact grown_of' (HY _))))
  refine wpQuiet_nil ?_
  rintro _ ⟨⟨nq, osq⟩, rfl⟩
  have hbw1 := below_gr' (w := W) nq osq
  have hdw1 : W.drawn ≤ (grow (W.drewN nq) osq).drawn := Nat.le_add_right _ _
  generalize grow (W.drewN nq) osq = w1 at hbw1 hdw1 ⊢
  obtain ⟨hcw1, hfw1⟩ := bcell hbw1
  have hlw1 := hbw1.size
  replace HB := ba HB hbw1
  replace HD := Nat.le_trans HD hdw1
  go_wp2_with (go_at_call 131; (with_reducible refine (orP x y _ _ (by go_simp) (by go_simp)).mono ?_); rintro e w2 ⟨rfl, rfl⟩)
  go_returns
  exact ⟨rfl, by go_grown, by first | exact HD | (simp; done)⟩

/-- The order: p comes before q. -/
theorem cmpP_lt (p q : Pn) : cmpP p q < 0 ↔ Pn.ltd true p q := by
  have ex : p.tx - q.tx = -(Pn.vec p q).X := by apply Su.ext' <;> simp only [Pn.vec, Pn.tx, Su.sub_x, Su.sub_r, Su.neg_x, Su.neg_r] <;> omega
  have ey : p.ty - q.ty = -(Pn.vec p q).Y := by apply Su.ext' <;> simp only [Pn.vec, Pn.ty, Su.sub_x, Su.sub_r, Su.neg_x, Su.neg_r] <;> omega
  unfold cmpP orI Pn.ltd Pn.vd Ve.lx
  rw [ex, ey, cond_true, Su.sn_of_neg, Su.sn_of_neg, ← Su.sn_pos, ← Su.sn_pos, ← Su.sn_zero]
  split <;> omega

end Go.Proofs.Ytppbbcckijcckaa
