/- Contracts and facts, put together (part 3). Conditions: each says its own. -/
import Derived.Test.YtppbbcckijcckaaQ2
import Derived.Test.YtppbbcckijcckaaShelfG
import Derived.Shelf.SlSortCmp.NoneTotal
import Derived.ChangeKeysEq

/- Contract: the library's slices.SortFunc at places; what is sorted. -/
namespace Go.Proofs.Ytppbbcckijcckaa
open Go.ChangeShapes Go.WideShapes Go.ChangeAt Go.RowKit Go.Lib

set_option linter.unusedVariables false
set_option linter.unusedSimpArgs false

set_option linter.unusedVariables false

/-- A place: a point whose numbers are not too great. -/
def Pl : Type := { p : Pn // Bd 100000 p }

instance : Inhabited Pl := ⟨⟨⟨0, 0, 0, 0⟩, by unfold Bd; simp⟩⟩

def encP (x : Pl) : List Value := [.int .i64 x.1.a, .int .i64 x.1.b, .int .i64 x.1.c, .int .i64 x.1.d]

theorem encP_len (x : Pl) : (encP x).length = 4 := rfl

theorem encP_one (x : Pl) : ∀ v ∈ encP x, v.oneCell' = true := by
  intro v hv
  simp only [encP, List.mem_cons, List.not_mem_nil, or_false] at hv
  rcases hv with rfl | rfl | rfl | rfl <;> rfl

def cfP (x y : Pl) : Int := cmpP x.1 y.1
noncomputable def ltdB (p q : Pn) : Bool := open Classical in decide (Pn.ltd true p q)

theorem ltP (x y : Pl) : ltOf cfP x y = true ↔ Pn.ltd true x.1 y.1 := by
  rw [← cmpP_lt]
  unfold ltOf cfP
  exact decide_eq_true_iff

theorem ltP_no (x y : Pl) : ltOf cfP x y = false ↔ ¬ Pn.ltd true x.1 y.1 := by
  rw [← ltP, Bool.not_eq_true]

theorem swoP : Sort.SWO (ltOf cfP) where
  irrefl x := (ltP_no x x).2 fun h => Pn.ltd_ne h rfl
  trans x y z h1 h2 := (ltP x z).2 (Pn.ltd_trans ((ltP x y).1 h1) ((ltP y z).1 h2))
  ntrans x y z h1 h2 := (ltP_no x z).2 fun h => by
    have a := (ltP_no x y).1 h1
    have b := (ltP_no y z).1 h2
    rcases Pn.ltd_tri true x.1 y.1 with g | g | g
    · exact a g
    · rw [g] at h; exact b h
    · exact b (Pn.ltd_trans g h)

theorem totP (x y : Pl) (h1 : ltOf cfP x y = false) (h2 : ltOf cfP y x = false) : x = y := by
  have a := (ltP_no x y).1 h1
  have b := (ltP_no y x).1 h2
  rcases Pn.ltd_tri true x.1 y.1 with g | g | g
  · exact absurd g a
  · exact Subtype.ext g
  · exact absurd g b

/-- y does not come before x. -/
def leP (x y : Pl) : Prop := ¬ Pn.ltd true y.1 x.1

def srtP (l : List Pl) : List Pl := l.mergeSort fun x y => !(ltOf cfP) y x

theorem srtP_perm (l : List Pl) : (srtP l).Perm l := List.mergeSort_perm _ _

theorem srtP_sorted (l : List Pl) : (srtP l).Pairwise leP := by
  have hS := swoP
  have := List.pairwise_mergeSort (le := fun x y => !(ltOf cfP) y x) (fun a b c h1 h2 => by
    simp only [Bool.not_eq_true'] at h1 h2 ⊢
    exact hS.ntrans _ _ _ h2 h1) (fun a b => by
      cases h1 : ltOf cfP b a with
      | false => simp
      | true =>
        have : ltOf cfP a b = false := by
          cases h2 : ltOf cfP a b with
          | false => rfl
          | true => have := hS.trans _ _ _ h1 h2; rw [hS.irrefl] at this; cases this
        simp [this]) l
  exact this.imp fun h => (ltP_no _ _).1 (by simpa using h)

/-- A sorted arrangement is the sorted one. -/
theorem srtP_eq {l m : List Pl} (hp : m.Perm l) : m = srtP l ↔ m.Pairwise leP := by
  constructor
  · intro h; rw [h]; exact srtP_sorted l
  · intro h
    have anti : ∀ a b : Pl, a ∈ m → b ∈ srtP l → leP a b → leP b a → a = b := fun a b _ _ h1 h2 => totP a b ((ltP_no a b).2 h2) ((ltP_no b a).2 h1)
    exact List.Perm.eq_of_pairwise anti h (srtP_sorted l) (hp.trans (srtP_perm l).symm)

def HoldsP (W : World) (g : Nat) (l : List Pl) : Prop := Sort.HoldsK encP 4 W g 0 l.toArray

theorem HoldsP.rowP {W : World} {g : Nat} {l : List Pl} (h : HoldsP W g l) : RowP W g (l.map (·.1)) := fun k p hp => by
  rw [List.getElem?_map] at hp
  obtain ⟨x, hx, rfl⟩ := Option.map_eq_some_iff.1 hp
  have hk : k < l.toArray.size := by simpa using (List.getElem?_eq_some_iff.1 hx).1
  have e : l.toArray[k]! = x := by
    rw [getElem!_pos l.toArray k hk]
    have := (List.getElem?_eq_some_iff.1 hx).2
    simpa using this
  have c : ∀ (i : Nat) (v : Value), (encP x)[i]? = some v → W.cell? ⟨g, k * 4 + i, none⟩ = some v := fun i v hv => by
    have hv' : (encP l.toArray[k]!)[i]? = some v := by rw [e]; exact hv
    have h' : Sort.HoldsK encP 4 W g 0 l.toArray := h
    have := HoldsK.cells (enc := encP) (k := 4) (d := l.toArray) (i := k) h' encP_len hk i v hv'
    rw [Addr.add_lit, Nat.zero_add] at this
    exact this
  exact ⟨c 0 (.int .i64 x.1.a) rfl, c 1 (.int .i64 x.1.b) rfl, c 2 (.int .i64 x.1.c) rfl, c 3 (.int .i64 x.1.d) rfl⟩

theorem HoldsP.frozen {W : World} {g : Nat} {l : List Pl} (h : HoldsP W g l) (j : Nat) (hj : j < l.length * 4) : W.frozen? ⟨g, j, none⟩ = false := by
  have := (h j (by rw [Sort.size_flatK]; simpa using hj)).2
  rwa [Nat.zero_add] at this

theorem HoldsP.of {W : World} {g : Nat} {l : List Pl} (h : RowP W g (l.map (·.1))) (hf : ∀ j, j < l.length * 4 → W.frozen? ⟨g, j, none⟩ = false) : HoldsP W g l := fun j hj => by
  rw [Sort.size_flatK] at hj
  have hj' : j < l.length * 4 := by simpa using hj
  have hq : j / 4 < l.toArray.size := by simp; omega
  have hr : j % 4 < 4 := Nat.mod_lt _ (by decide)
  rw [Nat.zero_add]
  refine ⟨?_, hf j hj'⟩
  rw [Sort.get_flatK _ _ _ _ hj]
  have hx : l[j / 4]? = some l.toArray[j / 4]! := by
    rw [getElem!_pos l.toArray _ hq, List.getElem?_eq_getElem (by simpa using hq)]; simp
  obtain ⟨c0, c1, c2, c3⟩ := h (j / 4) l.toArray[j / 4]!.1 (by rw [List.getElem?_map, hx]; rfl)
  have e : j = j / 4 * 4 + j % 4 := by omega
  generalize l.toArray[j / 4]! = x at *
  have h4 : j % 4 = 0 ∨ j % 4 = 1 ∨ j % 4 = 2 ∨ j % 4 = 3 := by omega
  rcases h4 with h4 | h4 | h4 | h4
  · rw [h4] at e ⊢; rw [show (⟨g, j, none⟩ : Addr) = ⟨g, j / 4 * 4, none⟩ by rw [show j / 4 * 4 = j by omega]]; exact c0
  · rw [h4] at e ⊢; rw [show (⟨g, j, none⟩ : Addr) = ⟨g, j / 4 * 4 + 1, none⟩ by rw [show j / 4 * 4 + 1 = j by omega]]; exact c1
  · rw [h4] at e ⊢; rw [show (⟨g, j, none⟩ : Addr) = ⟨g, j / 4 * 4 + 2, none⟩ by rw [show j / 4 * 4 + 2 = j by omega]]; exact c2
  · rw [h4] at e ⊢; rw [show (⟨g, j, none⟩ : Addr) = ⟨g, j / 4 * 4 + 3, none⟩ by rw [show j / 4 * 4 + 3 = j by omega]]; exact c3

/-- Of what was there, nothing has turned but block g. -/
structure Only (g : Nat) (w w' : World) : Prop where
  os : w'.os = w.os
  tape : w'.tape = w.tape
  output : w'.output = w.output
  size : w.heap.size ≤ w'.heap.size
  block : ∀ k, k < w.heap.size → k ≠ g → w'.heap[k]? = w.heap[k]?

theorem Only.below {g m : Nat} {w w' : World} (h : Only g w w') (hm : m ≤ g) (hg : g < w.heap.size) : Below m w w' :=
  ⟨h.os, h.tape, h.output, h.size, fun k hk => h.block k (by omega) (by omega)⟩

theorem Only.cell {g : Nat} {w w' : World} (h : Only g w w') {b o : Nat} {v : Value} (hb : b ≠ g) (hc : w.cell? ⟨b, o, none⟩ = some v) : w'.cell? ⟨b, o, none⟩ = some v := by
  have hlt := block_lt_of_cell hc
  have e := h.block b hlt hb
  rw [← hc]
  simp only [World.cell?, e]

theorem only_sortP {w : World} {g n : Nat} {d : Array Pl} (os : Array Obj) (hl : g < w.heap.size) : Only g w (sortWorldK encP 4 w g 0 n d os) := by
  unfold sortWorldK
  refine ⟨rfl, rfl, rfl, ?_, fun k hk hne => ?_⟩
  · rw [Sort.size_grow, Sort.size_putRowK]; exact Nat.le_add_right _ _
  · rw [Sort.heap_grow_old _ os (by rw [Sort.size_putRowK]; exact hk)]
    show (w.heap.modify g _)[k]? = _
    rw [Array.getElem?_modify, if_neg (by omega)]

set_option maxRecDepth 100000 in
theorem sortP_any (l : List Pl) (n : Nat) (hn : l.length = n) (hb5 : n ≤ 5000) (g cap : Nat) (w : World) (hH : HoldsP w g l) (hg : g < w.heap.size) :
    Calls Try.prog 89 #[.slice (some ⟨g, 0, none⟩) n cap, .func (.func 90) #[] #[]] w fun e w' => e = .returned (.tuple #[]) ∧ HoldsP w' g (srtP l) ∧ Only g w w' := by
  subst hn
  have h := AnyQ.slices_SortFunc_total Try.sortPt 4 Try.isAgg26 Try.sizeOf26 encP encP_len encP_one cfP swoP 90 #[] g 0 cap l.toArray w
    (enters_of Try.func90 (by kernel_rfl) rfl) (fun m os dk _ x y => (placesG x.1 y.1 x.2 y.2 _).mono fun e w' ⟨h1, h2, h3⟩ => ⟨h1, gr_of h2 h3⟩) hH hg (by simp; omega) totP
  refine h.mono fun e w' ⟨h1, q, os, h2⟩ => ⟨h1, ?_, ?_⟩
  · rw [h2]
    exact holdsK_sortWorldK encP 4 w g 0 q l.toArray (srtP l).toArray os hg hH (by simp [srtP, List.length_mergeSort])
  · rw [h2]
    exact only_sortP os hg

end Go.Proofs.Ytppbbcckijcckaa

/- '==' on three points one behind the other. -/
namespace Go.Proofs.Ytppbbcckijcckaa
open Go.ChangeShapes Go.WideShapes Go.ChangeAt Go.RowKit

theorem triCells : Try.prog.cellsOf 26 = 4 := by kernel_rfl

theorem triUnder : Try.prog.underlying 62 = some (.array 3 26) := by kernel_rfl

/-- The kernel's own reading of one comparison of points at any depth. -/
theorem eqPtAt (d : Nat) (p q : Pn) (w : World) : (Op.equalIn (d + 1 + 1) 26 (pv p) (pv q)).run Try.prog w = .ok (decide (p = q)) w := by
  have hS : Try.prog.underlying 26 = some (.struct (Try.prog.fieldsOf 26)) := by kernel_rfl
  have hp : Try.prog.stoodInHeld 26 = false := by kernel_rfl
  rw [run_equalIn_agg w (d + 1) 26 _ _ hS hp]
  simp only [Program.fieldsOf, Try.underlying26]
  go_simp
  have e : decide (p = q) = (p.a == q.a && (p.b == q.b && (p.c == q.c && p.d == q.d))) := by
    rw [Bool.eq_iff_iff, decide_eq_true_eq]
    simp only [Bool.and_eq_true, beq_iff_eq]
    exact ⟨fun h => by subst h; simp, fun h => Pn.ext' h.1 h.2.1 h.2.2.1 h.2.2.2⟩
  rw [e]
  by_cases h0 : p.a = q.a <;> by_cases h1 : p.b = q.b <;> by_cases h2 : p.c = q.c <;> by_cases h3 : p.d = q.d <;> simp [h0, h1, h2, h3]

theorem eqTriAt (d : Nat) (p q r s t u : Pn) (w : World) : (Op.equalIn (d + 1 + 1 + 1) 62 (tv p q r) (tv s t u)).run Try.prog w = .ok (decide (p = s) && (decide (q = t) && decide (r = u))) w := by
  cases hq : Try.prog.info? 26 with
  | none =>
    have h : (Try.prog.info? 26).isSome = true := by kernel_rfl
    rw [hq] at h
    cases h
  | some i =>
    have e0 := eqPtAt d p s w
    have e1 := eqPtAt d q t w
    have e2 := eqPtAt d r u w
    rw [run_equalIn_array w (d + 1 + 1) _ _ triUnder hq, triCells]
    simp only [List.range, List.range.loop, Op.eqItems, Sem.run_bind]
    have p0 : ∀ (x y z : Pn), (part 26 #[.int .i64 x.a, .int .i64 x.b, .int .i64 x.c, .int .i64 x.d, .int .i64 y.a, .int .i64 y.b, .int .i64 y.c, .int .i64 y.d, .int .i64 z.a, .int .i64 z.b, .int .i64 z.c, .int .i64 z.d] (0 * 4)).run Try.prog w = .ok (pv x) w := fun x y z => by simp [go_sem]
    have p1 : ∀ (x y z : Pn), (part 26 #[.int .i64 x.a, .int .i64 x.b, .int .i64 x.c, .int .i64 x.d, .int .i64 y.a, .int .i64 y.b, .int .i64 y.c, .int .i64 y.d, .int .i64 z.a, .int .i64 z.b, .int .i64 z.c, .int .i64 z.d] (1 * 4)).run Try.prog w = .ok (pv y) w := fun x y z => by simp [go_sem]
    have p2 : ∀ (x y z : Pn), (part 26 #[.int .i64 x.a, .int .i64 x.b, .int .i64 x.c, .int .i64 x.d, .int .i64 y.a, .int .i64 y.b, .int .i64 y.c, .int .i64 y.d, .int .i64 z.a, .int .i64 z.b, .int .i64 z.c, .int .i64 z.d] (2 * 4)).run Try.prog w = .ok (pv z) w := fun x y z => by simp [go_sem]
    rw [p0 p q r, Result.andThen_ok, p0 s t u, Result.andThen_ok, e0, Result.andThen_ok]
    by_cases h0 : p = s
    · subst h0
      simp only [decide_true, Bool.not_true, Bool.false_eq_true, if_false, Bool.true_and, Sem.run_bind]
      rw [p1 p q r, Result.andThen_ok, p1 p t u, Result.andThen_ok, e1, Result.andThen_ok]
      by_cases h1 : q = t
      · subst h1
        simp only [decide_true, Bool.not_true, Bool.false_eq_true, if_false, Bool.true_and, Sem.run_bind]
        rw [p2 p q r, Result.andThen_ok, p2 p q u, Result.andThen_ok, e2, Result.andThen_ok]
        by_cases h2 : r = u
        · simp [h2]
        · simp [h2]
      · simp [h1]
    · simp [h0]

/-- '==' on three points one behind the other. -/
@[go_sem high] theorem eqTri (p q r s t u : Pn) (w : World) : (binOp .eql 62 (tv p q r) (tv s t u)).run Try.prog w = .ok (.bool (decide (p = s) && (decide (q = t) && decide (r = u)))) w := by
  rw [run_eql_struct, show (10000 : Nat) = 9997 + 1 + 1 + 1 from rfl, eqTriAt]
  rfl

end Go.Proofs.Ytppbbcckijcckaa

/- Contract: the program's isStraight. -/
namespace Go.Proofs.Ytppbbcckijcckaa
open Go.ChangeShapes Go.WideShapes Go.ChangeAt Go.RowKit Go.Sort

set_option linter.unusedVariables false
set_option linter.unusedSimpArgs false

theorem three_len {l : List Pl} (h : l.length = 3) : ∃ a b c, l = [a, b, c] := by
  rcases l with _ | ⟨a, _ | ⟨b, _ | ⟨c, _ | ⟨d, l⟩⟩⟩⟩ <;> simp at h
  exact ⟨a, b, c, rfl⟩

theorem le_leP {x y : Pl} : leP x y ↔ Pn.led true x.1 y.1 := by
  unfold leP Pn.led
  rcases Pn.ltd_tri true x.1 y.1 with h | h | h
  · simp [h, Pn.ltd_asymm h]
  · rw [h]; simp; exact fun k => Pn.ltd_ne k rfl
  · have n1 := Pn.ltd_asymm h
    have n2 : x.1 ≠ y.1 := fun e => Pn.ltd_ne h e.symm
    simp [h, n1, n2]

/-- Three places sorted: in their order or backwards, if the middle one lies between. -/
theorem three_sorted {x y z s0 s1 s2 : Pl} (h : srtP [x, y, z] = [s0, s1, s2]) :
    (decide (Pn.sd x.1 y.1 z.1 = 0) && ((decide (x.1 = s0.1) && (decide (y.1 = s1.1) && decide (z.1 = s2.1))) || (decide (z.1 = s0.1) && (decide (y.1 = s1.1) && decide (x.1 = s2.1))))) = Pn.btw x.1 z.1 y.1 := by
  have a := srtP_eq (l := [x, y, z]) (m := [x, y, z]) (List.Perm.refl _)
  have b := srtP_eq (l := [x, y, z]) (m := [z, y, x]) (by
    have := List.reverse_perm [x, y, z]
    simpa using this)
  rw [h] at a b
  have e : ∀ u v t : Pl, [u, v, t] = [s0, s1, s2] ↔ u.1 = s0.1 ∧ v.1 = s1.1 ∧ t.1 = s2.1 := fun u v t => by
    simp only [List.cons.injEq, and_true]
    exact ⟨fun ⟨h1, h2, h3⟩ => ⟨by rw [h1], by rw [h2], by rw [h3]⟩, fun ⟨h1, h2, h3⟩ => ⟨Subtype.ext h1, Subtype.ext h2, Subtype.ext h3⟩⟩
  rw [e] at a b
  simp only [List.pairwise_cons, List.mem_cons, List.not_mem_nil, or_false, forall_eq_or_imp, forall_eq, List.Pairwise.nil, and_true, false_implies, implies_true, le_leP] at a b
  have sw := Pn.sd_swap x.1 z.1 y.1
  rw [Bool.eq_iff_iff, Pn.btw_iff]
  simp only [Bool.and_eq_true, Bool.or_eq_true, decide_eq_true_eq]
  rw [a, b]
  unfold Pn.lexbt
  constructor
  · rintro ⟨h0, ⟨⟨h1, h2⟩, h3⟩ | ⟨⟨h1, h2⟩, h3⟩⟩
    · exact ⟨by omega, .inl ⟨h1, h3⟩⟩
    · exact ⟨by omega, .inr ⟨h3, h1⟩⟩
  · rintro ⟨h0, ⟨h1, h2⟩ | ⟨h1, h2⟩⟩
    · exact ⟨by omega, .inl ⟨⟨h1, Pn.led_trans h1 h2⟩, h2⟩⟩
    · exact ⟨by omega, .inr ⟨⟨h2, Pn.led_trans h2 h1⟩, h1⟩⟩

set_option maxRecDepth 100000 in
set_option maxHeartbeats 3200000 in
theorem isStraightP (x y z : Pn) (hx : Bd 100000 x) (hy : Bd 100000 y) (bz : Bd 100000 z) (w : World) :
    Calls Try.prog 113 #[tv x y z] w fun e w' => e = .returned (.bool (Pn.btw x z y)) ∧ Below w.heap.size w w' := by
  obtain ⟨s0, s1, s2, hsrt⟩ : ∃ s0 s1 s2, srtP [⟨x, hx⟩, ⟨y, hy⟩, ⟨z, bz⟩] = [s0, s1, s2] := by
    have hl := (srtP_perm [⟨x, hx⟩, ⟨y, hy⟩, ⟨z, bz⟩]).length_eq
    generalize srtP [⟨x, hx⟩, ⟨y, hy⟩, ⟨z, bz⟩] = l at hl
    exact three_len hl
  have hbt := three_sorted hsrt
  simp only at hbt
  go_enter Try.func113, Try.ntmps113
  go_wp2_with fail
  refine absW (F := fun W => (W.cell? ⟨w.heap.size, 0, none⟩ = some (.int .i64 (x).a) ∧ W.cell? ⟨w.heap.size, 1, none⟩ = some (.int .i64 (x).b) ∧ W.cell? ⟨w.heap.size, 2, none⟩ = some (.int .i64 (x).c) ∧ W.cell? ⟨w.heap.size, 3, none⟩ = some (.int .i64 (x).d)) ∧ (W.cell? ⟨w.heap.size, 4, none⟩ = some (.int .i64 (y).a) ∧ W.cell? ⟨w.heap.size, 5, none⟩ = some (.int .i64 (y).b) ∧ W.cell? ⟨w.heap.size, 6, none⟩ = some (.int .i64 (y).c) ∧ W.cell? ⟨w.heap.size, 7, none⟩ = some (.int .i64 (y).d)) ∧ (W.cell? ⟨w.heap.size, 8, none⟩ = some (.int .i64 (z).a) ∧ W.cell? ⟨w.heap.size, 9, none⟩ = some (.int .i64 (z).b) ∧ W.cell? ⟨w.heap.size, 10, none⟩ = some (.int .i64 (z).c) ∧ W.cell? ⟨w.heap.size, 11, none⟩ = some (.int .i64 (z).d)) ∧ Below w.heap.size w W ∧ W.heap.size = w.heap.size + 1) ⟨⟨by go_simp, by go_simp, by go_simp, by go_simp⟩, ⟨by go_simp, by go_simp, by go_simp, by go_simp⟩, ⟨by go_simp, by go_simp, by go_simp, by go_simp⟩, by go_grown, by first | (simp; done) | (simp; omega)⟩ ?_
  rintro W ⟨⟨cI_0, cI_1, cI_2, cI_3⟩, ⟨cI_4, cI_5, cI_6, cI_7⟩, ⟨cI_8, cI_9, cI_10, cI_11⟩, HB, hz⟩
  have kI_0 := fun d os => cell_regrown cI_0 d os
  have kI_1 := fun d os => cell_regrown cI_1 d os
  have kI_2 := fun d os => cell_regrown cI_2 d os
  have kI_3 := fun d os => cell_regrown cI_3 d os
  have kI_4 := fun d os => cell_regrown cI_4 d os
  have kI_5 := fun d os => cell_regrown cI_5 d os
  have kI_6 := fun d os => cell_regrown cI_6 d os
  have kI_7 := fun d os => cell_regrown cI_7 d os
  have kI_8 := fun d os => cell_regrown cI_8 d os
  have kI_9 := fun d os => cell_regrown cI_9 d os
  have kI_10 := fun d os => cell_regrown cI_10 d os
  have kI_11 := fun d os => cell_regrown cI_11 d os
  have ne0 : ¬ W.heap.size = w.heap.size := by omega
  have ne1 : ¬ W.heap.size + 1 = w.heap.size := by omega
  go_region_held3 (fun w' => (w'.cell? ⟨w.heap.size, 0, none⟩ = some (.int .i64 (x).a) ∧ w'.cell? ⟨w.heap.size, 1, none⟩ = some (.int .i64 (x).b) ∧ w'.cell? ⟨w.heap.size, 2, none⟩ = some (.int .i64 (x).c) ∧ w'.cell? ⟨w.heap.size, 3, none⟩ = some (.int .i64 (x).d)) ∧ (w'.cell? ⟨w.heap.size, 4, none⟩ = some (.int .i64 (y).a) ∧ w'.cell? ⟨w.heap.size, 5, none⟩ = some (.int .i64 (y).b) ∧ w'.cell? ⟨w.heap.size, 6, none⟩ = some (.int .i64 (y).c) ∧ w'.cell? ⟨w.heap.size, 7, none⟩ = some (.int .i64 (y).d)) ∧ (w'.cell? ⟨w.heap.size, 8, none⟩ = some (.int .i64 (z).a) ∧ w'.cell? ⟨w.heap.size, 9, none⟩ = some (.int .i64 (z).b) ∧ w'.cell? ⟨w.heap.size, 10, none⟩ = some (.int .i64 (z).c) ∧ w'.cell? ⟨w.heap.size, 11, none⟩ = some (.int .i64 (z).d))) (go_keep) (fail)
  · skip
    refine absE (F := fun X => (X.cell? ⟨w.heap.size, 0, none⟩ = some (.int .i64 (x).a) ∧ X.cell? ⟨w.heap.size, 1, none⟩ = some (.int .i64 (x).b) ∧ X.cell? ⟨w.heap.size, 2, none⟩ = some (.int .i64 (x).c) ∧ X.cell? ⟨w.heap.size, 3, none⟩ = some (.int .i64 (x).d)) ∧ (X.cell? ⟨w.heap.size, 4, none⟩ = some (.int .i64 (y).a) ∧ X.cell? ⟨w.heap.size, 5, none⟩ = some (.int .i64 (y).b) ∧ X.cell? ⟨w.heap.size, 6, none⟩ = some (.int .i64 (y).c) ∧ X.cell? ⟨w.heap.size, 7, none⟩ = some (.int .i64 (y).d)) ∧ (X.cell? ⟨w.heap.size, 8, none⟩ = some (.int .i64 (z).a) ∧ X.cell? ⟨w.heap.size, 9, none⟩ = some (.int .i64 (z).b) ∧ X.cell? ⟨w.heap.size, 10, none⟩ = some (.int .i64 (z).c) ∧ X.cell? ⟨w.heap.size, 11, none⟩ = some (.int .i64 (z).d)) ∧ (X.cell? ⟨w.heap.size + 1, 0, none⟩ = some (.int .i64 (x).a) ∧ X.cell? ⟨w.heap.size + 1, 1, none⟩ = some (.int .i64 (x).b) ∧ X.cell? ⟨w.heap.size + 1, 2, none⟩ = some (.int .i64 (x).c) ∧ X.cell? ⟨w.heap.size + 1, 3, none⟩ = some (.int .i64 (x).d)) ∧ (X.cell? ⟨w.heap.size + 1, 4, none⟩ = some (.int .i64 (y).a) ∧ X.cell? ⟨w.heap.size + 1, 5, none⟩ = some (.int .i64 (y).b) ∧ X.cell? ⟨w.heap.size + 1, 6, none⟩ = some (.int .i64 (y).c) ∧ X.cell? ⟨w.heap.size + 1, 7, none⟩ = some (.int .i64 (y).d)) ∧ (X.cell? ⟨w.heap.size + 1, 8, none⟩ = some (.int .i64 (z).a) ∧ X.cell? ⟨w.heap.size + 1, 9, none⟩ = some (.int .i64 (z).b) ∧ X.cell? ⟨w.heap.size + 1, 10, none⟩ = some (.int .i64 (z).c) ∧ X.cell? ⟨w.heap.size + 1, 11, none⟩ = some (.int .i64 (z).d)) ∧ (∀ i, X.frozen? ⟨w.heap.size + 1, i, none⟩ = false) ∧ (X.cell? ⟨w.heap.size + 1 + 1, 0, none⟩ = some (.int .i64 (z).a) ∧ X.cell? ⟨w.heap.size + 1 + 1, 1, none⟩ = some (.int .i64 (z).b) ∧ X.cell? ⟨w.heap.size + 1 + 1, 2, none⟩ = some (.int .i64 (z).c) ∧ X.cell? ⟨w.heap.size + 1 + 1, 3, none⟩ = some (.int .i64 (z).d)) ∧ (X.cell? ⟨w.heap.size + 1 + 1, 4, none⟩ = some (.int .i64 (y).a) ∧ X.cell? ⟨w.heap.size + 1 + 1, 5, none⟩ = some (.int .i64 (y).b) ∧ X.cell? ⟨w.heap.size + 1 + 1, 6, none⟩ = some (.int .i64 (y).c) ∧ X.cell? ⟨w.heap.size + 1 + 1, 7, none⟩ = some (.int .i64 (y).d)) ∧ (X.cell? ⟨w.heap.size + 1 + 1, 8, none⟩ = some (.int .i64 (x).a) ∧ X.cell? ⟨w.heap.size + 1 + 1, 9, none⟩ = some (.int .i64 (x).b) ∧ X.cell? ⟨w.heap.size + 1 + 1, 10, none⟩ = some (.int .i64 (x).c) ∧ X.cell? ⟨w.heap.size + 1 + 1, 11, none⟩ = some (.int .i64 (x).d)) ∧ Below w.heap.size w X ∧ X.heap.size = w.heap.size + 1 + 1 + 1) ⟨⟨by go_simp, by go_simp, by go_simp, by go_simp⟩, ⟨by go_simp, by go_simp, by go_simp, by go_simp⟩, ⟨by go_simp, by go_simp, by go_simp, by go_simp⟩, ⟨by go_simp, by go_simp, by go_simp, by go_simp⟩, ⟨by go_simp, by go_simp, by go_simp, by go_simp⟩, ⟨by go_simp, by go_simp, by go_simp, by go_simp⟩, fun i => by go_simp, ⟨by go_simp, by go_simp, by go_simp, by go_simp⟩, ⟨by go_simp, by go_simp, by go_simp, by go_simp⟩, ⟨by go_simp, by go_simp, by go_simp, by go_simp⟩, by go_grown, by first | (simp; done) | (simp; omega)⟩ ?_
    rintro X ⟨⟨c0_0, c0_1, c0_2, c0_3⟩, ⟨c0_4, c0_5, c0_6, c0_7⟩, ⟨c0_8, c0_9, c0_10, c0_11⟩, ⟨c1_0, c1_1, c1_2, c1_3⟩, ⟨c1_4, c1_5, c1_6, c1_7⟩, ⟨c1_8, c1_9, c1_10, c1_11⟩, fr1, ⟨c2_0, c2_1, c2_2, c2_3⟩, ⟨c2_4, c2_5, c2_6, c2_7⟩, ⟨c2_8, c2_9, c2_10, c2_11⟩, HB, hz⟩
    have k0_0 := fun d os => cell_regrown c0_0 d os
    have k0_1 := fun d os => cell_regrown c0_1 d os
    have k0_2 := fun d os => cell_regrown c0_2 d os
    have k0_3 := fun d os => cell_regrown c0_3 d os
    have k0_4 := fun d os => cell_regrown c0_4 d os
    have k0_5 := fun d os => cell_regrown c0_5 d os
    have k0_6 := fun d os => cell_regrown c0_6 d os
    have k0_7 := fun d os => cell_regrown c0_7 d os
    have k0_8 := fun d os => cell_regrown c0_8 d os
    have k0_9 := fun d os => cell_regrown c0_9 d os
    have k0_10 := fun d os => cell_regrown c0_10 d os
    have k0_11 := fun d os => cell_regrown c0_11 d os
    have k1_0 := fun d os => cell_regrown c1_0 d os
    have k1_1 := fun d os => cell_regrown c1_1 d os
    have k1_2 := fun d os => cell_regrown c1_2 d os
    have k1_3 := fun d os => cell_regrown c1_3 d os
    have k1_4 := fun d os => cell_regrown c1_4 d os
    have k1_5 := fun d os => cell_regrown c1_5 d os
    have k1_6 := fun d os => cell_regrown c1_6 d os
    have k1_7 := fun d os => cell_regrown c1_7 d os
    have k1_8 := fun d os => cell_regrown c1_8 d os
    have k1_9 := fun d os => cell_regrown c1_9 d os
    have k1_10 := fun d os => cell_regrown c1_10 d os
    have k1_11 := fun d os => cell_regrown c1_11 d os
    have k2_0 := fun d os => cell_regrown c2_0 d os
    have k2_1 := fun d os => cell_regrown c2_1 d os
    have k2_2 := fun d os => cell_regrown c2_2 d os
    have k2_3 := fun d os => cell_regrown c2_3 d os
    have k2_4 := fun d os => cell_regrown c2_4 d os
    have k2_5 := fun d os => cell_regrown c2_5 d os
    have k2_6 := fun d os => cell_regrown c2_6 d os
    have k2_7 := fun d os => cell_regrown c2_7 d os
    have k2_8 := fun d os => cell_regrown c2_8 d os
    have k2_9 := fun d os => cell_regrown c2_9 d os
    have k2_10 := fun d os => cell_regrown c2_10 d os
    have k2_11 := fun d os => cell_regrown c2_11 d os
    clear ne0 ne1 cI_0 kI_0 cI_1 kI_1 cI_2 kI_2 cI_3 kI_3 cI_4 kI_4 cI_5 kI_5 cI_6 kI_6 cI_7 kI_7 cI_8 kI_8 cI_9 kI_9 cI_10 kI_10 cI_11 kI_11
    go_wp2_with fail
    (go_at_call 89; (refine (sortP_any [⟨x, hx⟩, ⟨y, hy⟩, ⟨z, bz⟩] 3 rfl (by omega) (w.heap.size + 1) 3 _ (HoldsP.of (rowP3 c1_0 c1_1 c1_2 c1_3 c1_4 c1_5 c1_6 c1_7 c1_8 c1_9 c1_10 c1_11) (fun j _ => fr1 j)) (by omega)).mono ?_); rintro e w2 ⟨rfl, hH, hO⟩)
    rw [hsrt] at hH
    obtain ⟨d0, d1, d2, d3⟩ := hH.rowP 0 s0.1 rfl
    obtain ⟨d4, d5, d6, d7⟩ := hH.rowP 1 s1.1 rfl
    obtain ⟨d8, d9, d10, d11⟩ := hH.rowP 2 s2.1 rfl
    simp only [Nat.zero_mul, Nat.one_mul, Nat.reduceMul, Nat.reduceAdd, Nat.zero_add] at d0 d1 d2 d3 d4 d5 d6 d7 d8 d9 d10 d11
    have f0_0 := hO.cell (by omega) c0_0
    have f0_1 := hO.cell (by omega) c0_1
    have f0_2 := hO.cell (by omega) c0_2
    have f0_3 := hO.cell (by omega) c0_3
    have f0_4 := hO.cell (by omega) c0_4
    have f0_5 := hO.cell (by omega) c0_5
    have f0_6 := hO.cell (by omega) c0_6
    have f0_7 := hO.cell (by omega) c0_7
    have f0_8 := hO.cell (by omega) c0_8
    have f0_9 := hO.cell (by omega) c0_9
    have f0_10 := hO.cell (by omega) c0_10
    have f0_11 := hO.cell (by omega) c0_11
    have f2_0 := hO.cell (by omega) c2_0
    have f2_1 := hO.cell (by omega) c2_1
    have f2_2 := hO.cell (by omega) c2_2
    have f2_3 := hO.cell (by omega) c2_3
    have f2_4 := hO.cell (by omega) c2_4
    have f2_5 := hO.cell (by omega) c2_5
    have f2_6 := hO.cell (by omega) c2_6
    have f2_7 := hO.cell (by omega) c2_7
    have f2_8 := hO.cell (by omega) c2_8
    have f2_9 := hO.cell (by omega) c2_9
    have f2_10 := hO.cell (by omega) c2_10
    have f2_11 := hO.cell (by omega) c2_11
    have hBO : Below w.heap.size w w2 := HB.trans (hO.below (by omega) (by omega))
    have hz2 := hO.size
    have y0 : w.heap.size < w2.heap.size := by omega
    have y1 : w.heap.size + 1 < w2.heap.size := by omega
    have y2 : w.heap.size + 1 + 1 < w2.heap.size := by omega
    clear hH hO c0_0 k0_0 c0_1 k0_1 c0_2 k0_2 c0_3 k0_3 c0_4 k0_4 c0_5 k0_5 c0_6 k0_6 c0_7 k0_7 c0_8 k0_8 c0_9 k0_9 c0_10 k0_10 c0_11 k0_11 c1_0 k1_0 c1_1 k1_1 c1_2 k1_2 c1_3 k1_3 c1_4 k1_4 c1_5 k1_5 c1_6 k1_6 c1_7 k1_7 c1_8 k1_8 c1_9 k1_9 c1_10 k1_10 c1_11 k1_11 c2_0 k2_0 c2_1 k2_1 c2_2 k2_2 c2_3 k2_3 c2_4 k2_4 c2_5 k2_5 c2_6 k2_6 c2_7 k2_7 c2_8 k2_8 c2_9 k2_9 c2_10 k2_10 c2_11 k2_11 fr1 HB
    by_cases h0 : Pn.sd x y z = 0
    · cases hA1 : (decide (x = s0.1) && (decide (y = s1.1) && decide (z = s2.1))) <;> cases hA2 : (decide (z = s0.1) && (decide (y = s1.1) && decide (x = s2.1)))
      all_goals
        go_wp2_with (go_at_call 56; (with_reducible refine (sideP x y z hx hy bz _).mono ?_); rintro e w3 ⟨rfl, h1⟩; (try with_reducible replace h1 := undrew h1); have hB : Below w.heap.size w w3 := ba (by go_grown) h1; obtain ⟨hcw3, hfw3⟩ := bcell h1; have hqw3 := h1.size; (try simp at hqw3); (try have hz0w3 : w.heap.size < w3.heap.size := (by omega)); (try have he0w3 : w.heap.size ≤ w3.heap.size := (by omega)); (try have hz1w3 : w.heap.size + 1 < w3.heap.size := (by omega)); (try have he1w3 : w.heap.size + 1 ≤ w3.heap.size := (by omega)); (try have hz2w3 : w.heap.size + 1 + 1 < w3.heap.size := (by omega)); (try have he2w3 : w.heap.size + 1 + 1 ≤ w3.heap.size := (by omega)))
        go_returns
        exact ⟨by rw [← hbt, hA1, hA2]; simp [h0], by go_grown⟩
    · go_wp2_with (go_at_call 56; (with_reducible refine (sideP x y z hx hy bz _).mono ?_); rintro e w3 ⟨rfl, h1⟩; (try with_reducible replace h1 := undrew h1); have hB : Below w.heap.size w w3 := ba (by go_grown) h1; obtain ⟨hcw3, hfw3⟩ := bcell h1; have hqw3 := h1.size; (try simp at hqw3); (try have hz0w3 : w.heap.size < w3.heap.size := (by omega)); (try have he0w3 : w.heap.size ≤ w3.heap.size := (by omega)); (try have hz1w3 : w.heap.size + 1 < w3.heap.size := (by omega)); (try have he1w3 : w.heap.size + 1 ≤ w3.heap.size := (by omega)); (try have hz2w3 : w.heap.size + 1 + 1 < w3.heap.size := (by omega)); (try have he2w3 : w.heap.size + 1 + 1 ≤ w3.heap.size := (by omega)))
      go_returns
      exact ⟨by rw [← hbt]; simp [h0], by go_grown⟩
  · skip
    refine absE (F := fun X => (X.cell? ⟨w.heap.size, 0, none⟩ = some (.int .i64 (x).a) ∧ X.cell? ⟨w.heap.size, 1, none⟩ = some (.int .i64 (x).b) ∧ X.cell? ⟨w.heap.size, 2, none⟩ = some (.int .i64 (x).c) ∧ X.cell? ⟨w.heap.size, 3, none⟩ = some (.int .i64 (x).d)) ∧ (X.cell? ⟨w.heap.size, 4, none⟩ = some (.int .i64 (y).a) ∧ X.cell? ⟨w.heap.size, 5, none⟩ = some (.int .i64 (y).b) ∧ X.cell? ⟨w.heap.size, 6, none⟩ = some (.int .i64 (y).c) ∧ X.cell? ⟨w.heap.size, 7, none⟩ = some (.int .i64 (y).d)) ∧ (X.cell? ⟨w.heap.size, 8, none⟩ = some (.int .i64 (z).a) ∧ X.cell? ⟨w.heap.size, 9, none⟩ = some (.int .i64 (z).b) ∧ X.cell? ⟨w.heap.size, 10, none⟩ = some (.int .i64 (z).c) ∧ X.cell? ⟨w.heap.size, 11, none⟩ = some (.int .i64 (z).d)) ∧ (X.cell? ⟨w.heap.size + 1 + 1, 0, none⟩ = some (.int .i64 (x).a) ∧ X.cell? ⟨w.heap.size + 1 + 1, 1, none⟩ = some (.int .i64 (x).b) ∧ X.cell? ⟨w.heap.size + 1 + 1, 2, none⟩ = some (.int .i64 (x).c) ∧ X.cell? ⟨w.heap.size + 1 + 1, 3, none⟩ = some (.int .i64 (x).d)) ∧ (X.cell? ⟨w.heap.size + 1 + 1, 4, none⟩ = some (.int .i64 (y).a) ∧ X.cell? ⟨w.heap.size + 1 + 1, 5, none⟩ = some (.int .i64 (y).b) ∧ X.cell? ⟨w.heap.size + 1 + 1, 6, none⟩ = some (.int .i64 (y).c) ∧ X.cell? ⟨w.heap.size + 1 + 1, 7, none⟩ = some (.int .i64 (y).d)) ∧ (X.cell? ⟨w.heap.size + 1 + 1, 8, none⟩ = some (.int .i64 (z).a) ∧ X.cell? ⟨w.heap.size + 1 + 1, 9, none⟩ = some (.int .i64 (z).b) ∧ X.cell? ⟨w.heap.size + 1 + 1, 10, none⟩ = some (.int .i64 (z).c) ∧ X.cell? ⟨w.heap.size + 1 + 1, 11, none⟩ = some (.int .i64 (z).d)) ∧ (∀ i, X.frozen? ⟨w.heap.size + 1 + 1, i, none⟩ = false) ∧ (X.cell? ⟨w.heap.size + 1, 0, none⟩ = some (.int .i64 (z).a) ∧ X.cell? ⟨w.heap.size + 1, 1, none⟩ = some (.int .i64 (z).b) ∧ X.cell? ⟨w.heap.size + 1, 2, none⟩ = some (.int .i64 (z).c) ∧ X.cell? ⟨w.heap.size + 1, 3, none⟩ = some (.int .i64 (z).d)) ∧ (X.cell? ⟨w.heap.size + 1, 4, none⟩ = some (.int .i64 (y).a) ∧ X.cell? ⟨w.heap.size + 1, 5, none⟩ = some (.int .i64 (y).b) ∧ X.cell? ⟨w.heap.size + 1, 6, none⟩ = some (.int .i64 (y).c) ∧ X.cell? ⟨w.heap.size + 1, 7, none⟩ = some (.int .i64 (y).d)) ∧ (X.cell? ⟨w.heap.size + 1, 8, none⟩ = some (.int .i64 (x).a) ∧ X.cell? ⟨w.heap.size + 1, 9, none⟩ = some (.int .i64 (x).b) ∧ X.cell? ⟨w.heap.size + 1, 10, none⟩ = some (.int .i64 (x).c) ∧ X.cell? ⟨w.heap.size + 1, 11, none⟩ = some (.int .i64 (x).d)) ∧ Below w.heap.size w X ∧ X.heap.size = w.heap.size + 1 + 1 + 1) ⟨⟨by go_simp, by go_simp, by go_simp, by go_simp⟩, ⟨by go_simp, by go_simp, by go_simp, by go_simp⟩, ⟨by go_simp, by go_simp, by go_simp, by go_simp⟩, ⟨by go_simp, by go_simp, by go_simp, by go_simp⟩, ⟨by go_simp, by go_simp, by go_simp, by go_simp⟩, ⟨by go_simp, by go_simp, by go_simp, by go_simp⟩, fun i => by go_simp, ⟨by go_simp, by go_simp, by go_simp, by go_simp⟩, ⟨by go_simp, by go_simp, by go_simp, by go_simp⟩, ⟨by go_simp, by go_simp, by go_simp, by go_simp⟩, by go_grown, by first | (simp; done) | (simp; omega)⟩ ?_
    rintro X ⟨⟨c0_0, c0_1, c0_2, c0_3⟩, ⟨c0_4, c0_5, c0_6, c0_7⟩, ⟨c0_8, c0_9, c0_10, c0_11⟩, ⟨c2_0, c2_1, c2_2, c2_3⟩, ⟨c2_4, c2_5, c2_6, c2_7⟩, ⟨c2_8, c2_9, c2_10, c2_11⟩, fr2, ⟨c1_0, c1_1, c1_2, c1_3⟩, ⟨c1_4, c1_5, c1_6, c1_7⟩, ⟨c1_8, c1_9, c1_10, c1_11⟩, HB, hz⟩
    have k0_0 := fun d os => cell_regrown c0_0 d os
    have k0_1 := fun d os => cell_regrown c0_1 d os
    have k0_2 := fun d os => cell_regrown c0_2 d os
    have k0_3 := fun d os => cell_regrown c0_3 d os
    have k0_4 := fun d os => cell_regrown c0_4 d os
    have k0_5 := fun d os => cell_regrown c0_5 d os
    have k0_6 := fun d os => cell_regrown c0_6 d os
    have k0_7 := fun d os => cell_regrown c0_7 d os
    have k0_8 := fun d os => cell_regrown c0_8 d os
    have k0_9 := fun d os => cell_regrown c0_9 d os
    have k0_10 := fun d os => cell_regrown c0_10 d os
    have k0_11 := fun d os => cell_regrown c0_11 d os
    have k2_0 := fun d os => cell_regrown c2_0 d os
    have k2_1 := fun d os => cell_regrown c2_1 d os
    have k2_2 := fun d os => cell_regrown c2_2 d os
    have k2_3 := fun d os => cell_regrown c2_3 d os
    have k2_4 := fun d os => cell_regrown c2_4 d os
    have k2_5 := fun d os => cell_regrown c2_5 d os
    have k2_6 := fun d os => cell_regrown c2_6 d os
    have k2_7 := fun d os => cell_regrown c2_7 d os
    have k2_8 := fun d os => cell_regrown c2_8 d os
    have k2_9 := fun d os => cell_regrown c2_9 d os
    have k2_10 := fun d os => cell_regrown c2_10 d os
    have k2_11 := fun d os => cell_regrown c2_11 d os
    have k1_0 := fun d os => cell_regrown c1_0 d os
    have k1_1 := fun d os => cell_regrown c1_1 d os
    have k1_2 := fun d os => cell_regrown c1_2 d os
    have k1_3 := fun d os => cell_regrown c1_3 d os
    have k1_4 := fun d os => cell_regrown c1_4 d os
    have k1_5 := fun d os => cell_regrown c1_5 d os
    have k1_6 := fun d os => cell_regrown c1_6 d os
    have k1_7 := fun d os => cell_regrown c1_7 d os
    have k1_8 := fun d os => cell_regrown c1_8 d os
    have k1_9 := fun d os => cell_regrown c1_9 d os
    have k1_10 := fun d os => cell_regrown c1_10 d os
    have k1_11 := fun d os => cell_regrown c1_11 d os
    clear ne0 ne1 cI_0 kI_0 cI_1 kI_1 cI_2 kI_2 cI_3 kI_3 cI_4 kI_4 cI_5 kI_5 cI_6 kI_6 cI_7 kI_7 cI_8 kI_8 cI_9 kI_9 cI_10 kI_10 cI_11 kI_11
    go_wp2_with fail
    (go_at_call 89; (refine (sortP_any [⟨x, hx⟩, ⟨y, hy⟩, ⟨z, bz⟩] 3 rfl (by omega) (w.heap.size + 1 + 1) 3 _ (HoldsP.of (rowP3 c2_0 c2_1 c2_2 c2_3 c2_4 c2_5 c2_6 c2_7 c2_8 c2_9 c2_10 c2_11) (fun j _ => fr2 j)) (by omega)).mono ?_); rintro e w2 ⟨rfl, hH, hO⟩)
    rw [hsrt] at hH
    obtain ⟨d0, d1, d2, d3⟩ := hH.rowP 0 s0.1 rfl
    obtain ⟨d4, d5, d6, d7⟩ := hH.rowP 1 s1.1 rfl
    obtain ⟨d8, d9, d10, d11⟩ := hH.rowP 2 s2.1 rfl
    simp only [Nat.zero_mul, Nat.one_mul, Nat.reduceMul, Nat.reduceAdd, Nat.zero_add] at d0 d1 d2 d3 d4 d5 d6 d7 d8 d9 d10 d11
    have f0_0 := hO.cell (by omega) c0_0
    have f0_1 := hO.cell (by omega) c0_1
    have f0_2 := hO.cell (by omega) c0_2
    have f0_3 := hO.cell (by omega) c0_3
    have f0_4 := hO.cell (by omega) c0_4
    have f0_5 := hO.cell (by omega) c0_5
    have f0_6 := hO.cell (by omega) c0_6
    have f0_7 := hO.cell (by omega) c0_7
    have f0_8 := hO.cell (by omega) c0_8
    have f0_9 := hO.cell (by omega) c0_9
    have f0_10 := hO.cell (by omega) c0_10
    have f0_11 := hO.cell (by omega) c0_11
    have f1_0 := hO.cell (by omega) c1_0
    have f1_1 := hO.cell (by omega) c1_1
    have f1_2 := hO.cell (by omega) c1_2
    have f1_3 := hO.cell (by omega) c1_3
    have f1_4 := hO.cell (by omega) c1_4
    have f1_5 := hO.cell (by omega) c1_5
    have f1_6 := hO.cell (by omega) c1_6
    have f1_7 := hO.cell (by omega) c1_7
    have f1_8 := hO.cell (by omega) c1_8
    have f1_9 := hO.cell (by omega) c1_9
    have f1_10 := hO.cell (by omega) c1_10
    have f1_11 := hO.cell (by omega) c1_11
    have hBO : Below w.heap.size w w2 := HB.trans (hO.below (by omega) (by omega))
    have hz2 := hO.size
    have y0 : w.heap.size < w2.heap.size := by omega
    have y1 : w.heap.size + 1 < w2.heap.size := by omega
    have y2 : w.heap.size + 1 + 1 < w2.heap.size := by omega
    clear hH hO c0_0 k0_0 c0_1 k0_1 c0_2 k0_2 c0_3 k0_3 c0_4 k0_4 c0_5 k0_5 c0_6 k0_6 c0_7 k0_7 c0_8 k0_8 c0_9 k0_9 c0_10 k0_10 c0_11 k0_11 c2_0 k2_0 c2_1 k2_1 c2_2 k2_2 c2_3 k2_3 c2_4 k2_4 c2_5 k2_5 c2_6 k2_6 c2_7 k2_7 c2_8 k2_8 c2_9 k2_9 c2_10 k2_10 c2_11 k2_11 c1_0 k1_0 c1_1 k1_1 c1_2 k1_2 c1_3 k1_3 c1_4 k1_4 c1_5 k1_5 c1_6 k1_6 c1_7 k1_7 c1_8 k1_8 c1_9 k1_9 c1_10 k1_10 c1_11 k1_11 fr2 HB
    by_cases h0 : Pn.sd x y z = 0
    · cases hA1 : (decide (x = s0.1) && (decide (y = s1.1) && decide (z = s2.1))) <;> cases hA2 : (decide (z = s0.1) && (decide (y = s1.1) && decide (x = s2.1)))
      all_goals
        go_wp2_with (go_at_call 56; (with_reducible refine (sideP x y z hx hy bz _).mono ?_); rintro e w3 ⟨rfl, h1⟩; (try with_reducible replace h1 := undrew h1); have hB : Below w.heap.size w w3 := ba (by go_grown) h1; obtain ⟨hcw3, hfw3⟩ := bcell h1; have hqw3 := h1.size; (try simp at hqw3); (try have hz0w3 : w.heap.size < w3.heap.size := (by omega)); (try have he0w3 : w.heap.size ≤ w3.heap.size := (by omega)); (try have hz1w3 : w.heap.size + 1 < w3.heap.size := (by omega)); (try have he1w3 : w.heap.size + 1 ≤ w3.heap.size := (by omega)); (try have hz2w3 : w.heap.size + 1 + 1 < w3.heap.size := (by omega)); (try have he2w3 : w.heap.size + 1 + 1 ≤ w3.heap.size := (by omega)))
        go_returns
        exact ⟨by rw [← hbt, hA1, hA2]; simp [h0], by go_grown⟩
    · go_wp2_with (go_at_call 56; (with_reducible refine (sideP x y z hx hy bz _).mono ?_); rintro e w3 ⟨rfl, h1⟩; (try with_reducible replace h1 := undrew h1); have hB : Below w.heap.size w w3 := ba (by go_grown) h1; obtain ⟨hcw3, hfw3⟩ := bcell h1; have hqw3 := h1.size; (try simp at hqw3); (try have hz0w3 : w.heap.size < w3.heap.size := (by omega)); (try have he0w3 : w.heap.size ≤ w3.heap.size := (by omega)); (try have hz1w3 : w.heap.size + 1 < w3.heap.size := (by omega)); (try have he1w3 : w.heap.size + 1 ≤ w3.heap.size := (by omega)); (try have hz2w3 : w.heap.size + 1 + 1 < w3.heap.size := (by omega)); (try have he2w3 : w.heap.size + 1 + 1 ≤ w3.heap.size := (by omega)))
      go_returns
      exact ⟨by rw [← hbt]; simp [h0], by go_grown⟩

end Go.Proofs.Ytppbbcckijcckaa

/- Contracts: points on pieces and pieces that meet, in the program. -/
namespace Go.Proofs.Ytppbbcckijcckaa
open Go.ChangeShapes Go.WideShapes Go.ChangeAt Go.RowKit Go.Sort

set_option linter.unusedVariables false
set_option linter.unusedSimpArgs false

set_option maxRecDepth 100000 in
theorem hasP (a b p : Pn) (ha : Bd 100000 a) (hb : Bd 100000 b) (hp : Bd 100000 p) (w : World) :
    Calls Try.prog 58 #[cv a b, pv p] w fun e w' => e = .returned (.bool (Pn.btw a b p)) ∧ Below w.heap.size w w' := by
  have I := isStraightP a p b ha hp hb
  go_enter Try.func58, Try.ntmps58
  go_wp2_with (go_at_call 113; (with_reducible refine (I _).mono ?_); rintro e wA ⟨rfl, h1⟩; (try with_reducible replace h1 := undrew h1); have hB : Below w.heap.size w wA := ba (by go_grown) h1; obtain ⟨hcwA, hfwA⟩ := bcell h1; have hqwA := h1.size; (try simp at hqwA); (try have hz0wA : w.heap.size < wA.heap.size := (by omega)); (try have he0wA : w.heap.size ≤ wA.heap.size := (by omega)); (try have hz1wA : w.heap.size + 1 < wA.heap.size := (by omega)); (try have he1wA : w.heap.size + 1 ≤ wA.heap.size := (by omega)))
  go_returns
  exact ⟨rfl, by go_grown⟩

set_option maxRecDepth 100000 in
set_option maxHeartbeats 800000 in
theorem splitsP (a b c d : Pn) (ha : Bd 100000 a) (hb : Bd 100000 b) (hc : Bd 100000 c) (hd : Bd 100000 d) (w : World) :
    Calls Try.prog 114 #[cv a b, cv c d] w fun e w' => e = .returned (.bool (spl a b c d)) ∧ Below w.heap.size w w' := by
  have S1 := sideP a b c ha hb hc
  have S2 := sideP a b d ha hb hd
  have m1 := sd_mulK a b c a b d
  unfold spl
  go_enter Try.func114, Try.ntmps114
  go_wp2_with fail
  refine absW (F := fun W => (W.cell? ⟨w.heap.size, 0, none⟩ = some (.int .i64 (a).a) ∧ W.cell? ⟨w.heap.size, 1, none⟩ = some (.int .i64 (a).b) ∧ W.cell? ⟨w.heap.size, 2, none⟩ = some (.int .i64 (a).c) ∧ W.cell? ⟨w.heap.size, 3, none⟩ = some (.int .i64 (a).d)) ∧ (W.cell? ⟨w.heap.size, 4, none⟩ = some (.int .i64 (b).a) ∧ W.cell? ⟨w.heap.size, 5, none⟩ = some (.int .i64 (b).b) ∧ W.cell? ⟨w.heap.size, 6, none⟩ = some (.int .i64 (b).c) ∧ W.cell? ⟨w.heap.size, 7, none⟩ = some (.int .i64 (b).d)) ∧ (W.cell? ⟨w.heap.size + 1, 0, none⟩ = some (.int .i64 (c).a) ∧ W.cell? ⟨w.heap.size + 1, 1, none⟩ = some (.int .i64 (c).b) ∧ W.cell? ⟨w.heap.size + 1, 2, none⟩ = some (.int .i64 (c).c) ∧ W.cell? ⟨w.heap.size + 1, 3, none⟩ = some (.int .i64 (c).d)) ∧ (W.cell? ⟨w.heap.size + 1, 4, none⟩ = some (.int .i64 (d).a) ∧ W.cell? ⟨w.heap.size + 1, 5, none⟩ = some (.int .i64 (d).b) ∧ W.cell? ⟨w.heap.size + 1, 6, none⟩ = some (.int .i64 (d).c) ∧ W.cell? ⟨w.heap.size + 1, 7, none⟩ = some (.int .i64 (d).d)) ∧ Below w.heap.size w W ∧ W.heap.size = w.heap.size + 1 + 1) ⟨⟨by go_simp, by go_simp, by go_simp, by go_simp⟩, ⟨by go_simp, by go_simp, by go_simp, by go_simp⟩, ⟨by go_simp, by go_simp, by go_simp, by go_simp⟩, ⟨by go_simp, by go_simp, by go_simp, by go_simp⟩, by go_grown, by first | (simp; done) | (simp; omega)⟩ ?_
  rintro W ⟨⟨c0_0, c0_1, c0_2, c0_3⟩, ⟨c0_4, c0_5, c0_6, c0_7⟩, ⟨c1_0, c1_1, c1_2, c1_3⟩, ⟨c1_4, c1_5, c1_6, c1_7⟩, HB, hz⟩
  have k0_0 := fun d os => cell_regrown c0_0 d os
  have k0_1 := fun d os => cell_regrown c0_1 d os
  have k0_2 := fun d os => cell_regrown c0_2 d os
  have k0_3 := fun d os => cell_regrown c0_3 d os
  have k0_4 := fun d os => cell_regrown c0_4 d os
  have k0_5 := fun d os => cell_regrown c0_5 d os
  have k0_6 := fun d os => cell_regrown c0_6 d os
  have k0_7 := fun d os => cell_regrown c0_7 d os
  have k1_0 := fun d os => cell_regrown c1_0 d os
  have k1_1 := fun d os => cell_regrown c1_1 d os
  have k1_2 := fun d os => cell_regrown c1_2 d os
  have k1_3 := fun d os => cell_regrown c1_3 d os
  have k1_4 := fun d os => cell_regrown c1_4 d os
  have k1_5 := fun d os => cell_regrown c1_5 d os
  have k1_6 := fun d os => cell_regrown c1_6 d os
  have k1_7 := fun d os => cell_regrown c1_7 d os
  refine wp_region_quiet_below (by kernel_rfl) (by kernel_rfl) ?_
  repeat (quiet_step (first | (go_at_call 56; with_reducible exact Calls.regrown_of (S1 _)) | (go_at_call 56; with_reducible exact Calls.regrown_of (S2 _))))
  refine wpQuiet_nil ?_
  rintro _ ⟨⟨dq, osq⟩, rfl⟩
  have hbw1 := below_regrown W dq osq
  generalize grow (redrawn W dq) osq = w1 at hbw1 ⊢
  obtain ⟨hcw1, hfw1⟩ := bcell hbw1
  have hlw1 := hbw1.size
  replace HB := ba HB hbw1
  go_wp2_with fail
  go_returns
  exact ⟨by simp [m1], by go_grown⟩

set_option maxRecDepth 100000 in
set_option maxHeartbeats 1600000 in
theorem meetsP (a b c d : Pn) (ha : Bd 100000 a) (hb : Bd 100000 b) (hc : Bd 100000 c) (hd : Bd 100000 d) (w : World) :
    Calls Try.prog 60 #[cv a b, cv c d] w fun e w' => e = .returned (.bool (shr a b c d)) ∧ Below w.heap.size w w' := by
  have P1 := splitsP a b c d ha hb hc hd
  have P2 := splitsP c d a b hc hd ha hb
  have B1 := hasP a b c ha hb hc
  have B2 := hasP a b d ha hb hd
  have B3 := hasP c d a hc hd ha
  have B4 := hasP c d b hc hd hb
  rw [shr]
  generalize spl a b c d = s1 at *
  generalize spl c d a b = s2 at *
  generalize Pn.btw a b c = b1 at *
  generalize Pn.btw a b d = b2 at *
  generalize Pn.btw c d a = b3 at *
  generalize Pn.btw c d b = b4 at *
  clear ha hb hc hd
  cases s1
  case true =>
    cases s2
    case true =>
      go_enter Try.func60, Try.ntmps60
      go_wp2_with (first | (go_at_call 114; (with_reducible refine (P1 _).mono ?_); rintro e wP ⟨rfl, h1⟩; (try with_reducible replace h1 := undrew h1); have hB : Below w.heap.size w wP := ba (by go_grown) h1; obtain ⟨hcwP, hfwP⟩ := bcell h1; have hqwP := h1.size; (try simp at hqwP); (try have hz0wP : w.heap.size < wP.heap.size := (by omega)); (try have he0wP : w.heap.size ≤ wP.heap.size := (by omega)); (try have hz1wP : w.heap.size + 1 < wP.heap.size := (by omega)); (try have he1wP : w.heap.size + 1 ≤ wP.heap.size := (by omega))) | (go_at_call 114; (with_reducible refine (P2 _).mono ?_); rintro e wQ ⟨rfl, h1⟩; (try with_reducible replace h1 := undrew h1); have hB : Below w.heap.size w wQ := ba (by go_grown) h1; obtain ⟨hcwQ, hfwQ⟩ := bcell h1; have hqwQ := h1.size; (try simp at hqwQ); (try have hz0wQ : w.heap.size < wQ.heap.size := (by omega)); (try have he0wQ : w.heap.size ≤ wQ.heap.size := (by omega)); (try have hz1wQ : w.heap.size + 1 < wQ.heap.size := (by omega)); (try have he1wQ : w.heap.size + 1 ≤ wQ.heap.size := (by omega))) | (go_at_call 58; (with_reducible refine (B1 _).mono ?_); rintro e wA ⟨rfl, h1⟩; (try with_reducible replace h1 := undrew h1); have hB : Below w.heap.size w wA := ba (by go_grown) h1; obtain ⟨hcwA, hfwA⟩ := bcell h1; have hqwA := h1.size; (try simp at hqwA); (try have hz0wA : w.heap.size < wA.heap.size := (by omega)); (try have he0wA : w.heap.size ≤ wA.heap.size := (by omega)); (try have hz1wA : w.heap.size + 1 < wA.heap.size := (by omega)); (try have he1wA : w.heap.size + 1 ≤ wA.heap.size := (by omega))) | (go_at_call 58; (with_reducible refine (B2 _).mono ?_); rintro e wB ⟨rfl, h1⟩; (try with_reducible replace h1 := undrew h1); have hB : Below w.heap.size w wB := ba (by go_grown) h1; obtain ⟨hcwB, hfwB⟩ := bcell h1; have hqwB := h1.size; (try simp at hqwB); (try have hz0wB : w.heap.size < wB.heap.size := (by omega)); (try have he0wB : w.heap.size ≤ wB.heap.size := (by omega)); (try have hz1wB : w.heap.size + 1 < wB.heap.size := (by omega)); (try have he1wB : w.heap.size + 1 ≤ wB.heap.size := (by omega))) | (go_at_call 58; (with_reducible refine (B3 _).mono ?_); rintro e wC ⟨rfl, h1⟩; (try with_reducible replace h1 := undrew h1); have hB : Below w.heap.size w wC := ba (by go_grown) h1; obtain ⟨hcwC, hfwC⟩ := bcell h1; have hqwC := h1.size; (try simp at hqwC); (try have hz0wC : w.heap.size < wC.heap.size := (by omega)); (try have he0wC : w.heap.size ≤ wC.heap.size := (by omega)); (try have hz1wC : w.heap.size + 1 < wC.heap.size := (by omega)); (try have he1wC : w.heap.size + 1 ≤ wC.heap.size := (by omega))) | (go_at_call 58; (with_reducible refine (B4 _).mono ?_); rintro e wD ⟨rfl, h1⟩; (try with_reducible replace h1 := undrew h1); have hB : Below w.heap.size w wD := ba (by go_grown) h1; obtain ⟨hcwD, hfwD⟩ := bcell h1; have hqwD := h1.size; (try simp at hqwD); (try have hz0wD : w.heap.size < wD.heap.size := (by omega)); (try have he0wD : w.heap.size ≤ wD.heap.size := (by omega)); (try have hz1wD : w.heap.size + 1 < wD.heap.size := (by omega)); (try have he1wD : w.heap.size + 1 ≤ wD.heap.size := (by omega))))
      go_returns
      exact ⟨by simp, by go_grown⟩
    cases b1
    case true =>
      go_enter Try.func60, Try.ntmps60
      go_wp2_with (first | (go_at_call 114; (with_reducible refine (P1 _).mono ?_); rintro e wP ⟨rfl, h1⟩; (try with_reducible replace h1 := undrew h1); have hB : Below w.heap.size w wP := ba (by go_grown) h1; obtain ⟨hcwP, hfwP⟩ := bcell h1; have hqwP := h1.size; (try simp at hqwP); (try have hz0wP : w.heap.size < wP.heap.size := (by omega)); (try have he0wP : w.heap.size ≤ wP.heap.size := (by omega)); (try have hz1wP : w.heap.size + 1 < wP.heap.size := (by omega)); (try have he1wP : w.heap.size + 1 ≤ wP.heap.size := (by omega))) | (go_at_call 114; (with_reducible refine (P2 _).mono ?_); rintro e wQ ⟨rfl, h1⟩; (try with_reducible replace h1 := undrew h1); have hB : Below w.heap.size w wQ := ba (by go_grown) h1; obtain ⟨hcwQ, hfwQ⟩ := bcell h1; have hqwQ := h1.size; (try simp at hqwQ); (try have hz0wQ : w.heap.size < wQ.heap.size := (by omega)); (try have he0wQ : w.heap.size ≤ wQ.heap.size := (by omega)); (try have hz1wQ : w.heap.size + 1 < wQ.heap.size := (by omega)); (try have he1wQ : w.heap.size + 1 ≤ wQ.heap.size := (by omega))) | (go_at_call 58; (with_reducible refine (B1 _).mono ?_); rintro e wA ⟨rfl, h1⟩; (try with_reducible replace h1 := undrew h1); have hB : Below w.heap.size w wA := ba (by go_grown) h1; obtain ⟨hcwA, hfwA⟩ := bcell h1; have hqwA := h1.size; (try simp at hqwA); (try have hz0wA : w.heap.size < wA.heap.size := (by omega)); (try have he0wA : w.heap.size ≤ wA.heap.size := (by omega)); (try have hz1wA : w.heap.size + 1 < wA.heap.size := (by omega)); (try have he1wA : w.heap.size + 1 ≤ wA.heap.size := (by omega))) | (go_at_call 58; (with_reducible refine (B2 _).mono ?_); rintro e wB ⟨rfl, h1⟩; (try with_reducible replace h1 := undrew h1); have hB : Below w.heap.size w wB := ba (by go_grown) h1; obtain ⟨hcwB, hfwB⟩ := bcell h1; have hqwB := h1.size; (try simp at hqwB); (try have hz0wB : w.heap.size < wB.heap.size := (by omega)); (try have he0wB : w.heap.size ≤ wB.heap.size := (by omega)); (try have hz1wB : w.heap.size + 1 < wB.heap.size := (by omega)); (try have he1wB : w.heap.size + 1 ≤ wB.heap.size := (by omega))) | (go_at_call 58; (with_reducible refine (B3 _).mono ?_); rintro e wC ⟨rfl, h1⟩; (try with_reducible replace h1 := undrew h1); have hB : Below w.heap.size w wC := ba (by go_grown) h1; obtain ⟨hcwC, hfwC⟩ := bcell h1; have hqwC := h1.size; (try simp at hqwC); (try have hz0wC : w.heap.size < wC.heap.size := (by omega)); (try have he0wC : w.heap.size ≤ wC.heap.size := (by omega)); (try have hz1wC : w.heap.size + 1 < wC.heap.size := (by omega)); (try have he1wC : w.heap.size + 1 ≤ wC.heap.size := (by omega))) | (go_at_call 58; (with_reducible refine (B4 _).mono ?_); rintro e wD ⟨rfl, h1⟩; (try with_reducible replace h1 := undrew h1); have hB : Below w.heap.size w wD := ba (by go_grown) h1; obtain ⟨hcwD, hfwD⟩ := bcell h1; have hqwD := h1.size; (try simp at hqwD); (try have hz0wD : w.heap.size < wD.heap.size := (by omega)); (try have he0wD : w.heap.size ≤ wD.heap.size := (by omega)); (try have hz1wD : w.heap.size + 1 < wD.heap.size := (by omega)); (try have he1wD : w.heap.size + 1 ≤ wD.heap.size := (by omega))))
      go_returns
      exact ⟨by simp, by go_grown⟩
    cases b2
    case true =>
      go_enter Try.func60, Try.ntmps60
      go_wp2_with (first | (go_at_call 114; (with_reducible refine (P1 _).mono ?_); rintro e wP ⟨rfl, h1⟩; (try with_reducible replace h1 := undrew h1); have hB : Below w.heap.size w wP := ba (by go_grown) h1; obtain ⟨hcwP, hfwP⟩ := bcell h1; have hqwP := h1.size; (try simp at hqwP); (try have hz0wP : w.heap.size < wP.heap.size := (by omega)); (try have he0wP : w.heap.size ≤ wP.heap.size := (by omega)); (try have hz1wP : w.heap.size + 1 < wP.heap.size := (by omega)); (try have he1wP : w.heap.size + 1 ≤ wP.heap.size := (by omega))) | (go_at_call 114; (with_reducible refine (P2 _).mono ?_); rintro e wQ ⟨rfl, h1⟩; (try with_reducible replace h1 := undrew h1); have hB : Below w.heap.size w wQ := ba (by go_grown) h1; obtain ⟨hcwQ, hfwQ⟩ := bcell h1; have hqwQ := h1.size; (try simp at hqwQ); (try have hz0wQ : w.heap.size < wQ.heap.size := (by omega)); (try have he0wQ : w.heap.size ≤ wQ.heap.size := (by omega)); (try have hz1wQ : w.heap.size + 1 < wQ.heap.size := (by omega)); (try have he1wQ : w.heap.size + 1 ≤ wQ.heap.size := (by omega))) | (go_at_call 58; (with_reducible refine (B1 _).mono ?_); rintro e wA ⟨rfl, h1⟩; (try with_reducible replace h1 := undrew h1); have hB : Below w.heap.size w wA := ba (by go_grown) h1; obtain ⟨hcwA, hfwA⟩ := bcell h1; have hqwA := h1.size; (try simp at hqwA); (try have hz0wA : w.heap.size < wA.heap.size := (by omega)); (try have he0wA : w.heap.size ≤ wA.heap.size := (by omega)); (try have hz1wA : w.heap.size + 1 < wA.heap.size := (by omega)); (try have he1wA : w.heap.size + 1 ≤ wA.heap.size := (by omega))) | (go_at_call 58; (with_reducible refine (B2 _).mono ?_); rintro e wB ⟨rfl, h1⟩; (try with_reducible replace h1 := undrew h1); have hB : Below w.heap.size w wB := ba (by go_grown) h1; obtain ⟨hcwB, hfwB⟩ := bcell h1; have hqwB := h1.size; (try simp at hqwB); (try have hz0wB : w.heap.size < wB.heap.size := (by omega)); (try have he0wB : w.heap.size ≤ wB.heap.size := (by omega)); (try have hz1wB : w.heap.size + 1 < wB.heap.size := (by omega)); (try have he1wB : w.heap.size + 1 ≤ wB.heap.size := (by omega))) | (go_at_call 58; (with_reducible refine (B3 _).mono ?_); rintro e wC ⟨rfl, h1⟩; (try with_reducible replace h1 := undrew h1); have hB : Below w.heap.size w wC := ba (by go_grown) h1; obtain ⟨hcwC, hfwC⟩ := bcell h1; have hqwC := h1.size; (try simp at hqwC); (try have hz0wC : w.heap.size < wC.heap.size := (by omega)); (try have he0wC : w.heap.size ≤ wC.heap.size := (by omega)); (try have hz1wC : w.heap.size + 1 < wC.heap.size := (by omega)); (try have he1wC : w.heap.size + 1 ≤ wC.heap.size := (by omega))) | (go_at_call 58; (with_reducible refine (B4 _).mono ?_); rintro e wD ⟨rfl, h1⟩; (try with_reducible replace h1 := undrew h1); have hB : Below w.heap.size w wD := ba (by go_grown) h1; obtain ⟨hcwD, hfwD⟩ := bcell h1; have hqwD := h1.size; (try simp at hqwD); (try have hz0wD : w.heap.size < wD.heap.size := (by omega)); (try have he0wD : w.heap.size ≤ wD.heap.size := (by omega)); (try have hz1wD : w.heap.size + 1 < wD.heap.size := (by omega)); (try have he1wD : w.heap.size + 1 ≤ wD.heap.size := (by omega))))
      go_returns
      exact ⟨by simp, by go_grown⟩
    cases b3
    case true =>
      go_enter Try.func60, Try.ntmps60
      go_wp2_with (first | (go_at_call 114; (with_reducible refine (P1 _).mono ?_); rintro e wP ⟨rfl, h1⟩; (try with_reducible replace h1 := undrew h1); have hB : Below w.heap.size w wP := ba (by go_grown) h1; obtain ⟨hcwP, hfwP⟩ := bcell h1; have hqwP := h1.size; (try simp at hqwP); (try have hz0wP : w.heap.size < wP.heap.size := (by omega)); (try have he0wP : w.heap.size ≤ wP.heap.size := (by omega)); (try have hz1wP : w.heap.size + 1 < wP.heap.size := (by omega)); (try have he1wP : w.heap.size + 1 ≤ wP.heap.size := (by omega))) | (go_at_call 114; (with_reducible refine (P2 _).mono ?_); rintro e wQ ⟨rfl, h1⟩; (try with_reducible replace h1 := undrew h1); have hB : Below w.heap.size w wQ := ba (by go_grown) h1; obtain ⟨hcwQ, hfwQ⟩ := bcell h1; have hqwQ := h1.size; (try simp at hqwQ); (try have hz0wQ : w.heap.size < wQ.heap.size := (by omega)); (try have he0wQ : w.heap.size ≤ wQ.heap.size := (by omega)); (try have hz1wQ : w.heap.size + 1 < wQ.heap.size := (by omega)); (try have he1wQ : w.heap.size + 1 ≤ wQ.heap.size := (by omega))) | (go_at_call 58; (with_reducible refine (B1 _).mono ?_); rintro e wA ⟨rfl, h1⟩; (try with_reducible replace h1 := undrew h1); have hB : Below w.heap.size w wA := ba (by go_grown) h1; obtain ⟨hcwA, hfwA⟩ := bcell h1; have hqwA := h1.size; (try simp at hqwA); (try have hz0wA : w.heap.size < wA.heap.size := (by omega)); (try have he0wA : w.heap.size ≤ wA.heap.size := (by omega)); (try have hz1wA : w.heap.size + 1 < wA.heap.size := (by omega)); (try have he1wA : w.heap.size + 1 ≤ wA.heap.size := (by omega))) | (go_at_call 58; (with_reducible refine (B2 _).mono ?_); rintro e wB ⟨rfl, h1⟩; (try with_reducible replace h1 := undrew h1); have hB : Below w.heap.size w wB := ba (by go_grown) h1; obtain ⟨hcwB, hfwB⟩ := bcell h1; have hqwB := h1.size; (try simp at hqwB); (try have hz0wB : w.heap.size < wB.heap.size := (by omega)); (try have he0wB : w.heap.size ≤ wB.heap.size := (by omega)); (try have hz1wB : w.heap.size + 1 < wB.heap.size := (by omega)); (try have he1wB : w.heap.size + 1 ≤ wB.heap.size := (by omega))) | (go_at_call 58; (with_reducible refine (B3 _).mono ?_); rintro e wC ⟨rfl, h1⟩; (try with_reducible replace h1 := undrew h1); have hB : Below w.heap.size w wC := ba (by go_grown) h1; obtain ⟨hcwC, hfwC⟩ := bcell h1; have hqwC := h1.size; (try simp at hqwC); (try have hz0wC : w.heap.size < wC.heap.size := (by omega)); (try have he0wC : w.heap.size ≤ wC.heap.size := (by omega)); (try have hz1wC : w.heap.size + 1 < wC.heap.size := (by omega)); (try have he1wC : w.heap.size + 1 ≤ wC.heap.size := (by omega))) | (go_at_call 58; (with_reducible refine (B4 _).mono ?_); rintro e wD ⟨rfl, h1⟩; (try with_reducible replace h1 := undrew h1); have hB : Below w.heap.size w wD := ba (by go_grown) h1; obtain ⟨hcwD, hfwD⟩ := bcell h1; have hqwD := h1.size; (try simp at hqwD); (try have hz0wD : w.heap.size < wD.heap.size := (by omega)); (try have he0wD : w.heap.size ≤ wD.heap.size := (by omega)); (try have hz1wD : w.heap.size + 1 < wD.heap.size := (by omega)); (try have he1wD : w.heap.size + 1 ≤ wD.heap.size := (by omega))))
      go_returns
      exact ⟨by simp, by go_grown⟩
    cases b4
    case true =>
      go_enter Try.func60, Try.ntmps60
      go_wp2_with (first | (go_at_call 114; (with_reducible refine (P1 _).mono ?_); rintro e wP ⟨rfl, h1⟩; (try with_reducible replace h1 := undrew h1); have hB : Below w.heap.size w wP := ba (by go_grown) h1; obtain ⟨hcwP, hfwP⟩ := bcell h1; have hqwP := h1.size; (try simp at hqwP); (try have hz0wP : w.heap.size < wP.heap.size := (by omega)); (try have he0wP : w.heap.size ≤ wP.heap.size := (by omega)); (try have hz1wP : w.heap.size + 1 < wP.heap.size := (by omega)); (try have he1wP : w.heap.size + 1 ≤ wP.heap.size := (by omega))) | (go_at_call 114; (with_reducible refine (P2 _).mono ?_); rintro e wQ ⟨rfl, h1⟩; (try with_reducible replace h1 := undrew h1); have hB : Below w.heap.size w wQ := ba (by go_grown) h1; obtain ⟨hcwQ, hfwQ⟩ := bcell h1; have hqwQ := h1.size; (try simp at hqwQ); (try have hz0wQ : w.heap.size < wQ.heap.size := (by omega)); (try have he0wQ : w.heap.size ≤ wQ.heap.size := (by omega)); (try have hz1wQ : w.heap.size + 1 < wQ.heap.size := (by omega)); (try have he1wQ : w.heap.size + 1 ≤ wQ.heap.size := (by omega))) | (go_at_call 58; (with_reducible refine (B1 _).mono ?_); rintro e wA ⟨rfl, h1⟩; (try with_reducible replace h1 := undrew h1); have hB : Below w.heap.size w wA := ba (by go_grown) h1; obtain ⟨hcwA, hfwA⟩ := bcell h1; have hqwA := h1.size; (try simp at hqwA); (try have hz0wA : w.heap.size < wA.heap.size := (by omega)); (try have he0wA : w.heap.size ≤ wA.heap.size := (by omega)); (try have hz1wA : w.heap.size + 1 < wA.heap.size := (by omega)); (try have he1wA : w.heap.size + 1 ≤ wA.heap.size := (by omega))) | (go_at_call 58; (with_reducible refine (B2 _).mono ?_); rintro e wB ⟨rfl, h1⟩; (try with_reducible replace h1 := undrew h1); have hB : Below w.heap.size w wB := ba (by go_grown) h1; obtain ⟨hcwB, hfwB⟩ := bcell h1; have hqwB := h1.size; (try simp at hqwB); (try have hz0wB : w.heap.size < wB.heap.size := (by omega)); (try have he0wB : w.heap.size ≤ wB.heap.size := (by omega)); (try have hz1wB : w.heap.size + 1 < wB.heap.size := (by omega)); (try have he1wB : w.heap.size + 1 ≤ wB.heap.size := (by omega))) | (go_at_call 58; (with_reducible refine (B3 _).mono ?_); rintro e wC ⟨rfl, h1⟩; (try with_reducible replace h1 := undrew h1); have hB : Below w.heap.size w wC := ba (by go_grown) h1; obtain ⟨hcwC, hfwC⟩ := bcell h1; have hqwC := h1.size; (try simp at hqwC); (try have hz0wC : w.heap.size < wC.heap.size := (by omega)); (try have he0wC : w.heap.size ≤ wC.heap.size := (by omega)); (try have hz1wC : w.heap.size + 1 < wC.heap.size := (by omega)); (try have he1wC : w.heap.size + 1 ≤ wC.heap.size := (by omega))) | (go_at_call 58; (with_reducible refine (B4 _).mono ?_); rintro e wD ⟨rfl, h1⟩; (try with_reducible replace h1 := undrew h1); have hB : Below w.heap.size w wD := ba (by go_grown) h1; obtain ⟨hcwD, hfwD⟩ := bcell h1; have hqwD := h1.size; (try simp at hqwD); (try have hz0wD : w.heap.size < wD.heap.size := (by omega)); (try have he0wD : w.heap.size ≤ wD.heap.size := (by omega)); (try have hz1wD : w.heap.size + 1 < wD.heap.size := (by omega)); (try have he1wD : w.heap.size + 1 ≤ wD.heap.size := (by omega))))
      go_returns
      exact ⟨by simp, by go_grown⟩
    go_enter Try.func60, Try.ntmps60
    go_wp2_with (first | (go_at_call 114; (with_reducible refine (P1 _).mono ?_); rintro e wP ⟨rfl, h1⟩; (try with_reducible replace h1 := undrew h1); have hB : Below w.heap.size w wP := ba (by go_grown) h1; obtain ⟨hcwP, hfwP⟩ := bcell h1; have hqwP := h1.size; (try simp at hqwP); (try have hz0wP : w.heap.size < wP.heap.size := (by omega)); (try have he0wP : w.heap.size ≤ wP.heap.size := (by omega)); (try have hz1wP : w.heap.size + 1 < wP.heap.size := (by omega)); (try have he1wP : w.heap.size + 1 ≤ wP.heap.size := (by omega))) | (go_at_call 114; (with_reducible refine (P2 _).mono ?_); rintro e wQ ⟨rfl, h1⟩; (try with_reducible replace h1 := undrew h1); have hB : Below w.heap.size w wQ := ba (by go_grown) h1; obtain ⟨hcwQ, hfwQ⟩ := bcell h1; have hqwQ := h1.size; (try simp at hqwQ); (try have hz0wQ : w.heap.size < wQ.heap.size := (by omega)); (try have he0wQ : w.heap.size ≤ wQ.heap.size := (by omega)); (try have hz1wQ : w.heap.size + 1 < wQ.heap.size := (by omega)); (try have he1wQ : w.heap.size + 1 ≤ wQ.heap.size := (by omega))) | (go_at_call 58; (with_reducible refine (B1 _).mono ?_); rintro e wA ⟨rfl, h1⟩; (try with_reducible replace h1 := undrew h1); have hB : Below w.heap.size w wA := ba (by go_grown) h1; obtain ⟨hcwA, hfwA⟩ := bcell h1; have hqwA := h1.size; (try simp at hqwA); (try have hz0wA : w.heap.size < wA.heap.size := (by omega)); (try have he0wA : w.heap.size ≤ wA.heap.size := (by omega)); (try have hz1wA : w.heap.size + 1 < wA.heap.size := (by omega)); (try have he1wA : w.heap.size + 1 ≤ wA.heap.size := (by omega))) | (go_at_call 58; (with_reducible refine (B2 _).mono ?_); rintro e wB ⟨rfl, h1⟩; (try with_reducible replace h1 := undrew h1); have hB : Below w.heap.size w wB := ba (by go_grown) h1; obtain ⟨hcwB, hfwB⟩ := bcell h1; have hqwB := h1.size; (try simp at hqwB); (try have hz0wB : w.heap.size < wB.heap.size := (by omega)); (try have he0wB : w.heap.size ≤ wB.heap.size := (by omega)); (try have hz1wB : w.heap.size + 1 < wB.heap.size := (by omega)); (try have he1wB : w.heap.size + 1 ≤ wB.heap.size := (by omega))) | (go_at_call 58; (with_reducible refine (B3 _).mono ?_); rintro e wC ⟨rfl, h1⟩; (try with_reducible replace h1 := undrew h1); have hB : Below w.heap.size w wC := ba (by go_grown) h1; obtain ⟨hcwC, hfwC⟩ := bcell h1; have hqwC := h1.size; (try simp at hqwC); (try have hz0wC : w.heap.size < wC.heap.size := (by omega)); (try have he0wC : w.heap.size ≤ wC.heap.size := (by omega)); (try have hz1wC : w.heap.size + 1 < wC.heap.size := (by omega)); (try have he1wC : w.heap.size + 1 ≤ wC.heap.size := (by omega))) | (go_at_call 58; (with_reducible refine (B4 _).mono ?_); rintro e wD ⟨rfl, h1⟩; (try with_reducible replace h1 := undrew h1); have hB : Below w.heap.size w wD := ba (by go_grown) h1; obtain ⟨hcwD, hfwD⟩ := bcell h1; have hqwD := h1.size; (try simp at hqwD); (try have hz0wD : w.heap.size < wD.heap.size := (by omega)); (try have he0wD : w.heap.size ≤ wD.heap.size := (by omega)); (try have hz1wD : w.heap.size + 1 < wD.heap.size := (by omega)); (try have he1wD : w.heap.size + 1 ≤ wD.heap.size := (by omega))))
    go_returns
    exact ⟨by simp, by go_grown⟩
  cases b1
  case true =>
    go_enter Try.func60, Try.ntmps60
    go_wp2_with (first | (go_at_call 114; (with_reducible refine (P1 _).mono ?_); rintro e wP ⟨rfl, h1⟩; (try with_reducible replace h1 := undrew h1); have hB : Below w.heap.size w wP := ba (by go_grown) h1; obtain ⟨hcwP, hfwP⟩ := bcell h1; have hqwP := h1.size; (try simp at hqwP); (try have hz0wP : w.heap.size < wP.heap.size := (by omega)); (try have he0wP : w.heap.size ≤ wP.heap.size := (by omega)); (try have hz1wP : w.heap.size + 1 < wP.heap.size := (by omega)); (try have he1wP : w.heap.size + 1 ≤ wP.heap.size := (by omega))) | (go_at_call 114; (with_reducible refine (P2 _).mono ?_); rintro e wQ ⟨rfl, h1⟩; (try with_reducible replace h1 := undrew h1); have hB : Below w.heap.size w wQ := ba (by go_grown) h1; obtain ⟨hcwQ, hfwQ⟩ := bcell h1; have hqwQ := h1.size; (try simp at hqwQ); (try have hz0wQ : w.heap.size < wQ.heap.size := (by omega)); (try have he0wQ : w.heap.size ≤ wQ.heap.size := (by omega)); (try have hz1wQ : w.heap.size + 1 < wQ.heap.size := (by omega)); (try have he1wQ : w.heap.size + 1 ≤ wQ.heap.size := (by omega))) | (go_at_call 58; (with_reducible refine (B1 _).mono ?_); rintro e wA ⟨rfl, h1⟩; (try with_reducible replace h1 := undrew h1); have hB : Below w.heap.size w wA := ba (by go_grown) h1; obtain ⟨hcwA, hfwA⟩ := bcell h1; have hqwA := h1.size; (try simp at hqwA); (try have hz0wA : w.heap.size < wA.heap.size := (by omega)); (try have he0wA : w.heap.size ≤ wA.heap.size := (by omega)); (try have hz1wA : w.heap.size + 1 < wA.heap.size := (by omega)); (try have he1wA : w.heap.size + 1 ≤ wA.heap.size := (by omega))) | (go_at_call 58; (with_reducible refine (B2 _).mono ?_); rintro e wB ⟨rfl, h1⟩; (try with_reducible replace h1 := undrew h1); have hB : Below w.heap.size w wB := ba (by go_grown) h1; obtain ⟨hcwB, hfwB⟩ := bcell h1; have hqwB := h1.size; (try simp at hqwB); (try have hz0wB : w.heap.size < wB.heap.size := (by omega)); (try have he0wB : w.heap.size ≤ wB.heap.size := (by omega)); (try have hz1wB : w.heap.size + 1 < wB.heap.size := (by omega)); (try have he1wB : w.heap.size + 1 ≤ wB.heap.size := (by omega))) | (go_at_call 58; (with_reducible refine (B3 _).mono ?_); rintro e wC ⟨rfl, h1⟩; (try with_reducible replace h1 := undrew h1); have hB : Below w.heap.size w wC := ba (by go_grown) h1; obtain ⟨hcwC, hfwC⟩ := bcell h1; have hqwC := h1.size; (try simp at hqwC); (try have hz0wC : w.heap.size < wC.heap.size := (by omega)); (try have he0wC : w.heap.size ≤ wC.heap.size := (by omega)); (try have hz1wC : w.heap.size + 1 < wC.heap.size := (by omega)); (try have he1wC : w.heap.size + 1 ≤ wC.heap.size := (by omega))) | (go_at_call 58; (with_reducible refine (B4 _).mono ?_); rintro e wD ⟨rfl, h1⟩; (try with_reducible replace h1 := undrew h1); have hB : Below w.heap.size w wD := ba (by go_grown) h1; obtain ⟨hcwD, hfwD⟩ := bcell h1; have hqwD := h1.size; (try simp at hqwD); (try have hz0wD : w.heap.size < wD.heap.size := (by omega)); (try have he0wD : w.heap.size ≤ wD.heap.size := (by omega)); (try have hz1wD : w.heap.size + 1 < wD.heap.size := (by omega)); (try have he1wD : w.heap.size + 1 ≤ wD.heap.size := (by omega))))
    go_returns
    exact ⟨by simp, by go_grown⟩
  cases b2
  case true =>
    go_enter Try.func60, Try.ntmps60
    go_wp2_with (first | (go_at_call 114; (with_reducible refine (P1 _).mono ?_); rintro e wP ⟨rfl, h1⟩; (try with_reducible replace h1 := undrew h1); have hB : Below w.heap.size w wP := ba (by go_grown) h1; obtain ⟨hcwP, hfwP⟩ := bcell h1; have hqwP := h1.size; (try simp at hqwP); (try have hz0wP : w.heap.size < wP.heap.size := (by omega)); (try have he0wP : w.heap.size ≤ wP.heap.size := (by omega)); (try have hz1wP : w.heap.size + 1 < wP.heap.size := (by omega)); (try have he1wP : w.heap.size + 1 ≤ wP.heap.size := (by omega))) | (go_at_call 114; (with_reducible refine (P2 _).mono ?_); rintro e wQ ⟨rfl, h1⟩; (try with_reducible replace h1 := undrew h1); have hB : Below w.heap.size w wQ := ba (by go_grown) h1; obtain ⟨hcwQ, hfwQ⟩ := bcell h1; have hqwQ := h1.size; (try simp at hqwQ); (try have hz0wQ : w.heap.size < wQ.heap.size := (by omega)); (try have he0wQ : w.heap.size ≤ wQ.heap.size := (by omega)); (try have hz1wQ : w.heap.size + 1 < wQ.heap.size := (by omega)); (try have he1wQ : w.heap.size + 1 ≤ wQ.heap.size := (by omega))) | (go_at_call 58; (with_reducible refine (B1 _).mono ?_); rintro e wA ⟨rfl, h1⟩; (try with_reducible replace h1 := undrew h1); have hB : Below w.heap.size w wA := ba (by go_grown) h1; obtain ⟨hcwA, hfwA⟩ := bcell h1; have hqwA := h1.size; (try simp at hqwA); (try have hz0wA : w.heap.size < wA.heap.size := (by omega)); (try have he0wA : w.heap.size ≤ wA.heap.size := (by omega)); (try have hz1wA : w.heap.size + 1 < wA.heap.size := (by omega)); (try have he1wA : w.heap.size + 1 ≤ wA.heap.size := (by omega))) | (go_at_call 58; (with_reducible refine (B2 _).mono ?_); rintro e wB ⟨rfl, h1⟩; (try with_reducible replace h1 := undrew h1); have hB : Below w.heap.size w wB := ba (by go_grown) h1; obtain ⟨hcwB, hfwB⟩ := bcell h1; have hqwB := h1.size; (try simp at hqwB); (try have hz0wB : w.heap.size < wB.heap.size := (by omega)); (try have he0wB : w.heap.size ≤ wB.heap.size := (by omega)); (try have hz1wB : w.heap.size + 1 < wB.heap.size := (by omega)); (try have he1wB : w.heap.size + 1 ≤ wB.heap.size := (by omega))) | (go_at_call 58; (with_reducible refine (B3 _).mono ?_); rintro e wC ⟨rfl, h1⟩; (try with_reducible replace h1 := undrew h1); have hB : Below w.heap.size w wC := ba (by go_grown) h1; obtain ⟨hcwC, hfwC⟩ := bcell h1; have hqwC := h1.size; (try simp at hqwC); (try have hz0wC : w.heap.size < wC.heap.size := (by omega)); (try have he0wC : w.heap.size ≤ wC.heap.size := (by omega)); (try have hz1wC : w.heap.size + 1 < wC.heap.size := (by omega)); (try have he1wC : w.heap.size + 1 ≤ wC.heap.size := (by omega))) | (go_at_call 58; (with_reducible refine (B4 _).mono ?_); rintro e wD ⟨rfl, h1⟩; (try with_reducible replace h1 := undrew h1); have hB : Below w.heap.size w wD := ba (by go_grown) h1; obtain ⟨hcwD, hfwD⟩ := bcell h1; have hqwD := h1.size; (try simp at hqwD); (try have hz0wD : w.heap.size < wD.heap.size := (by omega)); (try have he0wD : w.heap.size ≤ wD.heap.size := (by omega)); (try have hz1wD : w.heap.size + 1 < wD.heap.size := (by omega)); (try have he1wD : w.heap.size + 1 ≤ wD.heap.size := (by omega))))
    go_returns
    exact ⟨by simp, by go_grown⟩
  cases b3
  case true =>
    go_enter Try.func60, Try.ntmps60
    go_wp2_with (first | (go_at_call 114; (with_reducible refine (P1 _).mono ?_); rintro e wP ⟨rfl, h1⟩; (try with_reducible replace h1 := undrew h1); have hB : Below w.heap.size w wP := ba (by go_grown) h1; obtain ⟨hcwP, hfwP⟩ := bcell h1; have hqwP := h1.size; (try simp at hqwP); (try have hz0wP : w.heap.size < wP.heap.size := (by omega)); (try have he0wP : w.heap.size ≤ wP.heap.size := (by omega)); (try have hz1wP : w.heap.size + 1 < wP.heap.size := (by omega)); (try have he1wP : w.heap.size + 1 ≤ wP.heap.size := (by omega))) | (go_at_call 114; (with_reducible refine (P2 _).mono ?_); rintro e wQ ⟨rfl, h1⟩; (try with_reducible replace h1 := undrew h1); have hB : Below w.heap.size w wQ := ba (by go_grown) h1; obtain ⟨hcwQ, hfwQ⟩ := bcell h1; have hqwQ := h1.size; (try simp at hqwQ); (try have hz0wQ : w.heap.size < wQ.heap.size := (by omega)); (try have he0wQ : w.heap.size ≤ wQ.heap.size := (by omega)); (try have hz1wQ : w.heap.size + 1 < wQ.heap.size := (by omega)); (try have he1wQ : w.heap.size + 1 ≤ wQ.heap.size := (by omega))) | (go_at_call 58; (with_reducible refine (B1 _).mono ?_); rintro e wA ⟨rfl, h1⟩; (try with_reducible replace h1 := undrew h1); have hB : Below w.heap.size w wA := ba (by go_grown) h1; obtain ⟨hcwA, hfwA⟩ := bcell h1; have hqwA := h1.size; (try simp at hqwA); (try have hz0wA : w.heap.size < wA.heap.size := (by omega)); (try have he0wA : w.heap.size ≤ wA.heap.size := (by omega)); (try have hz1wA : w.heap.size + 1 < wA.heap.size := (by omega)); (try have he1wA : w.heap.size + 1 ≤ wA.heap.size := (by omega))) | (go_at_call 58; (with_reducible refine (B2 _).mono ?_); rintro e wB ⟨rfl, h1⟩; (try with_reducible replace h1 := undrew h1); have hB : Below w.heap.size w wB := ba (by go_grown) h1; obtain ⟨hcwB, hfwB⟩ := bcell h1; have hqwB := h1.size; (try simp at hqwB); (try have hz0wB : w.heap.size < wB.heap.size := (by omega)); (try have he0wB : w.heap.size ≤ wB.heap.size := (by omega)); (try have hz1wB : w.heap.size + 1 < wB.heap.size := (by omega)); (try have he1wB : w.heap.size + 1 ≤ wB.heap.size := (by omega))) | (go_at_call 58; (with_reducible refine (B3 _).mono ?_); rintro e wC ⟨rfl, h1⟩; (try with_reducible replace h1 := undrew h1); have hB : Below w.heap.size w wC := ba (by go_grown) h1; obtain ⟨hcwC, hfwC⟩ := bcell h1; have hqwC := h1.size; (try simp at hqwC); (try have hz0wC : w.heap.size < wC.heap.size := (by omega)); (try have he0wC : w.heap.size ≤ wC.heap.size := (by omega)); (try have hz1wC : w.heap.size + 1 < wC.heap.size := (by omega)); (try have he1wC : w.heap.size + 1 ≤ wC.heap.size := (by omega))) | (go_at_call 58; (with_reducible refine (B4 _).mono ?_); rintro e wD ⟨rfl, h1⟩; (try with_reducible replace h1 := undrew h1); have hB : Below w.heap.size w wD := ba (by go_grown) h1; obtain ⟨hcwD, hfwD⟩ := bcell h1; have hqwD := h1.size; (try simp at hqwD); (try have hz0wD : w.heap.size < wD.heap.size := (by omega)); (try have he0wD : w.heap.size ≤ wD.heap.size := (by omega)); (try have hz1wD : w.heap.size + 1 < wD.heap.size := (by omega)); (try have he1wD : w.heap.size + 1 ≤ wD.heap.size := (by omega))))
    go_returns
    exact ⟨by simp, by go_grown⟩
  cases b4
  case true =>
    go_enter Try.func60, Try.ntmps60
    go_wp2_with (first | (go_at_call 114; (with_reducible refine (P1 _).mono ?_); rintro e wP ⟨rfl, h1⟩; (try with_reducible replace h1 := undrew h1); have hB : Below w.heap.size w wP := ba (by go_grown) h1; obtain ⟨hcwP, hfwP⟩ := bcell h1; have hqwP := h1.size; (try simp at hqwP); (try have hz0wP : w.heap.size < wP.heap.size := (by omega)); (try have he0wP : w.heap.size ≤ wP.heap.size := (by omega)); (try have hz1wP : w.heap.size + 1 < wP.heap.size := (by omega)); (try have he1wP : w.heap.size + 1 ≤ wP.heap.size := (by omega))) | (go_at_call 114; (with_reducible refine (P2 _).mono ?_); rintro e wQ ⟨rfl, h1⟩; (try with_reducible replace h1 := undrew h1); have hB : Below w.heap.size w wQ := ba (by go_grown) h1; obtain ⟨hcwQ, hfwQ⟩ := bcell h1; have hqwQ := h1.size; (try simp at hqwQ); (try have hz0wQ : w.heap.size < wQ.heap.size := (by omega)); (try have he0wQ : w.heap.size ≤ wQ.heap.size := (by omega)); (try have hz1wQ : w.heap.size + 1 < wQ.heap.size := (by omega)); (try have he1wQ : w.heap.size + 1 ≤ wQ.heap.size := (by omega))) | (go_at_call 58; (with_reducible refine (B1 _).mono ?_); rintro e wA ⟨rfl, h1⟩; (try with_reducible replace h1 := undrew h1); have hB : Below w.heap.size w wA := ba (by go_grown) h1; obtain ⟨hcwA, hfwA⟩ := bcell h1; have hqwA := h1.size; (try simp at hqwA); (try have hz0wA : w.heap.size < wA.heap.size := (by omega)); (try have he0wA : w.heap.size ≤ wA.heap.size := (by omega)); (try have hz1wA : w.heap.size + 1 < wA.heap.size := (by omega)); (try have he1wA : w.heap.size + 1 ≤ wA.heap.size := (by omega))) | (go_at_call 58; (with_reducible refine (B2 _).mono ?_); rintro e wB ⟨rfl, h1⟩; (try with_reducible replace h1 := undrew h1); have hB : Below w.heap.size w wB := ba (by go_grown) h1; obtain ⟨hcwB, hfwB⟩ := bcell h1; have hqwB := h1.size; (try simp at hqwB); (try have hz0wB : w.heap.size < wB.heap.size := (by omega)); (try have he0wB : w.heap.size ≤ wB.heap.size := (by omega)); (try have hz1wB : w.heap.size + 1 < wB.heap.size := (by omega)); (try have he1wB : w.heap.size + 1 ≤ wB.heap.size := (by omega))) | (go_at_call 58; (with_reducible refine (B3 _).mono ?_); rintro e wC ⟨rfl, h1⟩; (try with_reducible replace h1 := undrew h1); have hB : Below w.heap.size w wC := ba (by go_grown) h1; obtain ⟨hcwC, hfwC⟩ := bcell h1; have hqwC := h1.size; (try simp at hqwC); (try have hz0wC : w.heap.size < wC.heap.size := (by omega)); (try have he0wC : w.heap.size ≤ wC.heap.size := (by omega)); (try have hz1wC : w.heap.size + 1 < wC.heap.size := (by omega)); (try have he1wC : w.heap.size + 1 ≤ wC.heap.size := (by omega))) | (go_at_call 58; (with_reducible refine (B4 _).mono ?_); rintro e wD ⟨rfl, h1⟩; (try with_reducible replace h1 := undrew h1); have hB : Below w.heap.size w wD := ba (by go_grown) h1; obtain ⟨hcwD, hfwD⟩ := bcell h1; have hqwD := h1.size; (try simp at hqwD); (try have hz0wD : w.heap.size < wD.heap.size := (by omega)); (try have he0wD : w.heap.size ≤ wD.heap.size := (by omega)); (try have hz1wD : w.heap.size + 1 < wD.heap.size := (by omega)); (try have he1wD : w.heap.size + 1 ≤ wD.heap.size := (by omega))))
    go_returns
    exact ⟨by simp, by go_grown⟩
  go_enter Try.func60, Try.ntmps60
  go_wp2_with (first | (go_at_call 114; (with_reducible refine (P1 _).mono ?_); rintro e wP ⟨rfl, h1⟩; (try with_reducible replace h1 := undrew h1); have hB : Below w.heap.size w wP := ba (by go_grown) h1; obtain ⟨hcwP, hfwP⟩ := bcell h1; have hqwP := h1.size; (try simp at hqwP); (try have hz0wP : w.heap.size < wP.heap.size := (by omega)); (try have he0wP : w.heap.size ≤ wP.heap.size := (by omega)); (try have hz1wP : w.heap.size + 1 < wP.heap.size := (by omega)); (try have he1wP : w.heap.size + 1 ≤ wP.heap.size := (by omega))) | (go_at_call 114; (with_reducible refine (P2 _).mono ?_); rintro e wQ ⟨rfl, h1⟩; (try with_reducible replace h1 := undrew h1); have hB : Below w.heap.size w wQ := ba (by go_grown) h1; obtain ⟨hcwQ, hfwQ⟩ := bcell h1; have hqwQ := h1.size; (try simp at hqwQ); (try have hz0wQ : w.heap.size < wQ.heap.size := (by omega)); (try have he0wQ : w.heap.size ≤ wQ.heap.size := (by omega)); (try have hz1wQ : w.heap.size + 1 < wQ.heap.size := (by omega)); (try have he1wQ : w.heap.size + 1 ≤ wQ.heap.size := (by omega))) | (go_at_call 58; (with_reducible refine (B1 _).mono ?_); rintro e wA ⟨rfl, h1⟩; (try with_reducible replace h1 := undrew h1); have hB : Below w.heap.size w wA := ba (by go_grown) h1; obtain ⟨hcwA, hfwA⟩ := bcell h1; have hqwA := h1.size; (try simp at hqwA); (try have hz0wA : w.heap.size < wA.heap.size := (by omega)); (try have he0wA : w.heap.size ≤ wA.heap.size := (by omega)); (try have hz1wA : w.heap.size + 1 < wA.heap.size := (by omega)); (try have he1wA : w.heap.size + 1 ≤ wA.heap.size := (by omega))) | (go_at_call 58; (with_reducible refine (B2 _).mono ?_); rintro e wB ⟨rfl, h1⟩; (try with_reducible replace h1 := undrew h1); have hB : Below w.heap.size w wB := ba (by go_grown) h1; obtain ⟨hcwB, hfwB⟩ := bcell h1; have hqwB := h1.size; (try simp at hqwB); (try have hz0wB : w.heap.size < wB.heap.size := (by omega)); (try have he0wB : w.heap.size ≤ wB.heap.size := (by omega)); (try have hz1wB : w.heap.size + 1 < wB.heap.size := (by omega)); (try have he1wB : w.heap.size + 1 ≤ wB.heap.size := (by omega))) | (go_at_call 58; (with_reducible refine (B3 _).mono ?_); rintro e wC ⟨rfl, h1⟩; (try with_reducible replace h1 := undrew h1); have hB : Below w.heap.size w wC := ba (by go_grown) h1; obtain ⟨hcwC, hfwC⟩ := bcell h1; have hqwC := h1.size; (try simp at hqwC); (try have hz0wC : w.heap.size < wC.heap.size := (by omega)); (try have he0wC : w.heap.size ≤ wC.heap.size := (by omega)); (try have hz1wC : w.heap.size + 1 < wC.heap.size := (by omega)); (try have he1wC : w.heap.size + 1 ≤ wC.heap.size := (by omega))) | (go_at_call 58; (with_reducible refine (B4 _).mono ?_); rintro e wD ⟨rfl, h1⟩; (try with_reducible replace h1 := undrew h1); have hB : Below w.heap.size w wD := ba (by go_grown) h1; obtain ⟨hcwD, hfwD⟩ := bcell h1; have hqwD := h1.size; (try simp at hqwD); (try have hz0wD : w.heap.size < wD.heap.size := (by omega)); (try have he0wD : w.heap.size ≤ wD.heap.size := (by omega)); (try have hz1wD : w.heap.size + 1 < wD.heap.size := (by omega)); (try have he1wD : w.heap.size + 1 ≤ wD.heap.size := (by omega))))
  go_returns
  exact ⟨by simp, by go_grown⟩

end Go.Proofs.Ytppbbcckijcckaa
