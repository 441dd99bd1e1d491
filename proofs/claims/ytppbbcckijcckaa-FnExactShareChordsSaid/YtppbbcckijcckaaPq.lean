/- Contract: the library's slices.SortFunc at places; what is sorted. -/
import Derived.Test.YtppbbcckijcckaaCm
import Derived.Test.YtppbbcckijcckaaAp
import Derived.Test.YtppbbcckijcckaaShelfG
import Derived.Shelf.SlSortCmp.NoneTotal
namespace Go.Proofs.Ytppbbcckijcckaa
open Go.ChangeShapes Go.WideShapes Go.ChangeAt Go.RowKit Go.Lib

set_option linter.unusedVariables false
set_option linter.unusedSimpArgs false

set_option linter.unusedVariables false

/-- A place: a point whose numbers are not too great. -/
def Pl : Type := { p : Pn // Bd 100000 p }

instance : Inhabited Pl := ⟨⟨⟨0, 0, 0, 0⟩, by unfold Bd; simp⟩⟩

def encP (x : Pl) : List Value := [.int .i64 x.1.a, .int .i64 x.1.b, .int .i64 x.1.c, .int .i64 x.1.d]

theorem encP_len (x : Pl) : (encP x).length = 4 := rfl

theorem encP_one (x : Pl) : ∀ v ∈ encP x, v.oneCell' = true := by
  intro v hv
  simp only [encP, List.mem_cons, List.not_mem_nil, or_false] at hv
  rcases hv with rfl | rfl | rfl | rfl <;> rfl

def cfP (x y : Pl) : Int := cmpP x.1 y.1
noncomputable def ltdB (p q : Pn) : Bool := open Classical in decide (Pn.ltd true p q)

theorem ltP (x y : Pl) : ltOf cfP x y = true ↔ Pn.ltd true x.1 y.1 := by
  rw [← cmpP_lt]
  unfold ltOf cfP
  exact decide_eq_true_iff

theorem ltP_no (x y : Pl) : ltOf cfP x y = false ↔ ¬ Pn.ltd true x.1 y.1 := by
  rw [← ltP, Bool.not_eq_true]

theorem swoP : Sort.SWO (ltOf cfP) where
  irrefl x := (ltP_no x x).2 fun h => Pn.ltd_ne h rfl
  trans x y z h1 h2 := (ltP x z).2 (Pn.ltd_trans ((ltP x y).1 h1) ((ltP y z).1 h2))
  ntrans x y z h1 h2 := (ltP_no x z).2 fun h => by
    have a := (ltP_no x y).1 h1
    have b := (ltP_no y z).1 h2
    rcases Pn.ltd_tri true x.1 y.1 with g | g | g
    · exact a g
    · rw [g] at h; exact b h
    · exact b (Pn.ltd_trans g h)

theorem totP (x y : Pl) (h1 : ltOf cfP x y = false) (h2 : ltOf cfP y x = false) : x = y := by
  have a := (ltP_no x y).1 h1
  have b := (ltP_no y x).1 h2
  rcases Pn.ltd_tri true x.1 y.1 with g | g | g
  · exact absurd g a
  · exact Subtype.ext g
  · exact absurd g b

/-- y does not come before x. -/
def leP (x y : Pl) : Prop := ¬ Pn.ltd true y.1 x.1

def srtP (l : List Pl) : List Pl := l.mergeSort fun x y => !(ltOf cfP) y x

theorem srtP_perm (l : List Pl) : (srtP l).Perm l := List.mergeSort_perm _ _

theorem srtP_sorted (l : List Pl) : (srtP l).Pairwise leP := by
  have hS := swoP
  have := List.pairwise_mergeSort (le := fun x y => !(ltOf cfP) y x) (fun a b c h1 h2 => by
    simp only [Bool.not_eq_true'] at h1 h2 ⊢
    exact hS.ntrans _ _ _ h2 h1) (fun a b => by
      cases h1 : ltOf cfP b a with
      | false => simp
      | true =>
        have : ltOf cfP a b = false := by
          cases h2 : ltOf cfP a b with
          | false => rfl
          | true => have := hS.trans _ _ _ h1 h2; rw [hS.irrefl] at this; cases this
        simp [this]) l
  exact this.imp fun h => (ltP_no _ _).1 (by simpa using h)

/-- A sorted arrangement is the sorted one. -/
theorem srtP_eq {l m : List Pl} (hp : m.Perm l) : m = srtP l ↔ m.Pairwise leP := by
  constructor
  · intro h; rw [h]; exact srtP_sorted l
  · intro h
    have anti : ∀ a b : Pl, a ∈ m → b ∈ srtP l → leP a b → leP b a → a = b := fun a b _ _ h1 h2 => totP a b ((ltP_no a b).2 h2) ((ltP_no b a).2 h1)
    exact List.Perm.eq_of_pairwise anti h (srtP_sorted l) (hp.trans (srtP_perm l).symm)

def HoldsP (W : World) (g : Nat) (l : List Pl) : Prop := Sort.HoldsK encP 4 W g 0 l.toArray

theorem HoldsP.rowP {W : World} {g : Nat} {l : List Pl} (h : HoldsP W g l) : RowP W g (l.map (·.1)) := fun k p hp => by
  rw [List.getElem?_map] at hp
  obtain ⟨x, hx, rfl⟩ := Option.map_eq_some_iff.1 hp
  have hk : k < l.toArray.size := by simpa using (List.getElem?_eq_some_iff.1 hx).1
  have e : l.toArray[k]! = x := by
    rw [getElem!_pos l.toArray k hk]
    have := (List.getElem?_eq_some_iff.1 hx).2
    simpa using this
  have c : ∀ (i : Nat) (v : Value), (encP x)[i]? = some v → W.cell? ⟨g, k * 4 + i, none⟩ = some v := fun i v hv => by
    have hv' : (encP l.toArray[k]!)[i]? = some v := by rw [e]; exact hv
    have h' : Sort.HoldsK encP 4 W g 0 l.toArray := h
    have := HoldsK.cells (enc := encP) (k := 4) (d := l.toArray) (i := k) h' encP_len hk i v hv'
    rw [Addr.add_lit, Nat.zero_add] at this
    exact this
  exact ⟨c 0 (.int .i64 x.1.a) rfl, c 1 (.int .i64 x.1.b) rfl, c 2 (.int .i64 x.1.c) rfl, c 3 (.int .i64 x.1.d) rfl⟩

theorem HoldsP.frozen {W : World} {g : Nat} {l : List Pl} (h : HoldsP W g l) (j : Nat) (hj : j < l.length * 4) : W.frozen? ⟨g, j, none⟩ = false := by
  have := (h j (by rw [Sort.size_flatK]; simpa using hj)).2
  rwa [Nat.zero_add] at this

theorem HoldsP.of {W : World} {g : Nat} {l : List Pl} (h : RowP W g (l.map (·.1))) (hf : ∀ j, j < l.length * 4 → W.frozen? ⟨g, j, none⟩ = false) : HoldsP W g l := fun j hj => by
  rw [Sort.size_flatK] at hj
  have hj' : j < l.length * 4 := by simpa using hj
  have hq : j / 4 < l.toArray.size := by simp; omega
  have hr : j % 4 < 4 := Nat.mod_lt _ (by decide)
  rw [Nat.zero_add]
  refine ⟨?_, hf j hj'⟩
  rw [Sort.get_flatK _ _ _ _ hj]
  have hx : l[j / 4]? = some l.toArray[j / 4]! := by
    rw [getElem!_pos l.toArray _ hq, List.getElem?_eq_getElem (by simpa using hq)]; simp
  obtain ⟨c0, c1, c2, c3⟩ := h (j / 4) l.toArray[j / 4]!.1 (by rw [List.getElem?_map, hx]; rfl)
  have e : j = j / 4 * 4 + j % 4 := by omega
  generalize l.toArray[j / 4]! = x at *
  have h4 : j % 4 = 0 ∨ j % 4 = 1 ∨ j % 4 = 2 ∨ j % 4 = 3 := by omega
  rcases h4 with h4 | h4 | h4 | h4
  · rw [h4] at e ⊢; rw [show (⟨g, j, none⟩ : Addr) = ⟨g, j / 4 * 4, none⟩ by rw [show j / 4 * 4 = j by omega]]; exact c0
  · rw [h4] at e ⊢; rw [show (⟨g, j, none⟩ : Addr) = ⟨g, j / 4 * 4 + 1, none⟩ by rw [show j / 4 * 4 + 1 = j by omega]]; exact c1
  · rw [h4] at e ⊢; rw [show (⟨g, j, none⟩ : Addr) = ⟨g, j / 4 * 4 + 2, none⟩ by rw [show j / 4 * 4 + 2 = j by omega]]; exact c2
  · rw [h4] at e ⊢; rw [show (⟨g, j, none⟩ : Addr) = ⟨g, j / 4 * 4 + 3, none⟩ by rw [show j / 4 * 4 + 3 = j by omega]]; exact c3

/-- Of what was there, nothing has turned but block g. -/
structure Only (g : Nat) (w w' : World) : Prop where
  os : w'.os = w.os
  tape : w'.tape = w.tape
  output : w'.output = w.output
  size : w.heap.size ≤ w'.heap.size
  block : ∀ k, k < w.heap.size → k ≠ g → w'.heap[k]? = w.heap[k]?

theorem Only.below {g m : Nat} {w w' : World} (h : Only g w w') (hm : m ≤ g) (hg : g < w.heap.size) : Below m w w' :=
  ⟨h.os, h.tape, h.output, h.size, fun k hk => h.block k (by omega) (by omega)⟩

theorem Only.cell {g : Nat} {w w' : World} (h : Only g w w') {b o : Nat} {v : Value} (hb : b ≠ g) (hc : w.cell? ⟨b, o, none⟩ = some v) : w'.cell? ⟨b, o, none⟩ = some v := by
  have hlt := block_lt_of_cell hc
  have e := h.block b hlt hb
  rw [← hc]
  simp only [World.cell?, e]

theorem only_sortP {w : World} {g n : Nat} {d : Array Pl} (os : Array Obj) (hl : g < w.heap.size) : Only g w (sortWorldK encP 4 w g 0 n d os) := by
  unfold sortWorldK
  refine ⟨rfl, rfl, rfl, ?_, fun k hk hne => ?_⟩
  · rw [Sort.size_grow, Sort.size_putRowK]; exact Nat.le_add_right _ _
  · rw [Sort.heap_grow_old _ os (by rw [Sort.size_putRowK]; exact hk)]
    show (w.heap.modify g _)[k]? = _
    rw [Array.getElem?_modify, if_neg (by omega)]

set_option maxRecDepth 100000 in
theorem sortP_any (l : List Pl) (n : Nat) (hn : l.length = n) (hb5 : n ≤ 5000) (g cap : Nat) (w : World) (hH : HoldsP w g l) (hg : g < w.heap.size) :
    Calls Try.prog 89 #[.slice (some ⟨g, 0, none⟩) n cap, .func (.func 90) #[] #[]] w fun e w' => e = .returned (.tuple #[]) ∧ HoldsP w' g (srtP l) ∧ Only g w w' := by
  subst hn
  have h := AnyQ.slices_SortFunc_total Try.sortPt 4 Try.isAgg26 Try.sizeOf26 encP encP_len encP_one cfP swoP 90 #[] g 0 cap l.toArray w
    (enters_of Try.func90 (by kernel_rfl) rfl) (fun m os dk _ x y => (placesG x.1 y.1 x.2 y.2 _).mono fun e w' ⟨h1, h2, h3⟩ => ⟨h1, gr_of h2 h3⟩) hH hg (by simp; omega) totP
  refine h.mono fun e w' ⟨h1, q, os, h2⟩ => ⟨h1, ?_, ?_⟩
  · rw [h2]
    exact holdsK_sortWorldK encP 4 w g 0 q l.toArray (srtP l).toArray os hg hH (by simp [srtP, List.length_mergeSort])
  · rw [h2]
    exact only_sortP os hg

end Go.Proofs.Ytppbbcckijcckaa
