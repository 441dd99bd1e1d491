/- Contracts: keys counted in a sorted list; whether some pieces lead back; the first closed track of some pieces, in the model and in the program. -/
import Derived.Test.YtadlkmfgjmcgeabCb
import Derived.Test.YtadlkmfgjmcgeabBkM
import Derived.Test.YtadlkmfgjmcgeabCa
import Derived.Test.YtadlkmfgjmcgeabRn
import Derived.Deep.RegionHeld3
namespace Go.Proofs.Ytadlkmfgjmcgeab
open Go.ChangeShapes Go.WideShapes Go.ChangeAt Go.RowKit

set_option linter.unusedVariables false

def keC (ys : List Int) (k : Int) : Nat := ys.countP fun z => decide (z = k)
theorem keC_split (k : Int) : ∀ ys : List Int, (ys.countP fun z => decide (z < k + 1)) = (ys.countP fun z => decide (z < k)) + keC ys k
  | [] => rfl
  | y :: ys => by
    have ih := keC_split k ys
    simp only [keC, List.countP_cons] at ih ⊢
    rw [ih]
    rcases Int.lt_trichotomy y k with h | h | h
    · have h1 : y < k + 1 := by omega
      have h3 : ¬ y = k := by omega
      simp only [h, h1, h3, decide_true, decide_false, if_true]
      simp; omega
    · subst h
      have h1 : y < y + 1 := by omega
      have h2 : ¬ y < y := by omega
      rw [decide_eq_true h1, decide_eq_false h2, decide_eq_true rfl]
      simp only [if_true]
      simp
      omega
    · have h1 : ¬ y < k + 1 := by omega
      have h2 : ¬ y < k := by omega
      have h3 : ¬ y = k := by omega
      simp only [h1, h2, h3, decide_false]
      simp
theorem keC_le (ys : List Int) (k : Int) : keC ys k ≤ ys.length := List.countP_le_length

set_option maxRecDepth 100000 in
set_option maxHeartbeats 800000 in
theorem clCount_any (ys : List Int) (hb : ys.length ≤ 5000) (hs : ys.Pairwise (· ≤ ·)) (v : Value) (p : Sp) (turn whole : Int) (t0 : -100 ≤ turn) (t1 : turn ≤ 100) (u0 : -100 ≤ whole) (u1 : whole ≤ 100) (hsm : smK p (turn - whole)) (w : World) (hv : IntV w v ys) :
    Calls Try.prog 25 #[v, .agg #[.int .i64 p.x0, .int .i64 p.x1, .int .i64 p.x2, .int .i64 p.x3], .int .i64 turn, .int .i64 whole] w fun e w' => e = .returned (.int .i64 (keC ys (keyI p (turn - whole)) : Nat)) ∧ Below w.heap.size w w' := by
  have CK := Lib.hid (clKey_any p (turn - whole) hsm)
  have hkb := keyI_bd hsm
  generalize keyI p (turn - whole) = k at *
  obtain ⟨k0, k1⟩ := hkb
  have B1 := Lib.hid (fun (W : World) (hW : Below w.heap.size w W) => clBelow_any ys hb hs v (k + 1) W (hv.below hW))
  have B2 := Lib.hid (fun (W : World) (hW : Below w.heap.size w W) => clBelow_any ys hb hs v k W (hv.below hW))
  have hsp := keC_split k ys
  have l1 := List.countP_le_length (p := fun z => decide (z < k + 1)) (l := ys)
  have l2 := List.countP_le_length (p := fun z => decide (z < k)) (l := ys)
  have l3 := keC_le ys k
  generalize (ys.countP fun z => decide (z < k + 1)) = a at *
  generalize (ys.countP fun z => decide (z < k)) = b at *
  generalize keC ys k = c at *
  clear hv hs hsm
  have hab : (a : Int) - (b : Int) = (c : Int) := by omega
  have ha5 : a ≤ 5000 := by omega
  have hb5 : b ≤ 5000 := by omega
  go_enter Try.func25, Try.ntmps25
  go_wp2_with fail
  refine (CK.out _).mono ?_
  rintro e w1 ⟨rfl, hb1⟩
  have HB := Lib.hid (ba (by go_grown) hb1 : Below w.heap.size w w1)
  clear hb1
  go_wp2_with (first | ((with_reducible refine (B1.out _ (by exact HB.out)).mono ?_); rintro e w' ⟨rfl, rfl⟩) | ((with_reducible refine (B2.out _ (by exact HB.out)).mono ?_); rintro e w' ⟨rfl, rfl⟩))
  go_ret
  exact ⟨by first | rfl | (simp; done) | (simp; omega), HB.out⟩

set_option maxRecDepth 100000 in
set_option maxHeartbeats 800000 in
theorem l1All_any (xs : List Int) (hb : xs.length ≤ 5000) (v : Value) (lo hi : Int) (w : World) (hv : IntV w v xs) (hall : ∀ x ∈ xs, inB x lo hi = true) :
    Calls Try.prog 29 #[v, .int .i64 lo, .int .i64 hi] w fun e w' => e = .returned (.bool true) ∧ w = w' := by
  obtain ⟨av, cap, rfl, hc1, hc2, hr⟩ := hv
  obtain ⟨n, hn⟩ : ∃ n, xs.length = n := ⟨_, rfl⟩
  rw [hn] at hb hc1 ⊢
  have HN := Lib.hid hn
  have HR := Lib.hid hr
  have HALL := Lib.hid hall
  clear hn hr hall
  go_enter Try.func29, Try.ntmps29
  go_wp2_with fail
  go_loop [11] (fun p => ∃ k : Nat, p = .int .i64 (k : Nat) ∧ k ≤ n) (fun p => n - (intOf p).toNat)
  case atStart => exact ⟨0, rfl, Nat.zero_le _⟩
  case round =>
    obtain ⟨k, rfl, hk⟩ := hrel
    by_cases hlt : k < n
    · obtain ⟨y, hy⟩ : ∃ y, xs[k]? = some y := ⟨_, List.getElem?_eq_getElem (by rw [HN.out]; omega)⟩
      obtain ⟨g, o, rfl, hg, hcell⟩ := HR.out.resolve_left (fun h => by have := HN.out; rw [h] at this; simp at this; omega)
      have c0 := hcell k y hy
      have L := Lib.hid (l1In_any y lo hi w)
      rw [HALL.out y (List.mem_of_getElem? hy)] at L
      have i1 : (0 : Int) ≤ (k : Int) := by omega
      have i2 : (k : Int) < (n : Int) := by omega
      clear hcell hy
      go_wp2_with (go_at_call 30; refine (L.out).mono ?_; rintro e w' ⟨rfl, rfl⟩)
      go_round
      case rel => exact ⟨k + 1, by go_num, by omega⟩
      case measure => simp [intOf]; omega
    · go_wp2_with fail
      go_ret
      exact ⟨rfl, rfl⟩

/-- A hit at one of the whole turns. -/
def hitB (ys : List Int) (p : Sp) (n : Nat) (whole : Int) : Bool := inB (whole - p.h) (-(n : Int)) n && decide (0 < keC ys (keyI p (0 - (whole - p.h))))

theorem hit_some {ys : List Int} {p : Sp} {n : Nat} (hn : n ≤ 7) (hp : ys.Perm (bkL n)) (h0 : 0 ≤ p.h) (h7 : p.h ≤ 7) {v : List UInt8} (hv : v ∈ words n) (hf : fin p v = sp0) : hitB ys p n 0 = true ∨ hitB ys p n 8 = true := by
  have hl := (words_iff n v).1 hv
  obtain ⟨⟨e0, e1, e2, e3⟩, e4⟩ := (leads_iff p h0 h7 hv).1 hf
  have hb := trW_bd v n (by rw [hl.1]; exact Nat.le_refl _)
  have hk : keyI p (0 - trW v) = bkI (back v) := by
    rw [bkI, trW_back v hl.2]
    unfold keyI
    rw [show (fin sp4 (back v)).x0 = p.x0 from e0, show (fin sp4 (back v)).x1 = p.x1 from e1, show (fin sp4 (back v)).x2 = p.x2 from e2, show (fin sp4 (back v)).x3 = p.x3 from e3]
    omega
  have hm : keyI p (0 - trW v) ∈ ys := by
    rw [hk]
    exact hp.mem_iff.2 (List.mem_map.2 ⟨back v, back_words hv, rfl⟩)
  have hc : 0 < keC ys (keyI p (0 - trW v)) := List.countP_pos_iff.2 ⟨_, hm, by simp⟩
  have hw : p.h + trW v = 0 ∨ p.h + trW v = 8 := by omega
  rcases hw with h | h
  · left
    have e : (0 : Int) - p.h = trW v := by omega
    simp only [hitB, e, inB, Bool.and_eq_true, decide_eq_true_eq]
    exact ⟨by omega, hc⟩
  · right
    have e : (8 : Int) - p.h = trW v := by omega
    simp only [hitB, e, inB, Bool.and_eq_true, decide_eq_true_eq]
    exact ⟨by omega, hc⟩

def LeadsPost (p : Sp) (n : Nat) (w : World) (e : Ending) (w' : World) : Prop :=
  ∃ b, e = .returned (.bool b) ∧ (b = false → ∀ v ∈ words n, fin p v ≠ sp0) ∧ Below w.heap.size w w'

theorem iv_four {W : World} {n : Nat} (hn : W.heap.size = n) (a b c d : Int) (t : TypeId) : IntV (W.alloc (.cells #[.int .i64 a, .int .i64 b, .int .i64 c, .int .i64 d] t)) (.slice (some ⟨n, 0, none⟩) 4 4) [a, b, c, d] := by
  subst hn
  refine ⟨_, 4, rfl, by simp, by decide, .inr ⟨W.heap.size, 0, rfl, by simp, fun j x hx => ?_⟩⟩
  have h := blk4 (heap_alloc_new W (.cells #[.int .i64 a, .int .i64 b, .int .i64 c, .int .i64 d] t))
  match j, hx with
  | 0, hx => simp at hx; subst hx; exact h.1
  | 1, hx => simp at hx; subst hx; exact h.2.1
  | 2, hx => simp at hx; subst hx; exact h.2.2.1
  | 3, hx => simp at hx; subst hx; exact h.2.2.2

set_option maxRecDepth 100000 in
set_option maxHeartbeats 3200000 in
theorem clLeads_any (ys : List Int) (hb : ys.length ≤ 5000) (hs : ys.Pairwise (· ≤ ·)) (n : Nat) (hn : n ≤ 7) (hp : ys.Perm (bkL n)) (v : Value) (p : Sp) (h0 : 0 ≤ p.h) (h7 : p.h ≤ 7) (hsm : smK p 0) (w : World) (hv : IntV w v ys) :
    Calls Try.prog 33 #[v, .agg #[.int .i64 p.x0, .int .i64 p.x1, .int .i64 p.x2, .int .i64 p.x3], .int .i64 p.h, .int .i64 (n : Nat)] w (LeadsPost p n w) := by
  have HV := Lib.hid hv
  have HS := Lib.hid hs
  have HSM := Lib.hid hsm
  have HHIT := Lib.hid (fun v (hv : v ∈ words n) (hf : fin p v = sp0) => hit_some hn hp h0 h7 hv hf)
  clear hv hs hsm hp
  go_enter Try.func33, Try.ntmps33
  go_wp2_with fail
  go_loopw [9] (fun i wr => ∃ j : Nat, j ≤ 5 ∧ i = .int .i64 (-16 + 8 * (j : Int)) ∧ (∀ k : Nat, k < j → hitB ys p n (-16 + 8 * (k : Int)) = false) ∧ wr.heap[w.heap.size]? = some (.cells #[.int .i64 p.x0, .int .i64 p.x1, .int .i64 p.x2, .int .i64 p.x3] 36 (0, 0)) ∧ Below w.heap.size w wr) (fun i _ => (24 - intOf i).toNat)
  case atStart => exact ⟨0, by omega, rfl, fun k hk => absurd hk (by omega), heap_alloc_new _ _, by go_grown⟩
  case round =>
    obtain ⟨j, hj, rfl, hk, hX, hB⟩ := hrel
    have hz := hB.size
    have hzX := blkLt hX
    have HB := Lib.hid hB
    have HX := Lib.hid hX
    have HK := Lib.hid hk
    obtain ⟨W, hW⟩ : ∃ W : Int, -16 + 8 * (j : Int) = W := ⟨_, rfl⟩
    have HW := Lib.hid hW
    have hnx : -16 + 8 * ((j + 1 : Nat) : Int) = W + 8 := by omega
    rw [hW]
    by_cases hlt : j < 5
    · have w16 : W ≤ 16 := by omega
      have w0 : -16 ≤ W := by omega
      have hKn : ∀ k : Nat, k < j + 1 → hitB ys p n W = false → hitB ys p n (-16 + 8 * (k : Int)) = false := fun k h1 h2 => by
        by_cases e : k = j
        · subst e; rw [hW]; exact h2
        · exact hk k (by omega)
      have HKN := Lib.hid hKn
      obtain ⟨T, hT⟩ : ∃ T : Int, W - p.h = T := ⟨_, rfl⟩
      have t0 : -100 ≤ T := by omega
      have t1 : T ≤ 100 := by omega
      have hHB : hitB ys p n W = (inB T (-(n : Int)) n && decide (0 < keC ys (keyI p (0 - T)))) := by rw [hitB, hT]
      cases hI : inB T (-(n : Int)) n
      · have HH := Lib.hid (show hitB ys p n W = false by rw [hHB, hI]; rfl)
        have L := Lib.hid (fun w => l1In_any T (-(n : Int)) n w)
        rw [hI] at L
        clear hk hX hB hKn hHB hW
        go_wp2_with (go_at_call 30; refine (L.out _).mono ?_; rintro e w' ⟨rfl, rfl⟩)
        go_roundw
        case rel => exact ⟨j + 1, by omega, by rw [hnx], fun k h => HKN.out k h HH.out, HX.out, HB.out⟩
        case measure => simp [intOf]; omega
      · have gT : -(n : Int) ≤ T ∧ T ≤ n := by simpa [inB] using hI
        have L := Lib.hid (fun w => l1In_any T (-(n : Int)) n w)
        rw [hI] at L
        have hsm := HSM.out
        obtain ⟨⟨a0, a0'⟩, ⟨a1, a1'⟩, ⟨a2, a2'⟩, ⟨a3, a3'⟩, _⟩ := hsm
        have LA := Lib.hid (l1All_any [p.x0, p.x1, p.x2, p.x3] (by simp) _ (-60) 60 _ (iv_four (W := wr) rfl p.x0 p.x1 p.x2 p.x3 3) (by
          intro x hx
          simp only [List.mem_cons, List.not_mem_nil, or_false] at hx
          rcases hx with rfl | rfl | rfl | rfl <;> simp [inB] <;> omega))
        have CC := Lib.hid (fun (V : World) (hV : Below w.heap.size w V) => clCount_any ys hb HS.out v p 0 T (by omega) (by omega) t0 t1 (by simp only [smK]; omega) V (HV.out.below hV))
        have HHB := Lib.hid hHB
        have hc := keC_le ys (keyI p (0 - T))
        obtain ⟨x0, x1, x2, x3⟩ := blk4 hX
        clear hk hX hB hKn hHB hW
        generalize keC ys (keyI p (0 - T)) = c at *
        go_wp2_with (first | (go_at_call 30; refine (L.out _).mono ?_; rintro e w' ⟨rfl, rfl⟩) | (go_at_call 29; (with_reducible refine LA.out.mono ?_); rintro e w' ⟨rfl, rfl⟩))
        refine (CC.out _ (HB.out.alloc hz _)).mono ?_
        rintro e wA ⟨rfl, hA⟩
        have HX2 := Lib.hid ((hA.block w.heap.size (by simp; omega)).trans ((Below.heap_alloc wr (.cells #[.int .i64 p.x0, .int .i64 p.x1, .int .i64 p.x2, .int .i64 p.x3] 3) _ hzX).trans HX.out))
        have HB2 := Lib.hid ((HB.out.alloc hz _).trans (hA.mono (by simp; omega)))
        clear hA x0 x1 x2 x3
        by_cases hc0 : 0 < c
        · go_wp2_with fail
          go_ret
          exact ⟨true, rfl, fun h => (by cases h), HB2.out⟩
        · have HH := Lib.hid (show hitB ys p n W = false by rw [HHB.out, hI, decide_eq_false hc0]; rfl)
          go_wp2_with fail
          go_roundw
          case rel => exact ⟨j + 1, by omega, by rw [hnx], fun k h => HKN.out k h HH.out, HX2.out, HB2.out⟩
          case measure => simp [intOf]; omega
    · obtain rfl : j = 5 := by omega
      have w24 : W = 24 := by omega
      have HF := Lib.hid (show ∀ v ∈ words n, fin p v ≠ sp0 from fun v hv hf => by
        rcases HHIT.out v hv hf with h | h
        · have := hk 2 (by omega); rw [show (-16 : Int) + 8 * ((2 : Nat) : Int) = 0 from rfl, h] at this; cases this
        · have := hk 3 (by omega); rw [show (-16 : Int) + 8 * ((3 : Nat) : Int) = 8 from rfl, h] at this; cases this)
      subst w24
      clear hk hX hB
      go_wp2_with fail
      go_ret
      exact ⟨false, rfl, fun _ => HF.out, HB.out⟩

def fsO (n : Nat) : Option (List UInt8) := (clsL sp0 n).head?
def innF (m : Nat) (q : Sp) : List (List UInt8) := (words m).filter fun v => spE (fin q v) sp0
def innW (m : Nat) (u : List UInt8) : List (List UInt8) := (innF m (fin sp0 u)).map fun v => u ++ v
theorem cls_inn (k m : Nat) : clsL sp0 (k + m) = (words k).flatMap (innW m) := by
  rw [clsL, words_add, List.filter_flatMap]
  congr 1
  funext u
  simp only [innW, innF, List.filter_map, Function.comp_def, fin_append]
theorem head_hit {α β : Type} {l : List α} {f : α → List β} {j : Nat} {a : α} {b : β} {r : List β} (h0 : (l.take j).flatMap f = []) (hj : l[j]? = some a) (hf : f a = b :: r) : (l.flatMap f).head? = some b := by
  rw [← List.take_append_drop j l, List.flatMap_append, h0, List.nil_append]
  have hd : l.drop j = a :: l.drop (j + 1) := by
    obtain ⟨h1, rfl⟩ := List.getElem?_eq_some_iff.1 hj
    exact List.drop_eq_getElem_cons h1
  rw [hd, List.flatMap_cons, hf]
  rfl
theorem filt_hit {α : Type} {l : List α} {f : α → Bool} {e : Nat} {a : α} (h0 : (l.take e).filter f = []) (he : l[e]? = some a) (hf : f a = true) : ∃ r, l.filter f = a :: r := by
  rw [← List.take_append_drop e l, List.filter_append, h0, List.nil_append]
  have hd : l.drop e = a :: l.drop (e + 1) := by
    obtain ⟨h1, rfl⟩ := List.getElem?_eq_some_iff.1 he
    exact List.drop_eq_getElem_cons h1
  rw [hd, List.filter_cons, if_pos hf]
  exact ⟨_, rfl⟩
theorem flat_next {α β : Type} {l : List α} {f : α → List β} {j : Nat} {a : α} (h0 : (l.take j).flatMap f = []) (hj : l[j]? = some a) (hf : f a = []) : (l.take (j + 1)).flatMap f = [] := by
  rw [List.take_add_one, hj, List.flatMap_append, h0]
  simp [hf]
theorem filt_next {α : Type} {l : List α} {f : α → Bool} {e : Nat} {a : α} (h0 : (l.take e).filter f = []) (he : l[e]? = some a) (hf : f a = false) : (l.take (e + 1)).filter f = [] := by
  rw [List.take_add_one, he, List.filter_append, h0]
  simp [hf]

theorem ret_fs {n : Nat} {x : ByteArray} {b : Bool} (h : (fsO n).isSome = b ∧ ofL ((fsO n).getD []) = x) : Ending.returned (.tuple #[.string x, .bool b]) = Ending.returned (.tuple #[.string (ofL ((fsO n).getD [])), .bool (fsO n).isSome]) := by rw [h.1, h.2]
theorem own_hdE {W : World} {B n g cap i : Nat} {e : TypeId} {l : List Sp} {s : Sp} (h : W.ownsRow B e 1 (.slice (some ⟨g, 0, none⟩) n cap) n (hdCells l)) (hn : l.length = n) (hs : l[i]? = some s) :
    W.cell? ⟨g, i, none⟩ = some (.int .i64 s.h) := by
  have hi : i < n := by rw [← hn]; exact (List.getElem?_eq_some_iff.1 hs).1
  rw [h.cellAt i (by omega)]
  simp [hdCells, hs]

/-- How a text is laid: the cells of its end. -/
theorem lay_end (l : List UInt8) (hp : l.all pcb = true) (n : Nat) (hn : l.length = n) (h14 : n ≤ 14) (a : Sp) (ha : a.okB 1000) (w : World) :
    Calls Try.prog 32 #[.string (ofL l), .agg #[.int .i64 a.x0, .int .i64 a.x1, .int .i64 a.x2, .int .i64 a.x3], .int .i64 a.h] w fun e w' => ∃ gj cj gh ch, e = .returned (.tuple #[.slice (some ⟨gj, 0, none⟩) (n + 1) cj, .slice (some ⟨gh, 0, none⟩) (n + 1) ch]) ∧ w.heap.size < gj ∧ gj < w'.heap.size ∧ w.heap.size < gh ∧ gh < w'.heap.size ∧
      w'.cell? ⟨gj, n * 4, none⟩ = some (.int .i64 (fin a l).x0) ∧ w'.cell? ⟨gj, n * 4 + 1, none⟩ = some (.int .i64 (fin a l).x1) ∧ w'.cell? ⟨gj, n * 4 + 2, none⟩ = some (.int .i64 (fin a l).x2) ∧ w'.cell? ⟨gj, n * 4 + 3, none⟩ = some (.int .i64 (fin a l).x3) ∧ w'.cell? ⟨gh, n, none⟩ = some (.int .i64 (fin a l).h) ∧ Below w.heap.size w w' := by
  have ht := tkB_ofE hp (by omega : l.length ≤ 40)
  refine (tkLay_any (ofL l) ht a (ha.mono (by decide)) w).mono ?_
  rintro e w' ⟨gj, cj, gh, ch, rfl, hJ, hH, hb⟩
  have hz : (ofL l).size = n := (ofL_size l).trans hn
  have hl2 := lays_last a l
  have hln := lays_length a l
  rw [hn] at hl2 hln
  rw [hz] at hJ hH ⊢
  obtain ⟨c0, c1, c2, c3⟩ := own_ptE hJ hln hl2
  exact ⟨gj, cj, gh, ch, rfl, (hJ.lt gj rfl).1, (hJ.lt gj rfl).2, (hH.lt gh rfl).1, (hH.lt gh rfl).2, c0, c1, c2, c3, own_hdE hH hln hl2, hb⟩

set_option maxRecDepth 100000 in
set_option maxHeartbeats 12800000 in
theorem clFirst_any (n : Nat) (h1 : 1 ≤ n) (h14 : n ≤ 14) (w : World) :
    Calls Try.prog 19 #[.agg #[.int .i64 0, .int .i64 0, .int .i64 0, .int .i64 0], .int .i64 0, .int .i64 (n : Nat)] w fun e w' => e = .returned (.tuple #[.string (ofL ((fsO n).getD [])), .bool (fsO n).isSome]) ∧ Below w.heap.size w w' := by
  obtain ⟨m, hm⟩ : ∃ m, n / 2 = m := ⟨_, rfl⟩
  obtain ⟨k, hk⟩ : ∃ k, n - m = k := ⟨_, rfl⟩
  have hq : (n : Int).tdiv 2 = (m : Int) := by rw [Int.tdiv_eq_ediv_of_nonneg (by omega)]; omega
  have hs : (n : Int) - (m : Int) = (k : Int) := by omega
  have hm7 : m ≤ 7 := by omega
  have hk7 : k ≤ 7 := by omega
  have HF := Lib.hid (show fsO n = ((words k).flatMap (innW m)).head? by rw [fsO, ← cls_inn, show k + m = n by omega])
  have CB := Lib.hid (clBacks_any m hm7)
  have CW1 := Lib.hid (clWords_any k hk7)
  have CW2 := Lib.hid (clWords_any m hm7)
  have hlk := words_count k
  have hlm := words_count m
  have hpk : ∀ u ∈ words k, u.all pcb = true ∧ u.length = k := fun u hu => ⟨words_pcb k u hu, words_len k u hu⟩
  have hpm : ∀ u ∈ words m, u.all pcb = true ∧ u.length = m := fun u hu => ⟨words_pcb m u hu, words_len m u hu⟩
  obtain ⟨K, hK⟩ : ∃ K, 3 ^ k = K := ⟨_, rfl⟩
  obtain ⟨M, hM⟩ : ∃ M, 3 ^ m = M := ⟨_, rfl⟩
  have hK1 : K ≤ 2187 := by rw [← hK]; exact Nat.pow_le_pow_right (by decide) hk7
  have hM1 : M ≤ 2187 := by rw [← hM]; exact Nat.pow_le_pow_right (by decide) hm7
  rw [hK] at hlk
  rw [hM] at hlm
  have HPK := Lib.hid hpk
  have HPM := Lib.hid hpm
  have HLK := Lib.hid hlk
  have HLM := Lib.hid hlm
  clear hpk hpm hlk hlm hm hk hK hM
  go_enter Try.func19, Try.ntmps19
  go_wp2_with fail
  refine (CB.out _).mono ?_
  rintro e w1 ⟨vb, ys, rfl, hIV, hperm, hso, hb1⟩
  have hys : ys.length ≤ 5000 := by rw [hperm.length_eq, bkL, List.length_map, HLM.out]; omega
  have hbx1 := (hb1.block w.heap.size (by simp)).trans (heap_alloc_new _ _)
  have hz1 := hb1.size
  simp at hz1
  have HB1 := Lib.hid (ba (by go_grown) hb1 : Below w.heap.size w w1)
  have HIV1 := Lib.hid hIV
  clear hb1 hIV
  go_wp2_with fail
  refine (CW1.out _).mono ?_
  rintro e w2 ⟨v2, rfl, o2, hb2⟩
  rw [HLK.out] at o2
  have HO2 := Lib.hid (own_lessP o2 (Nat.zero_le _))
  obtain ⟨av, cv, rfl⟩ := own_formC o2
  have HBX := Lib.hid ((hb2.block w.heap.size (by omega)).trans hbx1)
  have HIV2 := Lib.hid (HIV1.out.below hb2)
  have HB2 := Lib.hid (HB1.out.trans (hb2.mono HB1.out.size))
  have hz2 : w.heap.size < w2.heap.size := (Array.getElem?_eq_some_iff.1 HBX.out).1
  clear o2 hb2 hbx1 HIV1
  go_wp2_with fail
  go_loopw [29] (fun i wr => ∃ j : Nat, j ≤ K ∧ i = .int .i64 (j : Nat) ∧ ((words k).take j).flatMap (innW m) = [] ∧ Below w2.heap.size w2 wr) (fun i _ => K - (intOf i).toNat)
  case atStart => exact ⟨0, Nat.zero_le _, rfl, rfl, Below.refl _ _⟩
  case round =>
    obtain ⟨j, hj, rfl, hno, hb⟩ := hrel
    have hz := hb.size
    by_cases hlt : j < K
    · obtain ⟨u, hu⟩ : ∃ u, (words k)[j]? = some u := ⟨_, List.getElem?_eq_getElem (by rw [HLK.out]; exact hlt)⟩
      obtain ⟨hp1, hp2⟩ := HPK.out u (List.mem_of_getElem? hu)
      obtain ⟨g, rfl⟩ : ∃ g, av = some ⟨g, 0, none⟩ := by
        rcases HO2.out.2 with ⟨h, h0⟩ | ⟨g, cap, _, h, _⟩
        · omega
        · injection h with h; exact ⟨g, h⟩
      have c0 := (str_of HO2.out HLK.out).below (HO2.out.lt g rfl).2 hb j u hu
      obtain ⟨x0, x1, x2, x3⟩ := blk4 ((hb.block w.heap.size hz2).trans HBX.out)
      have LE := Lib.hid (fun w => (lay_end u hp1 k hp2 (by omega) sp0 (sp0_ok.mono (by decide)) w))
      have hqok := fin_ok sp0_ok u
      rw [hp2] at hqok
      have hsz : (ofL u).size = k := (ofL_size u).trans hp2
      have HU := Lib.hid hu
      have HNO := Lib.hid hno
      have HB := Lib.hid hb
      have HPL := Lib.hid hp2
      have HIN := Lib.hid (show innW m u = (innF m (fin sp0 u)).map fun v => u ++ v from rfl)
      have hq0 : (fin sp0 u).okB 1000 := hqok.mono (by omega)
      have hqs : smK (fin sp0 u) 0 := by simp only [Sp.okB] at hqok; simp only [smK]; omega
      have hqh : 0 ≤ (fin sp0 u).h ∧ (fin sp0 u).h ≤ 7 := by simp only [Sp.okB] at hqok; omega
      generalize fin sp0 u = q at *
      have LD := Lib.hid (fun (V : World) (hV : Below w2.heap.size w2 V) => clLeads_any ys hys hso m hm7 hperm vb q hqh.1 hqh.2 hqs V (HIV2.out.below hV))
      have LI := Lib.hid (fun (x : List UInt8) (hx : x ∈ words m) (w : World) => lay_end x (HPM.out x hx).1 m (HPM.out x hx).2 (by omega) q hq0 w)
      clear hu hno hb hqok hqs hqh hp1 hp2 hq0
      go_wp2_with fail
      refine (LE.out _).mono ?_
      rintro e w3 ⟨gj, cj, gh, ch, rfl, gj1, gj2, gh1, gh2, d0, d1, d2, d3, d4, hb3⟩
      have HB3 := Lib.hid (HB.out.trans (hb3.mono hz))
      have hz3 := hb3.size
      have i1 : (0 : Int) ≤ (k : Int) := by omega
      have i2 : (k : Int) < ((k + 1 : Nat) : Int) := by omega
      have i2b : (k : Int) < (k : Int) + 1 := by omega
      have i2c : k < k + 1 := by omega
      have nj : ¬ w3.heap.size = gj := by omega
      have nh : ¬ w3.heap.size = gh := by omega
      clear hb3 x0 x1 x2 x3 c0
      go_wp2_with fail
      have hS0 : w3.cell? ⟨gj, k * 4, none⟩ = some (.int .i64 q.x0) ∧ w3.cell? ⟨gj, k * 4 + 1, none⟩ = some (.int .i64 q.x1) ∧ w3.cell? ⟨gj, k * 4 + 2, none⟩ = some (.int .i64 q.x2) ∧ w3.cell? ⟨gj, k * 4 + 3, none⟩ = some (.int .i64 q.x3) ∧ w3.cell? ⟨gh, k, none⟩ = some (.int .i64 q.h) := ⟨d0, d1, d2, d3, d4⟩
      go_region_held3 (fun w' => w'.cell? ⟨gj, k * 4, none⟩ = some (.int .i64 q.x0) ∧ w'.cell? ⟨gj, k * 4 + 1, none⟩ = some (.int .i64 q.x1) ∧ w'.cell? ⟨gj, k * 4 + 2, none⟩ = some (.int .i64 q.x2) ∧ w'.cell? ⟨gj, k * 4 + 3, none⟩ = some (.int .i64 q.x3) ∧ w'.cell? ⟨gh, k, none⟩ = some (.int .i64 q.h)) (go_keep) (fail)
      all_goals
        clear hS0 d0 d1 d2 d3 d4
        have hb3 := HB3.out
        go_wp2_with fail
        refine (LD.out _ (by go_grown)).mono ?_
        rintro e w4 ⟨b, rfl, hno2, hb4⟩
        replace hb4 := undrew hb4
        have hT4 := (hb4.block w3.heap.size (by simp)).trans (heap_alloc_new _ _)
        have HB4 := Lib.hid ((HB3.out.alloc (Nat.le_trans hz hz3) (.cells #[.int .i64 q.x0, .int .i64 q.x1, .int .i64 q.x2, .int .i64 q.x3] 36)).trans (hb4.mono (by simp; omega)))
        have hz4 := blkLt hT4
        have HT4 := Lib.hid hT4
        have HN2 := Lib.hid hno2
        clear hb3 hb4 hT4 hno2
        cases b with
        | false =>
          have HN := Lib.hid (show innW m u = [] by
            rw [HIN.out, innF, List.map_eq_nil_iff, List.filter_eq_nil_iff]
            intro v hv hf
            exact HN2.out rfl v hv (spE_iff.1 hf))
          go_wp2_with fail
          go_roundw
          case rel => exact ⟨j + 1, by omega, by go_num, flat_next HNO.out HU.out HN.out, HB4.out⟩
          case measure => simp [intOf]; omega
        | true =>
          go_wp2_with fail
          refine (CW2.out _).mono ?_
          rintro e w5 ⟨v5, rfl, o5, hb5⟩
          rw [HLM.out] at o5
          have HO5 := Lib.hid (own_lessP o5 (Nat.zero_le _))
          obtain ⟨av5, cv5, rfl⟩ := own_formC o5
          have HT5 := Lib.hid ((hb5.block w3.heap.size hz4).trans HT4.out)
          have HB5 := Lib.hid (HB4.out.trans (hb5.mono HB4.out.size))
          have hz5 : w3.heap.size < w5.heap.size := blkLt HT5.out
          clear o5 hb5
          go_wp2_with fail
          go_loopw [59] (fun i wr => ∃ e : Nat, e ≤ M ∧ i = .int .i64 (e : Nat) ∧ ((words m).take e).filter (fun v => spE (fin q v) sp0) = [] ∧ Below w5.heap.size w5 wr) (fun i _ => M - (intOf i).toNat)
          case atStart => exact ⟨0, Nat.zero_le _, rfl, rfl, Below.refl _ _⟩
          case round =>
            obtain ⟨e, he, rfl, hne, hbe⟩ := hrel
            have hze := hbe.size
            by_cases hle : e < M
            · obtain ⟨x, hx⟩ : ∃ x, (words m)[e]? = some x := ⟨_, List.getElem?_eq_getElem (by rw [HLM.out]; exact hle)⟩
              have hmx := List.mem_of_getElem? hx
              obtain ⟨hxp, hxl⟩ := HPM.out x hmx
              obtain ⟨g5, rfl⟩ : ∃ g, av5 = some ⟨g, 0, none⟩ := by
                rcases HO5.out.2 with ⟨h, h0⟩ | ⟨g, cap, _, h, _⟩
                · omega
                · injection h with h; exact ⟨g, h⟩
              have c9 := (str_of HO5.out HLM.out).below (HO5.out.lt g5 rfl).2 hbe e x hx
              obtain ⟨y0, y1, y2, y3⟩ := blk4 ((hbe.block w3.heap.size hz5).trans HT5.out)
              have LX := Lib.hid (LI.out x hmx)
              have HX := Lib.hid hx
              have HNE := Lib.hid hne
              have HBE := Lib.hid hbe
              obtain ⟨T, hT⟩ : ∃ T, ofL (u ++ x) = T := ⟨_, rfl⟩
              have k1 : ∀ w : World, (Op.stringOp .add (ofL u) (ofL x)).run Try.prog w = .ok (.string T) w := fun w => concat_run (by rw [← hT]; exact ofL_append u x) (by rw [ofL_size, ofL_size, HPL.out, hxl]; omega) w
              have HTT := Lib.hid hT
              have i3 : (0 : Int) ≤ (m : Int) := by omega
              have i4 : (m : Int) < ((m + 1 : Nat) : Int) := by omega
              have HSP := Lib.hid (show spE (fin q x) sp0 = (((fin q x).x0 == 0 && ((fin q x).x1 == 0 && ((fin q x).x2 == 0 && (fin q x).x3 == 0))) && (fin q x).h == 0) from rfl)
              generalize hr : fin q x = r at *
              have HR := Lib.hid hr
              clear hx hmx hxp hxl hne hbe hT hr
              go_wp2_with fail
              refine (LX.out _).mono ?_
              rintro e6 w6 ⟨gj6, cj6, gh6, ch6, rfl, _, _, _, _, f0, f1, f2, f3, f4, hb6⟩
              have HB6 := Lib.hid (HBE.out.trans (hb6.mono hze))
              clear hb6
              cases hv : (r.x0 == 0 && (r.x1 == 0 && (r.x2 == 0 && r.x3 == 0)))
              · have HS := Lib.hid (show spE (fin q x) sp0 = false by rw [HR.out, HSP.out, hv]; rfl)
                go_wp2_with fail
                go_roundw
                case rel => exact ⟨e + 1, by omega, by go_num, filt_next HNE.out HX.out HS.out, HB6.out⟩
                case measure => simp [intOf]; omega
              · by_cases hh : r.h = 0
                · have HS := Lib.hid (show spE (fin q x) sp0 = true by rw [HR.out, HSP.out, hv, hh]; rfl)
                  have HG := Lib.hid (show (fsO n).isSome = true ∧ ofL ((fsO n).getD []) = T by
                    obtain ⟨r2, h2⟩ := filt_hit HNE.out HX.out HS.out
                    have h3 : innW m u = (u ++ x) :: r2.map fun v => u ++ v := by rw [HIN.out, innF, h2]; rfl
                    rw [HF.out, head_hit HNO.out HU.out h3]
                    exact ⟨rfl, HTT.out⟩)
                  have HBZ := Lib.hid (HB2.out.trans ((HB5.out.trans (HB6.out.mono HB5.out.size)).mono HB2.out.size))
                  go_wp2_with fail
                  go_ret2
                  exact ⟨ret_fs HG.out, HBZ.out⟩
                · have HS := Lib.hid (show spE (fin q x) sp0 = false by rw [HR.out, HSP.out, hv, beq_eq_false_iff_ne.2 hh]; rfl)
                  go_wp2_with fail
                  go_roundw
                  case rel => exact ⟨e + 1, by omega, by go_num, filt_next HNE.out HX.out HS.out, HB6.out⟩
                  case measure => simp [intOf]; omega
            · obtain rfl : e = M := by omega
              have hta : (words m).take e = words m := List.take_of_length_le (by rw [HLM.out]; exact Nat.le_refl _)
              rw [hta] at hne
              have HN := Lib.hid (show innW m u = [] by rw [HIN.out, innF, hne]; rfl)
              have HBE := Lib.hid (HB5.out.trans (hbe.mono HB5.out.size))
              clear hne hbe hta
              go_wp2_with fail
              go_roundw
              case rel => exact ⟨j + 1, by omega, by go_num, flat_next HNO.out HU.out HN.out, HBE.out⟩
              case measure => simp [intOf]; omega
    · obtain rfl : j = K := by omega
      have hta : (words k).take j = words k := List.take_of_length_le (by rw [HLK.out]; exact Nat.le_refl _)
      rw [hta] at hno
      have HR := Lib.hid (show (fsO n).isSome = false ∧ ofL ((fsO n).getD []) = ⟨#[]⟩ by rw [HF.out, hno]; exact ⟨rfl, rfl⟩)
      have HBE := Lib.hid (HB2.out.trans (hb.mono HB2.out.size))
      clear hno hb hta
      go_wp2_with fail
      go_ret2
      exact ⟨ret_fs HR.out, HBE.out⟩

def fsR (n : Int) : Option (List UInt8) := cond (inB n 1 14) (fsO n.toNat) none
def fsS (n : Int) : ByteArray := ofL ((fsR n).getD [])
def fsB (n : Int) : Bool := (fsR n).isSome
theorem ret_fsn {n : Int} (h : fsR n = none) : Ending.returned (.tuple #[.string ⟨#[]⟩, .bool false]) = Ending.returned (.tuple #[.string (fsS n), .bool (fsB n)]) := by rw [fsS, fsB, h]; rfl
theorem ret_fss {n : Int} {x : List UInt8} (h : fsR n = some x) : Ending.returned (.tuple #[.string (ofL x), .bool true]) = Ending.returned (.tuple #[.string (fsS n), .bool (fsB n)]) := by rw [fsS, fsB, h]; rfl

theorem clNumber_any (n : Int) (w : World) : Calls Try.prog 18 #[.int .i64 n] w fun e w' => e = .returned (.bool (inB n 1 14)) ∧ w = w' := by
  go_enter Try.func18, Try.ntmps18
  go_wp2_with (go_at_call 30; refine (l1In_any _ _ _ _).mono ?_; rintro e w' ⟨rfl, rfl⟩)
  go_ret
  exact ⟨rfl, rfl⟩

set_option maxRecDepth 100000 in
theorem spFirstClosed (n : Int) (w : World) : Calls Try.prog 7 #[.int .i64 n] w fun e w' => e = .returned (.tuple #[.string (fsS n), .bool (fsB n)]) ∧ Below w.heap.size w w' := by
  have CN := Lib.hid (clNumber_any n)
  cases h1 : inB n 1 14
  · have HN := Lib.hid (show fsR n = none by simp [fsR, h1])
    rw [h1] at CN
    go_enter Try.func7, Try.ntmps7
    go_wp2_with (go_at_call 18; refine (CN.out _).mono ?_; rintro e w' ⟨rfl, rfl⟩)
    go_ret2
    exact ⟨ret_fsn HN.out, by go_grown⟩
  · have g1 : 1 ≤ n ∧ n ≤ 14 := by simpa [inB] using h1
    obtain ⟨m, rfl⟩ : ∃ m : Nat, n = m := ⟨n.toNat, by omega⟩
    rw [h1] at CN
    have P := Lib.hid (clFirst_any m (by omega) (by omega))
    have HS := Lib.hid (show fsS (m : Int) = ofL ((fsO m).getD []) by simp [fsS, fsR, h1])
    have HB := Lib.hid (show fsB (m : Int) = (fsO m).isSome by simp [fsB, fsR, h1])
    rw [HS.out, HB.out]
    generalize ofL ((fsO m).getD []) = x at *
    generalize (fsO m).isSome = b at *
    go_enter Try.func7, Try.ntmps7
    go_wp2_with (go_at_call 18; refine (CN.out _).mono ?_; rintro e w' ⟨rfl, rfl⟩)
    refine (P.out _).mono ?_
    rintro e w1 ⟨rfl, hb1⟩
    have HB1 := Lib.hid hb1
    clear hb1
    go_wp2_with fail
    go_ret2
    exact ⟨rfl, HB1.out⟩

set_option maxRecDepth 100000 in
theorem imFirstClosed (n : Int) (w : World) : Calls Try.prog 8 #[.int .i64 n] w fun e w' => e = .returned (.tuple #[.string (fsS n), .bool (fsB n)]) ∧ Below w.heap.size w w' := by
  cases h1 : inB n 1 14
  · have HN := Lib.hid (show fsR n = none by simp [fsR, h1])
    have L := Lib.hid (isInRange_any n 1 14)
    rw [h1] at L
    go_enter Try.func8, Try.ntmps8
    go_wp2_with (go_at_call 20; refine (L.out _).mono ?_; rintro e w' ⟨rfl, rfl⟩)
    go_ret2
    exact ⟨ret_fsn HN.out, by go_grown⟩
  · have g1 : 1 ≤ n ∧ n ≤ 14 := by simpa [inB] using h1
    obtain ⟨m, rfl⟩ : ∃ m : Nat, n = m := ⟨n.toNat, by omega⟩
    have L := Lib.hid (isInRange_any (m : Int) 1 14)
    rw [h1] at L
    have P := Lib.hid (fun w => (closings_any sp0 (sp0_ok.mono (by omega)) m (by omega) w : Calls Try.prog 21 #[.agg #[.int .i64 0, .int .i64 0, .int .i64 0, .int .i64 0, .int .i64 0], .int .i64 (m : Nat)] w (StrPost (clsL sp0 m) w)))
    have hR : fsR (m : Int) = (clsL sp0 m).head? := by simp [fsR, h1, fsO]
    have hlen := cls_len sp0 m
    have h3 : 3 ^ m ≤ 4782969 := Nat.pow_le_pow_right (by decide) (show m ≤ 14 by omega)
    generalize clsL sp0 m = l at *
    cases l with
    | nil =>
      have HR := Lib.hid hR
      clear hR hlen
      go_enter Try.func8, Try.ntmps8
      go_wp2_with (go_at_call 20; refine (L.out _).mono ?_; rintro e w' ⟨rfl, rfl⟩)
      refine (P.out _).mono ?_
      rintro e w1 ⟨v, rfl, o1, hb1⟩
      obtain ⟨av, cv, rfl⟩ := own_formC o1
      have HB1 := Lib.hid hb1
      clear o1 hb1
      go_wp2_with fail
      go_ret2
      exact ⟨ret_fsn HR.out, HB1.out⟩
    | cons x r =>
      have HR := Lib.hid hR
      obtain ⟨k, hk⟩ : ∃ k, (x :: r).length = k := ⟨_, rfl⟩
      have HK := Lib.hid hk
      have hk1 : 1 ≤ k := by rw [← hk, List.length_cons]; omega
      rw [hk] at hlen
      have hkz : ¬ k = 0 := by omega
      clear hR hk
      go_enter Try.func8, Try.ntmps8
      go_wp2_with (go_at_call 20; refine (L.out _).mono ?_; rintro e w' ⟨rfl, rfl⟩)
      refine (P.out _).mono ?_
      rintro e w1 ⟨v, rfl, o1, hb1⟩
      rw [HK.out] at o1
      obtain ⟨g, cap, rfl, _⟩ := o1.form hk1
      have c0 := str_of o1 HK.out 0 x rfl
      have HB1 := Lib.hid hb1
      clear o1 hb1
      go_wp2_with fail
      go_ret2
      exact ⟨ret_fss HR.out, HB1.out⟩

end Go.Proofs.Ytadlkmfgjmcgeab
