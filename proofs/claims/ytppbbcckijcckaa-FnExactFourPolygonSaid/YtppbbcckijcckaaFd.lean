/- Contracts: the joints of a track as points; its chords; FourPolygon, in the model and in the program. -/
import Derived.Test.YtppbbcckijcckaaFb
import Derived.Test.YtppbbcckijcckaaCc
import Derived.Test.YtppbbcckijcckaaJt
import Derived.Test.YtppbbcckijcckaaSdAdd
namespace Go.Proofs.Ytppbbcckijcckaa
open Go.ChangeShapes Go.WideShapes Go.ChangeAt Go.RowKit Go.Sort

set_option linter.unusedVariables false
set_option linter.unusedSimpArgs false

def Sp.pn (s : Sp) : Pn := ⟨s.x0, s.x1, s.x2, s.x3⟩

/-- The joints of a track. -/
def jp (s : ByteArray) : List Pn := (lays sp0 s.data.toList).map Sp.pn

theorem jp_len (s : ByteArray) : (jp s).length = s.size + 1 := by simp [jp, lays_lenA]

theorem lays_ok7 {a : Sp} {n : Int} (h : a.okB n) (l : List UInt8) : ∀ p ∈ lays a l, p.okB (n + 2 * l.length) := by
  induction l generalizing a n with
  | nil => intro p hp; simp [lays] at hp; subst hp; simpa using h
  | cons c l ih =>
    intro p hp
    rcases List.mem_cons.1 hp with hp | hp
    · subst hp; exact h.mono (by omega)
    · have := ih (h.next c) p hp
      exact this.mono (by simp only [List.length_cons]; push_cast; omega)

theorem jp_bd {s : ByteArray} (ht : tkB s = true) : ∀ x ∈ jp s, Bd 100000 x := by
  intro x hx
  simp only [jp, List.mem_map] at hx
  obtain ⟨p, hp, rfl⟩ := hx
  have h := lays_ok7 sp0_ok s.data.toList p hp
  have h40 := tkB_size ht
  have hl : s.data.toList.length = s.size := size_list s
  rw [hl] at h
  obtain ⟨h0, h1, h2, h3, _⟩ := h
  unfold Bd Sp.pn
  simp only
  omega

theorem rowP_own {W : World} {B n g cap : Nat} {e : TypeId} {s : ByteArray} (h : W.ownsRow B e 4 (.slice (some ⟨g, 0, none⟩) (s.size + 1) cap) (s.size + 1) (ptCells (lays sp0 s.data.toList))) : RowP W g (jp s) := fun k p hp => by
  simp only [jp, List.getElem?_map, Option.map_eq_some_iff] at hp
  obtain ⟨q, hq, rfl⟩ := hp
  exact own_pt h (lays_lenA sp0 s) hq

theorem own_lt7 {W : World} {B n g cap size : Nat} {e : TypeId} {xs : List Value} (h : W.ownsRow B e size (.slice (some ⟨g, 0, none⟩) n cap) n xs) : g < W.heap.size := (h.lt g rfl).2

theorem own_less7 {W : World} {B B' : Nat} {e : TypeId} {size n : Nat} {v : Value} {xs : List Value} (h : W.ownsRow B e size v n xs) (hB : B' ≤ B) : W.ownsRow B' e size v n xs := own_less h hB

set_option maxRecDepth 100000 in
set_option maxHeartbeats 800000 in
theorem chordsOfP (s : ByteArray) (ht : tkB s = true) (w : World) :
    Calls Try.prog 67 #[.string s] w fun e w' => ∃ v, e = .returned v ∧ w'.ownsRow w.heap.size 66 8 v s.size (chC (chds (jp s))) ∧ Below w.heap.size w w' := by
  have h40 := tkB_size ht
  go_enter Try.func67, Try.ntmps67
  go_wp2_with fail
  refine (imJointsOf_yes s ht _).mono ?_
  rintro e w1 ⟨g, cap, he, hO, hb1⟩
  replace he : e = .returned (.tuple #[.slice (some ⟨g, 0, none⟩) (s.size + 1) cap, .bool true]) := he
  subst he
  have hR := rowP_own (n := 0) hO
  have hg := own_lt7 hO
  have hz1 := hb1.size
  have C := chordsAlongP g (s.size + 1) cap (jp s) (jp_len s) (by omega) w1 hg hR
  have CC := Lib.hid C
  clear hO hR C
  go_wp2_with fail
  refine CC.out.mono ?_
  rintro e w2 ⟨v, rfl, hV, hb2⟩
  have HV := Lib.hid (own_less hV hz1)
  have HB := Lib.hid (ba hb1 hb2)
  clear hV hb2
  go_wp2_with fail
  go_ret
  exact ⟨_, rfl, HV.out, HB.out⟩

theorem cx_self (p : Pn) : p.cx p = 0 := by
  apply Su.ext' <;> simp only [Pn.cx, Pn.mir, Pn.mul, Pn.ty, Su.zero_x, Su.zero_r] <;> grind

theorem ring_chds (l : List Pn) (a : Pn) (h0 : l.head? = some a) (h1 : l.getLast? = some a) : sumC (ring l) = sumC (chds l) := by
  have hl : 0 < l.length := by cases l with
    | nil => simp at h0
    | cons x l => simp
  have e : ring l = chds l ++ [(a, a)] := by
    apply List.ext_getElem?
    intro i
    by_cases hi : i + 1 < l.length
    · have hp := List.getElem?_eq_getElem (l := l) (i := i) (by omega)
      have hq := List.getElem?_eq_getElem (l := l) (i := i + 1) hi
      rw [List.getElem?_append_left (by rw [chds_length]; omega), chds_get l i _ _ hp hq]
      simp only [ring, List.getElem?_map, List.getElem?_range (show i < l.length by omega), Option.map_some, Nat.mod_eq_of_lt hi]
      rw [getElem!_pos l i (by omega), getElem!_pos l (i + 1) hi]
    · by_cases hi2 : i + 1 = l.length
      · rw [List.getElem?_append_right (by rw [chds_length]; omega), chds_length, show i - (l.length - 1) = 0 by omega]
        simp only [ring, List.getElem?_map, List.getElem?_range (show i < l.length by omega), Option.map_some, hi2, Nat.mod_self]
        have e1 : l[i]! = a := by
          rw [getElem!_pos l i (by omega)]
          rw [List.getLast?_eq_getElem?, show l.length - 1 = i by omega, List.getElem?_eq_getElem (by omega)] at h1
          simpa using h1
        have e2 : l[0]! = a := by
          rw [getElem!_pos l 0 hl]
          rw [List.head?_eq_getElem?, List.getElem?_eq_getElem hl] at h0
          simpa using h0
        rw [e1, e2]; rfl
      · rw [List.getElem?_eq_none (by simp [ring]; omega), List.getElem?_eq_none (by simp [chds_length]; omega)]
  rw [e, sumC_snoc]
  simp only [cx_self]
  apply Su.ext' <;> simp [Su.add_x, Su.add_r, Su.zero_x, Su.zero_r]

/-- A closed track's last joint is its first one. -/
theorem jp_closed {s : ByteArray} (h : clB s = true) : ∃ a, (jp s).head? = some a ∧ (jp s).getLast? = some a ∧ 1 ≤ s.size := by
  have ht := clB_tk h
  rw [clB_yes ht] at h
  simp only [Bool.and_eq_true, decide_eq_true_eq, zS] at h
  have hl : (jp s).getLast? = some (fin sp0 s.data.toList).pn := by
    rw [List.getLast?_eq_getElem?, jp_len, Nat.add_sub_cancel]
    simp only [jp, List.getElem?_map, lays_atA, Option.map_some]
  have hz := h.2.1
  rw [zP, enS_yes ht] at hz
  simp only [Bool.and_eq_true, beq_iff_eq] at hz
  refine ⟨(fin sp0 s.data.toList).pn, ?_, hl, h.1⟩
  have h0 : (jp s).head? = some sp0.pn := by
    unfold jp
    cases hd : s.data.toList <;> rfl
  rw [h0]
  congr 1
  unfold Sp.pn
  rw [hz.1, hz.2.1, hz.2.2.1, hz.2.2.2]
  rfl

/-- Four times the area of the polygon of a closed track. -/
def fpS (s : ByteArray) : Su := cond (clB s) (sumC (chds (jp s))) 0

theorem chds_bd {l : List Pn} (h : ∀ x ∈ l, Bd 100000 x) : ∀ x ∈ chds l, Bd 100000 x.1 ∧ Bd 100000 x.2 := by
  match l with
  | [] => intro x hx; simp [chds] at hx
  | [a] => intro x hx; simp [chds] at hx
  | a :: b :: l =>
    intro x hx
    simp only [chds, List.mem_cons] at hx
    rcases hx with rfl | hx
    · exact ⟨h _ (by simp), h _ (by simp)⟩
    · exact chds_bd (l := b :: l) (fun y hy => h y (by simp at hy ⊢; exact .inr hy)) x hx

theorem fpS_no {s : ByteArray} (h : clB s = false) : fpS s = 0 := by simp [fpS, h]

theorem fpS_yes {s : ByteArray} (h : clB s = true) : fpS s = sumC (chds (jp s)) := by simp [fpS, h]

theorem fp_bd {s : ByteArray} (h : clB s = true) : Bs 100000000000000 (sumC (chds (jp s))) := by
  have ht := clB_tk h
  have h40 := tkB_size ht
  have hm : ∀ x ∈ chds (jp s), Bd 100000 x.1 ∧ Bd 100000 x.2 := chds_bd (jp_bd ht)
  have := sumC_bd (chds (jp s)) hm (chds (jp s)).length (Nat.le_refl _)
  rw [List.take_length] at this
  refine this.mono ?_
  rw [chds_length, jp_len]
  omega

theorem surdB_of {s : Su} (h : Bs 1000000000000000 s) : surdB 1000000000000000 s.x s.r = true := by
  unfold Bs at h
  unfold surdB inB
  simp only [Bool.and_eq_true, decide_eq_true_eq]
  exact h

set_option maxRecDepth 100000 in
set_option maxHeartbeats 800000 in
theorem spFourPolygon (s : ByteArray) (hs : s.size ≤ 1048576) (w : World) :
    Calls Try.prog 24 #[.string s] w fun e w' => e = .returned (.tuple #[.agg #[.int .i64 (fpS s).x, .int .i64 (fpS s).r], .bool (clB s)]) ∧ Below w.heap.size w w' := by
  have CG := clGood_any s hs
  cases hc : clB s <;> rw [hc] at CG
  · rw [fpS_no hc]
    have CG := Lib.hid CG
    go_enter Try.func24, Try.ntmps24
    go_wp2_with (go_at_call 61; (with_reducible refine (CG.out _).mono ?_); rintro e wA ⟨rfl, h1⟩; (try with_reducible replace h1 := undrew h1); have hB : Below w.heap.size w wA := ba (by go_grown) h1; obtain ⟨hcwA, hfwA⟩ := bcell h1; have hqwA := h1.size; (try simp at hqwA); (try have hz0wA : w.heap.size < wA.heap.size := (by omega)); (try have he0wA : w.heap.size ≤ wA.heap.size := (by omega)))
    refine bodyPost_ret (by simp [results, Try.results24, go_sem, *]; try rfl) rfl ?_
    exact ⟨rfl, by go_grown⟩
  · have ht := clB_tk hc
    have h40 := tkB_size ht
    obtain ⟨a, h0, h1, hs1⟩ := jp_closed hc
    rw [fpS_yes hc, ← ring_chds _ a h0 h1]
    have CG := Lib.hid CG
    go_enter Try.func24, Try.ntmps24
    go_wp2_with fail
    (go_at_call 61; (with_reducible refine (CG.out _).mono ?_); rintro e wA ⟨rfl, h1⟩; (try with_reducible replace h1 := undrew h1); have hB : Below w.heap.size w wA := ba (by go_grown) h1; obtain ⟨hcwA, hfwA⟩ := bcell h1; have hqwA := h1.size; (try simp at hqwA); (try have hz0wA : w.heap.size < wA.heap.size := (by omega)); (try have he0wA : w.heap.size ≤ wA.heap.size := (by omega)))
    go_wp2_with fail
    refine (tkJoints_yes s ht _).mono ?_
    rintro er w1 ⟨g, cap, rfl, hO, hb1⟩
    have hR := rowP_own (n := 0) hO
    have hg := own_lt7 hO
    have AP := Lib.hid (arPolygonP g (s.size + 1) cap (jp s) (jp_len s) (by omega) (jp_bd ht) w1 hg hR)
    have hz1 := hb1.size
    have y0 : w.heap.size < w1.heap.size := by omega
    have f0 : ∀ i, w1.frozen? ⟨w.heap.size, i, none⟩ = false := fun i => by rw [hb1.frozen (p := ⟨w.heap.size, i, none⟩) (by omega)]; go_simp
    have q0 : w1.cell? ⟨w.heap.size, 0, none⟩ = some (.int .i64 0) := by rw [hb1.cell (p := ⟨w.heap.size, 0, none⟩) (by omega)]; go_simp
    have q1 : w1.cell? ⟨w.heap.size, 1, none⟩ = some (.int .i64 0) := by rw [hb1.cell (p := ⟨w.heap.size, 1, none⟩) (by omega)]; go_simp
    have hBx : Below w.heap.size w w1 := ba hB hb1
    clear hO hR hcwA hfwA hb1
    go_wp2_with fail
    refine AP.out.mono ?_
    rintro er w2 ⟨rfl, hb2⟩
    obtain ⟨hc2, hf2⟩ := bcell hb2
    have hz2 := hb2.size
    have hB2 : Below w.heap.size w w2 := ba hBx hb2
    go_wp2_with fail
    refine bodyPost_ret (by simp [results, Try.results24, go_sem, *]; try rfl) rfl ?_
    exact ⟨rfl, by go_grown⟩

set_option maxRecDepth 100000 in
set_option maxHeartbeats 800000 in
theorem imFourPolygon (s : ByteArray) (hs : s.size ≤ 1048576) (w : World) :
    Calls Try.prog 25 #[.string s] w fun e w' => e = .returned (.tuple #[.agg #[.int .i64 (fpS s).x, .int .i64 (fpS s).r], .bool (clB s)]) ∧ Below w.heap.size w w' := by
  have CG := isClosed_any s hs
  cases hc : clB s <;> rw [hc] at CG
  · rw [fpS_no hc]
    have CG := Lib.hid CG
    go_enter Try.func25, Try.ntmps25
    go_wp2_with (go_at_call 64; (with_reducible refine (CG.out _).mono ?_); rintro e wA ⟨rfl, h1⟩; (try with_reducible replace h1 := undrew h1); have hB : Below w.heap.size w wA := ba (by go_grown) h1; obtain ⟨hcwA, hfwA⟩ := bcell h1; have hqwA := h1.size; (try simp at hqwA); (try have hz0wA : w.heap.size < wA.heap.size := (by omega)); (try have he0wA : w.heap.size ≤ wA.heap.size := (by omega)))
    refine bodyPost_ret (by simp [results, Try.results25, go_sem, *]; try rfl) rfl ?_
    exact ⟨rfl, by go_grown⟩
  · have ht := clB_tk hc
    have h40 := tkB_size ht
    obtain ⟨a, h0, h1, hs1⟩ := jp_closed hc
    rw [fpS_yes hc]
    have CG := Lib.hid CG
    have SB := surdB_of ((fp_bd hc).mono (by omega))
    have ON := imOnlySurd_any (sumC (chds (jp s))).x (sumC (chds (jp s))).r
    rw [SB] at ON
    have ON := Lib.hid ON
    have HL : (chds (jp s)).length = s.size := by rw [chds_length, jp_len]; omega
    have HM := Lib.hid (chds_bd (jp_bd ht))
    clear SB
    go_enter Try.func25, Try.ntmps25
    go_wp2_with fail
    (go_at_call 64; (with_reducible refine (CG.out _).mono ?_); rintro e wA ⟨rfl, h1⟩; (try with_reducible replace h1 := undrew h1); have hB : Below w.heap.size w wA := ba (by go_grown) h1; obtain ⟨hcwA, hfwA⟩ := bcell h1; have hqwA := h1.size; (try simp at hqwA); (try have hz0wA : w.heap.size < wA.heap.size := (by omega)); (try have he0wA : w.heap.size ≤ wA.heap.size := (by omega)))
    go_wp2_with fail
    refine (chordsOfP s ht _).mono ?_
    rintro er w1 ⟨v, rfl, hO, hb1⟩
    obtain ⟨g, cap, rfl, _⟩ := hO.form (by omega)
    have hR := RowC.own hO HL
    have hg := own_lt7 hO
    have AP := Lib.hid (fourAreaP g s.size cap (chds (jp s)) HL (by omega) HM.out w1 hg hR)
    have hz1 := hb1.size
    have y0 : w.heap.size < w1.heap.size := by omega
    have f0 : ∀ i, w1.frozen? ⟨w.heap.size, i, none⟩ = false := fun i => by rw [hb1.frozen (p := ⟨w.heap.size, i, none⟩) (by omega)]; go_simp
    have q0 : w1.cell? ⟨w.heap.size, 0, none⟩ = some (.int .i64 0) := by rw [hb1.cell (p := ⟨w.heap.size, 0, none⟩) (by omega)]; go_simp
    have q1 : w1.cell? ⟨w.heap.size, 1, none⟩ = some (.int .i64 0) := by rw [hb1.cell (p := ⟨w.heap.size, 1, none⟩) (by omega)]; go_simp
    have hBx : Below w.heap.size w w1 := ba hB hb1
    clear hO hR hcwA hfwA hb1
    go_wp2_with fail
    refine AP.out.mono ?_
    rintro er w2 ⟨rfl, hb2⟩
    obtain ⟨hc2, hf2⟩ := bcell hb2
    have hz2 := hb2.size
    have hB2 : Below w.heap.size w w2 := ba hBx hb2
    have y1 : w.heap.size < w2.heap.size := by omega
    go_wp2_with fail
    (go_at_call 65; (with_reducible refine (ON.out _).mono ?_); rintro e w3 ⟨rfl, h1⟩; (try with_reducible replace h1 := undrew h1); have hB : Below w.heap.size w w3 := ba (by go_grown) h1; obtain ⟨hcw3, hfw3⟩ := bcell h1; have hqw3 := h1.size; (try simp at hqw3); (try have hz0w3 : w.heap.size < w3.heap.size := (by omega)); (try have he0w3 : w.heap.size ≤ w3.heap.size := (by omega)))
    go_wp2_with fail
    refine bodyPost_ret (by simp [results, Try.results25, go_sem, *]; try rfl) rfl ?_
    exact ⟨rfl, by go_grown⟩

end Go.Proofs.Ytppbbcckijcckaa
