/- Contracts and facts, put together (part 1). Conditions: each says its own. -/
import Derived.Test.YtppbbcckijcckaaR2
import Derived.Deep.RegionLawGrows
import Derived.Test.YtppbbcckijcckaaShelfC
import Derived.Deep.QuietTactic
import Derived.BigQuiet
import Derived.Lib.OthersKept
import Derived.WalkSmall

/- Contract: a list of points and one more, in new memory. -/
namespace Go.Proofs.Ytppbbcckijcckaa
open Go.ChangeShapes Go.WideShapes Go.ChangeAt Go.RowKit Go.Sort

set_option linter.unusedVariables false
set_option linter.unusedSimpArgs false

def pnCs (l : List Pn) : List Value := l.flatMap pnC

theorem pnCs_append (l m : List Pn) : pnCs (l ++ m) = pnCs l ++ pnCs m := by simp [pnCs]

theorem pnCs_length : ∀ l : List Pn, (pnCs l).length = l.length * 4
  | [] => rfl
  | x :: l => by
    have := pnCs_length l
    simp only [pnCs, List.flatMap_cons, List.length_append, List.length_cons] at this ⊢
    rw [this]; simp [pnC]; omega

theorem pnCs_get : ∀ (l : List Pn) (k : Nat) (x : Pn) (i : Nat), l[k]? = some x → i < 4 → (pnCs l)[k * 4 + i]? = (pnC x)[i]?
  | [], _, _, _, h, _ => by simp at h
  | y :: l, 0, x, i, h, hi => by
    simp at h; subst h
    simp only [pnCs, List.flatMap_cons, Nat.zero_mul, Nat.zero_add]
    rw [List.getElem?_append_left (by simp [pnC]; omega)]
  | y :: l, k + 1, x, i, h, hi => by
    have ih := pnCs_get l k x i (by simpa using h) hi
    simp only [pnCs, List.flatMap_cons] at ih ⊢
    rw [List.getElem?_append_right (by simp [pnC]; omega)]
    rw [← ih]; congr 1; simp [pnC]; omega

theorem pnCs_one (l : List Pn) : ∀ u ∈ pnCs l, u.oneCell' = true := by
  intro u hu
  obtain ⟨x, _, hx⟩ := List.mem_flatMap.1 hu
  simp [pnC] at hx
  rcases hx with rfl | rfl | rfl | rfl <;> rfl

/-- The cells of points that lie in a row. -/
theorem RowP.cells {w : World} {g : Nat} {l : List Pn} (h : RowP w g l) : ∀ (j : Nat) (u : Value), (pnCs l)[j]? = some u → w.cell? ((⟨g, 0, none⟩ : Addr).add j) = some u := by
  intro j u hu
  have hj := (List.getElem?_eq_some_iff.1 hu).1
  rw [pnCs_length] at hj
  have hk : j / 4 < l.length := by omega
  have hx : l[j / 4]? = some l[j / 4] := List.getElem?_eq_getElem hk
  generalize l[j / 4] = x at hx
  have e : j = j / 4 * 4 + j % 4 := by omega
  have hi : j % 4 < 4 := by omega
  rw [e, pnCs_get l _ x _ hx hi] at hu
  obtain ⟨c0, c1, c2, c3⟩ := h _ x hx
  have ha : ((⟨g, 0, none⟩ : Addr).add j) = ⟨g, j, none⟩ := by by_cases e : j = 0 <;> simp [Addr.add, e]
  rw [ha, e]
  generalize j / 4 * 4 = B at *
  generalize j % 4 = i at *
  match i, hi with
  | 0, _ => simp [pnC] at hu; subst hu; exact c0
  | 1, _ => simp [pnC] at hu; subst hu; exact c1
  | 2, _ => simp [pnC] at hu; subst hu; exact c2
  | 3, _ => simp [pnC] at hu; subst hu; exact c3

theorem RowP.of_own {W : World} {B n g cap : Nat} {e : TypeId} {l : List Pn} (h : W.ownsRow B e 4 (.slice (some ⟨g, 0, none⟩) n cap) n (pnCs l)) (hn : l.length = n) : RowP W g l := fun k x hp => by
  have hk : k < n := by rw [← hn]; exact (List.getElem?_eq_some_iff.1 hp).1
  have c : ∀ (i : Nat) (v : Value), i < 4 → (pnC x)[i]? = some v → W.cell? ⟨g, k * 4 + i, none⟩ = some v := fun i v hi hv => by
    rw [h.cellAt (k * 4 + i) (by omega), pnCs_get l k x i hp hi]; exact hv
  exact ⟨c 0 _ (by omega) rfl, c 1 _ (by omega) rfl, c 2 _ (by omega) rfl, c 3 _ (by omega) rfl⟩

theorem own_cap8 {W : World} {B n g cap size : Nat} {e : TypeId} {xs : List Value} (h : W.ownsRow B e size (.slice (some ⟨g, 0, none⟩) n cap) n xs) : n ≤ cap := by
  obtain ⟨_, h⟩ := h
  rcases h with ⟨h, _⟩ | ⟨g', c', cur, h, _, _, h3, _⟩
  · cases h
  · injection h with _ _ hc
    rw [hc]; exact h3

/-- A row that is cut behind. -/
theorem own_cut7 {w : World} {B : Nat} {e : TypeId} {size g n cap m : Nat} {xs ys : List Value} (h : w.ownsRow B e size (.slice (some ⟨g, 0, none⟩) n cap) n xs) (hm : m ≤ n) (hy : ys = xs.take (m * size)) : w.ownsRow B e size (.slice (some ⟨g, 0, none⟩) m cap) m ys := by
  obtain ⟨hl, h⟩ := h
  rcases h with ⟨h, _⟩ | ⟨g', c', cur, h, h1, h2, h3, h4, h5, h6⟩
  · cases h
  · injection h with ha _ hc
    injection ha with ha
    injection ha with ha
    subst ha; subst hc
    have hmn : m * size ≤ n * size := Nat.mul_le_mul_right _ hm
    refine ⟨?_, .inr ⟨g, cap, cur, rfl, h1, h2, by omega, h4, h5, ?_⟩⟩
    · rw [hy, List.length_take, hl, Nat.min_eq_left hmn]
    · rw [hy, ← h6, List.take_take, Nat.min_eq_left hmn]

theorem own_slice7 {w : World} {B : Nat} {e : TypeId} {size n : Nat} {v : Value} {xs : List Value} (h : w.ownsRow B e size v n xs) : ∃ a c, v = .slice a n c := by
  rcases h.2 with ⟨h, h0⟩ | ⟨g', c', _, h, _⟩
  · exact ⟨none, 0, by rw [h, h0]⟩
  · exact ⟨_, _, h⟩

theorem pnCs_take (l : List Pn) (m : Nat) : (pnCs l).take (m * 4) = pnCs (l.take m) := by
  by_cases h : m ≤ l.length
  · conv => lhs; rw [← List.take_append_drop m l, pnCs_append]
    rw [List.take_append_of_le_length (by rw [pnCs_length, List.length_take]; omega), List.take_of_length_le (by rw [pnCs_length, List.length_take]; omega)]
  · rw [List.take_of_length_le (by rw [pnCs_length]; omega), List.take_of_length_le (by omega)]

set_option maxRecDepth 100000 in
set_option maxHeartbeats 1600000 in
theorem withBehindP (g n cap : Nat) (l : List Pn) (p : Pn) (hn : l.length = n) (hn0 : 0 < n) (hb : n ≤ 1000000) (hcap : n ≤ cap) (w : World) (hg : g < w.heap.size) (h1 : RowP w g l) :
    Calls Try.prog 102 #[.slice (some ⟨g, 0, none⟩) n cap, pv p] w fun e w' => ∃ g' cap', e = .returned (.slice (some ⟨g', 0, none⟩) (n + 1) cap') ∧ w'.ownsRow w.heap.size 26 4 (.slice (some ⟨g', 0, none⟩) (n + 1) cap') (n + 1) (pnCs (l ++ [p])) ∧ Below w.heap.size w w' := by
  obtain ⟨i0, hi, iz0, iz1, iz2⟩ := info_parts ptInfo
  have HLO := Lib.hid (show (pnCs l).length = n * 4 by rw [pnCs_length, hn])
  have HC := Lib.hid (fun w' (hw : Below w.heap.size w w') => (h1.below hg hw).cells)
  have n1 : (0 : Int) ≤ (n : Int) := by omega
  have n2 : (n : Int) ≤ (cap : Int) := by omega
  have n3 : (n : Int) ≤ 9223372036854775807 := by omega
  clear h1
  go_enter Try.func102, Try.ntmps102
  go_wp2_with fail
  go_region_law ((refine step_append_grows (by rfl) _ _ 47 (by rfl) 26 i0 _ 4 32 Try.underlying47 hi iz0 iz1 iz2 (by rfl) (by decide) (some ⟨g, 0, none⟩) n n (pnCs l) ?hs (by intro h; cases h) HLO.out ?hold ⟨w.heap.size + 1, 0, none⟩ 1 1 (pnC p) ?hx (by rfl) ?hnews (by intro u hu; simp [pnC] at hu; rcases hu with rfl | rfl | rfl | rfl <;> rfl) (by omega) (by unfold maxLen; omega) (by omega) ?_); (case hs => first | rfl | (simp [Act.eval, Act.put]; done)); (case hx => first | rfl | (simp [Act.eval, Act.put]; done)); (case hold => intro b hb; injection hb with hb; subst hb; exact HC.out _ (by go_grown)); (case hnews => exact newc7 (by simp)); intro v' W' hown hgr; obtain ⟨g', cap', rfl, hg1, hg2⟩ := hown.form (by omega); have HB2 := Lib.hid (Below.grown (by go_grown) hgr (by simp; omega) (fun k hk => by cases hk) : Below w.heap.size w W'); have HO := Lib.hid (own_less hown (B' := w.heap.size) (by simp; omega)); clear hown hgr)
  all_goals
    go_wp2_with fail
    go_ret
    exact ⟨_, _, rfl, by rw [pnCs_append]; exact HO.out, HB2.out⟩

end Go.Proofs.Ytppbbcckijcckaa

/- Contracts: IsConvexTrack, in the model and in the program. -/
namespace Go.Proofs.Ytppbbcckijcckaa
open Go.ChangeShapes Go.WideShapes Go.ChangeAt Go.RowKit Go.Sort

set_option linter.unusedVariables false
set_option linter.unusedSimpArgs false

theorem numInfo8 : (Try.prog.info? 3).map (fun i => (i.zero, i.size, i.bytes)) = some (some (.int .i64 0), 1, 8) := by kernel_rfl

/-- The sides that a closed track turns to at its joints. -/
def sds (l : List Pn) (n : Nat) : List Int := (List.range n).map fun j => Pn.sd l[j]! l[j + 1]! l[(j + 1) % n + 1]!

theorem sds_len (l : List Pn) (n : Nat) : (sds l n).length = n := by simp [sds]

theorem get_of {l : List Pn} {i : Nat} {x : Pn} (h : l[i]? = some x) : l[i]! = x := by
  rw [getElem!_pos l i (List.getElem?_eq_some_iff.1 h).1]; exact (List.getElem?_eq_some_iff.1 h).2

theorem sds_take {l : List Pn} {n k : Nat} (hk : k < n) {p q r : Pn} (hp : l[k]? = some p) (hq : l[k + 1]? = some q) (hr : l[(k + 1) % n + 1]? = some r) : (sds l n).take (k + 1) = (sds l n).take k ++ [Pn.sd p q r] := by
  rw [List.take_add_one]
  congr 1
  unfold sds
  rw [List.getElem?_map, List.getElem?_range hk]
  simp only [Option.map_some, Option.toList_some, get_of hp, get_of hq, get_of hr]

def anyL (l : List Int) : Bool := l.any fun v => decide (0 < v)

def anyR (l : List Int) : Bool := l.any fun v => decide (v < 0)

theorem anyL_snoc (l : List Int) (v : Int) : anyL (l ++ [v]) = (anyL l || decide (0 < v)) := by simp [anyL]

theorem anyR_snoc (l : List Int) (v : Int) : anyR (l ++ [v]) = (anyR l || decide (v < 0)) := by simp [anyR]

theorem sds_three (l : List Pn) (n : Nat) : ∀ v ∈ sds l n, v = 1 ∨ v = 0 ∨ v = -1 := by
  intro v hv
  obtain ⟨j, _, rfl⟩ := List.mem_map.1 hv
  exact sd_three _ _ _

theorem has_one {l : List Int} (h : ∀ v ∈ l, v = 1 ∨ v = 0 ∨ v = -1) : l.contains 1 = anyL l := by
  rw [Bool.eq_iff_iff]
  unfold anyL
  simp only [List.contains_iff_mem, List.any_eq_true, decide_eq_true_eq]
  constructor
  · intro k; exact ⟨1, k, by decide⟩
  · rintro ⟨v, hv, hp⟩
    rcases h v hv with e | e | e
    · rw [e] at hv; exact hv
    · omega
    · omega

theorem has_neg {l : List Int} (h : ∀ v ∈ l, v = 1 ∨ v = 0 ∨ v = -1) : l.contains (-1) = anyR l := by
  rw [Bool.eq_iff_iff]
  unfold anyR
  simp only [List.contains_iff_mem, List.any_eq_true, decide_eq_true_eq]
  constructor
  · intro k; exact ⟨-1, k, by decide⟩
  · rintro ⟨v, hv, hp⟩
    rcases h v hv with e | e | e
    · omega
    · omega
    · rw [e] at hv; exact hv

/-- What IsConvexTrack answers. -/
def cvR (s : ByteArray) : Bool := siR s && !(anyL (sds (jp s) s.size) && anyR (sds (jp s) s.size))

theorem cvR_no {s : ByteArray} (h : clB s = false) : cvR s = false := by simp [cvR, siR, plR, h]

theorem tk_asc7 {s : ByteArray} (ht : tkB s = true) : ∀ pos (h : pos < s.size), (s[pos]'h).toNat < 128 := fun pos h => by
  have hm : s[pos]'h ∈ s.data.toList := by
    have : s[pos]'h = s.data.toList[pos]'(by simpa using h) := rfl
    rw [this]; exact List.getElem_mem _
  have ha : s.data.toList.all pcb = true := by
    have := ht
    simp only [tkB, Bool.and_eq_true] at this
    exact this.2
  rcases pcb_cases (List.all_eq_true.1 ha _ hm) with e | e | e <;> rw [e] <;> decide

set_option maxRecDepth 100000 in
set_option maxHeartbeats 3200000 in
theorem spIsConvexTrack (s : ByteArray) (hs : s.size ≤ 1048576) (w : World) :
    Calls Try.prog 51 #[.string s] w fun e w' => e = .returned (.tuple #[.bool (cvR s), .bool (clB s)]) ∧ Below w.heap.size w w' := by
  have SI := spIsSimple s hs
  cases hc : clB s
  · have e0 : cvR s = false := cvR_no hc
    rw [hc] at SI
    rw [e0]
    generalize siR s = R at *
    go_enter Try.func51, Try.ntmps51
    go_wp2_with (go_at_call 35; (with_reducible refine (SI _).mono ?_); rintro e wA ⟨rfl, h1⟩; (try with_reducible replace h1 := undrew h1); have hB : Below w.heap.size w wA := ba (by go_grown) h1; obtain ⟨hcwA, hfwA⟩ := bcell h1; have hqwA := h1.size; (try simp at hqwA); (try have hz0wA : w.heap.size < wA.heap.size := (by omega)); (try have he0wA : w.heap.size ≤ wA.heap.size := (by omega)))
    go_returns
    exact ⟨rfl, by go_grown⟩
  · have ht := clB_tk hc
    have h40 := tkB_size ht
    obtain ⟨_, _, _, hs1⟩ := jp_closed hc
    rw [hc] at SI
    have hl0 := jp_len s
    have hm0 := jp_bd ht
    have hc0 := tkJoints_yes s ht
    have hr0 := fun (W : World) (B g cap : Nat) (e : TypeId) (h : W.ownsRow B e 4 (.slice (some ⟨g, 0, none⟩) (s.size + 1) cap) (s.size + 1) (ptCells (lays sp0 s.data.toList))) => rowP_own (n := 0) h
    have e0 := Lib.hid (show cvR s = (siR s && !(anyL (sds (jp s) s.size) && anyR (sds (jp s) s.size))) from rfl)
    generalize cvR s = R at *
    generalize siR s = S at *
    generalize jp s = l at *
    have HL := Lib.hid hl0
    have HM := Lib.hid hm0
    have HR := Lib.hid hr0
    clear hl0 hm0 hr0
    go_enter Try.func51, Try.ntmps51
    go_wp2_with fail
    (go_at_call 35; (with_reducible refine (SI _).mono ?_); rintro e wA ⟨rfl, h1⟩; (try with_reducible replace h1 := undrew h1); have hB : Below w.heap.size w wA := ba (by go_grown) h1; obtain ⟨hcwA, hfwA⟩ := bcell h1; have hqwA := h1.size; (try simp at hqwA); (try have hz0wA : w.heap.size < wA.heap.size := (by omega)); (try have he0wA : w.heap.size ≤ wA.heap.size := (by omega)))
    go_wp2_with fail
    refine (hc0 _).mono ?_
    rintro er w1 ⟨g, cap, rfl, hO, hb1⟩
    have hz1 := hb1.size
    have HBx := Lib.hid (show Below w.heap.size w w1 from ba hB hb1)
    have H1 := Lib.hid (HR.out _ _ _ _ _ hO)
    have hg := own_lt7 hO
    have zw : w.heap.size ≤ w1.heap.size := HBx.out.size
    clear hO hb1 hc0 hB hcwA hfwA
    go_wp2_with fail
    go_loopw [7, 8, 10] (fun a b i wr => ∃ k : Nat, k ≤ s.size ∧ a = .bool (anyL ((sds l s.size).take k)) ∧ b = .bool (anyR ((sds l s.size).take k)) ∧ i = .int .i64 k ∧ Below w1.heap.size w1 wr) (fun _ _ i _ => s.size - (intOf i).toNat)
    case atStart => exact ⟨0, Nat.zero_le _, rfl, rfl, rfl, Below.refl _ _⟩
    case round =>
      obtain ⟨k, hk, rfl, rfl, rfl, hB⟩ := hrel
      have hzr := hB.size
      have gr : g < wr.heap.size := by omega
      by_cases hlt : k < s.size
      · obtain ⟨m, hM⟩ : ∃ m, (k + 1) % s.size = m := ⟨_, rfl⟩
        have hmod : m < s.size := by rw [← hM]; exact Nat.mod_lt _ (by omega)
        obtain ⟨p, hp⟩ : ∃ x, l[k]? = some x := ⟨_, List.getElem?_eq_getElem (by rw [HL.out]; omega)⟩
        obtain ⟨q, hq⟩ : ∃ x, l[k + 1]? = some x := ⟨_, List.getElem?_eq_getElem (by rw [HL.out]; omega)⟩
        obtain ⟨r, hr⟩ : ∃ x, l[m + 1]? = some x := ⟨_, List.getElem?_eq_getElem (by rw [HL.out]; omega)⟩
        have RR := H1.out.below hg hB
        obtain ⟨c0, c1, c2, c3⟩ := RR k p hp
        obtain ⟨d0, d1, d2, d3⟩ := RR (k + 1) q hq
        obtain ⟨f0, f1, f2, f3⟩ := RR (m + 1) r hr
        have HT := Lib.hid (sds_take hlt hp hq (by rw [hM]; exact hr))
        have SD := arSideP p q r (HM.out p (List.mem_of_getElem? hp)) (HM.out q (List.mem_of_getElem? hq)) (HM.out r (List.mem_of_getElem? hr))
        have EL := Lib.hid (show anyL ((sds l s.size).take (k + 1)) = (anyL ((sds l s.size).take k) || decide (0 < Pn.sd p q r)) by rw [HT.out, anyL_snoc])
        have ER := Lib.hid (show anyR ((sds l s.size).take (k + 1)) = (anyR ((sds l s.size).take k) || decide (Pn.sd p q r < 0)) by rw [HT.out, anyR_snoc])
        generalize Pn.sd p q r = v at *
        generalize anyL ((sds l s.size).take k) = A at *
        generalize anyR ((sds l s.size).take k) = B at *
        have j1 : (0 : Int) ≤ (k : Int) := by omega
        have j2 : (k : Int) < (s.size : Int) := by omega
        have j3 : IntKind.i64.wrap ((k : Int) + 1) = (k : Int) + 1 := IntWalk.i64_in _ ⟨by omega, by omega⟩
        have j4 : ((k : Int) + 1).tmod (s.size : Int) = (m : Int) := by rw [← hM, Int.tmod_eq_emod_of_nonneg (by omega)]; push_cast; rfl
        have j4' : ((k : Int) + 1) % (s.size : Int) = (m : Int) := by rw [← hM]; push_cast; rfl
        have j5 : IntKind.i64.wrap (m : Int) = (m : Int) := IntWalk.i64_in _ ⟨by omega, by omega⟩
        have j6 : IntKind.i64.wrap ((m : Int) + 1) = (m : Int) + 1 := IntWalk.i64_in _ ⟨by omega, by omega⟩
        have j7 : (k : Int) < (s.size : Int) + 1 := by omega
        have j8 : (k : Int) + 1 < (s.size : Int) + 1 := by omega
        have j9 : (m : Int) + 1 < (s.size : Int) + 1 := by omega
        have j10 : (0 : Int) ≤ (k : Int) + 1 := by omega
        have j11 : (0 : Int) ≤ (m : Int) + 1 := by omega
        have j12 : ((k : Int) + 1).toNat = k + 1 := by omega
        have j13 : ((m : Int) + 1).toNat = m + 1 := by omega
        have j14 : ¬ (s.size : Int) = 0 := by omega
        have j15 : ¬ s.size = 0 := by omega
        have hBw := ba HBx.out hB
        have qw : w.heap.size ≤ wr.heap.size := by omega
        clear hp hq hr RR hM
        go_wp2_with fail
        refine absW (F := fun W => (W.cell? ⟨g, k * 4, none⟩ = some (.int .i64 p.a)) ∧ (W.cell? ⟨g, k * 4 + 1, none⟩ = some (.int .i64 p.b)) ∧ (W.cell? ⟨g, k * 4 + 2, none⟩ = some (.int .i64 p.c)) ∧ (W.cell? ⟨g, k * 4 + 3, none⟩ = some (.int .i64 p.d)) ∧ (W.cell? ⟨g, (k + 1) * 4, none⟩ = some (.int .i64 q.a)) ∧ (W.cell? ⟨g, (k + 1) * 4 + 1, none⟩ = some (.int .i64 q.b)) ∧ (W.cell? ⟨g, (k + 1) * 4 + 2, none⟩ = some (.int .i64 q.c)) ∧ (W.cell? ⟨g, (k + 1) * 4 + 3, none⟩ = some (.int .i64 q.d)) ∧ (W.cell? ⟨g, (m + 1) * 4, none⟩ = some (.int .i64 r.a)) ∧ (W.cell? ⟨g, (m + 1) * 4 + 1, none⟩ = some (.int .i64 r.b)) ∧ (W.cell? ⟨g, (m + 1) * 4 + 2, none⟩ = some (.int .i64 r.c)) ∧ (W.cell? ⟨g, (m + 1) * 4 + 3, none⟩ = some (.int .i64 r.d)) ∧ (Below w1.heap.size w1 W) ∧ (g < W.heap.size) ∧ Below w.heap.size w W) ⟨by go_simp, by go_simp, by go_simp, by go_simp, by go_simp, by go_simp, by go_simp, by go_simp, by go_simp, by go_simp, by go_simp, by go_simp, by go_grown, by omega, by go_grown⟩ ?_
        rintro W ⟨e0, e1, e2, e3, e4, e5, e6, e7, e8, e9, e10, e11, hWo, hWg, HB⟩
        have k0 := fun d os => cell_regrown e0 d os
        have k1 := fun d os => cell_regrown e1 d os
        have k2 := fun d os => cell_regrown e2 d os
        have k3 := fun d os => cell_regrown e3 d os
        have k4 := fun d os => cell_regrown e4 d os
        have k5 := fun d os => cell_regrown e5 d os
        have k6 := fun d os => cell_regrown e6 d os
        have k7 := fun d os => cell_regrown e7 d os
        have k8 := fun d os => cell_regrown e8 d os
        have k9 := fun d os => cell_regrown e9 d os
        have k10 := fun d os => cell_regrown e10 d os
        have k11 := fun d os => cell_regrown e11 d os
        clear c0 c1 c2 c3 d0 d1 d2 d3 f0 f1 f2 f3
        refine wp_region_quiet_below (by kernel_rfl) (by kernel_rfl) ?_
        repeat (quiet_step (first | (go_at_call 54; with_reducible exact Calls.regrown_of (SD _))))
        refine wpQuiet_nil ?_
        rintro _ ⟨⟨dq, osq⟩, rfl⟩
        have hbw4 := below_regrown W dq osq
        generalize grow (redrawn W dq) osq = w4 at hbw4 ⊢
        obtain ⟨hcw4, hfw4⟩ := bcell hbw4
        have hlw4 := hbw4.size
        replace HB := ba HB hbw4
        have HC4 := Lib.hid (show Below w1.heap.size w1 w4 from ba hWo hbw4)
        by_cases hL : 0 < v <;> by_cases hR : v < 0 <;> cases A <;> cases B
        all_goals
          have hEL := EL.out
          have hER := ER.out
          (first | rw [decide_eq_true hL] at hEL | rw [decide_eq_false hL] at hEL)
          (first | rw [decide_eq_true hR] at hER | rw [decide_eq_false hR] at hER)
          have HEL := Lib.hid hEL
          have HER := Lib.hid hER
          clear hEL hER EL ER
          go_wp2_with fail
          go_roundw
          case rel => exact ⟨k + 1, by omega, by rw [HEL.out]; rfl, by rw [HER.out]; rfl, by go_num, HC4.out⟩
          case measure => simp [intOf]; omega
      · have hkn : k = s.size := by omega
        have hE : (sds l s.size).take k = sds l s.size := List.take_of_length_le (by rw [sds_len]; omega)
        rw [hE]
        have hBB := ba HBx.out hB
        clear hE
        generalize anyL (sds l s.size) = A at *
        generalize anyR (sds l s.size) = B at *
        cases S <;> cases A <;> cases B
        all_goals
          go_wp2_with fail
          go_returns
          exact ⟨rBB (by rw [e0.out]; rfl) rfl, hBB⟩

theorem behind_at {l : List Pn} {n k : Nat} {q r : Pn} (hl : l.length = n + 1) (hk : k < n) (h1 : l[1]? = some q) (hr : l[(k + 1) % n + 1]? = some r) : (l ++ [q])[k + 2]? = some r := by
  by_cases e : k + 1 < n
  · rw [Nat.mod_eq_of_lt e] at hr
    rw [List.getElem?_append_left (by omega)]; exact hr
  · have e2 : k + 1 = n := by omega
    rw [e2, Nat.mod_self, Nat.zero_add, h1] at hr
    rw [List.getElem?_append_right (by omega), hl, show k + 2 - (n + 1) = 0 by omega]
    simpa using hr

set_option maxRecDepth 100000 in
set_option maxHeartbeats 3200000 in
theorem imIsConvexTrack (s : ByteArray) (hs : s.size ≤ 1048576) (w : World) :
    Calls Try.prog 52 #[.string s] w fun e w' => e = .returned (.tuple #[.bool (cvR s), .bool (clB s)]) ∧ Below w.heap.size w w' := by
  have SI := imIsSimple s hs
  cases hc : clB s
  · have e0 : cvR s = false := cvR_no hc
    rw [hc] at SI
    rw [e0]
    generalize siR s = R at *
    go_enter Try.func52, Try.ntmps52
    go_wp2_with (go_at_call 36; (with_reducible refine (SI _).mono ?_); rintro e wA ⟨rfl, h1⟩; (try with_reducible replace h1 := undrew h1); have hB : Below w.heap.size w wA := ba (by go_grown) h1; obtain ⟨hcwA, hfwA⟩ := bcell h1; have hqwA := h1.size; (try simp at hqwA); (try have hz0wA : w.heap.size < wA.heap.size := (by omega)); (try have he0wA : w.heap.size ≤ wA.heap.size := (by omega)))
    go_returns
    exact ⟨rfl, by go_grown⟩
  · have ht := clB_tk hc
    have h40 := tkB_size ht
    obtain ⟨_, _, _, hs1⟩ := jp_closed hc
    rw [hc] at SI
    have hl0 := jp_len s
    have hm0 := jp_bd ht
    have hr0 := fun (W : World) (B g cap : Nat) (e : TypeId) (h : W.ownsRow B e 4 (.slice (some ⟨g, 0, none⟩) (s.size + 1) cap) (s.size + 1) (ptCells (lays sp0 s.data.toList))) => rowP_own (n := 0) h
    have e0 := Lib.hid (show cvR s = (siR s && !(anyL (sds (jp s) s.size) && anyR (sds (jp s) s.size))) from rfl)
    have HASC := Lib.hid (tk_asc7 ht)
    have HC := Lib.hid (sds_three (jp s) s.size)
    generalize cvR s = R at *
    generalize siR s = S at *
    generalize jp s = l at *
    have HL := Lib.hid hl0
    have HM := Lib.hid hm0
    have HR := Lib.hid hr0
    obtain ⟨i0, hi, iz0, iz1, iz2⟩ := info_parts numInfo8
    clear hl0 hm0 hr0
    go_enter Try.func52, Try.ntmps52
    go_wp2_with fail
    (go_at_call 36; (with_reducible refine (SI _).mono ?_); rintro e wA ⟨rfl, h1⟩; (try with_reducible replace h1 := undrew h1); have hB : Below w.heap.size w wA := ba (by go_grown) h1; obtain ⟨hcwA, hfwA⟩ := bcell h1; have hqwA := h1.size; (try simp at hqwA); (try have hz0wA : w.heap.size < wA.heap.size := (by omega)); (try have he0wA : w.heap.size ≤ wA.heap.size := (by omega)))
    go_wp2_with fail
    refine (imJointsOf_yes s ht _).mono ?_
    rintro er w1 ⟨g, cap, he, hO, hb1⟩
    replace he : er = .returned (.tuple #[.slice (some ⟨g, 0, none⟩) (s.size + 1) cap, .bool true]) := he
    subst he
    have hz1 := hb1.size
    have HBx := Lib.hid (show Below w.heap.size w w1 from ba hB hb1)
    have H1 := Lib.hid (HR.out _ _ _ _ _ hO)
    have hg := own_lt7 hO
    have hcap := own_cap8 hO
    have zw : w.heap.size ≤ w1.heap.size := HBx.out.size
    obtain ⟨q1, hq1⟩ : ∃ x, l[1]? = some x := ⟨_, List.getElem?_eq_getElem (by rw [HL.out]; omega)⟩
    obtain ⟨c0, c1, c2, c3⟩ := H1.out 1 q1 hq1
    simp only [Nat.one_mul, Nat.reduceAdd] at c0 c1 c2 c3
    have j1 : (1 : Int) < (s.size : Int) + 1 := by omega
    have WB := Lib.hid (withBehindP g (s.size + 1) cap l q1 HL.out (by omega) (by omega) hcap w1 hg H1.out)
    have HQ1 := Lib.hid hq1
    clear hO hb1 hB hcwA hfwA hq1
    go_wp2_with fail
    refine WB.out.mono ?_
    rintro er w2 ⟨g2, cap2, rfl, hO2, hb2⟩
    have R2 := Lib.hid (RowP.of_own hO2 (by rw [List.length_append, HL.out]; rfl))
    have hg2 := own_lt7 hO2
    have hz2 := hb2.size
    have HB2 := Lib.hid (ba HBx.out hb2)
    have hk0 := World.iter_heap w2 s 0
    have hb0 : Below w2.heap.size w2 (w2.iter s 0) := (Below.refl _ w2).alloc (Nat.le_refl _) _
    clear hO2 hb2 c0 c1 c2 c3
    go_wp2_with fail
    go_loopw [9] (fun t wr => ∃ (pos : Nat) (v : Value), pos ≤ s.size ∧ t = v ∧ wr.heap[w2.heap.size]? = some (.stringIter s pos) ∧ wr.ownsRow (w2.heap.size + 1) 3 1 v pos (((sds l s.size).take pos).map (Value.int .i64)) ∧ Below w2.heap.size w2 wr) (fun _ wr => s.size - wr.iterPos w2.heap.size)
    case atStart => exact ⟨0, _, Nat.zero_le _, rfl, hk0, World.ownsRow_nil _ _ _ _, hb0⟩
    case round =>
      obtain ⟨pos, v, hps, rfl, hk, hJ, hb⟩ := hrel
      by_cases hp : pos < s.size
      · have hnext : ∀ ty, (Instr.next (.pointer (some ⟨w2.heap.size, 0, none⟩)) true ty).run Try.prog wr = _ := fun ty => Lib.run_next_ascii_at wr w2.heap.size s pos ty hk hp (HASC.out pos hp)
        have hk1 := Lib.iterAt_heap wr w2.heap.size s pos (pos + 1) hk
        have hb1 : Below w2.heap.size w2 (wr.iterAt w2.heap.size s (pos + 1)) := Lib.below_iterAt hb (Nat.le_refl _) s (pos + 1)
        have hmu : wr.iterPos w2.heap.size = pos := by simp [World.iterPos, hk]
        have hJ1 := ownsRow_iterAt hJ (Nat.lt_succ_self w2.heap.size) s (pos + 1)
        have hkl : w2.heap.size < (wr.iterAt w2.heap.size s (pos + 1)).heap.size := (Array.getElem?_eq_some_iff.1 hk1).1
        obtain ⟨p, hp0⟩ : ∃ x, l[pos]? = some x := ⟨_, List.getElem?_eq_getElem (by rw [HL.out]; omega)⟩
        obtain ⟨q, hq0⟩ : ∃ x, l[pos + 1]? = some x := ⟨_, List.getElem?_eq_getElem (by rw [HL.out]; omega)⟩
        have hmod : (pos + 1) % s.size < s.size := Nat.mod_lt _ (by omega)
        obtain ⟨r, hr0⟩ : ∃ x, l[(pos + 1) % s.size + 1]? = some x := ⟨_, List.getElem?_eq_getElem (by rw [HL.out]; omega)⟩
        have RR := R2.out.below hg2 hb1
        obtain ⟨c0, c1, c2, c3⟩ := RR pos p (by rw [List.getElem?_append_left (by rw [HL.out]; omega)]; exact hp0)
        obtain ⟨d0, d1, d2, d3⟩ := RR (pos + 1) q (by rw [List.getElem?_append_left (by rw [HL.out]; omega)]; exact hq0)
        obtain ⟨f0, f1, f2, f3⟩ := RR (pos + 2) r (behind_at HL.out hp HQ1.out hr0)
        have HT := Lib.hid (show ((sds l s.size).take (pos + 1)).map (Value.int .i64) = ((sds l s.size).take pos).map (Value.int .i64) ++ [.int .i64 (Pn.sd p q r)] by rw [sds_take hp hp0 hq0 hr0, List.map_append]; rfl)
        have SD := sideP p q r (HM.out p (List.mem_of_getElem? hp0)) (HM.out q (List.mem_of_getElem? hq0)) (HM.out r (List.mem_of_getElem? hr0))
        generalize Pn.sd p q r = x at *
        have HK1 := Lib.hid hk1
        have HB1 := Lib.hid hb1
        have HMU := Lib.hid hmu
        have HJ1 := Lib.hid hJ1
        clear hk hb hk1 hb1 hmu hJ hJ1 hp0 hq0 hr0 RR hmod
        generalize wr.iterAt w2.heap.size s (pos + 1) = W1 at *
        have j2 : (0 : Int) ≤ (pos : Int) := by omega
        have j3 : (pos : Int) < (s.size : Int) + 1 + 1 := by omega
        have j4 : (pos : Int) + 1 < (s.size : Int) + 1 + 1 := by omega
        have j5 : (pos : Int) + 2 < (s.size : Int) + 1 + 1 := by omega
        have j6 : (0 : Int) ≤ (pos : Int) + 1 := by omega
        have j7 : (0 : Int) ≤ (pos : Int) + 2 := by omega
        have j8 : ((pos : Int) + 1).toNat = pos + 1 := by omega
        have j9 : ((pos : Int) + 2).toNat = pos + 2 := by omega
        have j10 : IntKind.i64.wrap ((pos : Int) + 1) = (pos : Int) + 1 := IntWalk.i64_in _ ⟨by omega, by omega⟩
        have j11 : IntKind.i64.wrap ((pos : Int) + 2) = (pos : Int) + 2 := IntWalk.i64_in _ ⟨by omega, by omega⟩
        have hz3 := HB1.out.size
        obtain ⟨av, cv, rfl⟩ := own_slice7 HJ1.out
        go_wp2_with fail
        go_region_law (first | (go_simp; go_at_call 56; (with_reducible refine Calls.mono (SD _) ?_); rintro e wA ⟨rfl, h1⟩; (try with_reducible replace h1 := undrew h1); have hBA : Below W1.heap.size W1 wA := ba (by go_grown) h1; have hqA := hBA.size; have HOA := Lib.hid (own_below7 HJ1.out hBA)) | ((refine step_append_lies _ (by rfl) _ _ _ (by rfl) (w2.heap.size + 1) 3 i0 _ 1 8 Try.underlying98 hi iz0 iz1 iz2 (by rfl) (by decide) (.slice av pos cv) pos (((sds l s.size).take pos).map (Value.int .i64)) ?hs ?hown ⟨wA.heap.size, 0, none⟩ 1 1 [.int .i64 x] ?hx (by rfl) ?hnews (by intro u hu; simp at hu; subst hu; rfl) (by decide) (by unfold maxLen; omega) (by omega) ?hbase (wA.heap.size + 1) ?hH ?_); (case hs => first | rfl | simp [Act.eval]); (case hx => first | rfl | simp [Act.eval]); (case hown => exact HOA.out.alloc _); (case hnews => exact newc7 (by simp)); (case hbase => (simp; omega)); (case hH => simp); intro g3 cap3 w3 hown3 hgrow hat hlt9))
        all_goals
          have hOA2 := HOA.out.alloc (.cells #[.int .i64 x] 3)
          have hbk : ∀ k, (Value.slice av pos cv).ownBlock = some k → w2.heap.size + 1 ≤ k := fun k hk => (hOA2.lt k hk).1
          have HB3 := Lib.hid (((ba HB1.out hBA).alloc (by omega) (.cells #[.int .i64 x] 3)).grown hgrow (by simp; omega) (fun k hk => Nat.le_of_succ_le (hbk k hk)))
          have hk3 : w3.heap[w2.heap.size]? = some (.stringIter s (pos + 1)) := by
            have e1 := hgrow.block w2.heap.size (by simp; omega) (fun e => by have := hbk _ e.symm; omega)
            exact e1.trans ((heap_alloc_old wA _ (by omega)).trans ((hBA.block w2.heap.size (by omega)).trans HK1.out))
          have HK3 := Lib.hid hk3
          have HO3 := Lib.hid hown3
          clear hown3 hgrow hat hlt9 hOA2 hk3 h1 hBA c0 c1 c2 c3 d0 d1 d2 d3 f0 f1 f2 f3
          try simp only [Act.put, List.setIfInBounds_toArray, List.set_cons_zero, List.set_cons_succ]
          go_roundw
          case rel =>
            refine ⟨_, _, _, _, _, _, _, _, _, _, _, _, _, _, _, _, _, _, _, _, _, _, _, _, ?_, rfl⟩
            exact ⟨pos + 1, _, by omega, rfl, HK3.out, by rw [HT.out]; exact HO3.out, HB3.out⟩
          case measure =>
            have h2 : w3.iterPos w2.heap.size = pos + 1 := by simp [World.iterPos, HK3.out]
            rw [HMU.out, h2]; omega
      · obtain rfl : pos = s.size := by omega
        have hnext : ∀ ty, (Instr.next (.pointer (some ⟨w2.heap.size, 0, none⟩)) true ty).run Try.prog wr = _ := fun ty => Lib.run_next_end_at wr w2.heap.size s s.size ty hk (Nat.lt_irrefl _)
        rw [List.take_of_length_le (by rw [sds_len]; exact Nat.le_refl _)] at hJ
        obtain ⟨g3, c3, rfl, hg3, hg3'⟩ := hJ.form (by omega)
        have hcell : ∀ j, j < (sds l s.size).length → wr.cell? ⟨g3, 0 + j, none⟩ = some (.int .i64 ((sds l s.size).getD j 0)) := fun j hj => by
          rw [Nat.zero_add, hJ.cellAt j (by rw [sds_len] at hj; omega), List.getElem?_map, List.getElem?_eq_getElem hj]
          simp [List.getD, hj]
        have C1 := Try.slices_Contains_int g3 0 s.size c3 (sds l s.size) 1 wr (by rw [sds_len]; exact Nat.le_refl _) (by omega) hcell
        have C2 := Try.slices_Contains_int g3 0 s.size c3 (sds l s.size) (-1) wr (by rw [sds_len]; exact Nat.le_refl _) (by omega) hcell
        rw [List.take_of_length_le (by rw [sds_len]; exact Nat.le_refl _), has_one HC.out] at C1
        rw [List.take_of_length_le (by rw [sds_len]; exact Nat.le_refl _), has_neg HC.out] at C2
        have hBB := ba HB2.out hb
        clear hJ hcell hk hb HC
        generalize anyL (sds l s.size) = A at *
        generalize anyR (sds l s.size) = B at *
        cases S <;> cases A <;> cases B
        all_goals
          go_wp2_with (first | (go_at_call 104; (with_reducible refine Calls.mono C1 ?_); rintro e w' ⟨rfl, rfl⟩) | (go_at_call 104; (with_reducible refine Calls.mono C2 ?_); rintro e w' ⟨rfl, rfl⟩))
          go_returns
          exact ⟨rBB (by rw [e0.out]; rfl) rfl, hBB⟩

end Go.Proofs.Ytppbbcckijcckaa
