/- Contracts: the farthest joint, in the model and in the program. -/
import Derived.Test.YtppbbcckijcckabMf
import Derived.Test.YtppbbcckijcckabNb
import Derived.Test.YtppbbcckijcckabClJ
namespace Go.Proofs.Ytppbbcckijcckab
open Go.ChangeShapes Go.WideShapes Go.ChangeAt Go.RowKit

set_option linter.unusedVariables false
set_option linter.unusedSimpArgs false

def faI (s : ByteArray) : Nat := cond (tkB s) (farI (lays sp0 s.data.toList) (s.size + 1)) 0

def faP (s : ByteArray) : Sp := ((lays sp0 s.data.toList)[faI s]?).getD sp0

def fa0 (s : ByteArray) : Int := cond (tkB s) (faP s).n0 0

def fa1 (s : ByteArray) : Int := cond (tkB s) (faP s).n1 0

theorem ret_fa {s : ByteArray} {i a b : Int} {r : Bool} (h0 : (faI s : Int) = i) (h1 : fa0 s = a) (h2 : fa1 s = b) : Ending.returned (.tuple #[.int .i64 i, .agg #[.int .i64 a, .int .i64 b], .bool r]) = Ending.returned (.tuple #[.int .i64 (faI s : Nat), .agg #[.int .i64 (fa0 s), .int .i64 (fa1 s)], .bool r]) := by rw [h0, h1, h2]

set_option maxRecDepth 100000 in
set_option maxHeartbeats 3200000 in
theorem spFarthestJoint (s : ByteArray) (hs : s.size ≤ 1048576) (u : World) :
    Calls Try.prog 29 #[.string s] u fun e w' => e = .returned (.tuple #[.int .i64 (faI s : Nat), .agg #[.int .i64 (fa0 s), .int .i64 (fa1 s)], .bool (tkB s)]) ∧ Below u.heap.size u w' := by
  cases ht : tkB s
  · have HR := Lib.hid (show (faI s : Int) = 0 ∧ fa0 s = 0 ∧ fa1 s = 0 by simp [faI, fa0, fa1, ht])
    have HT := Lib.hid ht
    go_enter Try.func29, Try.ntmps29
    go_wp2_with (go_at_call 52; refine (tkGood_any s hs _).mono ?_; rintro e w' ⟨rfl, rfl⟩)
    refine bodyPost_ret (by simp [results, Try.results29, go_sem, *]; try rfl) rfl ?_
    exact ⟨ret_fa HR.out.1 HR.out.2.1 HR.out.2.2, by go_grown⟩
  have h40 := tkB_size ht
  have hL := lays_lenA sp0 s
  have hok := lays_ok sp0_ok s.data.toList
  have hR : (faI s : Int) = ((farI (lays sp0 s.data.toList) (s.size + 1) : Nat) : Int) := by simp [faI, ht]
  have hR1 : ∀ p, (lays sp0 s.data.toList)[farI (lays sp0 s.data.toList) (s.size + 1)]? = some p → fa0 s = nm0 p.x0 p.x1 p.x2 p.x3 ∧ fa1 s = nm1 p.x0 p.x1 p.x2 p.x3 := fun p hp => by
    simp [fa0, fa1, faP, faI, ht, hp, Sp.n0, Sp.n1]
  have HT := Lib.hid ht
  go_enter Try.func29, Try.ntmps29
  go_wp2_with (go_at_call 52; refine (tkGood_any s hs _).mono ?_; rintro e w' ⟨rfl, rfl⟩)
  refine (tkJoints_yes s HT.out _).mono ?_
  rintro e w ⟨g, cap, rfl, hO, hb1⟩
  simp only [id]
  rw [size_list] at hok
  generalize lays sp0 s.data.toList = l at hL hO hok hR hR1
  have hJ := jt_of hO hL
  have hgw := (hO.lt g rfl).2
  have hgb := (hO.lt g rfl).1
  simp at hgb
  have hz := hb1.size
  simp at hz
  have r0 : w.cell? ⟨u.heap.size, 0, none⟩ = some (.int .i64 0) := by rw [hb1.cell (p := ⟨u.heap.size, 0, none⟩) (by simp)]; go_simp
  have r1 : w.cell? ⟨u.heap.size, 1, none⟩ = some (.int .i64 0) := by rw [hb1.cell (p := ⟨u.heap.size, 1, none⟩) (by simp)]; go_simp
  have f0 : w.frozen? ⟨u.heap.size, 0, none⟩ = false := by rw [hb1.frozen (p := ⟨u.heap.size, 0, none⟩) (by simp)]; go_simp
  have f1 : w.frozen? ⟨u.heap.size, 1, none⟩ = false := by rw [hb1.frozen (p := ⟨u.heap.size, 1, none⟩) (by simp)]; go_simp
  have hBu : Below u.heap.size u w := ba (by go_grown) hb1
  have HJ := Lib.hid hJ
  have HL := Lib.hid hL
  have HOK := Lib.hid hok
  have HR := Lib.hid hR
  have HR1 := Lib.hid hR1
  have HBU := Lib.hid hBu
  have HF := Lib.hid (And.intro (And.intro r0 r1) (And.intro f0 f1))
  clear hJ hL hok hR hR1 hBu hb1 hO r0 r1 f0 f1 ht
  go_wp2_with fail
  go_loopw [6, 17] (fun b i wr => ∃ (k : Nat), k ≤ s.size + 1 ∧ i = .int .i64 k ∧ b = .int .i64 (farI l k : Nat) ∧ Below w.heap.size w wr) (fun _ i _ => s.size + 1 - (intOf i).toNat)
  case atStart => exact ⟨0, Nat.zero_le _, rfl, rfl, Below.refl _ _⟩
  case round =>
    obtain ⟨k, hk, rfl, rfl, hB⟩ := hrel
    have hzr : w.heap.size ≤ wr.heap.size := hB.size
    have hlf : farI l k < s.size + 1 := by have := farI_lt l (by rw [HL.out]; omega) k (by rw [HL.out]; exact hk); rw [HL.out] at this; exact this
    obtain ⟨q, hq⟩ : ∃ q, l[farI l k]? = some q := ⟨_, List.getElem?_eq_getElem (by rw [HL.out]; exact hlf)⟩
    obtain ⟨d0, d1, d2, d3⟩ := (HJ.out.below hgw hB) _ q hq
    have hqo := HOK.out q (List.mem_of_getElem? hq)
    have hmx : ((0 : Int) + 2 * (s.size : Nat)) ≤ 80 := by omega
    by_cases hlt : k < s.size + 1
    · obtain ⟨p, hp⟩ : ∃ p, l[k]? = some p := ⟨_, List.getElem?_eq_getElem (by rw [HL.out]; exact hlt)⟩
      obtain ⟨c0, c1, c2, c3⟩ := (HJ.out.below hgw hB) k p hp
      have hpo := HOK.out p (List.mem_of_getElem? hp)
      have hyes := farI_yes hp hq
      have hno := farI_no hp hq
      obtain ⟨x0, x1, x2, x3, x4⟩ := p
      obtain ⟨y0, y1, y2, y3, y4⟩ := q
      simp only [Sp.okB] at hpo hqo
      simp only [farB, Sp.n0, Sp.n1, decide_eq_true_eq, decide_eq_false_iff_not] at hyes hno
      obtain ⟨m0, m0', m1, m1'⟩ := nm_bd x0 x1 x2 x3 (by omega) (by omega) (by omega) (by omega) (by omega) (by omega) (by omega) (by omega)
      obtain ⟨n0, n0', n1, n1'⟩ := nm_bd y0 y1 y2 y3 (by omega) (by omega) (by omega) (by omega) (by omega) (by omega) (by omega) (by omega)
      simp only at c0 c1 c2 c3 d0 d1 d2 d3
      generalize hfk : farI l k = fk at hlf d0 d1 d2 d3 hyes hno
      have HFK := Lib.hid hfk
      have HY := Lib.hid hyes
      have HNO := Lib.hid hno
      have hS0 : (wr.alloc (.cells #[.int .i64 x0, .int .i64 x1, .int .i64 x2, .int .i64 x3] 24)).cell? ⟨wr.heap.size, 0, none⟩ = some (.int .i64 x0) ∧ (wr.alloc (.cells #[.int .i64 x0, .int .i64 x1, .int .i64 x2, .int .i64 x3] 24)).cell? ⟨wr.heap.size, 1, none⟩ = some (.int .i64 x1) ∧ (wr.alloc (.cells #[.int .i64 x0, .int .i64 x1, .int .i64 x2, .int .i64 x3] 24)).cell? ⟨wr.heap.size, 2, none⟩ = some (.int .i64 x2) ∧ (wr.alloc (.cells #[.int .i64 x0, .int .i64 x1, .int .i64 x2, .int .i64 x3] 24)).cell? ⟨wr.heap.size, 3, none⟩ = some (.int .i64 x3) ∧ (wr.alloc (.cells #[.int .i64 x0, .int .i64 x1, .int .i64 x2, .int .i64 x3] 24)).cell? ⟨g, fk * 4, none⟩ = some (.int .i64 y0) ∧ (wr.alloc (.cells #[.int .i64 x0, .int .i64 x1, .int .i64 x2, .int .i64 x3] 24)).cell? ⟨g, fk * 4 + 1, none⟩ = some (.int .i64 y1) ∧ (wr.alloc (.cells #[.int .i64 x0, .int .i64 x1, .int .i64 x2, .int .i64 x3] 24)).cell? ⟨g, fk * 4 + 2, none⟩ = some (.int .i64 y2) ∧ (wr.alloc (.cells #[.int .i64 x0, .int .i64 x1, .int .i64 x2, .int .i64 x3] 24)).cell? ⟨g, fk * 4 + 3, none⟩ = some (.int .i64 y3) := by
        refine ⟨?_, ?_, ?_, ?_, cl_alloc d0 _, cl_alloc d1 _, cl_alloc d2 _, cl_alloc d3 _⟩ <;> go_simp
      have hgr : g < wr.heap.size := by omega
      have j1 : (0 : Int) ≤ (fk : Int) := by omega
      have j2 : (fk : Int) < ((s.size + 1 : Nat) : Int) := by omega
      have j3 : (fk : Int) < (s.size : Int) + 1 := by omega
      clear hp hq hpo hqo hyes hno hfk
      go_wp2_with fail
      clear c0 c1 c2 c3 d0 d1 d2 d3
      go_region_held3 (fun w' => w'.cell? ⟨wr.heap.size, 0, none⟩ = some (.int .i64 x0) ∧ w'.cell? ⟨wr.heap.size, 1, none⟩ = some (.int .i64 x1) ∧ w'.cell? ⟨wr.heap.size, 2, none⟩ = some (.int .i64 x2) ∧ w'.cell? ⟨wr.heap.size, 3, none⟩ = some (.int .i64 x3) ∧ w'.cell? ⟨g, fk * 4, none⟩ = some (.int .i64 y0) ∧ w'.cell? ⟨g, fk * 4 + 1, none⟩ = some (.int .i64 y1) ∧ w'.cell? ⟨g, fk * 4 + 2, none⟩ = some (.int .i64 y2) ∧ w'.cell? ⟨g, fk * 4 + 3, none⟩ = some (.int .i64 y3))
        (first | (with_reducible assumption) | (with_reducible exact pj_drew hS0) | (with_reducible exact pj_drew (pj_alloc hS0 _)) | (with_reducible exact pj_alloc (pj_drew hS0) _) | (with_reducible refine pj_drew ?_; with_reducible assumption) | (with_reducible refine pj_alloc ?_ _; with_reducible assumption) | (with_reducible refine pj_re (by with_reducible assumption) ?_ ?_ _; (focus first | (with_reducible assumption) | omega | (simp; done) | (simp; omega)); (focus first | (with_reducible assumption) | omega | (simp; done) | (simp; omega))) | (with_reducible refine pj_below ?_ ?_ ?_ h1; (focus first | (with_reducible assumption) | (with_reducible refine pj_undrew ?_; with_reducible assumption)); (focus first | (with_reducible assumption) | omega | (simp; done) | (simp; omega)); (focus first | (with_reducible assumption) | omega | (simp; done) | (simp; omega))) | ((repeat (with_reducible refine pj_set ?_ _ _ ?_ ?_; rotate_left 1; (focus first | (with_reducible assumption) | omega | (simp; done) | (simp; omega)); (focus first | (with_reducible assumption) | omega | (simp; done) | (simp; omega)))); with_reducible assumption))
        (first | (go_at_call 50; (with_reducible refine (spNorm_any x0 x1 x2 x3 _).mono ?_); rintro e wA ⟨rfl, h1⟩; (try with_reducible replace h1 := undrew h1); have hB : Below w.heap.size w wA := ba (by go_grown) h1; obtain ⟨hcwA, hfwA⟩ := bcell h1; have hqwA := h1.size; (try simp at hqwA); (try have hz0wA : wr.heap.size < wA.heap.size := (by omega)); (try have he0wA : wr.heap.size ≤ wA.heap.size := (by omega)); (try have hz1wA : g < wA.heap.size := (by omega)); (try have he1wA : g ≤ wA.heap.size := (by omega))) | (go_at_call 50; (with_reducible refine (spNorm_any y0 y1 y2 y3 _).mono ?_); rintro e wC ⟨rfl, h1⟩; (try with_reducible replace h1 := undrew h1); have hB : Below w.heap.size w wC := ba (by go_grown) h1; obtain ⟨hcwC, hfwC⟩ := bcell h1; have hqwC := h1.size; (try simp at hqwC); (try have hz0wC : wr.heap.size < wC.heap.size := (by omega)); (try have he0wC : wr.heap.size ≤ wC.heap.size := (by omega)); (try have hz1wC : g < wC.heap.size := (by omega)); (try have he1wC : g ≤ wC.heap.size := (by omega))) | (go_at_call 48; (with_reducible refine (ptCompare_any (nm0 x0 x1 x2 x3) (nm1 x0 x1 x2 x3) (nm0 y0 y1 y2 y3) (nm1 y0 y1 y2 y3) (by omega) (by omega) (by omega) (by omega) (by omega) (by omega) (by omega) (by omega) _).mono ?_); rintro e wD ⟨rfl, h1⟩; (try with_reducible replace h1 := undrew h1); have hB : Below w.heap.size w wD := ba (by go_grown) h1; obtain ⟨hcwD, hfwD⟩ := bcell h1; have hqwD := h1.size; (try simp at hqwD); (try have hz0wD : wr.heap.size < wD.heap.size := (by omega)); (try have he0wD : wr.heap.size ≤ wD.heap.size := (by omega)); (try have hz1wD : g < wD.heap.size := (by omega)); (try have he1wD : g ≤ wD.heap.size := (by omega))))
      all_goals
        go_wp2_with fail
        · have hv : 0 < sgn2 (nm0 x0 x1 x2 x3 - nm0 y0 y1 y2 y3) (nm1 x0 x1 x2 x3 - nm1 y0 y1 y2 y3) := by assumption
          go_roundw
          case rel => exact ⟨k + 1, by omega, by go_num, by rw [HY.out (decide_eq_true hv)], by go_grown⟩
          case measure => simp [intOf]; omega
        · have hv : ¬ 0 < sgn2 (nm0 x0 x1 x2 x3 - nm0 y0 y1 y2 y3) (nm1 x0 x1 x2 x3 - nm1 y0 y1 y2 y3) := Int.not_lt.2 (by assumption)
          go_roundw
          case rel => exact ⟨k + 1, by omega, by go_num, by rw [HNO.out (decide_eq_false hv)], by go_grown⟩
          case measure => simp [intOf]; omega
    · obtain rfl : k = s.size + 1 := by omega
      obtain ⟨y0, y1, y2, y3, y4⟩ := q
      have hR1 := HR1.out _ hq
      simp only at hR1 d0 d1 d2 d3
      have hR := HR.out
      have hul : u.heap.size < w.heap.size := by omega
      have hul2 : u.heap.size < wr.heap.size := by omega
      have hgr : g < wr.heap.size := by omega
      obtain ⟨⟨r0, r1⟩, f0, f1⟩ := HF.out
      have s0 : wr.cell? ⟨u.heap.size, 0, none⟩ = some (.int .i64 0) := by rw [hB.cell (p := ⟨u.heap.size, 0, none⟩) hul]; exact r0
      have s1 : wr.cell? ⟨u.heap.size, 1, none⟩ = some (.int .i64 0) := by rw [hB.cell (p := ⟨u.heap.size, 1, none⟩) hul]; exact r1
      have t0 : wr.frozen? ⟨u.heap.size, 0, none⟩ = false := by rw [hB.frozen (p := ⟨u.heap.size, 0, none⟩) hul]; exact f0
      have t1 : wr.frozen? ⟨u.heap.size, 1, none⟩ = false := by rw [hB.frozen (p := ⟨u.heap.size, 1, none⟩) hul]; exact f1
      generalize farI l (s.size + 1) = fk at hlf d0 d1 d2 d3 hR
      have HRR := Lib.hid hR
      have HR2 := Lib.hid hR1
      have HBU2 := Lib.hid (HBU.out.trans (hB.mono (by omega)))
      clear hq hqo hR hR1 r0 r1 f0 f1
      go_wp2_with fail
      refine (spNorm_any y0 y1 y2 y3 _).mono ?_
      rintro e wX ⟨rfl, hX⟩
      obtain ⟨hcX, hfX⟩ := bcell hX
      have hzX : wr.heap.size ≤ wX.heap.size := hX.size
      have hBF : Below u.heap.size u wX := HBU2.out.trans (hX.mono (by omega))
      clear hB hX
      go_wp2_with fail
      refine bodyPost_ret (by simp [results, Try.results29, go_sem, *]; try rfl) rfl ?_
      exact ⟨ret_fa HRR.out HR2.out.1 HR2.out.2, by go_grown⟩

set_option maxRecDepth 100000 in
set_option maxHeartbeats 3200000 in
theorem imFarthestJoint (s : ByteArray) (hs : s.size ≤ 1048576) (u : World) :
    Calls Try.prog 30 #[.string s] u fun e w' => e = .returned (.tuple #[.int .i64 (faI s : Nat), .agg #[.int .i64 (fa0 s), .int .i64 (fa1 s)], .bool (tkB s)]) ∧ Below u.heap.size u w' := by
  cases ht : tkB s
  · have HR := Lib.hid (show (faI s : Int) = 0 ∧ fa0 s = 0 ∧ fa1 s = 0 by simp [faI, fa0, fa1, ht])
    have HT := Lib.hid ht
    go_enter Try.func30, Try.ntmps30
    go_wp2_with (go_at_call 54; refine (imJointsOf_no s hs HT.out _).mono ?_; rintro e w' ⟨rfl, rfl⟩)
    refine bodyPost_ret (by simp [results, Try.results30, go_sem, *]; try rfl) rfl ?_
    exact ⟨ret_fa HR.out.1 HR.out.2.1 HR.out.2.2, by go_grown⟩
  have h40 := tkB_size ht
  have hL := lays_lenA sp0 s
  have hok := lays_ok sp0_ok s.data.toList
  have hR : (faI s : Int) = ((farI (lays sp0 s.data.toList) (s.size + 1) : Nat) : Int) := by simp [faI, ht]
  have hR1 : ∀ p, (lays sp0 s.data.toList)[farI (lays sp0 s.data.toList) (s.size + 1)]? = some p → fa0 s = nm0 p.x0 p.x1 p.x2 p.x3 ∧ fa1 s = nm1 p.x0 p.x1 p.x2 p.x3 := fun p hp => by
    simp [fa0, fa1, faP, faI, ht, hp, Sp.n0, Sp.n1]
  have HT := Lib.hid ht
  go_enter Try.func30, Try.ntmps30
  go_wp2_with fail
  refine (imJointsOf_yes s HT.out _).mono ?_
  rintro e w ⟨g, cap, rfl, hO, hb1⟩
  simp only [okT]
  rw [size_list] at hok
  generalize lays sp0 s.data.toList = l at hL hO hok hR hR1
  have hJ := jt_of hO hL
  have hgw := (hO.lt g rfl).2
  have hgb := (hO.lt g rfl).1
  simp at hgb
  have hz := hb1.size
  simp at hz
  have r0 : w.cell? ⟨u.heap.size, 0, none⟩ = some (.int .i64 0) := by rw [hb1.cell (p := ⟨u.heap.size, 0, none⟩) (by simp)]; go_simp
  have r1 : w.cell? ⟨u.heap.size, 1, none⟩ = some (.int .i64 0) := by rw [hb1.cell (p := ⟨u.heap.size, 1, none⟩) (by simp)]; go_simp
  have f0 : w.frozen? ⟨u.heap.size, 0, none⟩ = false := by rw [hb1.frozen (p := ⟨u.heap.size, 0, none⟩) (by simp)]; go_simp
  have f1 : w.frozen? ⟨u.heap.size, 1, none⟩ = false := by rw [hb1.frozen (p := ⟨u.heap.size, 1, none⟩) (by simp)]; go_simp
  have hBu : Below u.heap.size u w := ba (by go_grown) hb1
  have HJ := Lib.hid hJ
  have HL := Lib.hid hL
  have HOK := Lib.hid hok
  have HR := Lib.hid hR
  have HR1 := Lib.hid hR1
  have HBU := Lib.hid hBu
  have HF := Lib.hid (And.intro (And.intro r0 r1) (And.intro f0 f1))
  clear hJ hL hok hR hR1 hBu hb1 hO r0 r1 f0 f1 ht
  go_wp2_with fail
  go_loopw [7, 20] (fun b i wr => ∃ (k : Nat), k ≤ s.size + 1 ∧ i = .int .i64 k ∧ b = .int .i64 (farI l k : Nat) ∧ Below w.heap.size w wr) (fun _ i _ => s.size + 1 - (intOf i).toNat)
  case atStart => exact ⟨0, Nat.zero_le _, rfl, rfl, Below.refl _ _⟩
  case round =>
    obtain ⟨k, hk, rfl, rfl, hB⟩ := hrel
    have hzr : w.heap.size ≤ wr.heap.size := hB.size
    have hlf : farI l k < s.size + 1 := by have := farI_lt l (by rw [HL.out]; omega) k (by rw [HL.out]; exact hk); rw [HL.out] at this; exact this
    obtain ⟨q, hq⟩ : ∃ q, l[farI l k]? = some q := ⟨_, List.getElem?_eq_getElem (by rw [HL.out]; exact hlf)⟩
    obtain ⟨d0, d1, d2, d3⟩ := (HJ.out.below hgw hB) _ q hq
    have hqo := HOK.out q (List.mem_of_getElem? hq)
    have hmx : ((0 : Int) + 2 * (s.size : Nat)) ≤ 80 := by omega
    by_cases hlt : k < s.size + 1
    · obtain ⟨p, hp⟩ : ∃ p, l[k]? = some p := ⟨_, List.getElem?_eq_getElem (by rw [HL.out]; exact hlt)⟩
      obtain ⟨c0, c1, c2, c3⟩ := (HJ.out.below hgw hB) k p hp
      have hpo := HOK.out p (List.mem_of_getElem? hp)
      have hyes := farI_yes hp hq
      have hno := farI_no hp hq
      obtain ⟨x0, x1, x2, x3, x4⟩ := p
      obtain ⟨y0, y1, y2, y3, y4⟩ := q
      simp only [Sp.okB] at hpo hqo
      simp only [farB, Sp.n0, Sp.n1, decide_eq_true_eq, decide_eq_false_iff_not] at hyes hno
      obtain ⟨m0, m0', m1, m1'⟩ := nm_bd x0 x1 x2 x3 (by omega) (by omega) (by omega) (by omega) (by omega) (by omega) (by omega) (by omega)
      obtain ⟨n0, n0', n1, n1'⟩ := nm_bd y0 y1 y2 y3 (by omega) (by omega) (by omega) (by omega) (by omega) (by omega) (by omega) (by omega)
      simp only at c0 c1 c2 c3 d0 d1 d2 d3
      generalize hfk : farI l k = fk at hlf d0 d1 d2 d3 hyes hno
      have HFK := Lib.hid hfk
      have HY := Lib.hid hyes
      have HNO := Lib.hid hno
      have hS0 : (wr.alloc (.cells #[.int .i64 x0, .int .i64 x1, .int .i64 x2, .int .i64 x3] 24)).cell? ⟨wr.heap.size, 0, none⟩ = some (.int .i64 x0) ∧ (wr.alloc (.cells #[.int .i64 x0, .int .i64 x1, .int .i64 x2, .int .i64 x3] 24)).cell? ⟨wr.heap.size, 1, none⟩ = some (.int .i64 x1) ∧ (wr.alloc (.cells #[.int .i64 x0, .int .i64 x1, .int .i64 x2, .int .i64 x3] 24)).cell? ⟨wr.heap.size, 2, none⟩ = some (.int .i64 x2) ∧ (wr.alloc (.cells #[.int .i64 x0, .int .i64 x1, .int .i64 x2, .int .i64 x3] 24)).cell? ⟨wr.heap.size, 3, none⟩ = some (.int .i64 x3) ∧ (wr.alloc (.cells #[.int .i64 x0, .int .i64 x1, .int .i64 x2, .int .i64 x3] 24)).cell? ⟨g, fk * 4, none⟩ = some (.int .i64 y0) ∧ (wr.alloc (.cells #[.int .i64 x0, .int .i64 x1, .int .i64 x2, .int .i64 x3] 24)).cell? ⟨g, fk * 4 + 1, none⟩ = some (.int .i64 y1) ∧ (wr.alloc (.cells #[.int .i64 x0, .int .i64 x1, .int .i64 x2, .int .i64 x3] 24)).cell? ⟨g, fk * 4 + 2, none⟩ = some (.int .i64 y2) ∧ (wr.alloc (.cells #[.int .i64 x0, .int .i64 x1, .int .i64 x2, .int .i64 x3] 24)).cell? ⟨g, fk * 4 + 3, none⟩ = some (.int .i64 y3) := by
        refine ⟨?_, ?_, ?_, ?_, cl_alloc d0 _, cl_alloc d1 _, cl_alloc d2 _, cl_alloc d3 _⟩ <;> go_simp
      have hgr : g < wr.heap.size := by omega
      have j1 : (0 : Int) ≤ (fk : Int) := by omega
      have j2 : (fk : Int) < ((s.size + 1 : Nat) : Int) := by omega
      have j3 : (fk : Int) < (s.size : Int) + 1 := by omega
      clear hp hq hpo hqo hyes hno hfk
      go_wp2_with fail
      clear c0 c1 c2 c3 d0 d1 d2 d3
      go_region_held3 (fun w' => w'.cell? ⟨wr.heap.size, 0, none⟩ = some (.int .i64 x0) ∧ w'.cell? ⟨wr.heap.size, 1, none⟩ = some (.int .i64 x1) ∧ w'.cell? ⟨wr.heap.size, 2, none⟩ = some (.int .i64 x2) ∧ w'.cell? ⟨wr.heap.size, 3, none⟩ = some (.int .i64 x3) ∧ w'.cell? ⟨g, fk * 4, none⟩ = some (.int .i64 y0) ∧ w'.cell? ⟨g, fk * 4 + 1, none⟩ = some (.int .i64 y1) ∧ w'.cell? ⟨g, fk * 4 + 2, none⟩ = some (.int .i64 y2) ∧ w'.cell? ⟨g, fk * 4 + 3, none⟩ = some (.int .i64 y3))
        (first | (with_reducible assumption) | (with_reducible exact pj_drew hS0) | (with_reducible exact pj_drew (pj_alloc hS0 _)) | (with_reducible exact pj_alloc (pj_drew hS0) _) | (with_reducible refine pj_drew ?_; with_reducible assumption) | (with_reducible refine pj_alloc ?_ _; with_reducible assumption) | (with_reducible refine pj_re (by with_reducible assumption) ?_ ?_ _; (focus first | (with_reducible assumption) | omega | (simp; done) | (simp; omega)); (focus first | (with_reducible assumption) | omega | (simp; done) | (simp; omega))) | (with_reducible refine pj_below ?_ ?_ ?_ h1; (focus first | (with_reducible assumption) | (with_reducible refine pj_undrew ?_; with_reducible assumption)); (focus first | (with_reducible assumption) | omega | (simp; done) | (simp; omega)); (focus first | (with_reducible assumption) | omega | (simp; done) | (simp; omega))) | ((repeat (with_reducible refine pj_set ?_ _ _ ?_ ?_; rotate_left 1; (focus first | (with_reducible assumption) | omega | (simp; done) | (simp; omega)); (focus first | (with_reducible assumption) | omega | (simp; done) | (simp; omega)))); with_reducible assumption))
        (first | (go_at_call 51; (with_reducible refine (imNorm_any x0 x1 x2 x3 _).mono ?_); rintro e wA ⟨rfl, h1⟩; (try with_reducible replace h1 := undrew h1); have hB : Below w.heap.size w wA := ba (by go_grown) h1; obtain ⟨hcwA, hfwA⟩ := bcell h1; have hqwA := h1.size; (try simp at hqwA); (try have hz0wA : wr.heap.size < wA.heap.size := (by omega)); (try have he0wA : wr.heap.size ≤ wA.heap.size := (by omega)); (try have hz1wA : g < wA.heap.size := (by omega)); (try have he1wA : g ≤ wA.heap.size := (by omega))) | (go_at_call 51; (with_reducible refine (imNorm_any y0 y1 y2 y3 _).mono ?_); rintro e wC ⟨rfl, h1⟩; (try with_reducible replace h1 := undrew h1); have hB : Below w.heap.size w wC := ba (by go_grown) h1; obtain ⟨hcwC, hfwC⟩ := bcell h1; have hqwC := h1.size; (try simp at hqwC); (try have hz0wC : wr.heap.size < wC.heap.size := (by omega)); (try have he0wC : wr.heap.size ≤ wC.heap.size := (by omega)); (try have hz1wC : g < wC.heap.size := (by omega)); (try have he1wC : g ≤ wC.heap.size := (by omega))) | (go_at_call 49; (with_reducible refine (imCompare_any (nm0 x0 x1 x2 x3) (nm1 x0 x1 x2 x3) (nm0 y0 y1 y2 y3) (nm1 y0 y1 y2 y3) (by omega) (by omega) (by omega) (by omega) (by omega) (by omega) (by omega) (by omega) _).mono ?_); rintro e wD ⟨rfl, h1⟩; (try with_reducible replace h1 := undrew h1); have hB : Below w.heap.size w wD := ba (by go_grown) h1; obtain ⟨hcwD, hfwD⟩ := bcell h1; have hqwD := h1.size; (try simp at hqwD); (try have hz0wD : wr.heap.size < wD.heap.size := (by omega)); (try have he0wD : wr.heap.size ≤ wD.heap.size := (by omega)); (try have hz1wD : g < wD.heap.size := (by omega)); (try have he1wD : g ≤ wD.heap.size := (by omega))))
      all_goals
        go_wp2_with fail
        · have hv : 0 < sgn2 (nm0 x0 x1 x2 x3 - nm0 y0 y1 y2 y3) (nm1 x0 x1 x2 x3 - nm1 y0 y1 y2 y3) := by assumption
          go_roundw
          case rel => exact ⟨k + 1, by omega, by go_num, by rw [HY.out (decide_eq_true hv)], by go_grown⟩
          case measure => simp [intOf]; omega
        · have hv : ¬ 0 < sgn2 (nm0 x0 x1 x2 x3 - nm0 y0 y1 y2 y3) (nm1 x0 x1 x2 x3 - nm1 y0 y1 y2 y3) := Int.not_lt.2 (by assumption)
          go_roundw
          case rel => exact ⟨k + 1, by omega, by go_num, by rw [HNO.out (decide_eq_false hv)], by go_grown⟩
          case measure => simp [intOf]; omega
    · obtain rfl : k = s.size + 1 := by omega
      obtain ⟨y0, y1, y2, y3, y4⟩ := q
      have hR1 := HR1.out _ hq
      simp only at hR1 d0 d1 d2 d3
      have hR := HR.out
      have hul : u.heap.size < w.heap.size := by omega
      have hul2 : u.heap.size < wr.heap.size := by omega
      have hgr : g < wr.heap.size := by omega
      obtain ⟨⟨r0, r1⟩, f0, f1⟩ := HF.out
      have s0 : wr.cell? ⟨u.heap.size, 0, none⟩ = some (.int .i64 0) := by rw [hB.cell (p := ⟨u.heap.size, 0, none⟩) hul]; exact r0
      have s1 : wr.cell? ⟨u.heap.size, 1, none⟩ = some (.int .i64 0) := by rw [hB.cell (p := ⟨u.heap.size, 1, none⟩) hul]; exact r1
      have t0 : wr.frozen? ⟨u.heap.size, 0, none⟩ = false := by rw [hB.frozen (p := ⟨u.heap.size, 0, none⟩) hul]; exact f0
      have t1 : wr.frozen? ⟨u.heap.size, 1, none⟩ = false := by rw [hB.frozen (p := ⟨u.heap.size, 1, none⟩) hul]; exact f1
      generalize farI l (s.size + 1) = fk at hlf d0 d1 d2 d3 hR
      have HRR := Lib.hid hR
      have HR2 := Lib.hid hR1
      have HBU2 := Lib.hid (HBU.out.trans (hB.mono (by omega)))
      clear hq hqo hR hR1 r0 r1 f0 f1
      go_wp2_with fail
      refine (imNorm_any y0 y1 y2 y3 _).mono ?_
      rintro e wX ⟨rfl, hX⟩
      obtain ⟨hcX, hfX⟩ := bcell hX
      have hzX : wr.heap.size ≤ wX.heap.size := hX.size
      have hBF : Below u.heap.size u wX := HBU2.out.trans (hX.mono (by omega))
      clear hB hX
      go_wp2_with fail
      refine bodyPost_ret (by simp [results, Try.results30, go_sem, *]; try rfl) rfl ?_
      exact ⟨ret_fa HRR.out HR2.out.1 HR2.out.2, by go_grown⟩

end Go.Proofs.Ytppbbcckijcckab
