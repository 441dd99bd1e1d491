/- Contracts: whether a closed track is plain. -/
import Derived.Test.YtadlkmfgjmcgeaaPlM
import Derived.Test.YtadlkmfgjmcgeaaCc
import Derived.Test.YtadlkmfgjmcgeaaMe
namespace Go.Proofs.Ytadlkmfgjmcgeaa
open Go.ChangeShapes Go.WideShapes Go.ChangeAt Go.RowKit

set_option linter.unusedVariables false

def plR (s : ByteArray) : Bool := clB s && (prs ((lays sp0 s.data.toList).drop 1)).isEmpty
theorem ret_pl {s : ByteArray} {x : Bool} {b : Bool} (hb : clB s = b) (hs : plR s = x) : Ending.returned (.tuple #[.bool x, .bool b]) = Ending.returned (.tuple #[.bool (plR s), .bool (clB s)]) := by rw [hb, hs]

theorem own_cap' {W : World} {B n g cap size : Nat} {e : TypeId} {xs : List Value} (h : W.ownsRow B e size (.slice (some ⟨g, 0, none⟩) n cap) n xs) : n ≤ cap ∧ cap ≤ maxLen := by
  rcases h.2 with ⟨h, _⟩ | ⟨g', cap', cur, h, _, _, h1, h2, _⟩
  · cases h
  · injection h with _ _ h3
    subst h3
    exact ⟨h1, h2⟩
theorem own_form' {W : World} {B n size : Nat} {e : TypeId} {v : Value} {xs : List Value} (h : W.ownsRow B e size v n xs) : ∃ av cv, v = .slice av n cv := by
  rcases h.2 with ⟨h, h0⟩ | ⟨g, cap, cur, h, _⟩
  · exact ⟨none, 0, by rw [h, h0]⟩
  · exact ⟨_, _, h⟩
theorem ret_b2 {x y : Bool} (h : x = y) : Ending.returned (.tuple #[.bool x, .bool true]) = Ending.returned (.tuple #[.bool y, .bool true]) := by rw [h]
theorem jt_of2 {W : World} {B n g cap : Nat} {e : TypeId} {l : List Sp} (h : W.ownsRow B e 4 (.slice (some ⟨g, 0, none⟩) n cap) n (ptCells l)) (hn : l.length = n) : JtAt W g l := fun i p hp => own_pt h hn hp

/-- In a closed track the first joint and the last one meet. -/
theorem cl_ends {s : ByteArray} (h : clB s = true) : 1 ≤ s.size ∧ mtA (lays sp0 s.data.toList) 0 s.size = true := by
  have ht := clB_tk h
  rw [clB_yes ht] at h
  simp only [Bool.and_eq_true, decide_eq_true_eq, zS] at h
  refine ⟨h.1, mtA_some.2 ⟨sp0, _, ?_, lays_atA sp0 s, ?_⟩⟩
  · cases hd : s.data.toList <;> rfl
  · have hz := h.2.1
    rw [zP, enS_yes ht] at hz
    simp only [Bool.and_eq_true, beq_iff_eq] at hz
    rw [ptE_eq]
    exact ⟨hz.1.symm, hz.2.1.symm, hz.2.2.1.symm, hz.2.2.2.symm⟩

theorem jt_off {w : World} {g : Nat} {l : List Sp} (h : JtAt w g l) {i : Nat} {p : Sp} (hp : (l.drop 1)[i]? = some p) :
    w.cell? ⟨g, 4 + i * 4, none⟩ = some (.int .i64 p.x0) ∧ w.cell? ⟨g, 4 + i * 4 + 1, none⟩ = some (.int .i64 p.x1) ∧ w.cell? ⟨g, 4 + i * 4 + 2, none⟩ = some (.int .i64 p.x2) ∧ w.cell? ⟨g, 4 + i * 4 + 3, none⟩ = some (.int .i64 p.x3) := by
  rw [List.getElem?_drop] at hp
  have := h _ p hp
  rwa [show (1 + i) * 4 = 4 + i * 4 by omega] at this

set_option maxRecDepth 100000 in
set_option maxHeartbeats 1600000 in
theorem spIsPlain (s : ByteArray) (hs : s.size ≤ 1048576) (w : World) :
    Calls Try.prog 17 #[.string s] w fun e w' => e = .returned (.tuple #[.bool (plR s), .bool (clB s)]) ∧ Below w.heap.size w w' := by
  have HC := Lib.hid (clGood_any s hs)
  cases tc : clB s
  · have R := Lib.hid (show plR s = false by simp [plR, tc])
    rw [tc] at HC
    go_enter Try.func17, Try.ntmps17
    go_wp2_with (go_at_call 40; (with_reducible refine (HC.out _).mono ?_); rintro e wA ⟨rfl, h1⟩; (try with_reducible replace h1 := undrew h1); have hB : Below w.heap.size w wA := ba (by go_grown) h1; obtain ⟨hcwA, hfwA⟩ := bcell h1; have hqwA := h1.size; (try simp at hqwA); )
    go_ret2
    exact ⟨by rw [R.out]; rfl, by go_grown⟩
  have ht := clB_tk tc
  have h40 := tkB_size ht
  have hR : plR s = (prs ((lays sp0 s.data.toList).drop 1)).isEmpty := by simp [plR, tc]
  have hL := lays_lenA sp0 s
  rw [tc] at HC
  go_enter Try.func17, Try.ntmps17
  go_wp2_with (go_at_call 40; (with_reducible refine (HC.out _).mono ?_); rintro e wA ⟨rfl, h1⟩; (try with_reducible replace h1 := undrew h1); have hB : Below w.heap.size w wA := ba (by go_grown) h1; obtain ⟨hcwA, hfwA⟩ := bcell h1; have hqwA := h1.size; (try simp at hqwA); )
  refine (tkJoints_yes s ht _).mono ?_
  rintro e w1 ⟨g, cap, rfl, hO, hb1⟩
  generalize lays sp0 s.data.toList = l at hR hO hL
  have hN : (l.drop 1).length = s.size := by rw [List.length_drop, hL]; rfl
  obtain ⟨hcp, hcp2⟩ := own_cap' hO
  have hg := (hO.lt g rfl).2
  have HJ := Lib.hid (jt_of2 hO hL)
  have HR := Lib.hid hR
  have HN := Lib.hid hN
  have HB := Lib.hid (ba (by go_grown) hb1 : Below w.heap.size w w1)
  have i1 : (1 : Int) ≤ ((s.size + 1 : Nat) : Int) := by omega
  have i2 : ((s.size + 1 : Nat) : Int) ≤ (cap : Int) := by omega
  clear hO hb1 hL hR hN
  have hn1 : ¬ cap = 1 := by have := (cl_ends tc).1; omega
  go_wp2_with fail
  go_loopw [17] (fun i wr => ∃ (j : Nat), j ≤ s.size ∧ i = .int .i64 j ∧ accM (l.drop 1) j 0 = [] ∧ Below w1.heap.size w1 wr) (fun i _ => s.size + 1 - (intOf i).toNat)
  case atStart => exact ⟨0, Nat.zero_le _, rfl, accM_zero _, Below.refl _ _⟩
  case round =>
    obtain ⟨j, hj, rfl, hacc, hb⟩ := hrel
    have HA := Lib.hid hacc
    have hz := hb.size
    have HB1 := Lib.hid hb
    clear hacc hb
    obtain ⟨wo, rfl⟩ : ∃ wo : World, wo = wr := ⟨_, rfl⟩
    by_cases hlt : j < s.size
    · obtain ⟨q, hq⟩ : ∃ q, (l.drop 1)[j]? = some q := ⟨_, List.getElem?_eq_getElem (by rw [HN.out]; exact hlt)⟩
      obtain ⟨d0, d1, d2, d3⟩ := jt_off (HJ.out.below hg HB1.out) hq
      have HQ := Lib.hid hq
      obtain ⟨y0, y1, y2, y3, y4⟩ := q
      clear hq
      go_wp2_with fail
      go_loopw [26] (fun i wr => ∃ (a : Nat), a ≤ j ∧ i = .int .i64 a ∧ accM (l.drop 1) j a = [] ∧ wr.heap[wo.heap.size]? = some (.cells #[.int .i64 y0, .int .i64 y1, .int .i64 y2, .int .i64 y3] 42 (0, 0)) ∧ Below w1.heap.size w1 wr) (fun i _ => j + 1 - (intOf i).toNat)
      case atStart => exact ⟨0, Nat.zero_le _, rfl, HA.out, heap_alloc_new _ _, HB1.out.alloc hz _⟩
      case round =>
        obtain ⟨a, haj, rfl, hacc, hblk, hb⟩ := hrel
        have hz2 := hb.size
        have hzl := blk_lt hblk
        by_cases hla : a < j
        · obtain ⟨p, hp⟩ : ∃ p, (l.drop 1)[a]? = some p := ⟨_, List.getElem?_eq_getElem (by rw [HN.out]; omega)⟩
          obtain ⟨c0, c1, c2, c3⟩ := jt_off (HJ.out.below hg hb) hp
          obtain ⟨e0, e1, e2, e3⟩ := blk_cells hblk
          have hm := mtA_at hp HQ.out
          obtain ⟨x0, x1, x2, x3, x4⟩ := p
          simp only [ptE] at hm c0 c1 c2 c3
          have HA2 := Lib.hid hacc
          have HK2 := Lib.hid hblk
          have HB2 := Lib.hid hb
          have hcm : (x0 == y0 && (x1 == y1 && (x2 == y2 && x3 == y3))) = (y0 == x0 && (y1 == x1 && (y2 == x2 && y3 == x3))) := ptE_comm ⟨x0, x1, x2, x3, x4⟩ ⟨y0, y1, y2, y3, y4⟩
          rw [hcm] at hm
          clear hp hacc hblk hb hcm
          cases hv : (y0 == x0 && (y1 == x1 && (y2 == x2 && y3 == x3)))
          · rw [hv] at hm
            have HM := Lib.hid hm
            clear hm
            go_wp2_with fail
            go_roundw
            case rel => exact ⟨a + 1, by omega, by go_num, by rw [accM_no HM.out]; exact HA2.out, (Below.heap_alloc _ _ _ hzl).trans HK2.out, HB2.out.alloc hz2 _⟩
            case measure => simp [intOf]; omega
          · rw [hv] at hm
            have HM := Lib.hid hm
            clear hm
            obtain ⟨r, hr⟩ := accM_pre (l := l.drop 1) (j := j) (i := a + 1) (by rw [HN.out]; omega) (by omega)
            rw [accM_yes HM.out, HA2.out] at hr
            have HE := Lib.hid hr
            clear hr
            go_wp2_with fail
            go_ret2
            exact ⟨by rw [HR.out, HE.out]; rfl, HB.out.trans ((HB2.out.alloc hz2 _).mono HB.out.size)⟩
        · obtain rfl : a = j := by omega
          have HA2 := Lib.hid hacc
          have HB2 := Lib.hid hb
          clear hacc hblk hb
          go_wp2_with fail
          go_roundw
          case rel => exact ⟨a + 1, by omega, by go_num, by rw [← accM_next]; exact HA2.out, HB2.out⟩
          case measure => simp [intOf]; omega
    · obtain rfl : j = s.size := by omega
      have HE := Lib.hid (accM_end (l.drop 1))
      rw [HN.out, HA.out] at HE
      go_wp2_with fail
      go_ret2
      exact ⟨by rw [HR.out, ← HE.out]; rfl, HB.out.trans (HB1.out.mono HB.out.size)⟩

theorem imPl (s : ByteArray) (htc : clB s = true) (ht : tkB s = true) (w : World) :
    Calls Try.prog 18 #[.string s] w fun e w' => e = .returned (.tuple #[.bool (decide (((prs (lays sp0 s.data.toList)).take 2).length = 1)), .bool true]) ∧ Below w.heap.size w w' := by
  have h40 := tkB_size ht
  have hs : s.size ≤ 1048576 := by omega
  have HC := Lib.hid (isClosed_any s hs)
  rw [htc] at HC
  have hL := lays_lenA sp0 s
  go_enter Try.func18, Try.ntmps18
  go_wp2_with (go_at_call 38; (with_reducible refine (HC.out _).mono ?_); rintro e wA ⟨rfl, h1⟩; (try with_reducible replace h1 := undrew h1); have hB : Below w.heap.size w wA := ba (by go_grown) h1; obtain ⟨hcwA, hfwA⟩ := bcell h1; have hqwA := h1.size; (try simp at hqwA); )
  refine (imJointsOf_yes s ht _).mono ?_
  rintro e w1 ⟨g, cap, rfl, hO, hb1⟩
  simp only [okT]
  generalize hle : lays sp0 s.data.toList = l at hO hL
  have HLE := Lib.hid hle
  clear hle
  have hv := meetings_any g (s.size + 1) cap 2 l hL (by omega) (by omega) w1 (hO.lt g rfl).2 (jt_of2 hO hL) (own_cap' hO).1 (own_cap' hO).2
  have HV := Lib.hid hv
  have HB := Lib.hid (ba (by go_grown) hb1 : Below w.heap.size w w1)
  have hlen : ((prs l).take 2).length ≤ 2 := by rw [List.length_take]; omega
  clear hO hb1 hL hv
  go_wp2_with fail
  refine HV.out.mono ?_
  rintro e w2 ⟨v, rfl, hM, hb2⟩
  obtain ⟨m, hm⟩ : ∃ m, ((prs l).take 2).length = m := ⟨_, rfl⟩
  rw [hm] at hM hlen
  have HM := Lib.hid hm
  obtain ⟨av, cv, rfl⟩ := own_form' hM
  have HB2 := Lib.hid (HB.out.trans (hb2.mono HB.out.size))
  clear hm
  clear hM hb2
  go_wp2_with fail
  go_ret2
  exact ⟨ret_b2 (by rw [HLE.out, HM.out]; by_cases h : m = 1; (subst h; rfl); (rw [decide_eq_false h]; exact beq_eq_false_iff_ne.2 (by omega))), HB2.out⟩

theorem imIsPlain (s : ByteArray) (hs : s.size ≤ 1048576) (w : World) :
    Calls Try.prog 18 #[.string s] w fun e w' => e = .returned (.tuple #[.bool (plR s), .bool (clB s)]) ∧ Below w.heap.size w w' := by
  cases tc : clB s
  · have HC := Lib.hid (isClosed_any s hs)
    have R := Lib.hid (show plR s = false by simp [plR, tc])
    rw [tc] at HC
    go_enter Try.func18, Try.ntmps18
    go_wp2_with (go_at_call 38; (with_reducible refine (HC.out _).mono ?_); rintro e wA ⟨rfl, h1⟩; (try with_reducible replace h1 := undrew h1); have hB : Below w.heap.size w wA := ba (by go_grown) h1; obtain ⟨hcwA, hfwA⟩ := bcell h1; have hqwA := h1.size; (try simp at hqwA); )
    go_ret2
    exact ⟨by rw [R.out]; rfl, by go_grown⟩
  · obtain ⟨h1, hz⟩ := cl_ends tc
    have := imPl s tc (clB_tk tc) w
    rw [plain_eq (lays_lenA sp0 s) h1 hz] at this
    simpa [plR, tc] using this

end Go.Proofs.Ytadlkmfgjmcgeaa
