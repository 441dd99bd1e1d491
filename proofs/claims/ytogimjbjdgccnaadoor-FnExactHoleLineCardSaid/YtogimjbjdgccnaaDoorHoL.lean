/- Contracts: the line of the holes. -/
import Derived.Test.YtogimjbjdgccnaaDoorSgI
import Derived.Test.YtogimjbjdgccnaaDoorCrA
import Derived.Test.YtogimjbjdgccnaaDoorTmP
import Derived.Test.YtogimjbjdgccnaaDoorCoO
import Derived.Test.YtogimjbjdgccnaaDoorLnI
import Derived.Maps.AppendAt
namespace Go.Proofs.YtogimjbjdgccnaaDoor
open Go.ChangeShapes Go.WideShapes Go.ChangeAt Go.RowKit
open Ln

set_option linter.unusedVariables false

def hoc (c : UInt8) : UInt8 := if c == 84 then 46 else 84

def hoL (l : List UInt8) : List UInt8 := l.reverse.map hoc

def hoR (s : ByteArray) : ByteArray := cond (lnB s.data.toList) (ofL (hoL s.data.toList)) ⟨#[]⟩

theorem hoR_no {s : ByteArray} (h : lnB s.data.toList = false) : hoR s = ⟨#[]⟩ := by rw [hoR, h]; rfl

theorem hoR_yes {s : ByteArray} (h : lnB s.data.toList = true) : hoR s = ofL (hoL s.data.toList) := by rw [hoR, h]; rfl

theorem hoL_len (l : List UInt8) : (hoL l).length = l.length := by simp [hoL]

theorem hoL_get {l : List UInt8} {k : Nat} (h : k < l.length) : (hoL l)[k]? = some (hoc (l.getD (l.length - 1 - k) 46)) := by
  rw [hoL, List.getElem?_map, List.getElem?_reverse h, List.getD, List.getElem?_eq_getElem (by omega)]
  rfl

theorem hoL_snoc {l : List UInt8} {k : Nat} (h : k < l.length) : (hoL l).take (k + 1) = (hoL l).take k ++ [hoc (l.getD (l.length - 1 - k) 46)] := by
  rw [List.take_add_one, hoL_get h]
  rfl

theorem rTl {x y : ByteArray} {a b : Bool} (h : x = y) (h' : a = b) : Ending.returned (.tuple #[.string x, .bool a]) = Ending.returned (.tuple #[.string y, .bool b]) := by rw [h, h']

set_option maxRecDepth 100000 in
set_option maxHeartbeats 800000 in
theorem spHoleLine (s : ByteArray) (hs : s.size ≤ 1048576) (w : World) :
    Calls Tryd.prog 46 #[.string s] w fun e w' => e = .returned (.tuple #[.string (hoR s), .bool (lnB s.data.toList)]) ∧ Below w.heap.size w w' := by
  have TG := tnGood_any s hs
  cases hb : lnB s.data.toList
  · rw [hb] at TG
    have HR := Lib.hid (hoR_no hb)
    clear hb
    go_enter Tryd.func46, Tryd.ntmps46
    go_wp2_with (go_at_call 52; refine (TG _).mono ?_; rintro e w' ⟨rfl, rfl⟩)
    go_ret2
    exact ⟨rTl HR.out.symm rfl, Below.refl _ _⟩
  · rw [hb] at TG
    have HR := Lib.hid (hoR_yes hb)
    have hl := (lnB_iff _).1 hb
    have hz := sz_list s
    have n24 : s.size ≤ 24 := by rw [← hz]; exact hl.n24
    have HL := Lib.hid hl
    have SN := Lib.hid (fun k (h : k < s.size) => show (hoL s.data.toList).take (k + 1) = (hoL s.data.toList).take k ++ [hoc (s.data.toList.getD (s.size - 1 - k) 46)] by rw [hoL_snoc (by rw [hz]; exact h), hz])
    have LE := Lib.hid (fun k => show (ofL ((hoL s.data.toList).take k)).size ≤ 24 by rw [ofL_size, List.length_take, hoL_len, hz]; omega)
    have FU := Lib.hid (show (hoL s.data.toList).take s.size = hoL s.data.toList from List.take_of_length_le (by rw [hoL_len, hz]; exact Nat.le_refl _))
    clear hb hl hz
    go_enter Tryd.func46, Tryd.ntmps46
    go_wp2_with (go_at_call 52; refine (TG _).mono ?_; rintro e w' ⟨rfl, rfl⟩)
    go_loopw [4, 5] (fun o i wr => ∃ k : Nat, k ≤ s.size ∧ i = .int .i64 ((s.size : Int) - 1 - (k : Int)) ∧ o = .string (ofL ((hoL s.data.toList).take k)) ∧ Below w.heap.size w wr) (fun _ i _ => (intOf i + 1).toNat)
    case atStart => exact ⟨0, Nat.zero_le _, by simp, rfl, Below.refl _ _⟩
    case round =>
      obtain ⟨k, hk, rfl, rfl, hB⟩ := hrel
      have HW := Lib.hid hB
      have le := LE.out k
      clear hB
      by_cases hlt : k < s.size
      · obtain ⟨j, hj⟩ : ∃ j : Nat, s.size - 1 - k = j := ⟨_, rfl⟩
        have ej : (s.size : Int) - 1 - (k : Int) = (j : Int) := by omega
        have jlt : j < s.size := by omega
        have e1 := SN.out k hlt
        rw [hj] at e1
        rw [ej]
        have ej' : (j : Int) - 1 = (s.size : Int) - 1 - ((k + 1 : Nat) : Int) := by omega
        rcases ln_byte HL.out jlt with ⟨h1, h2⟩ | ⟨h1, h2⟩
        · have b1 := byte_T h2
          have E := Lib.hid (show ofL ((hoL s.data.toList).take k) ++ ⟨#[46]⟩ = ofL ((hoL s.data.toList).take (k + 1)) by rw [e1, tr_yes h1, ofL_snoc]; rfl)
          clear h1 h2 e1
          go_wp2_with fail
          go_roundw
          case rel => exact ⟨k + 1, by omega, congrArg (Value.int .i64) (by omega), congrArg Value.string E.out, HW.out⟩
          case measure => simp only [intOf]; omega
        · have b1 := byte_E h2
          have E := Lib.hid (show ofL ((hoL s.data.toList).take k) ++ ⟨#[84]⟩ = ofL ((hoL s.data.toList).take (k + 1)) by rw [e1, HL.out.tr_no h1, ofL_snoc]; rfl)
          clear h1 h2 e1
          go_wp2_with fail
          go_roundw
          case rel => exact ⟨k + 1, by omega, congrArg (Value.int .i64) (by omega), congrArg Value.string E.out, HW.out⟩
          case measure => simp only [intOf]; omega
      · obtain rfl : k = s.size := by omega
        have ej : (s.size : Int) - 1 - (s.size : Int) = -1 := by omega
        rw [ej]
        have ef := FU.out
        go_wp2_with fail
        go_ret2
        exact ⟨rTl (by rw [HR.out, ef]) rfl, HW.out⟩

/-- The letters of a line turned, each a text. -/
def hoT (l : List UInt8) (k : Nat) : List ByteArray := (l.take k).map fun c => ofL [hoc c]

def hoV (l : List UInt8) (k : Nat) : List Value := (hoT l k).map Value.string

theorem hoT_len {l : List UInt8} {k : Nat} (h : k ≤ l.length) : (hoT l k).length = k := by simp [hoT]; omega

theorem hoV_succ {l : List UInt8} {k : Nat} (h : k < l.length) : hoV l (k + 1) = hoV l k ++ [.string (ofL [hoc (l.getD k 46)])] := by
  rw [hoV, hoT, List.take_add_one, List.map_append, List.map_append, List.getD, List.getElem?_eq_getElem h]
  rfl

theorem hoT_join (l : List UInt8) : Lib.join ((hoT l l.length).reverse.map (·.data.toList)) (ByteArray.mk #[]).data.toList = hoL l := by
  rw [show (ByteArray.mk #[]).data.toList = [] from rfl, join_nil, hoL, hoT, List.take_length, ← List.map_reverse, List.map_map]
  generalize l.reverse = m
  induction m with
  | nil => rfl
  | cons c m ih =>
    simp only [List.map_cons, List.flatten_cons, ih]
    simp [ofL]

theorem own_holds {W : World} {B : Nat} {e : TypeId} {n : Nat} {v : Value} {zs : List ByteArray} (h : W.ownsRow B e 1 v n (zs.map Value.string)) (hn : 0 < n) : ∃ g cap, v = .slice (some ⟨g, 0, none⟩) n cap ∧ B ≤ g ∧ g < W.heap.size ∧ Sort.Holds Value.string W g 0 zs.toArray ∧ n ≤ cap := by
  have h0 := h
  rcases h.2 with ⟨_, h0⟩ | ⟨g, cap, cur, rfl, hb, hg, hnc, _⟩
  · omega
  · refine ⟨g, cap, rfl, hb, (Array.getElem?_eq_some_iff.1 hg).1, fun j hj => ⟨?_, ?_⟩, hnc⟩
    · have hj' : j < zs.length := by simpa using hj
      have := h0.cells (g := g) rfl j (.string zs[j]) (by rw [List.getElem?_map, List.getElem?_eq_getElem hj']; rfl)
      rw [Addr.add_lit] at this
      rw [this, getElem!_pos _ j hj]
      rfl
    · simp [World.frozen?, hg]

theorem below_put {w : World} {n B g : Nat} {d : Array ByteArray} (h : B ≤ g) : Below B w (Sort.putRow Value.string (Sort.ahead w n) g 0 d) := by
  refine ⟨rfl, rfl, rfl, by simp [Sort.ahead], fun k hk => ?_⟩
  have hne : g ≠ k := by omega
  simp [Sort.putRow, Sort.mapBlock, Sort.ahead, Array.getElem?_modify, hne]

set_option maxRecDepth 100000 in
set_option maxHeartbeats 1600000 in
theorem imHoleLine (s : ByteArray) (hs : s.size ≤ 1048576) (w : World) :
    Calls Tryd.prog 47 #[.string s] w fun e w' => e = .returned (.tuple #[.string (hoR s), .bool (lnB s.data.toList)]) ∧ Below w.heap.size w w' := by
  have IL := imIsLine s hs w
  cases hb : lnB s.data.toList
  · rw [hb] at IL
    have HR := Lib.hid (hoR_no hb)
    clear hb
    go_enter Tryd.func47, Tryd.ntmps47
    go_wp2_with fail
    (go_at_call 19; (with_reducible refine (IL).mono ?_); rintro e wB ⟨rfl, h1⟩; (try with_reducible replace h1 := undrew h1); have hB : Below w.heap.size w wB := ba (by go_grown) h1; obtain ⟨hcwB, hfwB⟩ := bcell h1; have hqwB := h1.size; (try simp at hqwB); )
    go_wp2_with fail
    go_ret2
    exact ⟨rTl HR.out.symm rfl, by go_grown⟩
  · rw [hb] at IL
    have HR := Lib.hid (hoR_yes hb)
    have hl := (lnB_iff _).1 hb
    have hz := sz_list s
    have n24 : s.size ≤ 24 := by rw [← hz]; exact hl.n24
    have n1 : 1 ≤ s.size := by rw [← hz]; exact hl.n1
    have HL := Lib.hid hl
    have SN := Lib.hid (fun k (h : k < s.size) => hoV_succ (l := s.data.toList) (k := k) (by rw [hz]; exact h))
    have HJ := Lib.hid (show Lib.join ((hoT s.data.toList s.size).reverse.map (·.data.toList)) (ByteArray.mk #[]).data.toList = hoL s.data.toList by rw [← hz]; exact hoT_join _)
    have HLN := Lib.hid (show (hoT s.data.toList s.size).length = s.size by rw [hoT_len (by rw [hz]; exact Nat.le_refl _)])
    have HHL := Lib.hid (show (hoL s.data.toList).length ≤ 24 by rw [hoL_len, hz]; exact n24)
    obtain ⟨i0, hi, iz0, iz1, iz2⟩ := info_parts strInfo'
    clear hb hl hz
    go_enter Tryd.func47, Tryd.ntmps47
    go_wp2_with fail
    refine IL.mono ?_
    rintro e w1 ⟨rfl, h1⟩
    have H1 := Lib.hid h1
    clear h1
    go_wp2_with fail
    go_loopw [4, 11] (fun v i wr => ∃ k : Nat, k ≤ s.size ∧ i = .int .i64 k ∧ wr.ownsRow w1.heap.size 9 1 v k (hoV s.data.toList k) ∧ Below w1.heap.size w1 wr) (fun _ i _ => s.size - (intOf i).toNat)
    case atStart => exact ⟨0, Nat.zero_le _, rfl, World.ownsRow_nil _ _ _ _, Below.refl _ _⟩
    case round =>
      obtain ⟨k, hk, rfl, hO, hB⟩ := hrel
      have HO := Lib.hid hO
      have HB := Lib.hid hB
      have zb := hB.size
      clear hO hB
      by_cases hlt : k < s.size
      · have sn := SN.out k hlt
        have k0 : (0 : Int) ≤ (k : Int) := by omega
        rcases ln_byte HL.out hlt with ⟨h1, h2⟩ | ⟨h1, h2⟩
        · have ht : (s.extract k (k + 1)).toList = [84] := by rw [ext_one s k hlt, ByteArray.toList_eq, h2]
          rw [tr_yes h1] at sn
          have SNk := Lib.hid sn
          have HO2 := Lib.hid (HO.out.alloc (.cells #[.string ⟨#[46]⟩] 9))
          clear h1 h2 sn
          go_wp2_with (at_builtin; refine wpList_append_own_at _ rfl _ _ 61 rfl w1.heap.size 9 i0 (.string ByteArray.empty) 1 16 Tryd.underlying61 hi iz0 iz1 iz2 rfl (by decide) _ _ _ rfl HO2.out ⟨wr.heap.size, 0, none⟩ 1 1 [.string ⟨#[46]⟩] rfl rfl (cell_new1 _ _ _) (by intro u hu; simp at hu; subst hu; rfl) (by unfold maxLen; omega) (by omega) (by simp; omega) ?_; intro v' W4 hown' hgr hnil hloc; have HV4 := Lib.hid hown'; have HB4 := Lib.hid ((HB.out.alloc zb (.cells #[.string ⟨#[46]⟩] 9)).grown hgr (by simp; omega) (fun b hb => (HO2.out.lt b hb).1)); clear hown' hgr hnil hloc)
          go_roundw
          case rel => exact ⟨k + 1, by omega, by go_num, by rw [SNk.out]; exact HV4.out, HB4.out⟩
          case measure => simp [intOf]; omega
        · have ht : (s.extract k (k + 1)).toList = [46] := by rw [ext_one s k hlt, ByteArray.toList_eq, h2]
          rw [HL.out.tr_no h1] at sn
          have SNk := Lib.hid sn
          have HO2 := Lib.hid (HO.out.alloc (.cells #[.string ⟨#[84]⟩] 9))
          clear h1 h2 sn
          go_wp2_with (at_builtin; refine wpList_append_own_at _ rfl _ _ 61 rfl w1.heap.size 9 i0 (.string ByteArray.empty) 1 16 Tryd.underlying61 hi iz0 iz1 iz2 rfl (by decide) _ _ _ rfl HO2.out ⟨wr.heap.size, 0, none⟩ 1 1 [.string ⟨#[84]⟩] rfl rfl (cell_new1 _ _ _) (by intro u hu; simp at hu; subst hu; rfl) (by unfold maxLen; omega) (by omega) (by simp; omega) ?_; intro v' W4 hown' hgr hnil hloc; have HV4 := Lib.hid hown'; have HB4 := Lib.hid ((HB.out.alloc zb (.cells #[.string ⟨#[84]⟩] 9)).grown hgr (by simp; omega) (fun b hb => (HO2.out.lt b hb).1)); clear hown' hgr hnil hloc)
          go_roundw
          case rel => exact ⟨k + 1, by omega, by go_num, by rw [SNk.out]; exact HV4.out, HB4.out⟩
          case measure => simp [intOf]; omega
      · obtain rfl : k = s.size := by omega
        obtain ⟨g, cap, rfl, hg1, hg2, hH, hcap⟩ := own_holds HO.out (by omega)
        have hrv := Tryd.slices_Reverse Value.string (fun _ => rfl) g 0 cap (hoT s.data.toList s.size) wr hH (by rw [HLN.out]; omega)
        rw [HLN.out] at hrv
        have RV := Lib.hid hrv
        have HH := Lib.hid hH
        clear hrv hH
        go_wp2_with fail
        refine (RV.out).mono ?_
        rintro e w2 ⟨rfl, m, rfl⟩
        have B2 := below_put (w := wr) (n := m) (d := (hoT s.data.toList s.size).reverse.toArray) (Nat.le_of_lt_succ (show w1.heap.size < g + 1 by omega))
        have hJ := Tryd.strings_Join g 0 cap (hoT s.data.toList s.size).reverse ⟨#[]⟩ (Sort.putRow Value.string (Sort.ahead wr m) g 0 (hoT s.data.toList s.size).reverse.toArray) (fun j x hx => by
          have hh := Sort.holds_putRow Value.string (Sort.ahead wr m) g 0 (hoT s.data.toList s.size).toArray (hoT s.data.toList s.size).reverse.toArray (Sort.holds_ahead Value.string wr m g 0 _ HH.out) (by simp)
          have hj := (List.getElem?_eq_some_iff.1 hx).1
          have := (hh j (by simpa using hj)).1
          rw [this, getElem!_pos _ j (by simpa using hj)]
          rw [List.getElem?_eq_getElem hj] at hx
          injection hx with hx
          rw [← hx]
          rfl) (Nat.lt_of_lt_of_le hg2 (below_put (B := g) (Nat.le_refl _)).size) (by rw [List.length_reverse, HLN.out]; omega) (by rw [List.length_reverse, HLN.out]; exact hcap) (by rw [HJ.out]; have := HHL.out; omega)
        rw [HJ.out, List.length_reverse, HLN.out] at hJ
        have JN := Lib.hid hJ
        have HB2 := Lib.hid ((H1.out.trans (HB.out.mono H1.out.size)).trans (B2.mono H1.out.size))
        generalize Sort.putRow Value.string (Sort.ahead wr m) g 0 (hoT s.data.toList s.size).reverse.toArray = W2 at *
        clear hJ B2
        go_wp2_with fail
        refine (JN.out).mono ?_
        rintro e w3 ⟨rfl, h3⟩
        have HB3 := Lib.hid (HB2.out.trans (h3.mono HB2.out.size))
        clear h3
        go_wp2_with fail
        go_ret2
        exact ⟨rTl HR.out.symm rfl, HB3.out⟩

end Go.Proofs.YtogimjbjdgccnaaDoor
