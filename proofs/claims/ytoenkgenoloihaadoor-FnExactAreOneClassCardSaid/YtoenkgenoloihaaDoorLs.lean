/- Contract: the arrays of a ring spun. -/
import Derived.Test.YtoenkgenoloihaaDoorLq
import Derived.Test.YtoenkgenoloihaaDoorCl
import Derived.Deep.DrawnRows
import Derived.Deep.RegionHeld3
import Derived.Laws.Concat
namespace Go.Proofs.YtoenkgenoloihaaDoor
open Go.ChangeShapes Go.WideShapes Go.ChangeAt Go.RowKit

set_option linter.unusedVariables false

def lpCells (L : List Lp) : List Value := L.flatMap encLp

theorem lpCells_append (L M : List Lp) : lpCells (L ++ M) = lpCells L ++ lpCells M := by simp [lpCells]

theorem lpCells_one (x : Lp) : lpCells [x] = encLp x := by simp [lpCells]

theorem lpCells_len (L : List Lp) : (lpCells L).length = L.length * 40 := by
  induction L with
  | nil => rfl
  | cons x L ih => simp only [lpCells, List.flatMap_cons, List.length_append, encLp_len, List.length_cons] at ih ⊢; omega

theorem lpCells_at : ∀ (L : List Lp) (j : Nat) (x : Lp), L[j]? = some x → ∀ (i : Nat) (v : Value), (encLp x)[i]? = some v → (lpCells L)[j * 40 + i]? = some v
  | [], _, _, h, _, _, _ => by simp at h
  | y :: L, 0, x, h, i, v, hv => by
    simp only [List.getElem?_cons_zero, Option.some.injEq] at h
    subst h
    have hi : i < (encLp y).length := (List.getElem?_eq_some_iff.1 hv).1
    simp only [lpCells, List.flatMap_cons, Nat.zero_mul, Nat.zero_add]
    rw [List.getElem?_append_left hi]
    exact hv
  | y :: L, j + 1, x, h, i, v, hv => by
    have ih := lpCells_at L j x (by simpa using h) i v hv
    simp only [lpCells, List.flatMap_cons] at ih ⊢
    rw [List.getElem?_append_right (by rw [encLp_len]; omega), encLp_len, show (j + 1) * 40 + i - 40 = j * 40 + i by omega]
    exact ih

theorem own_lessL {W : World} {B B' : Nat} {e : TypeId} {size n : Nat} {v : Value} {xs : List Value} (h : W.ownsRow B e size v n xs) (hB : B' ≤ B) : W.ownsRow B' e size v n xs := by
  refine ⟨h.1, ?_⟩
  rcases h.2 with h2 | ⟨g, cap, cur, h1, h2, h3⟩
  · exact .inl h2
  · exact .inr ⟨g, cap, cur, h1, by omega, h3⟩

theorem lpInfo3 : (Tryd.prog.info? 45).map (fun i => (i.zero, i.size, i.bytes)) = some (some (.agg (arr zLp)), 40, 40) := by kernel_rfl

theorem concat_runL {a b t : ByteArray} (ht : a ++ b = t) (h : a.size + b.size ≤ 1000000) (w : World) : (Op.stringOp .add a b).run Tryd.prog w = .ok (.string t) w := by
  rw [← ht]
  exact run_string_add_sum w a b (by omega)

theorem rot1_take {l : List UInt8} {k : Nat} (hk : k < l.length) : (rot1 l).take (k + 1) = (rot1 l).take k ++ [spn l (k + 1)] := by
  have h : (rot1 l)[k]? = some (spn l (k + 1)) := by simp [rot1, hk]
  obtain ⟨h1, h2⟩ := List.getElem?_eq_some_iff.1 h
  rw [List.take_succ_eq_append_getElem h1, h2]

theorem spn_text (l : List UInt8) (k : Nat) : (ofL l).extract k l.length ++ (ofL l).extract 0 k = ofL (spn l k) := by
  apply ByteArray.ext
  have h1 : ((ofL l).extract k l.length).data.toList = l.drop k := by
    rw [Lib.extract_data]
    show List.take (l.length - k) (List.drop k l) = l.drop k
    exact List.take_of_length_le (by simp)
  have h2 : ((ofL l).extract 0 k).data.toList = l.take k := by
    rw [Lib.extract_data]
    simp [ofL]
  rw [ByteArray.data_append]
  apply Array.toList_inj.1
  rw [Array.toList_append, h1, h2]
  rfl

set_option maxRecDepth 100000 in
set_option maxHeartbeats 1600000 in
theorem spins_any (l : List UInt8) (hl : l.length ≤ 40) (h0 : ∀ c ∈ l, c ≠ 0) (w : World) :
    Calls Tryd.prog 49 #[.agg (arr (mkLp l))] w fun e w' => ∃ v, e = .returned v ∧ w'.ownsRow w.heap.size 45 40 v l.length (lpCells ((rot1 l).map mkLp)) ∧ Below w.heap.size w w' := by
  obtain ⟨i0, hi, iz0, iz1, iz2⟩ := info_parts lpInfo3
  have hT := fun W => text_any (mkLp l) W
  rw [txt_mk hl h0] at hT
  have HT := Lib.hid hT
  have HF := Lib.hid (fun (k : Nat) (W : World) => loopFrom_any (spn l k) (by rw [spn_len]; exact hl) W)
  obtain ⟨n, hn⟩ : ∃ n, l.length = n := ⟨_, rfl⟩
  have HN := Lib.hid hn
  have hz : (ofL l).size = n := by rw [ofL_size, hn]
  have HX := Lib.hid (fun k => spn_text l k)
  have a0 := LpAt.new w (mkLp l)
  obtain ⟨K, hK⟩ : ∃ K, K = 40 := ⟨_, rfl⟩
  have hld := a0.loadK hK
  have zE := zK hK
  have hA := aK hK (mkLp l)
  have HK := Lib.hid hK
  have hzv := (zero_of_info (P := Tryd.prog) lpInfo).1
  generalize arr zLp = Z at hzv
  rw [hn] at hl ⊢
  generalize hs : ofL l = s at *
  generalize arr (mkLp l) = A at *
  clear hT hK a0 hn h0 hs
  go_enter Tryd.func49, Tryd.ntmps49
  go_wp2_with fail
  refine (HT.out _).mono ?_
  rintro e w1 ⟨rfl, hb1⟩
  have HB := Lib.hid (ba (by go_grown) hb1 : Below w.heap.size w w1)
  clear hb1 hld
  go_wp2_with fail
  go_loopw [3, 10] (fun t i wr => ∃ (k : Nat) (v : Value), k ≤ n ∧ i = .int .i64 k ∧ v = t ∧ wr.ownsRow w.heap.size 45 40 v k (lpCells (((rot1 l).take k).map mkLp)) ∧ Below w.heap.size w wr) (fun _ i _ => n - (intOf i).toNat)
  case atStart => exact ⟨0, _, Nat.zero_le _, rfl, rfl, World.ownsRow_nil _ _ _ _, HB.out⟩
  case round =>
    obtain ⟨k, v, hk, rfl, rfl, hO, hb⟩ := hrel
    have HO := Lib.hid hO
    have HB2 := Lib.hid hb
    have hzb := hb.size
    by_cases hlt : k < n
    · have i1 : (0 : Int) ≤ (k : Int) := by omega
      have i2 : (k : Int) + 1 ≤ (n : Int) := by omega
      have i3 : (0 : Int) ≤ (k : Int) + 1 := by omega
      have i4 : k + 1 ≤ n := by omega
      have i5 : ((k + 1 : Nat) : Int) ≤ (n : Int) := by omega
      have hw : IntKind.i64.wrap ((k : Int) + 1) = (k : Int) + 1 := by rw [IntKind.wrap_i64]; omega
      have hx := HX.out (k + 1)
      rw [HN.out] at hx
      have F := Lib.hid (HF.out (k + 1))
      have HV := Lib.hid (show lpCells (((rot1 l).take (k + 1)).map mkLp) = lpCells (((rot1 l).take k).map mkLp) ++ encLp (mkLp (spn l (k + 1))) by
        rw [rot1_take (by rw [HN.out]; exact hlt), List.map_append, lpCells_append]
        simp [lpCells])
      obtain ⟨T, hTt⟩ : ∃ T, ofL (spn l (k + 1)) = T := ⟨_, rfl⟩
      rw [hTt] at hx F
      have k1 : ∀ w : World, (Op.stringOp .add (s.extract (k + 1) n) (s.extract 0 (k + 1))).run Tryd.prog w = .ok (.string T) w := fun w => concat_runL hx (by rw [ByteArray.size_extract, ByteArray.size_extract]; omega) w
      obtain ⟨y, hy⟩ : ∃ y, mkLp (spn l (k + 1)) = y := ⟨_, rfl⟩
      rw [hy] at F HV
      have hAy := aK HK.out y
      have hfy := fold_K HK.out y
      have kb : ¬ 16777216 < K := by rw [HK.out]; decide
      have kz : ¬ K = 0 := by rw [HK.out]; decide
      clear hx hTt hy hO hb
      go_wp2_with fail
      go_region_held3 (fun _ => True) (trivial)
        (first | ((with_reducible refine (F.out _).mono ?_); rintro e wA ⟨rfl, h1⟩; (try with_reducible replace h1 := undrew h1); have HOA := Lib.hid (own_below HO.out h1); have hqA := h1.size; (try simp at hqA)) | ((refine step_append_lies _ (by rfl) _ _ _ (by rfl) w.heap.size 45 i0 (.agg (arr zLp)) 40 40 Tryd.underlying49 hi iz0 iz1 iz2 (arr_size _) (by decide) v k _ (by rfl) (HOA.out.alloc _) ⟨wA.heap.size, 0, none⟩ 1 1 (encLp y) (by rfl) (by rw [encLp_len]) (World.news_of_block (cs := arr y) (heap_alloc_new _ _)) (enc_one y) (by decide) (by unfold maxLen; omega) (by omega) (by simp; omega) (wA.heap.size + 1) (by simp) ?_); intro g2 cap2 w3 hown3 hgrow hat hlt3))
      have hBA := HB2.out.trans (h1.mono hzb)
      have hlt' := (HOA.out.alloc (.cells (arr y) 45)).lt
      have HB4 := Lib.hid ((hBA.alloc (by omega) (.cells (arr y) 45)).grown hgrow (by simp; omega) (fun k hk => (hlt' k hk).1))
      have HN4 := Lib.hid hown3
      clear hBA hlt' hown3 hgrow hat h1
      go_wp2_with fail
      go_roundw
      case rel => exact ⟨k + 1, _, by omega, by go_num, rfl, by rw [HV.out]; exact HN4.out, HB4.out⟩
      case measure => simp [intOf]; omega
    · obtain rfl : k = n := by omega
      have HTA := Lib.hid (show (rot1 l).take k = rot1 l from List.take_of_length_le (by rw [rot1_len, HN.out]; exact Nat.le_refl _))
      clear hO hb
      go_wp2_with fail
      go_ret
      exact ⟨v, rfl, by have := HO.out; rw [HTA.out] at this; exact this, HB2.out⟩

end Go.Proofs.YtoenkgenoloihaaDoor
