/- Contract: the model's split of a text. -/
import Derived.Test.YtoaccnpkobbaaaaDoorLsM
import Derived.Test.YtoaccnpkobbaaaaDoorBa
import Derived.WalkKit
import Derived.ProofKit
import Derived.Handy
import Derived.Outline
import Derived.WalkSpells
import Derived.BigQuiet
import Derived.Lib.Hide
import Derived.Laws.AppendOwn
import Derived.Lib.Builder
import Derived.Lib.FrozenHead
namespace Go.Proofs.YtoaccnpkobbaaaaDoor
open Go.ChangeShapes Go.WideShapes Go.ChangeAt Go.RowKit

set_option linter.unusedVariables false

theorem strInfo : (Tryd.prog.info? 9).map (fun i => (i.zero, i.size, i.bytes)) = some (some (.string ⟨#[]⟩), 1, 16) := by kernel_rfl

theorem infoP {t : TypeId} {z : Value} {n m : Nat} (h : (Tryd.prog.info? t).map (fun i => (i.zero, i.size, i.bytes)) = some (some z, n, m)) : ∃ i, Tryd.prog.info? t = some i ∧ i.zero = some z ∧ i.size = n ∧ i.bytes = m := by
  obtain ⟨i, hi, e⟩ := Option.map_eq_some_iff.1 h
  simp only [Prod.mk.injEq] at e
  exact ⟨i, hi, e.1, e.2.1, e.2.2⟩

theorem newcL {W : World} {cs : Array Value} {e : TypeId} {n : Nat} (hn : W.heap.size = n) : ∀ (j : Nat) u, cs.toList[j]? = some u → (W.alloc (.cells cs e)).cell? ((⟨n, 0, none⟩ : Addr).add j) = some u := by
  subst hn
  intro j u hu
  have h := Lib.cell_of_heap (heap_alloc_new W (.cells cs e)) j
  have ha : ((⟨W.heap.size, 0, none⟩ : Addr).add j) = ⟨W.heap.size, j, none⟩ := by by_cases e : j = 0 <;> simp [Addr.add, e]
  rw [ha, h, ← hu]
  simp

theorem gs_of {s : ByteArray} {i : Nat} {c : UInt8} (h : s.data.toList[i]? = some c) (hi : i < s.size) : s[i]'hi = c := by
  obtain ⟨h1, h2⟩ := List.getElem?_eq_some_iff.1 h
  exact h2

theorem ex_ofL (s : ByteArray) (f i : Nat) : s.extract f i = ofL ((s.data.toList.drop f).take (i - f)) := by
  rw [← ofL_self (s.extract f i), Lib.extract_data]

/-- What a list of texts is, behind a call. -/
def LsPost (xs : List (List UInt8)) (w : World) (e : Ending) (w' : World) : Prop :=
  ∃ g cap, e = .returned (.slice (some ⟨g, 0, none⟩) xs.length cap) ∧ w'.ownsRow w.heap.size 9 1 (.slice (some ⟨g, 0, none⟩) xs.length cap) xs.length (strC xs) ∧ Below w.heap.size w w'

set_option maxRecDepth 100000 in
set_option maxHeartbeats 1600000 in
theorem l1Split_any (s : ByteArray) (b : UInt8) (hs : s.size ≤ 1048576) (w : World) :
    Calls Tryd.prog 24 #[.string s, .int .u8 (b.toNat : Int)] w (LsPost (lsp b s.data.toList) w) := by
  obtain ⟨i0, hi, iz0, iz1, iz2⟩ := infoP strInfo
  go_enter Tryd.func24, Tryd.ntmps24
  go_wp2_with fail
  go_loopw [5, 6, 7] (fun o v6 v7 wr => ∃ (f i : Nat) (outs : List (List UInt8)), f ≤ i ∧ i ≤ s.size ∧ outs.length ≤ f ∧ v6 = .int .i64 (f : Int) ∧ v7 = .int .i64 (i : Int) ∧ outs ++ lsp b (s.data.toList.drop f) = lsp b s.data.toList ∧ b ∉ (s.data.toList.drop f).take (i - f) ∧ wr.ownsRow w.heap.size 9 1 o outs.length (strC outs) ∧ Below w.heap.size w wr) (fun _ _ v7 _ => s.size - (intOf v7).toNat)
  case atStart => exact ⟨0, 0, [], Nat.le_refl _, Nat.zero_le _, Nat.le_refl _, rfl, rfl, rfl, by simp, World.ownsRow_nil _ _ _ _, Below.refl _ _⟩
  case round =>
    obtain ⟨f, i, outs, hfi, his, hol, rfl, rfl, hls, hnb, hO, hb⟩ := hrel
    have HL := Lib.hid hls
    have HNB := Lib.hid hnb
    have HO := Lib.hid hO
    have HB := Lib.hid hb
    have hz : w.heap.size ≤ wr.heap.size := hb.size
    clear hls hnb hO hb
    have k0 : (0 : Int) ≤ (i : Int) := by omega
    by_cases hlt : i < s.size
    · obtain ⟨d, hd⟩ : ∃ d, s.data.toList[i]? = some d := ⟨_, List.getElem?_eq_getElem (by rw [size_list]; exact hlt)⟩
      have gd : ∀ h : i < s.size, s[i]'h = d := fun h => gs_of hd h
      have HD := Lib.hid hd
      have k1 : (i : Int) < (s.size : Int) := by omega
      have w5 : IntKind.i64.wrap ((i : Int) + 1) = ((i + 1 : Nat) : Int) := by rw [IntKind.wrap_i64]; omega
      clear hd
      by_cases hdb : d = b
      · subst hdb
        have X1 : s.extract f i = ofL ((s.data.toList.drop f).take (i - f)) := ex_ofL s f i
        obtain ⟨x, hx⟩ : ∃ x, (s.data.toList.drop f).take (i - f) = x := ⟨_, rfl⟩
        rw [hx] at X1
        have k2 : (0 : Int) ≤ (f : Int) := by omega
        have k3 : (f : Int) ≤ (i : Int) := by omega
        have k4 : (i : Int) ≤ (s.size : Int) := by omega
        have HS := Lib.hid (show outs ++ [x] ++ lsp d (s.data.toList.drop (i + 1)) = lsp d s.data.toList by
          rw [← HL.out, lsp_step hfi HD.out HNB.out, hx, List.append_assoc]; rfl)
        clear hx
        go_wp2_with (at_builtin; refine wpList_append_own _ rfl _ _ 44 rfl w.heap.size 9 i0 (.string ⟨#[]⟩) 1 16 Tryd.underlying44 hi iz0 iz1 iz2 rfl (by decide) _ _ _ rfl (HO.out.alloc _) ⟨wr.heap.size, 0, none⟩ 1 1 [.string (ofL x)] rfl rfl (newcL rfl) (by intro u hu; simp at hu; subst hu; rfl) (by unfold maxLen; omega) (by omega) (by simp; omega) ?_)
        intro v' w3 hJ3 hg3 _
        have HO3 := Lib.hid hJ3
        have HB3 := Lib.hid ((HB.out.alloc hz (.cells #[.string (ofL x)] 9)).grown hg3 (by simp; omega) (fun k hk => (HO.out.lt k hk).1))
        clear hJ3 hg3
        go_wp2_with fail
        exact ⟨⟨i + 1, i + 1, outs ++ [x], Nat.le_refl _, by omega, by simp; omega, by go_num, by go_num, HS.out, by simp, by rw [List.length_append, strC_append]; exact HO3.out, HB3.out⟩, by simp [intOf]; omega⟩
      · have hne : ((d.toNat : Int) == (b.toNat : Int)) = false := by
          simp only [beq_eq_false_iff_ne, ne_eq]
          exact fun h => hdb (UInt8.toNat_inj.1 (by omega))
        have HS := Lib.hid (notin_step hfi HD.out hdb HNB.out)
        go_wp2_with fail
        exact ⟨⟨f, i + 1, outs, by omega, by omega, hol, rfl, by go_num, HL.out, HS.out, HO.out, HB.out⟩, by simp [intOf]; omega⟩
    · obtain rfl : i = s.size := by omega
      have X1 : s.extract f s.size = ofL ((s.data.toList.drop f).take (s.size - f)) := ex_ofL s f s.size
      obtain ⟨x, hx⟩ : ∃ x, (s.data.toList.drop f).take (s.size - f) = x := ⟨_, rfl⟩
      have hxd : s.data.toList.drop f = x := by
        rw [← hx, List.take_of_length_le (by rw [List.length_drop, size_list]; exact Nat.le_refl _)]
      have hbx : b ∉ x := by rw [← hx]; exact HNB.out
      have HS := Lib.hid (show outs ++ [x] = lsp b s.data.toList by rw [← HL.out, hxd, lsp_miss b x hbx])
      rw [hx] at X1
      have k2 : (0 : Int) ≤ (f : Int) := by omega
      have k3 : (f : Int) ≤ (s.size : Int) := by omega
      clear hx hxd hbx
      go_wp2_with (at_builtin; refine wpList_append_own _ rfl _ _ 44 rfl w.heap.size 9 i0 (.string ⟨#[]⟩) 1 16 Tryd.underlying44 hi iz0 iz1 iz2 rfl (by decide) _ _ _ rfl (HO.out.alloc _) ⟨wr.heap.size, 0, none⟩ 1 1 [.string (ofL x)] rfl rfl (newcL rfl) (by intro u hu; simp at hu; subst hu; rfl) (by unfold maxLen; omega) (by omega) (by simp; omega) ?_)
      intro v' w3 hJ3 hg3 _
      have hJ4 : w3.ownsRow w.heap.size 9 1 v' (lsp b s.data.toList).length (strC (lsp b s.data.toList)) := by rw [← HS.out, List.length_append, strC_append]; exact hJ3
      obtain ⟨g, cap, rfl⟩ : ∃ g cap, v' = .slice (some ⟨g, 0, none⟩) (lsp b s.data.toList).length cap := by
        rcases hJ4.2 with ⟨_, h0⟩ | ⟨g, cap, cur, hv, _⟩
        · have := List.length_pos_iff.2 (lsp_ne b s.data.toList)
          omega
        · exact ⟨g, cap, hv⟩
      have HO3 := Lib.hid hJ4
      have HB3 := Lib.hid ((HB.out.alloc hz (.cells #[.string (ofL x)] 9)).grown hg3 (by simp; omega) (fun k hk => (HO.out.lt k hk).1))
      clear hJ3 hJ4 hg3
      go_wp2_with fail
      go_ret
      exact ⟨g, cap, rfl, HO3.out, HB3.out⟩

end Go.Proofs.YtoaccnpkobbaaaaDoor
