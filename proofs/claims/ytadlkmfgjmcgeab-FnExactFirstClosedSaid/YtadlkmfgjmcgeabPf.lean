/- Contract: the program's 'partsFrom'. -/
import Derived.Test.YtadlkmfgjmcgeabClP
import Derived.Test.YtadlkmfgjmcgeabSo
import Derived.Test.YtadlkmfgjmcgeabCl
import Derived.Deep.DrawnRows
namespace Go.Proofs.Ytadlkmfgjmcgeab
open Go.ChangeShapes Go.WideShapes Go.ChangeAt Go.RowKit

set_option linter.unusedVariables false

theorem ptInfoP : (Try.prog.info? 66).map (fun i => (i.zero, i.size, i.bytes)) = some (some (.agg #[.int .i64 0, .int .i64 0, .int .i64 0, .int .i64 0, .int .i64 0, .string ByteArray.empty]), 6, 56) := by kernel_rfl

/-- How a piece is laid. -/
theorem laying_any {c : UInt8} (hc : pcb c = true) : ∃ g : FuncId, (g = 53 ∨ g = 54 ∨ g = 55) ∧ (∀ (x : ByteArray) (w : World), x = ⟨#[c]⟩ → Calls Try.prog 41 #[.string x] w fun e w' => e = .returned (.func (Fn.func g) #[] #[]) ∧ w = w') ∧
    ∀ (s : Sp), s.okB 1000000 → ∀ w : World, Calls Try.prog g #[.agg #[.int .i64 s.x0, .int .i64 s.x1, .int .i64 s.x2, .int .i64 s.x3, .int .i64 s.h]] w fun e w' =>
      e = .returned (.agg #[.int .i64 (s.next c).x0, .int .i64 (s.next c).x1, .int .i64 (s.next c).x2, .int .i64 (s.next c).x3, .int .i64 (s.next c).h]) ∧ Below w.heap.size w w' := by
  rcases pcb_cases hc with rfl | rfl | rfl
  · refine ⟨_, .inl rfl, fun x w hx => lay_S' x hx w, fun s hs w => ?_⟩
    obtain ⟨⟨b0, b0'⟩, ⟨b1, b1'⟩, ⟨b2, b2'⟩, ⟨b3, b3'⟩, b4, b5⟩ := hs
    exact straightP s.x0 s.x1 s.x2 s.x3 s.h b4 b5 b0 b0' b1 b1' b2 b2' b3 b3' w
  · refine ⟨_, .inr (.inl rfl), fun x w hx => lay_L' x hx w, fun s hs w => ?_⟩
    obtain ⟨⟨b0, b0'⟩, ⟨b1, b1'⟩, ⟨b2, b2'⟩, ⟨b3, b3'⟩, b4, b5⟩ := hs
    exact leftP s.x0 s.x1 s.x2 s.x3 s.h b4 b5 b0 b0' b1 b1' b2 b2' b3 b3' w
  · refine ⟨_, .inr (.inr rfl), fun x w hx => lay_R' x hx w, fun s hs w => ?_⟩
    obtain ⟨⟨b0, b0'⟩, ⟨b1, b1'⟩, ⟨b2, b2'⟩, ⟨b3, b3'⟩, b4, b5⟩ := hs
    exact rightP s.x0 s.x1 s.x2 s.x3 s.h b4 b5 b0 b0' b1 b1' b2 b2' b3 b3' w

def PrtPost (a : Sp) (n : Nat) (w : World) (e : Ending) (w' : World) : Prop :=
  ∃ g cap, e = .returned (.slice (some ⟨g, 0, none⟩) ((3 ^ n : Nat)) cap) ∧ w'.ownsRow w.heap.size 66 6 (.slice (some ⟨g, 0, none⟩) (3 ^ n) cap) (3 ^ n) (prtCells (parts a n)) ∧ Below w.heap.size w w'

theorem ltr_at {k : Nat} (hk : k < 3) : ∃ c, ltr[k]? = some c ∧ pcb c = true ∧ (ByteArray.mk #[76, 82, 83]).extract k (k + 1) = ⟨#[c]⟩ ∧ ltr.take (k + 1) = ltr.take k ++ [c] := by
  match k, hk with
  | 0, _ => exact ⟨76, rfl, rfl, by decide, rfl⟩
  | 1, _ => exact ⟨82, rfl, rfl, by decide, rfl⟩
  | 2, _ => exact ⟨83, rfl, rfl, by decide, rfl⟩

theorem parts_start (a : Sp) : prtCells (parts a 0) = [.int .i64 a.x0, .int .i64 a.x1, .int .i64 a.x2, .int .i64 a.x3, .int .i64 a.h, .string ⟨#[]⟩] := rfl
theorem litCellsP {W : World} {B n : Nat} {e : TypeId} {size : Nat} {cs : Array Value} {xs : List Value} (hn : W.heap.size = n) (hb : B ≤ n) (hs : cs.size = size) (hx : cs.toList = xs) : (W.alloc (.cells cs e)).ownsRow B e size (.slice (some ⟨n, 0, none⟩) 1 1) 1 xs := by
  subst hn hs hx
  exact ⟨by simp, .inr ⟨W.heap.size, 1, cs, rfl, hb, heap_alloc_new _ _, Nat.le_refl _, by decide, by simp, by rw [Nat.one_mul]; exact List.take_of_length_le (by simp)⟩⟩
theorem concat_run {a b t : ByteArray} (ht : a ++ b = t) (h : a.size + b.size ≤ 1000000) (w : World) : (Op.stringOp .add a b).run Try.prog w = .ok (.string t) w := by
  rw [← ht]
  exact run_string_add_sum w a b (by omega)
theorem blk6 {W : World} {g : Nat} {t : TypeId} {a0 a1 a2 a3 a4 a5 : Value} (h : W.heap[g]? = some (.cells #[a0, a1, a2, a3, a4, a5] t (0, 0))) :
    W.cell? ⟨g, 0, none⟩ = some a0 ∧ W.cell? ⟨g, 1, none⟩ = some a1 ∧ W.cell? ⟨g, 2, none⟩ = some a2 ∧ W.cell? ⟨g, 3, none⟩ = some a3 ∧ W.cell? ⟨g, 4, none⟩ = some a4 ∧ W.cell? ⟨g, 5, none⟩ = some a5 := by
  simp [World.cell?, h]
theorem blkLt {W : World} {g : Nat} {o : Obj} (h : W.heap[g]? = some o) : g < W.heap.size := (Array.getElem?_eq_some_iff.1 h).1
theorem own_lessP {W : World} {B B' : Nat} {e : TypeId} {size n : Nat} {v : Value} {xs : List Value} (h : W.ownsRow B e size v n xs) (hB : B' ≤ B) : W.ownsRow B' e size v n xs := by
  refine ⟨h.1, ?_⟩
  rcases h.2 with h2 | ⟨g, cap, cur, h1, h2, h3⟩
  · exact .inl h2
  · exact .inr ⟨g, cap, cur, h1, by omega, h3⟩
theorem own_nb {W : World} {B e size n : Nat} {v : Value} {xs : List Value} (h : W.ownsRow B e size v n xs) : v.ownBlock ≠ some W.heap.size := by
  intro hv
  have := (h.lt _ hv).2
  omega

set_option maxRecDepth 100000 in
set_option maxHeartbeats 3200000 in
theorem partsFrom_any (a : Sp) (ha : a.okB 900000) (n : Nat) (hn : n ≤ 10) (w : World) :
    Calls Try.prog 34 #[.agg #[.int .i64 a.x0, .int .i64 a.x1, .int .i64 a.x2, .int .i64 a.x3, .int .i64 a.h], .int .i64 n] w (PrtPost a n w) := by
  obtain ⟨i0, hi, iz0, iz1, iz2⟩ := info_parts ptInfoP
  go_enter Try.func34, Try.ntmps34
  go_wp2_with fail
  go_loopw [5, 15] (fun v i wr => ∃ k : Nat, k ≤ n ∧ i = .int .i64 k ∧ wr.ownsRow w.heap.size 66 6 v (3 ^ k) (prtCells (parts a k)) ∧ Below w.heap.size w wr) (fun _ i _ => n - (intOf i).toNat)
  case atStart => exact ⟨0, Nat.zero_le _, rfl, by rw [parts_start]; exact litCellsP (by simp) (Nat.le_succ _) rfl rfl, by go_grown⟩
  case round =>
    obtain ⟨k, hk, rfl, hO, hb⟩ := hrel
    have hz : w.heap.size ≤ wr.heap.size := hb.size
    have h3 : 0 < 3 ^ k := Nat.pow_pos (by decide)
    obtain ⟨g, cap, rfl, hg0, hcp⟩ := hO.form h3
    by_cases hlt : k < n
    · obtain ⟨M, hM⟩ : ∃ M, 3 ^ k = M := ⟨_, rfl⟩
      have hM1 : M ≤ 59049 := by rw [← hM]; exact Nat.pow_le_pow_right (by decide) (show k ≤ 10 by omega)
      have hMS := Lib.hid (show 3 ^ (k + 1) = 3 * M by rw [Nat.pow_succ, hM, Nat.mul_comm])
      rw [hM] at hO h3
      have hl := parts_len a k
      rw [hM] at hl
      have hok : ∀ p ∈ parts a k, p.1.okB 950000 ∧ p.2.length ≤ 10 := fun p hp => ⟨(parts_ok ha hp).1.mono (by omega), by rw [(parts_ok ha hp).2]; omega⟩
      have hnx := parts_nxt a k
      generalize parts a k = l at hO hl hok hnx
      have hg := (hO.lt g rfl).2
      have HP := Lib.hid (prt_of hO hl)
      have HL := Lib.hid hl
      have HOK := Lib.hid hok
      have HNX := Lib.hid hnx
      have HB := Lib.hid hb
      obtain ⟨wo, rfl⟩ : ∃ wo : World, wo = wr := ⟨_, rfl⟩
      rw [hM]
      clear hO hl hok hnx hb hM
      go_wp2_with fail
      go_loopw [6, 19] (fun t j wr => ∃ (jj : Nat) (v : Value), jj ≤ M ∧ j = .int .i64 jj ∧ v = t ∧ wr.ownsRow wo.heap.size 66 6 v (3 * jj) (prtCells (nxt (l.take jj))) ∧ Below wo.heap.size wo wr) (fun _ j _ => M - (intOf j).toNat)
      case atStart => exact ⟨0, _, Nat.zero_le _, rfl, rfl, World.ownsRow_nil _ _ _ _, Below.refl _ _⟩
      case round =>
        obtain ⟨j, v, hj, rfl, rfl, hN, hb2⟩ := hrel
        have hz2 := hb2.size
        by_cases hlj : j < M
        · obtain ⟨p, hp⟩ : ∃ p, l[j]? = some p := ⟨_, List.getElem?_eq_getElem (by rw [HL.out]; exact hlj)⟩
          obtain ⟨c0, c1, c2, c3, c4, c5⟩ := (HP.out.below hg hb2) j p hp
          obtain ⟨hpo, hpl⟩ := HOK.out p (List.mem_of_getElem? hp)
          have HT := Lib.hid (nxt_take hp)
          obtain ⟨s, u⟩ := p
          simp only at c0 c1 c2 c3 c4 c5 hpo hpl
          have HPO := Lib.hid hpo
          have HN := Lib.hid hN
          have HB2 := Lib.hid hb2
          obtain ⟨wi, rfl⟩ : ∃ wi : World, wi = wr := ⟨_, rfl⟩
          clear hp hpo hN hb2
          go_wp2_with fail
          go_loopw [6, 23] (fun t c wr => ∃ (cc : Nat) (v : Value), cc ≤ 3 ∧ c = .int .i64 cc ∧ v = t ∧ wr.ownsRow wo.heap.size 66 6 v (3 * j + cc) (prtCells (nxt (l.take j) ++ (ltr.take cc).map fun c => (s.next c, u ++ [c]))) ∧ v.ownBlock ≠ some wi.heap.size ∧
            wr.heap[wi.heap.size]? = some (.cells #[.int .i64 s.x0, .int .i64 s.x1, .int .i64 s.x2, .int .i64 s.x3, .int .i64 s.h, .string (ofL u)] 66 (0, 0)) ∧ Below wo.heap.size wo wr) (fun _ c _ => 4 - (intOf c).toNat)
          case atStart => exact ⟨0, v, by omega, rfl, rfl, by simpa using HN.out.alloc _, own_nb HN.out, heap_alloc_new _ _, HB2.out.alloc hz2 _⟩
          case round =>
            obtain ⟨cc, v, hcc, rfl, rfl, hN, hnb, hblk, hb2⟩ := hrel
            have hz3 := hb2.size
            have hzl := blkLt hblk
            by_cases hlc : cc < 3
            · obtain ⟨c, hc, hpc, hx, hta⟩ := ltr_at hlc
              obtain ⟨F, hF, lay1, lay2⟩ := laying_any hpc
              have LAY1 := Lib.hid (fun w => lay1 _ w hx)
              have LAY2 := Lib.hid (lay2 s (HPO.out.mono (by decide)))
              obtain ⟨T, hT⟩ : ∃ T, ofL (u ++ [c]) = T := ⟨_, rfl⟩
              have k1 : ∀ w : World, (Op.stringOp .add (ofL u) ((ByteArray.mk #[76, 82, 83]).extract cc (cc + 1))).run Try.prog w = .ok (.string T) w := fun w => concat_run (by rw [hx, ofL_snoc, hT]) (by rw [hx, ofL_size]; show _ + 1 ≤ _; omega) w
              have hS0 := blk6 hblk
              have HTA := Lib.hid hta
              have HTT := Lib.hid hT
              have HN := Lib.hid hN
              have HNB := Lib.hid hnb
              have HK := Lib.hid hblk
              have HB3 := Lib.hid hb2
              obtain ⟨q, hq⟩ : ∃ q, s.next c = q := ⟨_, rfl⟩
              have HV := Lib.hid (show prtCells (nxt (l.take j) ++ (ltr.take (cc + 1)).map fun c => (s.next c, u ++ [c])) = prtCells (nxt (l.take j) ++ (ltr.take cc).map fun c => (s.next c, u ++ [c])) ++ [.int .i64 q.x0, .int .i64 q.x1, .int .i64 q.x2, .int .i64 q.x3, .int .i64 q.h, .string T] by
                rw [hta, List.map_append, ← List.append_assoc, prtCells_append (_ ++ _), ← hq, ← hT]
                rfl)
              rw [hq] at LAY2
              have HQ := Lib.hid hq
              clear lay1 lay2 hx hta hT hN hnb hblk hb2 hq hc
              rcases hF with rfl | rfl | rfl
              all_goals
                go_wp2_with fail
                go_region_held3 (fun w' => w'.cell? ⟨wi.heap.size, 0, none⟩ = some (.int .i64 s.x0) ∧ w'.cell? ⟨wi.heap.size, 1, none⟩ = some (.int .i64 s.x1) ∧ w'.cell? ⟨wi.heap.size, 2, none⟩ = some (.int .i64 s.x2) ∧ w'.cell? ⟨wi.heap.size, 3, none⟩ = some (.int .i64 s.x3) ∧ w'.cell? ⟨wi.heap.size, 4, none⟩ = some (.int .i64 s.h) ∧ w'.cell? ⟨wi.heap.size, 5, none⟩ = some (.string (ofL u)))
                  (first | (first | (with_reducible assumption) | (with_reducible exact pr_drew hS0) | (with_reducible exact pr_drew (pr_alloc hS0 _)) | (with_reducible exact pr_alloc (pr_drew hS0) _) | (with_reducible refine pr_drew ?_; with_reducible assumption) | (with_reducible refine pr_alloc ?_ _; with_reducible assumption) | (with_reducible refine pr_re (by with_reducible assumption) ?_ _; (focus first | (with_reducible assumption) | omega | (simp; done) | (simp; omega))) | (with_reducible refine pr_below ?_ ?_ h1; (focus first | (with_reducible assumption) | (with_reducible refine pr_undrew ?_; with_reducible assumption)); (focus first | (with_reducible assumption) | omega | (simp; done) | (simp; omega))) | ((repeat (with_reducible refine pr_set ?_ _ _ ?_; rotate_left 1; (focus first | (with_reducible assumption) | omega | (simp; done) | (simp; omega)))); with_reducible assumption)) | (with_reducible refine pr_far ?_ ?_ hgrow; (first | (with_reducible assumption) | (with_reducible exact pr_drew (pr_alloc (by with_reducible assumption) _)) | (with_reducible exact pr_alloc (by with_reducible assumption) _)); exact Ne.symm HNB.out))
                  (first | (go_at_call 41; refine (LAY1.out _).mono ?_; rintro e w' ⟨rfl, rfl⟩) | ((with_reducible refine (LAY2.out _).mono ?_); rintro e wA ⟨rfl, h1⟩; (try with_reducible replace h1 := undrew h1); have HOA := Lib.hid (own_below HN.out h1); have hqA := h1.size; (try simp at hqA); have hzA : wi.heap.size < wA.heap.size := (by omega)) | ((refine step_append_lies _ (by rfl) _ _ _ (by rfl) wo.heap.size 66 i0 (.agg #[.int .i64 0, .int .i64 0, .int .i64 0, .int .i64 0, .int .i64 0, .string ByteArray.empty]) 6 56 Try.underlying63 hi iz0 iz1 iz2 (by rfl) (by decide) v (3 * j + cc) _ (by rfl) (HOA.out.alloc _) ⟨wA.heap.size, 0, none⟩ 1 1 [.int .i64 q.x0, .int .i64 q.x1, .int .i64 q.x2, .int .i64 q.x3, .int .i64 q.h, .string T] (by rfl) (by rfl) (World.news_of_block (heap_alloc_new _ _)) (by intro u hu; simp at hu; rcases hu with rfl | rfl | rfl | rfl | rfl | rfl <;> rfl) (by decide) (by unfold maxLen; omega) (by omega) (by simp; omega) (wA.heap.size + 1) (by simp) ?_); intro g2 cap2 w3 hown3 hgrow hat hlt3))
                have hBA := HB3.out.trans (h1.mono hz3)
                have hlt' := (HOA.out.alloc (.cells #[.int .i64 q.x0, .int .i64 q.x1, .int .i64 q.x2, .int .i64 q.x3, .int .i64 q.h, .string T] 66)).lt
                have HB4 := Lib.hid ((hBA.alloc (by omega) (.cells #[.int .i64 q.x0, .int .i64 q.x1, .int .i64 q.x2, .int .i64 q.x3, .int .i64 q.h, .string T] 66)).grown hgrow (by simp; omega) (fun k hk => (hlt' k hk).1))
                have hbA := (h1.block wi.heap.size hzl).trans HK.out
                have hbB := (Below.heap_alloc wA (.cells #[.int .i64 q.x0, .int .i64 q.x1, .int .i64 q.x2, .int .i64 q.x3, .int .i64 q.h, .string T] 66) wi.heap.size hzA).trans hbA
                have HK4 := Lib.hid ((hgrow.block wi.heap.size (by simp; omega) (Ne.symm HNB.out)).trans hbB)
                have hne4 : (Value.slice (some ⟨g2, 0, none⟩) (3 * j + cc + 1) cap2).ownBlock ≠ some wi.heap.size := by
                  rcases hat with h | h
                  · intro h'; exact HNB.out (h.trans h')
                  · intro h'; simp only [Value.ownBlock, Option.some.injEq] at h'; omega
                have HN4 := Lib.hid hown3
                have HE4 := Lib.hid hne4
                clear hBA hlt' hbA hbB hne4 hown3 hgrow hat h1 hS0
                go_wp2_with fail
                go_roundw
                case rel => exact ⟨cc + 1, _, by omega, by go_num, rfl, by rw [HV.out]; exact HN4.out, HE4.out, HK4.out, HB4.out⟩
                case measure => simp [intOf]; omega
            · obtain rfl : cc = 3 := by omega
              have HN := Lib.hid hN
              have HB3 := Lib.hid hb2
              clear hN hnb hblk hb2
              go_wp2_with fail
              go_roundw
              case rel => exact ⟨j + 1, v, by omega, by go_num, rfl, by rw [HT.out]; exact HN.out, HB3.out⟩
              case measure => simp [intOf]; omega
        · obtain rfl : j = M := by omega
          have hta : l.take j = l := List.take_of_length_le (by rw [HL.out]; exact Nat.le_refl _)
          rw [hta] at hN
          have HN := Lib.hid (own_lessP hN hz)
          have HB2 := Lib.hid (HB.out.trans (hb2.mono hz))
          clear hN hb2 hta
          go_wp2_with fail
          go_roundw
          case rel => exact ⟨k + 1, by omega, by go_num, by rw [hMS.out, HNX.out]; exact HN.out, HB2.out⟩
          case measure => simp [intOf]; omega
    · obtain rfl : k = n := by omega
      have HO := Lib.hid hO
      have HB := Lib.hid hb
      clear hO hb
      go_wp2_with fail
      go_ret
      exact ⟨g, cap, rfl, HO.out, HB.out⟩

end Go.Proofs.Ytadlkmfgjmcgeab
