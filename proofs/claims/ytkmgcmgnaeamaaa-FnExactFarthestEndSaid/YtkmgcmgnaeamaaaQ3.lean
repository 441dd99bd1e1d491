/- Contracts and facts, put together (part 3). Conditions: each says its own. -/
import Derived.Test.YtkmgcmgnaeamaaaQ2
import Derived.Laws.AppendOwn
import Derived.Laws.OwnMore
import Derived.Deep.AppendLies
import Derived.Deep.DrawnRows
import Derived.Maps.OwnOps

/- Contract: the program's stepsOf. -/
namespace Go.Proofs.Ytkmgcmgnaeamaaa
open Go.ChangeShapes Go.WideShapes Go.ChangeAt Go.RowKit

theorem stInfo : (Try.prog.info? 81).map (fun i => (i.zero, i.size, i.bytes)) = some (some (.agg #[.int .i64 0, .int .i64 0, .int .i64 0, .int .i64 0, .int .i64 0]), 5, 40) := by kernel_rfl

theorem own_below {W w1 : World} {B : Nat} {e : TypeId} {size n : Nat} {v : Value} {xs : List Value} (h : W.ownsRow B e size v n xs) (hb : Below W.heap.size W w1) : w1.ownsRow B e size v n xs :=
  h.kept (row := none) ⟨hb.os, hb.tape, hb.output, hb.size, fun k hk _ => hb.block k hk⟩ (by cases v.ownBlock <;> simp)

theorem own_sp {W : World} {B n g cap i : Nat} {e : TypeId} {l : List Sp} {s : Sp} (h : W.ownsRow B e 5 (.slice (some ⟨g, 0, none⟩) n cap) n (spCells l)) (hn : l.length = n) (hs : l[i]? = some s) :
    W.cell? ⟨g, i * 5, none⟩ = some (.int .i64 s.x0) ∧ W.cell? ⟨g, i * 5 + 1, none⟩ = some (.int .i64 s.x1) ∧ W.cell? ⟨g, i * 5 + 2, none⟩ = some (.int .i64 s.x2) ∧ W.cell? ⟨g, i * 5 + 3, none⟩ = some (.int .i64 s.x3) ∧ W.cell? ⟨g, i * 5 + 4, none⟩ = some (.int .i64 s.h) := by
  have hi : i < n := by rw [← hn]; exact (List.getElem?_eq_some_iff.1 hs).1
  have a := fun j (hj : j < 5) => (h.cellAt (i * 5 + j) (by omega)).trans ((by rw [Nat.mul_comm]) : _ = (spCells l)[5 * i + j]?) |>.trans (spCells_at l hs j hj)
  exact ⟨a 0 (by omega), a 1 (by omega), a 2 (by omega), a 3 (by omega), a 4 (by omega)⟩

def StepsPost (s : ByteArray) (w : World) (e : Ending) (w' : World) : Prop :=
  ∃ g cap, e = .returned (.tuple #[.slice (some ⟨g, 0, none⟩) (s.size + 1) cap, .bool true]) ∧ w'.ownsRow w.heap.size 81 5 (.slice (some ⟨g, 0, none⟩) (s.size + 1) cap) (s.size + 1) (spCells (lays sp0 s.data.toList)) ∧ Below w.heap.size w w'

theorem lays_take (s : ByteArray) (k : Nat) (hk : k < s.size) (c : UInt8) (hc : s[k] = c) : lays sp0 (s.data.toList.take (k + 1)) = lays sp0 (s.data.toList.take k) ++ [(fin sp0 (s.data.toList.take k)).next c] := by
  rw [take_snoc s k hk, lays_snoc, hc]

theorem lays_at (s : ByteArray) (k : Nat) (hk : k ≤ s.size) : (lays sp0 (s.data.toList.take k))[k]? = some (fin sp0 (s.data.toList.take k)) := by
  have h := lays_last sp0 (s.data.toList.take k)
  rwa [List.length_take, size_list, Nat.min_eq_left hk] at h

theorem lays_len (s : ByteArray) (k : Nat) (hk : k ≤ s.size) : (lays sp0 (s.data.toList.take k)).length = k + 1 := by
  rw [lays_length, List.length_take, size_list, Nat.min_eq_left hk]

end Go.Proofs.Ytkmgcmgnaeamaaa

/- Contract: the program's 'partsFrom'. -/
namespace Go.Proofs.Ytkmgcmgnaeamaaa
open Go.ChangeShapes Go.WideShapes Go.ChangeAt Go.RowKit

set_option linter.unusedVariables false

theorem ptInfoP : (Try.prog.info? 93).map (fun i => (i.zero, i.size, i.bytes)) = some (some (.agg #[.int .i64 0, .int .i64 0, .int .i64 0, .int .i64 0, .int .i64 0, .string ByteArray.empty]), 6, 56) := by kernel_rfl

/-- How a piece is laid. -/
theorem laying_any {c : UInt8} (hc : pcb c = true) : ∃ g : FuncId, (g = 102 ∨ g = 103 ∨ g = 104) ∧ (∀ (x : ByteArray) (w : World), x = ⟨#[c]⟩ → Calls Try.prog 91 #[.string x] w fun e w' => e = .returned (.func (Fn.func g) #[] #[]) ∧ w = w') ∧
    ∀ (s : Sp), s.okB 1000000 → ∀ w : World, Calls Try.prog g #[.agg #[.int .i64 s.x0, .int .i64 s.x1, .int .i64 s.x2, .int .i64 s.x3, .int .i64 s.h]] w fun e w' =>
      e = .returned (.agg #[.int .i64 (s.next c).x0, .int .i64 (s.next c).x1, .int .i64 (s.next c).x2, .int .i64 (s.next c).x3, .int .i64 (s.next c).h]) ∧ Below w.heap.size w w' := by
  rcases pcb_cases hc with rfl | rfl | rfl
  · refine ⟨_, .inl rfl, fun x w hx => lay_S' x hx w, fun s hs w => ?_⟩
    obtain ⟨⟨b0, b0'⟩, ⟨b1, b1'⟩, ⟨b2, b2'⟩, ⟨b3, b3'⟩, b4, b5⟩ := hs
    exact straightP s.x0 s.x1 s.x2 s.x3 s.h b4 b5 b0 b0' b1 b1' b2 b2' b3 b3' w
  · refine ⟨_, .inr (.inl rfl), fun x w hx => lay_L' x hx w, fun s hs w => ?_⟩
    obtain ⟨⟨b0, b0'⟩, ⟨b1, b1'⟩, ⟨b2, b2'⟩, ⟨b3, b3'⟩, b4, b5⟩ := hs
    exact leftP s.x0 s.x1 s.x2 s.x3 s.h b4 b5 b0 b0' b1 b1' b2 b2' b3 b3' w
  · refine ⟨_, .inr (.inr rfl), fun x w hx => lay_R' x hx w, fun s hs w => ?_⟩
    obtain ⟨⟨b0, b0'⟩, ⟨b1, b1'⟩, ⟨b2, b2'⟩, ⟨b3, b3'⟩, b4, b5⟩ := hs
    exact rightP s.x0 s.x1 s.x2 s.x3 s.h b4 b5 b0 b0' b1 b1' b2 b2' b3 b3' w

def PrtPost (a : Sp) (n : Nat) (w : World) (e : Ending) (w' : World) : Prop :=
  ∃ g cap, e = .returned (.slice (some ⟨g, 0, none⟩) ((3 ^ n : Nat)) cap) ∧ w'.ownsRow w.heap.size 93 6 (.slice (some ⟨g, 0, none⟩) (3 ^ n) cap) (3 ^ n) (prtCells (parts a n)) ∧ Below w.heap.size w w'

theorem ltr_at {k : Nat} (hk : k < 3) : ∃ c, ltr[k]? = some c ∧ pcb c = true ∧ (ByteArray.mk #[76, 82, 83]).extract k (k + 1) = ⟨#[c]⟩ ∧ ltr.take (k + 1) = ltr.take k ++ [c] := by
  match k, hk with
  | 0, _ => exact ⟨76, rfl, rfl, by decide, rfl⟩
  | 1, _ => exact ⟨82, rfl, rfl, by decide, rfl⟩
  | 2, _ => exact ⟨83, rfl, rfl, by decide, rfl⟩

theorem parts_start (a : Sp) : prtCells (parts a 0) = [.int .i64 a.x0, .int .i64 a.x1, .int .i64 a.x2, .int .i64 a.x3, .int .i64 a.h, .string ⟨#[]⟩] := rfl

theorem litCellsP {W : World} {B n : Nat} {e : TypeId} {size : Nat} {cs : Array Value} {xs : List Value} (hn : W.heap.size = n) (hb : B ≤ n) (hs : cs.size = size) (hx : cs.toList = xs) : (W.alloc (.cells cs e)).ownsRow B e size (.slice (some ⟨n, 0, none⟩) 1 1) 1 xs := by
  subst hn hs hx
  exact ⟨by simp, .inr ⟨W.heap.size, 1, cs, rfl, hb, heap_alloc_new _ _, Nat.le_refl _, by decide, by simp, by rw [Nat.one_mul]; exact List.take_of_length_le (by simp)⟩⟩

theorem concat_run {a b t : ByteArray} (ht : a ++ b = t) (h : a.size + b.size ≤ 1000000) (w : World) : (Op.stringOp .add a b).run Try.prog w = .ok (.string t) w := by
  rw [← ht]
  exact run_string_add_sum w a b (by omega)

theorem blk6 {W : World} {g : Nat} {t : TypeId} {a0 a1 a2 a3 a4 a5 : Value} (h : W.heap[g]? = some (.cells #[a0, a1, a2, a3, a4, a5] t (0, 0))) :
    W.cell? ⟨g, 0, none⟩ = some a0 ∧ W.cell? ⟨g, 1, none⟩ = some a1 ∧ W.cell? ⟨g, 2, none⟩ = some a2 ∧ W.cell? ⟨g, 3, none⟩ = some a3 ∧ W.cell? ⟨g, 4, none⟩ = some a4 ∧ W.cell? ⟨g, 5, none⟩ = some a5 := by
  simp [World.cell?, h]

theorem blkLt {W : World} {g : Nat} {o : Obj} (h : W.heap[g]? = some o) : g < W.heap.size := (Array.getElem?_eq_some_iff.1 h).1

theorem own_lessP {W : World} {B B' : Nat} {e : TypeId} {size n : Nat} {v : Value} {xs : List Value} (h : W.ownsRow B e size v n xs) (hB : B' ≤ B) : W.ownsRow B' e size v n xs := by
  refine ⟨h.1, ?_⟩
  rcases h.2 with h2 | ⟨g, cap, cur, h1, h2, h3⟩
  · exact .inl h2
  · exact .inr ⟨g, cap, cur, h1, by omega, h3⟩

theorem own_nb {W : World} {B e size n : Nat} {v : Value} {xs : List Value} (h : W.ownsRow B e size v n xs) : v.ownBlock ≠ some W.heap.size := by
  intro hv
  have := (h.lt _ hv).2
  omega

set_option maxRecDepth 100000 in
set_option maxHeartbeats 3200000 in
theorem partsFrom_any (a : Sp) (ha : a.okB 900000) (n : Nat) (hn : n ≤ 10) (w : World) :
    Calls Try.prog 94 #[.agg #[.int .i64 a.x0, .int .i64 a.x1, .int .i64 a.x2, .int .i64 a.x3, .int .i64 a.h], .int .i64 n] w (PrtPost a n w) := by
  obtain ⟨i0, hi, iz0, iz1, iz2⟩ := info_parts ptInfoP
  go_enter Try.func94, Try.ntmps94
  go_wp2_with fail
  go_loopw [5, 15] (fun v i wr => ∃ k : Nat, k ≤ n ∧ i = .int .i64 k ∧ wr.ownsRow w.heap.size 93 6 v (3 ^ k) (prtCells (parts a k)) ∧ Below w.heap.size w wr) (fun _ i _ => n - (intOf i).toNat)
  case atStart => exact ⟨0, Nat.zero_le _, rfl, by rw [parts_start]; exact litCellsP (by simp) (Nat.le_succ _) rfl rfl, by go_grown⟩
  case round =>
    obtain ⟨k, hk, rfl, hO, hb⟩ := hrel
    have hz : w.heap.size ≤ wr.heap.size := hb.size
    have h3 : 0 < 3 ^ k := Nat.pow_pos (by decide)
    obtain ⟨g, cap, rfl, hg0, hcp⟩ := hO.form h3
    by_cases hlt : k < n
    · obtain ⟨M, hM⟩ : ∃ M, 3 ^ k = M := ⟨_, rfl⟩
      have hM1 : M ≤ 59049 := by rw [← hM]; exact Nat.pow_le_pow_right (by decide) (show k ≤ 10 by omega)
      have hMS := Lib.hid (show 3 ^ (k + 1) = 3 * M by rw [Nat.pow_succ, hM, Nat.mul_comm])
      rw [hM] at hO h3
      have hl := parts_len a k
      rw [hM] at hl
      have hok : ∀ p ∈ parts a k, p.1.okB 950000 ∧ p.2.length ≤ 10 := fun p hp => ⟨(parts_ok ha hp).1.mono (by omega), by rw [(parts_ok ha hp).2]; omega⟩
      have hnx := parts_nxt a k
      generalize parts a k = l at hO hl hok hnx
      have hg := (hO.lt g rfl).2
      have HP := Lib.hid (prt_of hO hl)
      have HL := Lib.hid hl
      have HOK := Lib.hid hok
      have HNX := Lib.hid hnx
      have HB := Lib.hid hb
      obtain ⟨wo, rfl⟩ : ∃ wo : World, wo = wr := ⟨_, rfl⟩
      rw [hM]
      clear hO hl hok hnx hb hM
      go_wp2_with fail
      go_loopw [6, 19] (fun t j wr => ∃ (jj : Nat) (v : Value), jj ≤ M ∧ j = .int .i64 jj ∧ v = t ∧ wr.ownsRow wo.heap.size 93 6 v (3 * jj) (prtCells (nxt (l.take jj))) ∧ Below wo.heap.size wo wr) (fun _ j _ => M - (intOf j).toNat)
      case atStart => exact ⟨0, _, Nat.zero_le _, rfl, rfl, World.ownsRow_nil _ _ _ _, Below.refl _ _⟩
      case round =>
        obtain ⟨j, v, hj, rfl, rfl, hN, hb2⟩ := hrel
        have hz2 := hb2.size
        by_cases hlj : j < M
        · obtain ⟨p, hp⟩ : ∃ p, l[j]? = some p := ⟨_, List.getElem?_eq_getElem (by rw [HL.out]; exact hlj)⟩
          obtain ⟨c0, c1, c2, c3, c4, c5⟩ := (HP.out.below hg hb2) j p hp
          obtain ⟨hpo, hpl⟩ := HOK.out p (List.mem_of_getElem? hp)
          have HT := Lib.hid (nxt_take hp)
          obtain ⟨s, u⟩ := p
          simp only at c0 c1 c2 c3 c4 c5 hpo hpl
          have HPO := Lib.hid hpo
          have HN := Lib.hid hN
          have HB2 := Lib.hid hb2
          obtain ⟨wi, rfl⟩ : ∃ wi : World, wi = wr := ⟨_, rfl⟩
          clear hp hpo hN hb2
          go_wp2_with fail
          go_loopw [6, 23] (fun t c wr => ∃ (cc : Nat) (v : Value), cc ≤ 3 ∧ c = .int .i64 cc ∧ v = t ∧ wr.ownsRow wo.heap.size 93 6 v (3 * j + cc) (prtCells (nxt (l.take j) ++ (ltr.take cc).map fun c => (s.next c, u ++ [c]))) ∧ v.ownBlock ≠ some wi.heap.size ∧
            wr.heap[wi.heap.size]? = some (.cells #[.int .i64 s.x0, .int .i64 s.x1, .int .i64 s.x2, .int .i64 s.x3, .int .i64 s.h, .string (ofL u)] 93 (0, 0)) ∧ Below wo.heap.size wo wr) (fun _ c _ => 4 - (intOf c).toNat)
          case atStart => exact ⟨0, v, by omega, rfl, rfl, by simpa using HN.out.alloc _, own_nb HN.out, heap_alloc_new _ _, HB2.out.alloc hz2 _⟩
          case round =>
            obtain ⟨cc, v, hcc, rfl, rfl, hN, hnb, hblk, hb2⟩ := hrel
            have hz3 := hb2.size
            have hzl := blkLt hblk
            by_cases hlc : cc < 3
            · obtain ⟨c, hc, hpc, hx, hta⟩ := ltr_at hlc
              obtain ⟨F, hF, lay1, lay2⟩ := laying_any hpc
              have LAY1 := Lib.hid (fun w => lay1 _ w hx)
              have LAY2 := Lib.hid (lay2 s (HPO.out.mono (by decide)))
              obtain ⟨T, hT⟩ : ∃ T, ofL (u ++ [c]) = T := ⟨_, rfl⟩
              have k1 : ∀ w : World, (Op.stringOp .add (ofL u) ((ByteArray.mk #[76, 82, 83]).extract cc (cc + 1))).run Try.prog w = .ok (.string T) w := fun w => concat_run (by rw [hx, ofL_snoc, hT]) (by rw [hx, ofL_size]; show _ + 1 ≤ _; omega) w
              have hS0 := blk6 hblk
              have HTA := Lib.hid hta
              have HTT := Lib.hid hT
              have HN := Lib.hid hN
              have HNB := Lib.hid hnb
              have HK := Lib.hid hblk
              have HB3 := Lib.hid hb2
              obtain ⟨q, hq⟩ : ∃ q, s.next c = q := ⟨_, rfl⟩
              have HV := Lib.hid (show prtCells (nxt (l.take j) ++ (ltr.take (cc + 1)).map fun c => (s.next c, u ++ [c])) = prtCells (nxt (l.take j) ++ (ltr.take cc).map fun c => (s.next c, u ++ [c])) ++ [.int .i64 q.x0, .int .i64 q.x1, .int .i64 q.x2, .int .i64 q.x3, .int .i64 q.h, .string T] by
                rw [hta, List.map_append, ← List.append_assoc, prtCells_append (_ ++ _), ← hq, ← hT]
                rfl)
              rw [hq] at LAY2
              have HQ := Lib.hid hq
              clear lay1 lay2 hx hta hT hN hnb hblk hb2 hq hc
              rcases hF with rfl | rfl | rfl
              all_goals
                go_wp2_with fail
                go_region_held3 (fun w' => w'.cell? ⟨wi.heap.size, 0, none⟩ = some (.int .i64 s.x0) ∧ w'.cell? ⟨wi.heap.size, 1, none⟩ = some (.int .i64 s.x1) ∧ w'.cell? ⟨wi.heap.size, 2, none⟩ = some (.int .i64 s.x2) ∧ w'.cell? ⟨wi.heap.size, 3, none⟩ = some (.int .i64 s.x3) ∧ w'.cell? ⟨wi.heap.size, 4, none⟩ = some (.int .i64 s.h) ∧ w'.cell? ⟨wi.heap.size, 5, none⟩ = some (.string (ofL u)))
                  (first | (first | (with_reducible assumption) | (with_reducible exact pr_drew hS0) | (with_reducible exact pr_drew (pr_alloc hS0 _)) | (with_reducible exact pr_alloc (pr_drew hS0) _) | (with_reducible refine pr_drew ?_; with_reducible assumption) | (with_reducible refine pr_alloc ?_ _; with_reducible assumption) | (with_reducible refine pr_re (by with_reducible assumption) ?_ _; (focus first | (with_reducible assumption) | omega | (simp; done) | (simp; omega))) | (with_reducible refine pr_below ?_ ?_ h1; (focus first | (with_reducible assumption) | (with_reducible refine pr_undrew ?_; with_reducible assumption)); (focus first | (with_reducible assumption) | omega | (simp; done) | (simp; omega))) | ((repeat (with_reducible refine pr_set ?_ _ _ ?_; rotate_left 1; (focus first | (with_reducible assumption) | omega | (simp; done) | (simp; omega)))); with_reducible assumption)) | (with_reducible refine pr_far ?_ ?_ hgrow; (first | (with_reducible assumption) | (with_reducible exact pr_drew (pr_alloc (by with_reducible assumption) _)) | (with_reducible exact pr_alloc (by with_reducible assumption) _)); exact Ne.symm HNB.out))
                  (first | (go_at_call 91; refine (LAY1.out _).mono ?_; rintro e w' ⟨rfl, rfl⟩) | ((with_reducible refine (LAY2.out _).mono ?_); rintro e wA ⟨rfl, h1⟩; (try with_reducible replace h1 := undrew h1); have HOA := Lib.hid (own_below HN.out h1); have hqA := h1.size; (try simp at hqA); have hzA : wi.heap.size < wA.heap.size := (by omega)) | ((refine step_append_lies _ (by rfl) _ _ _ (by rfl) wo.heap.size 93 i0 (.agg #[.int .i64 0, .int .i64 0, .int .i64 0, .int .i64 0, .int .i64 0, .string ByteArray.empty]) 6 56 Try.underlying90 hi iz0 iz1 iz2 (by rfl) (by decide) v (3 * j + cc) _ (by rfl) (HOA.out.alloc _) ⟨wA.heap.size, 0, none⟩ 1 1 [.int .i64 q.x0, .int .i64 q.x1, .int .i64 q.x2, .int .i64 q.x3, .int .i64 q.h, .string T] (by rfl) (by rfl) (World.news_of_block (heap_alloc_new _ _)) (by intro u hu; simp at hu; rcases hu with rfl | rfl | rfl | rfl | rfl | rfl <;> rfl) (by decide) (by unfold maxLen; omega) (by omega) (by simp; omega) (wA.heap.size + 1) (by simp) ?_); intro g2 cap2 w3 hown3 hgrow hat hlt3))
                have hBA := HB3.out.trans (h1.mono hz3)
                have hlt' := (HOA.out.alloc (.cells #[.int .i64 q.x0, .int .i64 q.x1, .int .i64 q.x2, .int .i64 q.x3, .int .i64 q.h, .string T] 93)).lt
                have HB4 := Lib.hid ((hBA.alloc (by omega) (.cells #[.int .i64 q.x0, .int .i64 q.x1, .int .i64 q.x2, .int .i64 q.x3, .int .i64 q.h, .string T] 93)).grown hgrow (by simp; omega) (fun k hk => (hlt' k hk).1))
                have hbA := (h1.block wi.heap.size hzl).trans HK.out
                have hbB := (Below.heap_alloc wA (.cells #[.int .i64 q.x0, .int .i64 q.x1, .int .i64 q.x2, .int .i64 q.x3, .int .i64 q.h, .string T] 93) wi.heap.size hzA).trans hbA
                have HK4 := Lib.hid ((hgrow.block wi.heap.size (by simp; omega) (Ne.symm HNB.out)).trans hbB)
                have hne4 : (Value.slice (some ⟨g2, 0, none⟩) (3 * j + cc + 1) cap2).ownBlock ≠ some wi.heap.size := by
                  rcases hat with h | h
                  · intro h'; exact HNB.out (h.trans h')
                  · intro h'; simp only [Value.ownBlock, Option.some.injEq] at h'; omega
                have HN4 := Lib.hid hown3
                have HE4 := Lib.hid hne4
                clear hBA hlt' hbA hbB hne4 hown3 hgrow hat h1 hS0
                go_wp2_with fail
                go_roundw
                case rel => exact ⟨cc + 1, _, by omega, by go_num, rfl, by rw [HV.out]; exact HN4.out, HE4.out, HK4.out, HB4.out⟩
                case measure => simp [intOf]; omega
            · obtain rfl : cc = 3 := by omega
              have HN := Lib.hid hN
              have HB3 := Lib.hid hb2
              clear hN hnb hblk hb2
              go_wp2_with fail
              go_roundw
              case rel => exact ⟨j + 1, v, by omega, by go_num, rfl, by rw [HT.out]; exact HN.out, HB3.out⟩
              case measure => simp [intOf]; omega
        · obtain rfl : j = M := by omega
          have hta : l.take j = l := List.take_of_length_le (by rw [HL.out]; exact Nat.le_refl _)
          rw [hta] at hN
          have HN := Lib.hid (own_lessP hN hz)
          have HB2 := Lib.hid (HB.out.trans (hb2.mono hz))
          clear hN hb2 hta
          go_wp2_with fail
          go_roundw
          case rel => exact ⟨k + 1, by omega, by go_num, by rw [hMS.out, HNX.out]; exact HN.out, HB2.out⟩
          case measure => simp [intOf]; omega
    · obtain rfl : k = n := by omega
      have HO := Lib.hid hO
      have HB := Lib.hid hb
      clear hO hb
      go_wp2_with fail
      go_ret
      exact ⟨g, cap, rfl, HO.out, HB.out⟩

end Go.Proofs.Ytkmgcmgnaeamaaa

/- Contract: the way back from a step, in the program. -/
namespace Go.Proofs.Ytkmgcmgnaeamaaa
open Go.ChangeShapes Go.WideShapes Go.ChangeAt Go.RowKit

set_option linter.unusedVariables false

theorem times_tuB (k : Int) (h0 : 0 ≤ k) (h7 : k ≤ 7) (a0 a1 a2 a3 : Int) (pa0 : -999999 ≤ a0) (qa0 : a0 ≤ 999999) (pa1 : -999999 ≤ a1) (qa1 : a1 ≤ 999999) (pa2 : -999999 ≤ a2) (qa2 : a2 ≤ 999999) (pa3 : -999999 ≤ a3) (qa3 : a3 ≤ 999999) (w : World) :
    Calls Try.prog 108 #[.agg #[.int .i64 a0, .int .i64 a1, .int .i64 a2, .int .i64 a3], .agg #[.int .i64 (tu0 k 1 0 0 0), .int .i64 (tu1 k 1 0 0 0), .int .i64 (tu2 k 1 0 0 0), .int .i64 (tu3 k 1 0 0 0)]] w fun e w' => e = .returned (.agg #[.int .i64 (tu0 k a0 a1 a2 a3), .int .i64 (tu1 k a0 a1 a2 a3), .int .i64 (tu2 k a0 a1 a2 a3), .int .i64 (tu3 k a0 a1 a2 a3)]) ∧ Below w.heap.size w w' := by
  obtain ⟨b0, b0'⟩ := tu_bd0 k h0 h7
  obtain ⟨b1, b1'⟩ := tu_bd1 k h0 h7
  obtain ⟨b2, b2'⟩ := tu_bd2 k h0 h7
  obtain ⟨b3, b3'⟩ := tu_bd3 k h0 h7
  refine (imTimes_any a0 a1 a2 a3 (tu0 k 1 0 0 0) (tu1 k 1 0 0 0) (tu2 k 1 0 0 0) (tu3 k 1 0 0 0) pa0 qa0 pa1 qa1 pa2 qa2 pa3 qa3 b0 b0' b1 b1' b2 b2' b3 b3' w).mono ?_
  rintro e w' ⟨rfl, hb⟩
  exact ⟨by rw [tm_tu0 a0 a1 a2 a3 k h0 h7, tm_tu1 a0 a1 a2 a3 k h0 h7, tm_tu2 a0 a1 a2 a3 k h0 h7, tm_tu3 a0 a1 a2 a3 k h0 h7], hb⟩

theorem turn_back (h : Int) (h0 : 0 ≤ h) (h7 : h ≤ 7) (w : World) :
    Calls Try.prog 106 #[.int .i64 0, .int .i64 (-h)] w fun e w' => e = .returned (.int .i64 ((8 - h) % 8)) ∧ w = w' := by
  have h2 : (-h + 8).tmod 8 = (8 - h) % 8 := by rw [Int.tmod_eq_emod_of_nonneg (by omega), show -h + 8 = 8 - h by omega]
  have HM := Lib.hid h2
  clear h2
  go_enter Try.func106, Try.ntmps106
  go_wp2
  go_ret
  exact ⟨by first | rfl | (rw [← HM.out]; rfl) | (simp; done), rfl⟩

set_option maxRecDepth 100000 in
set_option maxHeartbeats 1600000 in
theorem wayBack_any (s : Sp) (hs : s.okB 999999) (w : World) :
    Calls Try.prog 95 #[.agg #[.int .i64 s.x0, .int .i64 s.x1, .int .i64 s.x2, .int .i64 s.x3, .int .i64 s.h]] w fun e w' =>
      e = .returned (.agg #[.int .i64 (wayB s).x0, .int .i64 (wayB s).x1, .int .i64 (wayB s).x2, .int .i64 (wayB s).x3, .int .i64 (wayB s).h]) ∧ Below w.heap.size w w' := by
  obtain ⟨x0, x1, x2, x3, h⟩ := s
  obtain ⟨⟨b0, b0'⟩, ⟨b1, b1'⟩, ⟨b2, b2'⟩, ⟨b3, b3'⟩, b4, b5⟩ := hs
  simp only at b0 b0' b1 b1' b2 b2' b3 b3' b4 b5
  have hc0 : 0 ≤ (8 - h) % 8 := by omega
  have hc7 : (8 - h) % 8 ≤ 7 := by omega
  have T := Lib.hid (times_tuB ((8 - h) % 8) hc0 hc7 (-x0) (-x1) (-x2) (-x3) (by omega) (by omega) (by omega) (by omega) (by omega) (by omega) (by omega) (by omega))
  have PW := Lib.hid (power_any ((8 - h) % 8) hc0 hc7)
  have SC := Lib.hid (scN x0 x1 x2 x3 b0 b0' b1 b1' b2 b2' b3 b3')
  have TB := Lib.hid (turn_back h b4 b5)
  simp only [wayB]
  generalize (8 - h) % 8 = k at *
  go_enter Try.func95, Try.ntmps95
  go_wp2_with (go_at_call 106; refine (TB.out _).mono ?_; rintro e w' ⟨rfl, rfl⟩)
  (go_at_call 107; (with_reducible refine (SC.out _).mono ?_); rintro e wA ⟨rfl, h1⟩; (try with_reducible replace h1 := undrew h1); have hB : Below w.heap.size w wA := ba (by go_grown) h1; obtain ⟨hcwA, hfwA⟩ := bcell h1; have hqwA := h1.size; (try simp at hqwA); (try have hz0wA : w.heap.size < wA.heap.size := (by omega)); (try have he0wA : w.heap.size ≤ wA.heap.size := (by omega)); (try have hz1wA : w.heap.size + 1 < wA.heap.size := (by omega)); (try have he1wA : w.heap.size + 1 ≤ wA.heap.size := (by omega)))
  go_wp2_with fail
  (go_at_call 109; (with_reducible refine (PW.out _).mono ?_); rintro e wB ⟨rfl, h1⟩; (try with_reducible replace h1 := undrew h1); have hB : Below w.heap.size w wB := ba (by go_grown) h1; obtain ⟨hcwB, hfwB⟩ := bcell h1; have hqwB := h1.size; (try simp at hqwB); (try have hz0wB : w.heap.size < wB.heap.size := (by omega)); (try have he0wB : w.heap.size ≤ wB.heap.size := (by omega)); (try have hz1wB : w.heap.size + 1 < wB.heap.size := (by omega)); (try have he1wB : w.heap.size + 1 ≤ wB.heap.size := (by omega)))
  go_wp2_with fail
  (go_at_call 108; (with_reducible refine (T.out _).mono ?_); rintro e wC ⟨rfl, h1⟩; (try with_reducible replace h1 := undrew h1); have hB : Below w.heap.size w wC := ba (by go_grown) h1; obtain ⟨hcwC, hfwC⟩ := bcell h1; have hqwC := h1.size; (try simp at hqwC); (try have hz0wC : w.heap.size < wC.heap.size := (by omega)); (try have he0wC : w.heap.size ≤ wC.heap.size := (by omega)); (try have hz1wC : w.heap.size + 1 < wC.heap.size := (by omega)); (try have he1wC : w.heap.size + 1 ≤ wC.heap.size := (by omega)))
  go_wp2_with fail
  refine bodyPost_ret (by simp [results, Try.results95, go_sem, *]; try rfl) rfl ?_
  exact ⟨rfl, by go_grown⟩

end Go.Proofs.Ytkmgcmgnaeamaaa

/- Contract: the program's 'closings'. -/
namespace Go.Proofs.Ytkmgcmgnaeamaaa
open Go.ChangeShapes Go.WideShapes Go.ChangeAt Go.RowKit

set_option linter.unusedVariables false

def StrPost (l : List (List UInt8)) (w : World) (e : Ending) (w' : World) : Prop :=
  ∃ v, e = .returned v ∧ w'.ownsRow w.heap.size 9 1 v l.length (strV l) ∧ Below w.heap.size w w'

theorem srInfo : (Try.prog.info? 9).map (fun i => (i.zero, i.size, i.bytes)) = some (some (.string ByteArray.empty), 1, 16) := by kernel_rfl

/-- Texts at their place, in a block that was there. -/
def StrAt (w : World) (g : Nat) (l : List (List UInt8)) : Prop := ∀ i u, l[i]? = some u → w.cell? ⟨g, i, none⟩ = some (.string (ofL u))

theorem StrAt.below {w w' : World} {g n : Nat} {l : List (List UInt8)} (h : StrAt w g l) (hg : g < n) (hb : Below n w w') : StrAt w' g l := fun i u hu => by
  rw [hb.cell (p := ⟨g, i, none⟩) hg]; exact h i u hu

theorem str_of {W : World} {B n g cap : Nat} {e : TypeId} {l : List (List UInt8)} (h : W.ownsRow B e 1 (.slice (some ⟨g, 0, none⟩) n cap) n (strV l)) (hn : l.length = n) : StrAt W g l := fun i u hu => by
  have hi : i < n := by rw [← hn]; exact (List.getElem?_eq_some_iff.1 hu).1
  rw [h.cellAt i (by omega)]
  simp [strV, hu]

def accG (l2 l1 : List (Sp × List UInt8)) (j : Nat) : List (List UInt8) := (l2.take j).flatMap fun p => (grp (wayB p.1) l1).map fun v => p.2 ++ v

theorem accG_end (a : Sp) (k0 : 0 ≤ a.h) (k7 : a.h ≤ 7) (m n : Nat) : accG (parts a m) (parts sp0 n) (3 ^ m) = clsL a (m + n) := by
  rw [accG, List.take_of_length_le (by rw [parts_len]; exact Nat.le_refl _), cls_halves a k0 k7]

theorem accG_next {l2 l1 : List (Sp × List UInt8)} {j : Nat} {p : Sp × List UInt8} (h : l2[j]? = some p) : accG l2 l1 (j + 1) = accG l2 l1 j ++ (grp (wayB p.1) l1).map fun v => p.2 ++ v := by
  rw [accG, List.take_add_one, h]
  simp [accG, List.flatMap_append]

theorem accG_le (l2 l1 : List (Sp × List UInt8)) : ∀ j, (accG l2 l1 j).length ≤ j * l1.length
  | 0 => by simp [accG]
  | j + 1 => by
    have ih := accG_le l2 l1 j
    rw [Nat.succ_mul]
    by_cases h : j < l2.length
    · rw [accG_next (List.getElem?_eq_getElem h), List.length_append, List.length_map]
      have := grp_le (wayB l2[j].1) l1
      omega
    · rw [show accG l2 l1 (j + 1) = accG l2 l1 j by rw [accG, accG, List.take_of_length_le (by omega), List.take_of_length_le (by omega)]]
      omega

theorem PrtAt.grown {w w' : World} {g : Nat} {l : List (Sp × List UInt8)} {row : Option Nat} (h : PrtAt w g l) (hg : w.grownBy w' row) (hne : some g ≠ row) : PrtAt w' g l := by
  intro i p hp
  obtain ⟨a, b, c, d, e, f⟩ := h i p hp
  exact ⟨hg.cell a hne, hg.cell b hne, hg.cell c hne, hg.cell d hne, hg.cell e hne, hg.cell f hne⟩

theorem wayB_ok {s : Sp} {n : Int} (h : s.okB n) : (wayB s).okB n := by
  obtain ⟨⟨b0, b0'⟩, ⟨b1, b1'⟩, ⟨b2, b2'⟩, ⟨b3, b3'⟩, b4, b5⟩ := h
  simp only [Sp.okB, wayB]
  refine ⟨?_, ?_, ?_, ?_, by omega, by omega⟩
  · unfold tu0; repeat' split <;> omega
  · unfold tu1; repeat' split <;> omega
  · unfold tu2; repeat' split <;> omega
  · unfold tu3; repeat' split <;> omega

theorem own_blkC {W : World} {B : Nat} {e t : TypeId} {size n : Nat} {v : Value} {xs : List Value} {g : Nat} {cs : Array Value} {fz : Nat × Nat} (h : W.ownsRow B e size v n xs) (hg : W.heap[g]? = some (.cells cs t fz)) (hne : e ≠ t) : some g ≠ v.ownBlock := by
  rcases h.2 with ⟨rfl, _⟩ | ⟨g', cap, cur, rfl, _, hg', _⟩
  · simp [Value.ownBlock]
  · intro he
    simp only [Value.ownBlock, Option.some.injEq] at he
    subst he
    rw [hg] at hg'
    simp only [Option.some.injEq, Obj.cells.injEq] at hg'
    exact hne hg'.2.1.symm

theorem own_formC {W : World} {B n size : Nat} {e : TypeId} {v : Value} {xs : List Value} (h : W.ownsRow B e size v n xs) : ∃ av cv, v = .slice av n cv := by
  rcases h.2 with ⟨h, h0⟩ | ⟨g, cap, cur, h, _⟩
  · exact ⟨none, 0, by rw [h, h0]⟩
  · exact ⟨_, _, h⟩

theorem news_one {W W1 : World} {n : Nat} {row : Option Nat} (hn : W.heap.size = n) (x : Value) (t : TypeId) (hg : (W.alloc (.cells #[x] t)).grownBy W1 row) (hne : some n ≠ row) : ∀ j u, [x][j]? = some u → W1.cell? ((⟨n, 0, none⟩ : Addr).add j) = some u := by
  subst hn
  intro j u hj
  have h := cell_one_new W x t j u hj
  match j, hj, h with
  | 0, _, h => exact hg.cell h (by simpa [Addr.add] using hne)

theorem blk5 {W : World} {g : Nat} {t : TypeId} {a0 a1 a2 a3 a4 : Value} (h : W.heap[g]? = some (.cells #[a0, a1, a2, a3, a4] t (0, 0))) :
    W.cell? ⟨g, 0, none⟩ = some a0 ∧ W.cell? ⟨g, 1, none⟩ = some a1 ∧ W.cell? ⟨g, 2, none⟩ = some a2 ∧ W.cell? ⟨g, 3, none⟩ = some a3 ∧ W.cell? ⟨g, 4, none⟩ = some a4 := by
  simp [World.cell?, h]

theorem grp_mem {k : Sp} {l : List (Sp × List UInt8)} {x : List UInt8} (h : x ∈ grp k l) : ∃ p ∈ l, p.2 = x := by
  simp only [grp, List.mem_map, List.mem_filter] at h
  obtain ⟨p, ⟨hp, _⟩, rfl⟩ := h
  exact ⟨p, hp, rfl⟩

set_option maxRecDepth 100000 in
set_option maxHeartbeats 6400000 in
theorem closings_any (a : Sp) (ha : a.okB 900000) (n : Nat) (hn : n ≤ 14) (w : World) :
    Calls Try.prog 68 #[.agg #[.int .i64 a.x0, .int .i64 a.x1, .int .i64 a.x2, .int .i64 a.x3, .int .i64 a.h], .int .i64 n] w (StrPost (clsL a n) w) := by
  obtain ⟨i0, hi, iz0, iz1, iz2⟩ := info_parts srInfo
  obtain ⟨m, hm⟩ : ∃ m, n / 2 = m := ⟨_, rfl⟩
  obtain ⟨k, hk⟩ : ∃ k, n - m = k := ⟨_, rfl⟩
  have hE := Lib.hid (show accG (parts a m) (parts sp0 k) (3 ^ m) = clsL a n by rw [accG_end a ha.2.2.2.2.1 ha.2.2.2.2.2, show m + k = n by omega])
  have hq : (n : Int).tdiv 2 = (m : Int) := by rw [Int.tdiv_eq_ediv_of_nonneg (by omega)]; omega
  have hs : (n : Int) - (m : Int) = (k : Int) := by omega
  have P1 := Lib.hid (fun w => partsFrom_any sp0 (sp0_ok.mono (by decide)) k (by omega) w)
  have P2 := Lib.hid (fun w => partsFrom_any a ha m (by omega) w)
  have hmm := @run_makeMap Try.prog
  have K7 : 3 ^ k ≤ 2187 := Nat.pow_le_pow_right (by decide) (show k ≤ 7 by omega)
  have M7 : 3 ^ m ≤ 2187 := Nat.pow_le_pow_right (by decide) (show m ≤ 7 by omega)
  go_enter Try.func68, Try.ntmps68
  go_wp2_with fail
  refine (P1.out _).mono ?_
  rintro e w1 ⟨g, cap, rfl, hO, hb1⟩
  have hM0 := (World.ownsMap_made (H := Unit) (w.alloc (.cells #[.int .i64 a.x0, .int .i64 a.x1, .int .i64 a.x2, .int .i64 a.x3, .int .i64 a.h] 81)) Try.prog 81 hdrR).kept (below_grown hb1) (by simp)
  rw [show (w.alloc (.cells #[.int .i64 a.x0, .int .i64 a.x1, .int .i64 a.x2, .int .i64 a.x3, .int .i64 a.h] 81)).heap.size = w.heap.size + 1 by simp] at hM0
  have hG0 := Lib.hid (GrpAt_begin hM0)
  have hbx : w1.heap[w.heap.size]? = some (.cells #[.int .i64 a.x0, .int .i64 a.x1, .int .i64 a.x2, .int .i64 a.x3, .int .i64 a.h] 81 (0, 0)) := by
    rw [hb1.block w.heap.size (by simp; omega)]
    exact (Below.heap_alloc _ _ _ (by simp)).trans (heap_alloc_new _ _)
  have hl := parts_len sp0 k
  obtain ⟨K, hK⟩ : ∃ K, 3 ^ k = K := ⟨_, rfl⟩
  rw [hK] at hO hl K7 ⊢
  have hok : ∀ p ∈ parts sp0 k, p.1.okB 1000 ∧ p.2.length ≤ 10 := fun p hp => ⟨(parts_ok sp0_ok hp).1.mono (by omega), by rw [(parts_ok sp0_ok hp).2]; omega⟩
  generalize parts sp0 k = l1 at hE hO hl hok
  have hgl := (hO.lt g rfl).1
  simp at hgl
  have hgb : g ≠ w.heap.size + 1 := by omega
  have HP := Lib.hid (prt_of hO hl)
  have HL := Lib.hid hl
  have HOK := Lib.hid hok
  have hsz1 := hb1.size
  simp at hsz1
  have HB1 := Lib.hid (((Below.refl w.heap.size w).alloc (Nat.le_refl _) (.cells #[.int .i64 a.x0, .int .i64 a.x1, .int .i64 a.x2, .int .i64 a.x3, .int .i64 a.h] 81)).alloc (by simp) (.map #[] 0) |>.trans (hb1.mono (by simp; omega)))
  clear hM0 hO hl hok hb1 hK hgl
  go_wp2_with fail
  go_loopw [21] (fun i wr => ∃ j : Nat, j ≤ K ∧ i = .int .i64 j ∧ GrpAt wr (w.heap.size + 1) w1.heap.size j (l1.take j) ∧ w1.grownBy wr (some (w.heap.size + 1))) (fun i _ => K - (intOf i).toNat)
  case atStart => exact ⟨0, Nat.zero_le _, rfl, hG0.out, World.grownBy.refl _ _⟩
  case round =>
    obtain ⟨j, hj, rfl, hG, hgr⟩ := hrel
    by_cases hlt : j < K
    · obtain ⟨p, hp⟩ : ∃ p, l1[j]? = some p := ⟨_, List.getElem?_eq_getElem (by rw [HL.out]; exact hlt)⟩
      obtain ⟨c0, c1, c2, c3, c4, c5⟩ := (HP.out.grown hgr (by simp; omega)) j p hp
      obtain ⟨hpo, hpl⟩ := HOK.out p (List.mem_of_getElem? hp)
      have HTK := Lib.hid (show l1.take (j + 1) = l1.take j ++ [p] by rw [List.take_add_one, hp]; rfl)
      obtain ⟨s, u⟩ := p
      simp only at c0 c1 c2 c3 c4 c5 hpo hpl
      have hwf := wf_of hpo (by decide)
      have hGW := (hG.kept (World.grownBy_alloc wr (.cells #[.int .i64 s.x0, .int .i64 s.x1, .int .i64 s.x2, .int .i64 s.x3, .int .i64 s.h, .string (ofL u)] 93) none) (by simp) (by simp)).kept (World.grownBy_alloc _ (.cells #[.string (ofL u)] 9) none) (by simp) (by simp)
      have hgl := grp_le s (l1.take j)
      rw [List.length_take] at hgl
      obtain ⟨v, st, W1, rE, gE, oE, hE1⟩ := hGW.entry hwf (by unfold maxLen; omega)
      simp only [spV] at rE
      have hnews := news_one (n := wr.heap.size + 1) (by simp) (.string (ofL u)) 9 gE (by simp; have := hgr.size; omega)
      have h2 := grown_row hgr (World.grownBy_alloc wr (.cells #[.int .i64 s.x0, .int .i64 s.x1, .int .i64 s.x2, .int .i64 s.x3, .int .i64 s.h, .string (ofL u)] 93) none) (by simp)
      have h3 := grown_row h2 (World.grownBy_alloc _ (.cells #[.string (ofL u)] 9) none) (by simp)
      have H4 := Lib.hid (grown_row h3 gE (fun k hk => .inr hk))
      have HE1 := Lib.hid hE1
      have HOE := Lib.hid oE
      have hsW : w1.heap.size ≤ W1.heap.size := H4.out.size
      have HLT := Lib.hid (fun k hk => (oE.lt k hk).1)
      clear hp hpo hG hgr hGW hE1 oE gE h2 h3 hwf
      go_wp2_with (first | ((with_reducible refine wpList_mapEntry W1 (.tuple #[v, goInt st]) _ ?_ _ _ ?_ ?_ ?_ rE ?_); rfl; rfl; rfl; rfl) | (at_builtin; refine wpList_append_own_at _ rfl _ _ 36 rfl w1.heap.size 9 i0 (.string ByteArray.empty) 1 16 Try.underlying36 hi iz0 iz1 iz2 rfl (by decide) v _ _ rfl HOE.out ⟨wr.heap.size + 1, 0, none⟩ 1 1 [.string (ofL u)] rfl rfl hnews (by intro u hu; simp at hu; subst hu; rfl) (by unfold maxLen; omega) (by omega) hsW ?_; intro v' w2 hown' hgrow hnil hloc; obtain ⟨w3, r3, hG3, g3⟩ := HE1.out w2 v' u hgrow hown' (hloc.imp Eq.symm id); simp only [goInt] at r3))
      have h5 := grown_row H4.out hgrow (fun k hk => .inl (HLT.out k hk))
      have H6 := Lib.hid (grown_row h5 g3 (fun k hk => .inr hk))
      have HG3 := Lib.hid hG3
      clear h5 hgrow g3 hG3 hown' rE r3 hnews hnil hloc c0 c1 c2 c3 c4 c5
      go_roundw
      case rel => exact ⟨j + 1, by omega, by go_num, by rw [HTK.out]; exact HG3.out, H6.out⟩
      case measure => simp [intOf]; omega
    · obtain rfl : j = K := by omega
      have hta : l1.take j = l1 := List.take_of_length_le (by rw [HL.out]; exact Nat.le_refl _)
      rw [hta] at hG
      have hzw : w.heap.size < w1.heap.size := (Array.getElem?_eq_some_iff.1 hbx).1
      obtain ⟨q0, q1, q2, q3, q4⟩ := blk5 ((hgr.block w.heap.size hzw (by simp)).trans hbx)
      have HBW := Lib.hid (show Below w.heap.size w wr from HB1.out.grown hgr (by omega) (fun k hk => by injection hk with hk; omega))
      have HG := Lib.hid hG
      clear hG hta hgr
      go_wp2_with fail
      refine (P2.out _).mono ?_
      rintro e w5 ⟨g2, cap2, rfl, hO2, hb5⟩
      have hG5 := HG.out.below hb5
      have HB5 := Lib.hid (HBW.out.trans (hb5.mono HBW.out.size))
      have hl2 := parts_len a m
      obtain ⟨M, hM⟩ : ∃ M, 3 ^ m = M := ⟨_, rfl⟩
      rw [hM] at hO2 hl2 M7 hE ⊢
      have hok2 : ∀ p ∈ parts a m, p.1.okB 950000 ∧ p.2.length ≤ 10 := fun p hp => ⟨(parts_ok ha hp).1.mono (by omega), by rw [(parts_ok ha hp).2]; omega⟩
      generalize parts a m = l2 at hE hO2 hl2 hok2
      have hg2 := (hO2.lt g2 rfl).2
      have HP2 := Lib.hid (prt_of hO2 hl2)
      have HL2 := Lib.hid hl2
      have HOK2 := Lib.hid hok2
      have HG5 := Lib.hid hG5
      have hz5 := hb5.size
      clear hO2 hl2 hok2 hG5 hb5 hM q0 q1 q2 q3 q4
      go_wp2_with fail
      go_loopw [8, 41] (fun t i wr => ∃ (j2 : Nat) (v : Value), j2 ≤ M ∧ i = .int .i64 j2 ∧ v = t ∧ wr.ownsRow w5.heap.size 9 1 v (accG l2 l1 j2).length (strV (accG l2 l1 j2)) ∧ Below w5.heap.size w5 wr) (fun _ i _ => M - (intOf i).toNat)
      case atStart => exact ⟨0, _, Nat.zero_le _, rfl, rfl, by simpa [accG, strV] using World.ownsRow_nil _ _ _ _, Below.refl _ _⟩
      case round =>
        obtain ⟨j2, v, hj2, rfl, rfl, hT, hb⟩ := hrel
        have hz6 := hb.size
        have hle := accG_le l2 l1 j2
        rw [HL.out] at hle
        by_cases hlt2 : j2 < M
        · obtain ⟨p, hp⟩ : ∃ p, l2[j2]? = some p := ⟨_, List.getElem?_eq_getElem (by rw [HL2.out]; exact hlt2)⟩
          obtain ⟨c0, c1, c2, c3, c4, c5⟩ := (HP2.out.below hg2 hb) j2 p hp
          obtain ⟨hpo, hpl⟩ := HOK2.out p (List.mem_of_getElem? hp)
          have HNX := Lib.hid (accG_next (l1 := l1) hp)
          obtain ⟨s, u⟩ := p
          simp only at c0 c1 c2 c3 c4 c5 hpo hpl HNX
          obtain ⟨vL, oL, rL⟩ := HG5.out.look (wf_of (wayB_ok hpo) (by decide))
          have hgl := grp_le (wayB s) l1
          rw [HL.out] at hgl
          have hxl : ∀ x ∈ grp (wayB s) l1, x.length ≤ 10 := fun x hx => by
            obtain ⟨p, hp, rfl⟩ := grp_mem hx
            exact (HOK.out p hp).2
          have WB := Lib.hid (wayBack_any s (hpo.mono (by decide)))
          obtain ⟨R, hR⟩ : ∃ R, grp (wayB s) l1 = R := ⟨_, rfl⟩
          rw [hR] at oL hgl hxl HNX
          obtain ⟨Lc, hLc⟩ : ∃ Lc, R.length = Lc := ⟨_, rfl⟩
          rw [hLc] at oL hgl
          obtain ⟨av, cv, rfl⟩ := own_formC oL
          simp only [spV] at rL
          generalize wayB s = q at rL WB
          have HXL := Lib.hid hxl
          have HLC := Lib.hid hLc
          have HRL := Lib.hid rL
          have HT := Lib.hid hT
          have HB := Lib.hid hb
          obtain ⟨wi, rfl⟩ : ∃ wi : World, wi = wr := ⟨_, rfl⟩
          clear hp hpo hR hLc hxl rL hT hb
          go_wp2_with fail
          refine (WB.out _).mono ?_
          rintro e wA ⟨rfl, hA⟩
          have hbk := (hA.block wi.heap.size (by simp)).trans (heap_alloc_new _ _)
          have hA2 := (HB.out.alloc hz6 (.cells #[.int .i64 s.x0, .int .i64 s.x1, .int .i64 s.x2, .int .i64 s.x3, .int .i64 s.h, .string (ofL u)] 93)).trans (hA.mono (by simp; omega))
          have rL := HRL.out wA none (below_grown hA2) (by simp)
          have HT2 := Lib.hid ((HT.out.alloc (.cells #[.int .i64 s.x0, .int .i64 s.x1, .int .i64 s.x2, .int .i64 s.x3, .int .i64 s.h, .string (ofL u)] 93)).kept (below_grown hA) (by cases v.ownBlock <;> simp))
          have HA2 := Lib.hid hA2
          have HBK := Lib.hid hbk
          clear hA hA2 hbk c0 c1 c2 c3 c4 c5
          go_wp2_with fail
          go_loopw [8, 51] (fun t i wr => ∃ (c : Nat) (v : Value), c ≤ Lc ∧ i = .int .i64 c ∧ v = t ∧ wr.ownsRow w5.heap.size 9 1 v (accG l2 l1 j2 ++ (R.take c).map fun x => u ++ x).length (strV (accG l2 l1 j2 ++ (R.take c).map fun x => u ++ x)) ∧ wr.heap[wi.heap.size]? = some (.cells #[.int .i64 s.x0, .int .i64 s.x1, .int .i64 s.x2, .int .i64 s.x3, .int .i64 s.h, .string (ofL u)] 93 (0, 0)) ∧ Below w5.heap.size w5 wr) (fun _ i _ => Lc - (intOf i).toNat)
          case atStart => exact ⟨0, v, Nat.zero_le _, rfl, rfl, by simpa using HT2.out, HBK.out, HA2.out⟩
          case round =>
            obtain ⟨c, v, hc, rfl, rfl, hT, hblk, hb⟩ := hrel
            have hz7 := hb.size
            have hzl := blkLt hblk
            by_cases hlc : c < Lc
            · obtain ⟨x, hx⟩ : ∃ x, R[c]? = some x := ⟨_, List.getElem?_eq_getElem (by rw [HLC.out]; exact hlc)⟩
              have hx10 := HXL.out x (List.mem_of_getElem? hx)
              obtain ⟨gL, rfl⟩ : ∃ gL, av = some ⟨gL, 0, none⟩ := by
                rcases oL.2 with ⟨h, h0⟩ | ⟨gL, capL, _, h, _⟩
                · omega
                · injection h with h; exact ⟨gL, h⟩
              have d0 := (str_of oL HLC.out).below (oL.lt gL rfl).2 hb c x hx
              obtain ⟨e0, e1, e2, e3, e4, e5⟩ := blk6 hblk
              have htk : R.take (c + 1) = R.take c ++ [x] := by rw [List.take_add_one, hx]; rfl
              obtain ⟨T, hT0⟩ : ∃ T, ofL (u ++ x) = T := ⟨_, rfl⟩
              have k1 : ∀ w : World, (Op.stringOp .add (ofL u) (ofL x)).run Try.prog w = .ok (.string T) w := fun w => concat_run (by rw [ofL_append, hT0]) (by rw [ofL_size, ofL_size]; omega) w
              have hlen : (accG l2 l1 j2 ++ (R.take c).map fun x => u ++ x).length ≤ 6000000 := by
                rw [List.length_append, List.length_map, List.length_take]
                have := Nat.mul_le_mul (show j2 ≤ 2187 by omega) (show j ≤ 2187 by omega)
                omega
              have HV := Lib.hid (show (accG l2 l1 j2 ++ (R.take (c + 1)).map fun x => u ++ x) = (accG l2 l1 j2 ++ (R.take c).map fun x => u ++ x) ++ [u ++ x] by rw [htk, List.map_append, ← List.append_assoc]; rfl)
              generalize hA : (accG l2 l1 j2 ++ (R.take c).map fun x => u ++ x) = A at *
              have HT0 := Lib.hid hT0
              have HT := Lib.hid hT
              have HB7 := Lib.hid hb
              have HK := Lib.hid hblk
              have hnb := own_blkC (hT.alloc (.cells #[.string T] 9)) ((Below.heap_alloc wr (.cells #[.string T] 9) _ hzl).trans hblk) (by decide)
              clear hx hT hblk hb htk hT0 hA
              go_wp2_with (at_builtin; refine wpList_append_own_at _ rfl _ _ 36 rfl w5.heap.size 9 i0 (.string ByteArray.empty) 1 16 Try.underlying36 hi iz0 iz1 iz2 rfl (by decide) v _ _ rfl (HT.out.alloc _) ⟨wr.heap.size, 0, none⟩ 1 1 [.string T] rfl rfl (cell_one_new _ _ _) (by intro u hu; simp at hu; subst hu; rfl) (by unfold maxLen; omega) (by omega) (by simp; omega) ?_; intro v' w2 hown' hgrow hnil hloc)
              have hlt' := (HT.out.alloc (.cells #[.string T] 9)).lt
              have HB8 := Lib.hid ((HB7.out.alloc hz7 (.cells #[.string T] 9)).grown hgrow (by simp; omega) (fun k hk => (hlt' k hk).1))
              have HK8 := Lib.hid ((hgrow.block wi.heap.size (by simp; omega) hnb).trans ((Below.heap_alloc wr (.cells #[.string T] 9) _ hzl).trans HK.out))
              have HO8 := Lib.hid hown'
              clear hlt' hgrow hown' hnil hloc hnb
              go_roundw
              case rel => exact ⟨c + 1, v', by omega, by go_num, rfl, by rw [HV.out, strV_append, List.length_append]; simp only [strV, List.map_cons, List.map_nil, HT0.out]; exact HO8.out, HK8.out, HB8.out⟩
              case measure => simp [intOf]; omega
            · obtain rfl : c = Lc := by omega
              have hta : R.take c = R := List.take_of_length_le (by rw [HLC.out]; exact Nat.le_refl _)
              rw [hta] at hT
              have HT := Lib.hid hT
              have HB7 := Lib.hid hb
              clear hT hb hblk hta
              go_wp2_with fail
              go_roundw
              case rel => exact ⟨j2 + 1, v, by omega, by go_num, rfl, by rw [HNX.out]; exact HT.out, HB7.out⟩
              case measure => simp [intOf]; omega
        · obtain rfl : j2 = M := by omega
          have hT2 := own_lessP hT HB5.out.size
          rw [hE.out] at hT2
          have HT2 := Lib.hid hT2
          have HB6 := Lib.hid (HB5.out.trans (hb.mono HB5.out.size))
          clear hT hb hT2
          go_wp2_with fail
          go_ret
          exact ⟨_, rfl, HT2.out, HB6.out⟩

end Go.Proofs.Ytkmgcmgnaeamaaa

/- Contracts: lists of texts compared, marked and looked at again, in the laws. -/
namespace Go.Proofs.Ytkmgcmgnaeamaaa
open Go.ChangeShapes Go.WideShapes Go.ChangeAt Go.RowKit

set_option linter.unusedVariables false

def mkR (k : Nat) (acc : List UInt8) : List UInt8 := if k = 0 then acc else mkR (k / 10) (UInt8.ofNat (48 + k % 10) :: acc)
termination_by k
decreasing_by omega

theorem mkR_zero (acc : List UInt8) : mkR 0 acc = acc := by rw [mkR, if_pos rfl]

theorem mkR_pos {k : Nat} (h : k ≠ 0) (acc : List UInt8) : mkR k acc = mkR (k / 10) (UInt8.ofNat (48 + k % 10) :: acc) := by rw [mkR, if_neg h]

/-- The text of a mark. -/
def mkT (k : Nat) : ByteArray := ofL (109 :: mkR k [])

/-- A list of texts that a call has handed back. -/
def StrV (w : World) (v : Value) (l : List (List UInt8)) : Prop := ∃ av cap, v = .slice av l.length cap ∧ (l = [] ∨ ∃ g, av = some ⟨g, 0, none⟩ ∧ g < w.heap.size ∧ StrAt w g l)

/-- The first n texts are marks from k on. -/
def MkAt (w : World) (g n k : Nat) : Prop := ∀ j : Nat, j < n → w.cell? ⟨g, j, none⟩ = some (.string (mkT (k + j)))

theorem MkAt.below {w w' : World} {g n k m : Nat} (h : MkAt w g n k) (hg : g < m) (hb : Below m w w') : MkAt w' g n k := fun j hj => by
  rw [hb.cell (p := ⟨g, j, none⟩) hg]; exact h j hj

set_option maxRecDepth 100000 in
set_option maxHeartbeats 800000 in
theorem eqStringS_same (v v' : Value) (l : List (List UInt8)) (hb : l.length ≤ 1000000) (w : World) (h1 : StrV w v l) (h2 : StrV w v' l) :
    Calls Try.prog 30 #[v, v'] w fun e w' => e = .returned (.bool true) ∧ Below w.heap.size w w' := by
  obtain ⟨av, cap, rfl, h1⟩ := h1
  obtain ⟨av', cap', rfl, h2⟩ := h2
  obtain ⟨n, hn⟩ : ∃ n, l.length = n := ⟨_, rfl⟩
  rw [hn] at hb ⊢
  have HN := Lib.hid hn
  by_cases h0 : n = 0
  · subst h0
    go_enter Try.func30, Try.ntmps30
    go_wp2_with fail
    refine wp_loop_rounds 1 ?_
    rw [rounds_succ]
    go_wp2_with fail
    go_ret
    exact ⟨rfl, Below.refl _ _⟩
  · have hne : l ≠ [] := fun h => h0 (by rw [← hn, h]; rfl)
    obtain ⟨g, rfl, hg, s1⟩ := h1.resolve_left hne
    obtain ⟨g', rfl, hg', s2⟩ := h2.resolve_left hne
    have H1 := Lib.hid s1
    have H2 := Lib.hid s2
    clear hn h1 h2 s1 s2
    go_enter Try.func30, Try.ntmps30
    go_wp2_with fail
    go_loopw [5] (fun i wr => ∃ k : Nat, k ≤ n ∧ i = .int .i64 k ∧ Below w.heap.size w wr) (fun i _ => n - (intOf i).toNat)
    case atStart => exact ⟨0, Nat.zero_le _, rfl, Below.refl _ _⟩
    case round =>
      obtain ⟨k, hk, rfl, hB⟩ := hrel
      have HB := Lib.hid hB
      by_cases hlt : k < n
      · obtain ⟨x, hx⟩ : ∃ x, l[k]? = some x := ⟨_, List.getElem?_eq_getElem (by rw [HN.out]; exact hlt)⟩
        have c0 := (H1.out.below hg hB) k x hx
        have d0 := (H2.out.below hg' hB) k x hx
        have i1 : (0 : Int) ≤ (k : Int) := by omega
        have i2 : (k : Int) < (n : Int) := by omega
        clear hB hx
        go_wp2_with fail
        go_quiet (fail)
        go_wp2_with fail
        go_roundw
        case rel => exact ⟨k + 1, by omega, by go_num, HB.out.trans (below_drawn _ _)⟩
        case measure => simp [intOf]; omega
      · clear hB
        go_wp2_with fail
        go_ret
        exact ⟨rfl, HB.out⟩

end Go.Proofs.Ytkmgcmgnaeamaaa

/- What a list of texts and whether there is one are, behind a call. -/
namespace Go.Proofs.Ytkmgcmgnaeamaaa
open Go.ChangeShapes Go.WideShapes Go.ChangeAt Go.RowKit

def STPost (l : List (List UInt8)) (b : Bool) (w : World) (e : Ending) (w' : World) : Prop :=
  ∃ v, e = .returned (.tuple #[v, .bool b]) ∧ w'.ownsRow w.heap.size 9 1 v l.length (strV l) ∧ Below w.heap.size w w'

theorem stNo {w w' : World} (h : Below w.heap.size w w') : STPost [] false w (.returned (.tuple #[.slice none 0 0, .bool false])) w' := ⟨_, rfl, World.ownsRow_nil _ _ _ _, h⟩

theorem strV_own {W : World} {B : Nat} {v : Value} {l : List (List UInt8)} (h : W.ownsRow B 9 1 v l.length (strV l)) : StrV W v l := by
  have h0 := h
  rcases h.2 with ⟨rfl, h2⟩ | ⟨g, cap, cur, rfl, _⟩
  · exact ⟨none, 0, by rw [h2], .inl (List.eq_nil_of_length_eq_zero h2)⟩
  · exact ⟨_, cap, rfl, .inr ⟨g, rfl, (h0.lt g rfl).2, str_of h0 rfl⟩⟩

theorem StrV.below {w w' : World} {v : Value} {l : List (List UInt8)} (h : StrV w v l) (hb : Below w.heap.size w w') : StrV w' v l := by
  obtain ⟨av, cap, rfl, h⟩ := h
  refine ⟨av, cap, rfl, h.imp id ?_⟩
  rintro ⟨g, rfl, hg, hs⟩
  exact ⟨g, rfl, Nat.lt_of_lt_of_le hg hb.size, hs.below hg hb⟩

theorem StrV.grown {w w' : World} {v : Value} {l : List (List UInt8)} {row : Option Nat} (h : StrV w v l) (hg : w.grownBy w' row) (hne : v.ownBlock = none ∨ v.ownBlock ≠ row) : StrV w' v l := by
  obtain ⟨av, cap, rfl, h⟩ := h
  refine ⟨av, cap, rfl, h.imp id ?_⟩
  rintro ⟨g, rfl, hlt, hs⟩
  refine ⟨g, rfl, Nat.lt_of_lt_of_le hlt hg.size, fun i u hu => hg.cell (hs i u hu) ?_⟩
  rcases hne with h | h
  · cases h
  · exact h

theorem free_own {W : World} {B : Nat} {v : Value} {l : List (List UInt8)} (h : W.ownsRow B 9 1 v l.length (strV l)) : ∀ g, v.ownBlock = some g → FreeR W g l.length := by
  intro g hg j hj
  rcases h.2 with ⟨rfl, _⟩ | ⟨g', cap, cur, rfl, _⟩
  · cases hg
  · simp only [Value.ownBlock, Option.some.injEq] at hg
    subst hg
    exact h.frozenAt j

theorem own_apart {W W' : World} {B B' : Nat} {e e' size size' n n' : Nat} {v v' : Value} {xs xs' : List Value} (h : W.ownsRow B e size v n xs) (h' : W'.ownsRow B' e' size' v' n' xs') (hB : W.heap.size ≤ B') : v.ownBlock = none ∨ v.ownBlock ≠ v'.ownBlock := by
  cases hv : v.ownBlock with
  | none => exact .inl rfl
  | some k =>
    refine .inr fun e => ?_
    have h1 := (h.lt k hv).2
    have h2 := (h'.lt k e.symm).1
    omega

end Go.Proofs.Ytkmgcmgnaeamaaa

/- Contract of the model: all tracks that are laid whole from a box, in order. -/
namespace Go.Proofs.Ytkmgcmgnaeamaaa
open Go.ChangeShapes Go.WideShapes Go.ChangeAt Go.RowKit

set_option linter.unusedVariables false
set_option linter.unusedSimpArgs false

/-- Block F is a variable that holds a list of texts; its row lies behind it. -/
def LkAt (w : World) (F : Nat) (v : Value) (L : List (List UInt8)) : Prop :=
  w.heap[F]? = some (.cells #[v] 36 (0, 0)) ∧ w.ownsRow (F + 1) 9 1 v L.length (strV L)

structure LkFr (w w' : World) (F : Nat) (v : Value) : Prop where
  os : w'.os = w.os
  tape : w'.tape = w.tape
  output : w'.output = w.output
  size : w.heap.size ≤ w'.heap.size
  block : ∀ k, k < w.heap.size → k ≠ F → v.ownBlock ≠ some k → w'.heap[k]? = w.heap[k]?

/-- A row that lies where it lay, or in a new block. -/
def LkSt (m : Nat) (v v' : Value) : Prop := v'.ownBlock = v.ownBlock ∨ ∀ k, v'.ownBlock = some k → m ≤ k

theorem LkSt.refl (m : Nat) (v : Value) : LkSt m v v := .inl rfl

theorem LkSt.trans {m m2 : Nat} {v v1 v2 : Value} (h : LkSt m v v1) (g : LkSt m2 v1 v2) (hm : m ≤ m2) : LkSt m v v2 := by
  rcases g with g | g
  · rcases h with h | h
    · exact .inl (g.trans h)
    · exact .inr fun k hk => h k (g ▸ hk)
  · exact .inr fun k hk => Nat.le_trans hm (g k hk)

theorem LkSt.mono {m m2 : Nat} {v v1 : Value} (h : LkSt m2 v v1) (hm : m ≤ m2) : LkSt m v v1 := h.imp id fun h k hk => Nat.le_trans hm (h k hk)

theorem LkFr.of_below {w w' : World} {F : Nat} {v : Value} (h : Below w.heap.size w w') : LkFr w w' F v := ⟨h.os, h.tape, h.output, h.size, fun k hk _ _ => h.block k hk⟩

theorem LkFr.trans {w w1 w2 : World} {F : Nat} {v v1 : Value} (h : LkFr w w1 F v) (g : LkFr w1 w2 F v1) (hs : LkSt w.heap.size v v1) : LkFr w w2 F v :=
  ⟨g.os.trans h.os, g.tape.trans h.tape, g.output.trans h.output, Nat.le_trans h.size g.size, fun k hk hF hv => by
    have hv1 : v1.ownBlock ≠ some k := fun e => by
      rcases hs with hs | hs
      · exact hv (hs ▸ e)
      · have := hs k e; omega
    rw [g.block k (Nat.lt_of_lt_of_le hk h.size) hF hv1, h.block k hk hF hv]⟩

theorem LkFr.then {w w1 w2 : World} {F : Nat} {v : Value} (h : LkFr w w1 F v) (g : Below w1.heap.size w1 w2) : LkFr w w2 F v := h.trans (LkFr.of_below g) (.refl _ _)

theorem LkFr.below {w w' : World} {F m : Nat} {v : Value} (h : LkFr w w' F v) (hF : m ≤ F) (hv : ∀ k, v.ownBlock = some k → m ≤ k) (hm : m ≤ w.heap.size) : Below m w w' :=
  ⟨h.os, h.tape, h.output, h.size, fun k hk => h.block k (by omega) (by omega) (fun e => by have := hv k e; omega)⟩

theorem LkAt.lt {w : World} {F : Nat} {v : Value} {L : List (List UInt8)} (h : LkAt w F v L) : F < w.heap.size := (Array.getElem?_eq_some_iff.1 h.1).1

theorem LkAt.own {w : World} {F : Nat} {v : Value} {L : List (List UInt8)} (h : LkAt w F v L) : ∀ k, v.ownBlock = some k → F + 1 ≤ k ∧ k < w.heap.size := fun k hk => ⟨(h.2.lt k hk).1, (h.2.lt k hk).2⟩

theorem LkAt.below {w w' : World} {F : Nat} {v : Value} {L : List (List UInt8)} (h : LkAt w F v L) (hb : Below w.heap.size w w') : LkAt w' F v L :=
  ⟨(hb.block F h.lt).trans h.1, h.2.kept (row := none) ⟨hb.os, hb.tape, hb.output, hb.size, fun k hk _ => hb.block k hk⟩ (by cases v.ownBlock <;> simp)⟩

theorem LkAt.cells {w : World} {F : Nat} {v : Value} {L : List (List UInt8)} (h : LkAt w F v L) : w.cell? ⟨F, 0, none⟩ = some v ∧ w.frozen? ⟨F, 0, none⟩ = false := by
  simp [World.cell?, World.frozen?, h.1]

def LkPost (w : World) (F : Nat) (v : Value) (L : List (List UInt8)) (e : Ending) (w' : World) : Prop :=
  e = .returned (.tuple #[]) ∧ ∃ v', LkAt w' F v' L ∧ LkSt w.heap.size v v' ∧ LkFr w w' F v

theorem lk_store {w w1 w2 : World} {F : Nat} {v v' : Value} {L L' : List (List UInt8)} (h : LkAt w F v L) (hw : Below w.heap.size w w1) (hg : w1.grownBy w2 v.ownBlock) (ho : w2.ownsRow (F + 1) 9 1 v' L'.length (strV L')) (hs : v'.ownBlock = v.ownBlock ∨ v'.ownBlock = some w1.heap.size) :
    LkPost w F v L' (.returned (.tuple #[])) (w2.setCell ⟨F, 0, none⟩ v') := by
  have hF := h.lt
  have hvF : v.ownBlock ≠ some F := fun e => by have := (h.2.lt F e).1; omega
  have hvF' : v'.ownBlock ≠ some F := fun e => by have := (ho.lt F e).1; omega
  have hb2 : w2.heap[F]? = some (.cells #[v] 36 (0, 0)) := by
    rw [hg.block F (Nat.lt_of_lt_of_le hF hw.size) (fun e => hvF e.symm), hw.block F hF, h.1]
  refine ⟨rfl, v', ⟨?_, ?_⟩, ?_, ?_⟩
  · simp [World.setCell, Array.getElem?_modify, hb2]
  · refine ho.kept (row := some F) ⟨rfl, rfl, rfl, by simp [World.setCell], fun k hk hne => ?_⟩ (.inr fun e => hvF' e)
    have : ¬ F = k := fun e => hne (by rw [e])
    simp [World.setCell, Array.getElem?_modify, this]
  · rcases hs with hs | hs
    · exact .inl hs
    · exact .inr fun k hk => by rw [hs] at hk; injection hk with hk; have := hw.size; omega
  · refine ⟨hg.os.trans hw.os, hg.tape.trans hw.tape, hg.output.trans hw.output, ?_, fun k hk hkF hv => ?_⟩
    · have h1 := hw.size
      have h2 := hg.size
      simp [World.setCell]; omega
    · have : ¬ F = k := fun e => hkF e.symm
      have e1 : (w2.setCell ⟨F, 0, none⟩ v').heap[k]? = w2.heap[k]? := by simp [World.setCell, Array.getElem?_modify, this]
      rw [e1, hg.block k (Nat.lt_of_lt_of_le hk hw.size) (fun e => hv e.symm), hw.block k hk]

theorem lk_mid {w w1 w2 : World} {F : Nat} {v : Value} {L : List (List UInt8)} (h : LkAt w F v L) (hw : Below w.heap.size w w1) (hg : w1.grownBy w2 v.ownBlock) : w2.cell? ⟨F, 0, none⟩ = some v ∧ w2.frozen? ⟨F, 0, none⟩ = false := by
  have hF := h.lt
  have hvF : v.ownBlock ≠ some F := fun e => by have := (h.2.lt F e).1; omega
  have hb2 : w2.heap[F]? = some (.cells #[v] 36 (0, 0)) := by
    rw [hg.block F (Nat.lt_of_lt_of_le hF hw.size) (fun e => hvF e.symm), hw.block F hF, h.1]
  simp [World.cell?, World.frozen?, hb2]

theorem blk2 {W : World} {g : Nat} {t : TypeId} {fz : Nat × Nat} {a0 a1 : Value} (h : W.heap[g]? = some (.cells #[a0, a1] t fz)) :
    W.cell? ⟨g, 0, none⟩ = some a0 ∧ W.cell? ⟨g, 1, none⟩ = some a1 := by
  simp [World.cell?, h]

set_option maxRecDepth 100000 in
set_option maxHeartbeats 800000 in
theorem spLook_leaf (F : Nat) (u : List UInt8) (L : List (List UInt8)) (hL : L.length + 1 ≤ 1000000) (w : World) (v : Value) (hF : LkAt w F v L) :
    Calls Try.prog 93 #[bv ⟨0, 0⟩, .string (ofL u), .pointer (some ⟨F, 0, none⟩)] w (LkPost w F v (L ++ [u])) := by
  obtain ⟨i0, hi, iz0, iz1, iz2⟩ := info_parts srInfo
  have hzF := hF.lt
  have HFA := Lib.hid hF
  have hB : Below w.heap.size w (w.alloc (.cells #[.int .i64 0, .int .i64 0] 25)) := Below.alloc (Below.refl _ _) (Nat.le_refl _) _
  have hFw := hF.below hB
  obtain ⟨f0, f1⟩ := hFw.cells
  obtain ⟨U, hU⟩ : ∃ U, ofL u = U := ⟨_, rfl⟩
  have HU := Lib.hid hU
  rw [hU]
  have HO := Lib.hid (hFw.2.alloc (.cells #[.string U] 9))
  have hnews := cell_one_new (w.alloc (.cells #[.int .i64 0, .int .i64 0] 25)) (.string U) 9
  have HB2 := Lib.hid (hB.alloc hB.size (.cells #[.string U] 9))
  have e1 : (w.alloc (.cells #[.int .i64 0, .int .i64 0] 25)).heap.size = w.heap.size + 1 := by simp
  rw [e1] at hnews
  clear hF hFw hB hU e1
  go_enter Try.func93, Try.ntmps93
  go_wp2_with (at_builtin; refine wpList_append_own_at _ rfl _ _ 36 rfl (F + 1) 9 i0 (.string ByteArray.empty) 1 16 Try.underlying36 hi iz0 iz1 iz2 rfl (by decide) v _ _ rfl HO.out ⟨w.heap.size + 1, 0, none⟩ 1 1 [.string U] rfl rfl hnews (by intro u hu; simp at hu; subst hu; rfl) (by unfold maxLen; omega) (by omega) (by simp; omega) ?_; intro v' w2 hown' hgrow hnil hloc; obtain ⟨av', cv', rfl⟩ := own_formC hown'; obtain ⟨k1, k2⟩ := lk_mid HFA.out HB2.out hgrow)
  have HP := Lib.hid (lk_store (L' := L ++ [u]) HFA.out HB2.out hgrow (by rw [strV_append, List.length_append]; simp only [strV, List.map_cons, List.map_nil, HU.out]; exact hown') (hloc.imp id fun h => by rw [h]))
  go_returns
  exact HP.out

theorem lk_concat (u : List UInt8) (c : UInt8) (h : u.length ≤ 900000) (w : World) : (Op.stringOp .add (ofL u) ⟨#[c]⟩).run Try.prog w = .ok (.string (ofL (u ++ [c]))) w :=
  concat_run (ofL_snoc u c) (by rw [ofL_size]; show _ + 1 ≤ _; omega) w

/-- What the search answers for every box of n pieces. -/
def LkAll (F n : Nat) : Prop := ∀ (s c : Nat), s + c = n → ∀ (u : List UInt8), u.length + n ≤ 1000 → ∀ (L : List (List UInt8)), L.length + 3 ^ n ≤ 1000000 → ∀ (w : World) (v : Value), LkAt w F v L →
  Calls Try.prog 93 #[bv ⟨(s : Nat), (c : Nat)⟩, .string (ofL u), .pointer (some ⟨F, 0, none⟩)] w (LkPost w F v (L ++ bxL s c u))

theorem bxL_le (s c : Nat) (u : List UInt8) : (bxL s c u).length ≤ 3 ^ (s + c) := by rw [bxL, List.length_map]; exact bxW_le s c

theorem lk_own_ne {w : World} {F k : Nat} {v : Value} {L : List (List UInt8)} (h : LkAt w F v L) (hk : w.heap.size ≤ k) : k ≠ F ∧ v.ownBlock ≠ some k := ⟨by have := h.lt; omega, fun e => by have := (h.own k e).2; omega⟩

set_option maxRecDepth 100000 in
set_option maxHeartbeats 1600000 in
theorem spLook_S (F s n : Nat) (hn : s + 1 = n + 1) (ih : LkAll F n) (u : List UInt8) (hu : u.length + (n + 1) ≤ 1000) (L : List (List UInt8)) (hL : L.length + 3 ^ (n + 1) ≤ 1000000) (w : World) (v : Value) (hF : LkAt w F v L) :
    Calls Try.prog 93 #[bv ⟨((s + 1 : Nat) : Int), 0⟩, .string (ofL u), .pointer (some ⟨F, 0, none⟩)] w (LkPost w F v (L ++ bxL (s + 1) 0 u)) := by
  rw [Nat.pow_succ] at hL
  rw [bxL_S]
  obtain ⟨m, hm⟩ : ∃ m : Nat, s + 1 = m := ⟨_, rfl⟩
  have P0 : ∀ (w : World) (v : Value), LkAt w F v L → Calls Try.prog 93 #[bv ⟨(s : Int), 0⟩, .string (ofL (u ++ [83])), .pointer (some ⟨F, 0, none⟩)] w (LkPost w F v (L ++ bxL s 0 (u ++ [83]))) := fun w v h => ih s 0 (by omega) (u ++ [83]) (by rw [List.length_append]; simp; omega) L (by have := Nat.pow_pos (n := n) (show 0 < 3 by decide); omega) w v h
  have P := Lib.hid P0
  clear P0
  have k1 := lk_concat u 83 (by omega)
  generalize bxL s 0 (u ++ [83]) = R at *
  generalize ofL (u ++ [83]) = U at *
  generalize ofL u = V at *
  have e1 : (m : Int) - 1 = (s : Int) := by omega
  have ew1 : wrap64 ((s : Int)) = (s : Int) := IntWalk.wrap64_in _ ⟨by omega, by omega⟩
  have e2 : ¬ (m : Int) = 0 := by omega
  have ew : wrap64 (m : Int) = (m : Int) := IntWalk.wrap64_in _ ⟨by omega, by omega⟩
  have e3 : (0 : Int) < (m : Int) := by omega
  have HF := Lib.hid hF
  rw [hm]
  clear ih hF hu hL hm hn
  go_enter Try.func93, Try.ntmps93
  go_wp2_with fail
  have hB : Below w.heap.size w (w.alloc (.cells #[.int .i64 (m : Int), .int .i64 0] 25)) := Below.alloc (Below.refl _ _) (Nat.le_refl _) _
  (with_reducible refine Calls.mono (P.out _ v (HF.out.below hB)) ?_)
  rintro e w1 ⟨rfl, v1, hA, hs, hf⟩
  have HP := Lib.hid (show LkPost w F v (L ++ R) (.returned (.tuple #[])) w1 from ⟨rfl, v1, hA, hs.mono hB.size, (LkFr.of_below hB).trans hf (.refl _ _)⟩)
  clear hA hs hf hB
  go_wp2_with fail
  refine ⟨rfl, .tuple #[], by first | rfl | (simp [results, Try.results93, go_sem]; done), ?_⟩
  exact HP.out

theorem LkFr.blk {w w' : World} {F k : Nat} {v : Value} {o : Obj} (h : LkFr w w' F v) (hk : w.heap[k]? = some o) (h1 : k ≠ F) (h2 : v.ownBlock ≠ some k) : w'.heap[k]? = some o := (h.block k (Array.getElem?_eq_some_iff.1 hk).1 h1 h2).trans hk

theorem LkSt.ne {m k : Nat} {v v' : Value} (h : LkSt m v v') (hk : k < m) (h2 : v.ownBlock ≠ some k) : v'.ownBlock ≠ some k := fun e => by
  rcases h with h | h
  · exact h2 (h ▸ e)
  · have := h k e; omega

set_option maxRecDepth 100000 in
set_option maxHeartbeats 1600000 in
theorem spLook_C (F c n : Nat) (hn : c + 1 = n + 1) (ih : LkAll F n) (u : List UInt8) (hu : u.length + (n + 1) ≤ 1000) (L : List (List UInt8)) (hL : L.length + 3 ^ (n + 1) ≤ 1000000) (w : World) (v : Value) (hF : LkAt w F v L) :
    Calls Try.prog 93 #[bv ⟨0, ((c + 1 : Nat) : Int)⟩, .string (ofL u), .pointer (some ⟨F, 0, none⟩)] w (LkPost w F v (L ++ bxL 0 (c + 1) u)) := by
  rw [Nat.pow_succ] at hL
  rw [bxL_C]
  obtain ⟨m, hm⟩ : ∃ m : Nat, c + 1 = m := ⟨_, rfl⟩
  have hp3 := Nat.pow_pos (n := n) (show 0 < 3 by decide)
  have hl1 := bxL_le 0 c (u ++ [76])
  rw [show 0 + c = n by omega] at hl1
  have P0 : ∀ (w : World) (v : Value), LkAt w F v L → Calls Try.prog 93 #[bv ⟨0, (c : Int)⟩, .string (ofL (u ++ [76])), .pointer (some ⟨F, 0, none⟩)] w (LkPost w F v (L ++ bxL 0 c (u ++ [76]))) := fun w v h => ih 0 c (by omega) (u ++ [76]) (by rw [List.length_append]; simp; omega) L (by omega) w v h
  have Q0 : ∀ (w : World) (v : Value), LkAt w F v (L ++ bxL 0 c (u ++ [76])) → Calls Try.prog 93 #[bv ⟨0, (c : Int)⟩, .string (ofL (u ++ [82])), .pointer (some ⟨F, 0, none⟩)] w (LkPost w F v (L ++ bxL 0 c (u ++ [76]) ++ bxL 0 c (u ++ [82]))) := fun w v h => ih 0 c (by omega) (u ++ [82]) (by rw [List.length_append]; simp; omega) _ (by rw [List.length_append]; omega) w v h
  have P := Lib.hid P0
  have Q := Lib.hid Q0
  clear P0 Q0 hl1
  have k1 := lk_concat u 76 (by omega)
  have k2 := lk_concat u 82 (by omega)
  rw [← List.append_assoc]
  generalize L ++ bxL 0 c (u ++ [76]) = R1 at *
  generalize R1 ++ bxL 0 c (u ++ [82]) = R2 at *
  generalize ofL (u ++ [76]) = U1 at *
  generalize ofL (u ++ [82]) = U2 at *
  generalize ofL u = V at *
  have e1 : (m : Int) - 1 = (c : Int) := by omega
  have ew1 : wrap64 ((c : Int)) = (c : Int) := IntWalk.wrap64_in _ ⟨by omega, by omega⟩
  have e2 : ¬ (m : Int) = 0 := by omega
  have ew : wrap64 (m : Int) = (m : Int) := IntWalk.wrap64_in _ ⟨by omega, by omega⟩
  have e3 : (0 : Int) < (m : Int) := by omega
  have HF := Lib.hid hF
  rw [hm]
  clear ih hF hu hL hm hn
  go_enter Try.func93, Try.ntmps93
  go_wp2_with fail
  have hz : (w.alloc (.cells #[.int .i64 0, .int .i64 (m : Int)] 25)).heap.size = w.heap.size + 1 := by simp
  have hB : Below w.heap.size w ((w.alloc (.cells #[.int .i64 0, .int .i64 (m : Int)] 25)).alloc (.cells #[.int .i64 0, .int .i64 (c : Int)] 25)) := (Below.alloc (Below.refl _ _) (Nat.le_refl _) _).alloc (by simp) _
  have b0 : ((w.alloc (.cells #[.int .i64 0, .int .i64 (m : Int)] 25)).alloc (.cells #[.int .i64 0, .int .i64 (c : Int)] 25)).heap[w.heap.size]? = some (.cells #[.int .i64 0, .int .i64 (m : Int)] 25 (0, 0)) := (Below.heap_alloc _ _ _ (by simp)).trans (heap_alloc_new _ _)
  have b1 : ((w.alloc (.cells #[.int .i64 0, .int .i64 (m : Int)] 25)).alloc (.cells #[.int .i64 0, .int .i64 (c : Int)] 25)).heap[w.heap.size + 1]? = some (.cells #[.int .i64 0, .int .i64 (c : Int)] 25 (0, 0)) := by rw [← hz]; exact heap_alloc_new _ _
  have hA0 := HF.out.below hB
  obtain ⟨n0, n0'⟩ := lk_own_ne HF.out (Nat.le_refl w.heap.size)
  obtain ⟨n1, n1'⟩ := lk_own_ne HF.out (Nat.le_succ w.heap.size)
  (with_reducible refine Calls.mono (P.out _ v hA0) ?_)
  rintro e w1 ⟨rfl, v1, hA1, hs1, hf1⟩
  have hz1 := hf1.size
  simp only [World.size_alloc] at hz1
  have d0 := hf1.blk b0 n0 n0'
  have d1 := hf1.blk b1 n1 n1'
  obtain ⟨c0, c1⟩ := blk2 d0
  obtain ⟨c2, c3⟩ := blk2 d1
  have HS1 := Lib.hid (hs1.mono hB.size)
  have HS1' := Lib.hid (And.intro (hs1.ne (k := w.heap.size) (by simp; omega) n0') (hs1.ne (k := w.heap.size + 1) (by simp) n1'))
  have HF1 := Lib.hid ((LkFr.of_below (F := F) (v := v) hB).trans hf1 (.refl _ _))
  have HA1 := Lib.hid hA1
  have HD := Lib.hid (And.intro d0 d1)
  have HN := Lib.hid (And.intro n0 n1)
  clear hA0 hA1 hs1 hf1 d0 d1 b0 b1 hB hz n0 n1 n0' n1'
  go_wp2_with fail
  (with_reducible refine Calls.mono (Q.out _ v1 HA1.out) ?_)
  rintro e w2 ⟨rfl, v2, hA2, hs2, hf2⟩
  have e0 := hf2.blk HD.out.1 HN.out.1 HS1'.out.1
  obtain ⟨g0, g1⟩ := blk2 e0
  have HP := Lib.hid (show LkPost w F v R2 (.returned (.tuple #[])) w2 from ⟨rfl, v2, hA2, HS1.out.trans hs2 (by omega), HF1.out.trans hf2 HS1.out⟩)
  clear hA2 hs2 hf2 e0 c0 c1 c2 c3
  go_wp2_with fail
  refine ⟨rfl, .tuple #[], by first | rfl | (simp [results, Try.results93, go_sem]; done), ?_⟩
  exact HP.out

set_option maxRecDepth 100000 in
set_option maxHeartbeats 1600000 in
theorem spLook_B (F s c n : Nat) (hn : (s + 1) + (c + 1) = n + 1) (ih : LkAll F n) (u : List UInt8) (hu : u.length + (n + 1) ≤ 1000) (L : List (List UInt8)) (hL : L.length + 3 ^ (n + 1) ≤ 1000000) (w : World) (v : Value) (hF : LkAt w F v L) :
    Calls Try.prog 93 #[bv ⟨((s + 1 : Nat) : Int), ((c + 1 : Nat) : Int)⟩, .string (ofL u), .pointer (some ⟨F, 0, none⟩)] w (LkPost w F v (L ++ bxL (s + 1) (c + 1) u)) := by
  rw [Nat.pow_succ] at hL
  rw [bxL_B]
  obtain ⟨m, hm⟩ : ∃ m : Nat, c + 1 = m := ⟨_, rfl⟩
  obtain ⟨q, hq⟩ : ∃ q : Nat, s + 1 = q := ⟨_, rfl⟩
  have hp3 := Nat.pow_pos (n := n) (show 0 < 3 by decide)
  have hl1 := bxL_le (s + 1) c (u ++ [76])
  rw [show s + 1 + c = n by omega] at hl1
  have hl2 := bxL_le (s + 1) c (u ++ [82])
  rw [show s + 1 + c = n by omega] at hl2
  have P0 : ∀ (w : World) (v : Value), LkAt w F v L → Calls Try.prog 93 #[bv ⟨(q : Int), (c : Int)⟩, .string (ofL (u ++ [76])), .pointer (some ⟨F, 0, none⟩)] w (LkPost w F v (L ++ bxL (s + 1) c (u ++ [76]))) := fun w v h => by
    rw [← hq]
    exact ih (s + 1) c (by omega) (u ++ [76]) (by rw [List.length_append]; simp; omega) L (by omega) w v h
  have Q0 : ∀ (w : World) (v : Value), LkAt w F v (L ++ bxL (s + 1) c (u ++ [76])) → Calls Try.prog 93 #[bv ⟨(q : Int), (c : Int)⟩, .string (ofL (u ++ [82])), .pointer (some ⟨F, 0, none⟩)] w (LkPost w F v (L ++ bxL (s + 1) c (u ++ [76]) ++ bxL (s + 1) c (u ++ [82]))) := fun w v h => by
    rw [← hq]
    exact ih (s + 1) c (by omega) (u ++ [82]) (by rw [List.length_append]; simp; omega) _ (by rw [List.length_append]; omega) w v h
  have S0 : ∀ (w : World) (v : Value), LkAt w F v (L ++ bxL (s + 1) c (u ++ [76]) ++ bxL (s + 1) c (u ++ [82])) → Calls Try.prog 93 #[bv ⟨(s : Int), (m : Int)⟩, .string (ofL (u ++ [83])), .pointer (some ⟨F, 0, none⟩)] w (LkPost w F v (L ++ bxL (s + 1) c (u ++ [76]) ++ bxL (s + 1) c (u ++ [82]) ++ bxL s (c + 1) (u ++ [83]))) := fun w v h => by
    rw [← hm]
    exact ih s (c + 1) (by omega) (u ++ [83]) (by rw [List.length_append]; simp; omega) _ (by rw [List.length_append, List.length_append]; omega) w v h
  have S := Lib.hid S0
  have P := Lib.hid P0
  have Q := Lib.hid Q0
  clear P0 Q0 S0 hl1 hl2 hL hp3
  have k1 := lk_concat u 76 (by omega)
  have k2 := lk_concat u 82 (by omega)
  have k3 := lk_concat u 83 (by omega)
  rw [← List.append_assoc, ← List.append_assoc]
  generalize L ++ bxL (s + 1) c (u ++ [76]) = R1 at *
  generalize R1 ++ bxL (s + 1) c (u ++ [82]) = R2 at *
  generalize R2 ++ bxL s (c + 1) (u ++ [83]) = R3 at *
  rw [hm, hq]
  generalize ofL (u ++ [83]) = U3 at *
  generalize ofL (u ++ [76]) = U1 at *
  generalize ofL (u ++ [82]) = U2 at *
  generalize ofL u = V at *
  have e1 : (m : Int) - 1 = (c : Int) := by omega
  have f1 : (q : Int) - 1 = (s : Int) := by omega
  have fw1 : wrap64 ((s : Int)) = (s : Int) := IntWalk.wrap64_in _ ⟨by omega, by omega⟩
  have ew1 : wrap64 ((c : Int)) = (c : Int) := IntWalk.wrap64_in _ ⟨by omega, by omega⟩
  have e2 : ¬ (q : Int) + (m : Int) = 0 := by omega
  have ew : wrap64 ((q : Int) + (m : Int)) = (q : Int) + (m : Int) := IntWalk.wrap64_in _ ⟨by omega, by omega⟩
  have f3 : (0 : Int) < (q : Int) := by omega
  have e3 : (0 : Int) < (m : Int) := by omega
  have HF := Lib.hid hF
  clear ih hF hu hn
  go_enter Try.func93, Try.ntmps93
  go_wp2_with fail
  have hz : (w.alloc (.cells #[.int .i64 (q : Int), .int .i64 (m : Int)] 25)).heap.size = w.heap.size + 1 := by simp
  have hB : Below w.heap.size w ((w.alloc (.cells #[.int .i64 (q : Int), .int .i64 (m : Int)] 25)).alloc (.cells #[.int .i64 (q : Int), .int .i64 (c : Int)] 25)) := (Below.alloc (Below.refl _ _) (Nat.le_refl _) _).alloc (by simp) _
  have b0 : ((w.alloc (.cells #[.int .i64 (q : Int), .int .i64 (m : Int)] 25)).alloc (.cells #[.int .i64 (q : Int), .int .i64 (c : Int)] 25)).heap[w.heap.size]? = some (.cells #[.int .i64 (q : Int), .int .i64 (m : Int)] 25 (0, 0)) := (Below.heap_alloc _ _ _ (by simp)).trans (heap_alloc_new _ _)
  have b1 : ((w.alloc (.cells #[.int .i64 (q : Int), .int .i64 (m : Int)] 25)).alloc (.cells #[.int .i64 (q : Int), .int .i64 (c : Int)] 25)).heap[w.heap.size + 1]? = some (.cells #[.int .i64 (q : Int), .int .i64 (c : Int)] 25 (0, 0)) := by rw [← hz]; exact heap_alloc_new _ _
  have hA0 := HF.out.below hB
  obtain ⟨n0, n0'⟩ := lk_own_ne HF.out (Nat.le_refl w.heap.size)
  obtain ⟨n1, n1'⟩ := lk_own_ne HF.out (Nat.le_succ w.heap.size)
  (with_reducible refine Calls.mono (P.out _ v hA0) ?_)
  rintro e w1 ⟨rfl, v1, hA1, hs1, hf1⟩
  have hz1 := hf1.size
  simp only [World.size_alloc] at hz1
  have d0 := hf1.blk b0 n0 n0'
  have d1 := hf1.blk b1 n1 n1'
  obtain ⟨c0, c1⟩ := blk2 d0
  obtain ⟨c2, c3⟩ := blk2 d1
  have HS1 := Lib.hid (hs1.mono hB.size)
  have HS1' := Lib.hid (And.intro (hs1.ne (k := w.heap.size) (by simp; omega) n0') (hs1.ne (k := w.heap.size + 1) (by simp) n1'))
  have HF1 := Lib.hid ((LkFr.of_below (F := F) (v := v) hB).trans hf1 (.refl _ _))
  have HA1 := Lib.hid hA1
  have HD := Lib.hid (And.intro d0 d1)
  have HN := Lib.hid (And.intro n0 n1)
  clear hA0 hA1 hs1 hf1 d0 d1 b0 b1 hB hz n0 n1 n0' n1'
  go_wp2_with fail
  (with_reducible refine Calls.mono (Q.out _ v1 HA1.out) ?_)
  rintro e w2 ⟨rfl, v2, hA2, hs2, hf2⟩
  have e0 := hf2.blk HD.out.1 HN.out.1 HS1'.out.1
  obtain ⟨g0, g1⟩ := blk2 e0
  have HS2 := Lib.hid (HS1.out.trans hs2 (by omega))
  have HF2 := Lib.hid (HF1.out.trans hf2 HS1.out)
  have HA2 := Lib.hid hA2
  clear hA2 hs2 hf2 e0 c0 c1 c2 c3
  go_wp2_with fail
  (with_reducible refine Calls.mono (S.out _ v2 HA2.out) ?_)
  rintro e w3 ⟨rfl, v3, hA3, hs3, hf3⟩
  have hz3 := HF2.out.size
  have HP := Lib.hid (show LkPost w F v R3 (.returned (.tuple #[])) w3 from ⟨rfl, v3, hA3, HS2.out.trans hs3 (by omega), HF2.out.trans hf3 HS2.out⟩)
  clear hA3 hs3 hf3 g0 g1
  go_wp2_with fail
  refine ⟨rfl, .tuple #[], by first | rfl | (simp [results, Try.results93, go_sem]; done), ?_⟩
  exact HP.out

theorem spLook_all (F : Nat) : ∀ n, LkAll F n
  | 0 => fun s c h u hu L hL w v hA => by
    obtain rfl : s = 0 := by omega
    obtain rfl : c = 0 := by omega
    rw [bxL_zero]
    exact spLook_leaf F u L (by omega) w v hA
  | n + 1 => fun s c h u hu L hL w v hA => by
    have ih := spLook_all F n
    match s, c, h with
    | 0, c + 1, h => exact spLook_C F c n (by omega) ih u hu L hL w v hA
    | s + 1, 0, h => exact spLook_S F s n (by omega) ih u hu L hL w v hA
    | s + 1, c + 1, h => exact spLook_B F s c n (by omega) ih u hu L hL w v hA

def AllPost (s c : Nat) (w : World) (e : Ending) (w' : World) : Prop :=
  ∃ v, e = .returned v ∧ w'.ownsRow w.heap.size 9 1 v (bxW s c).length (strV (bxW s c)) ∧ Below w.heap.size w w'

set_option maxRecDepth 100000 in
theorem spAll_any (s c : Nat) (h : s + c ≤ 12) (w : World) : Calls Try.prog 65 #[bv ⟨(s : Int), (c : Int)⟩] w (AllPost s c w) := by
  have hb : ∀ w0 : World, LkAt (w0.alloc (.cells #[.slice none 0 0] 36)) w0.heap.size (.slice none 0 0) [] := fun w0 => ⟨heap_alloc_new _ _, World.ownsRow_nil _ _ _ _⟩
  have P0 : ∀ (w : World) (F : Nat) (v : Value), LkAt w F v [] → Calls Try.prog 93 #[bv ⟨(s : Int), (c : Int)⟩, .string ⟨#[]⟩, .pointer (some ⟨F, 0, none⟩)] w (LkPost w F v (bxW s c)) := fun w F v hA => by
    have := spLook_all F (s + c) s c rfl [] (by simp; omega) [] (by have := Nat.pow_le_pow_right (show 0 < 3 by decide) h; simp; omega) w v hA
    rw [bxW_nil, List.nil_append] at this
    exact this
  have P := Lib.hid P0
  have HB := Lib.hid hb
  clear P0 hb
  unfold AllPost
  generalize bxW s c = R at *
  go_enter Try.func65, Try.ntmps65
  go_wp2_with fail
  have hA := HB.out (w.alloc (.cells #[.int .i64 (s : Int), .int .i64 (c : Int)] 25))
  have hz : (w.alloc (.cells #[.int .i64 (s : Int), .int .i64 (c : Int)] 25)).heap.size = w.heap.size + 1 := by simp
  rw [hz] at hA
  (with_reducible refine Calls.mono (P.out _ _ _ hA) ?_)
  rintro e w1 ⟨rfl, v1, hA1, hs1, hf1⟩
  obtain ⟨c0, c1⟩ := hA1.cells
  have hBB : Below w.heap.size w ((w.alloc (.cells #[.int .i64 (s : Int), .int .i64 (c : Int)] 25)).alloc (.cells #[.slice none 0 0] 36)) := (Below.alloc (Below.refl _ _) (Nat.le_refl _) _).alloc (by simp) _
  have HBB := Lib.hid (hBB.trans (hf1.below (by omega) (fun k hk => by cases hk) hBB.size))
  have HO := Lib.hid (own_lessP hA1.2 (show w.heap.size ≤ w.heap.size + 1 + 1 by omega))
  obtain ⟨av, cv, rfl⟩ := own_formC hA1.2
  clear hA hA1 hs1 hf1 hBB
  go_wp2_with fail
  go_ret
  exact ⟨_, rfl, HO.out, HBB.out⟩

end Go.Proofs.Ytkmgcmgnaeamaaa

/- Contracts: the difference of two points, in the model and in the program. -/
namespace Go.Proofs.Ytkmgcmgnaeamaaa
open Go.ChangeShapes Go.WideShapes Go.ChangeAt Go.RowKit

def lsd (a b : Int) : Int := wrap64 (a + wrap64 (-1 * b))

set_option maxRecDepth 100000 in
set_option maxHeartbeats 400000 in
theorem spLess_any (a0 a1 a2 a3 : Int) (b0 b1 b2 b3 : Int) (w : World) :
    Calls Try.prog 122 #[.agg #[.int .i64 a0, .int .i64 a1, .int .i64 a2, .int .i64 a3], .agg #[.int .i64 b0, .int .i64 b1, .int .i64 b2, .int .i64 b3]] w fun e w' => e = .returned (.agg #[.int .i64 (lsd a0 b0), .int .i64 (lsd a1 b1), .int .i64 (lsd a2 b2), .int .i64 (lsd a3 b3)]) ∧ Below w.heap.size w w' := by
  have hS0 := pp_start a0 a1 a2 a3 b0 b1 b2 b3 w 79 79
  go_enter Try.func122, Try.ntmps122
  go_wp2_with fail
  go_region_held3 (fun w' => w'.cell? ⟨w.heap.size, 0, none⟩ = some (.int .i64 a0) ∧ w'.cell? ⟨w.heap.size, 1, none⟩ = some (.int .i64 a1) ∧ w'.cell? ⟨w.heap.size, 2, none⟩ = some (.int .i64 a2) ∧ w'.cell? ⟨w.heap.size, 3, none⟩ = some (.int .i64 a3) ∧ w'.cell? ⟨w.heap.size + 1, 0, none⟩ = some (.int .i64 b0) ∧ w'.cell? ⟨w.heap.size + 1, 1, none⟩ = some (.int .i64 b1) ∧ w'.cell? ⟨w.heap.size + 1, 2, none⟩ = some (.int .i64 b2) ∧ w'.cell? ⟨w.heap.size + 1, 3, none⟩ = some (.int .i64 b3))
    (first | (with_reducible assumption) | (with_reducible exact pp_drew hS0) | (with_reducible exact pp_drew (pp_alloc hS0 _)) | (with_reducible exact pp_alloc (pp_drew hS0) _) | (with_reducible refine pp_drew ?_; with_reducible assumption) | (with_reducible refine pp_alloc ?_ _; with_reducible assumption) | (with_reducible refine pp_re (by with_reducible assumption) ?_ ?_ _; (focus first | (with_reducible assumption) | omega | (simp; done) | (simp; omega)); (focus first | (with_reducible assumption) | omega | (simp; done) | (simp; omega))) | (with_reducible refine pp_below ?_ ?_ ?_ h1; (focus first | (with_reducible assumption) | (with_reducible refine pp_undrew ?_; with_reducible assumption)); (focus first | (with_reducible assumption) | omega | (simp; done) | (simp; omega)); (focus first | (with_reducible assumption) | omega | (simp; done) | (simp; omega))) | ((repeat (with_reducible refine pp_set ?_ _ _ ?_ ?_; rotate_left 1; (focus first | (with_reducible assumption) | omega | (simp; done) | (simp; omega)); (focus first | (with_reducible assumption) | omega | (simp; done) | (simp; omega)))); with_reducible assumption))
    (first | (go_at_call 125; (with_reducible refine (spScale_any b0 b1 b2 b3 (-1) _).mono ?_); rintro e wA ⟨rfl, h1⟩; (try with_reducible replace h1 := undrew h1); have hB : Below w.heap.size w wA := ba (by go_grown) h1; obtain ⟨hcwA, hfwA⟩ := bcell h1; have hqwA := h1.size; (try simp at hqwA); (try have hz0wA : w.heap.size < wA.heap.size := (by omega)); (try have he0wA : w.heap.size ≤ wA.heap.size := (by omega)); (try have hz1wA : w.heap.size + 1 < wA.heap.size := (by omega)); (try have he1wA : w.heap.size + 1 ≤ wA.heap.size := (by omega)); (try have hz2wA : w.heap.size + 1 + 1 < wA.heap.size := (by omega)); (try have he2wA : w.heap.size + 1 + 1 ≤ wA.heap.size := (by omega))) | (go_at_call 111; (with_reducible refine (spAdd_any _ _ _ _ _ _ _ _ _).mono ?_); rintro e wB ⟨rfl, h1⟩; (try with_reducible replace h1 := undrew h1); have hB : Below w.heap.size w wB := ba (by go_grown) h1; obtain ⟨hcwB, hfwB⟩ := bcell h1; have hqwB := h1.size; (try simp at hqwB); (try have hz0wB : w.heap.size < wB.heap.size := (by omega)); (try have he0wB : w.heap.size ≤ wB.heap.size := (by omega)); (try have hz1wB : w.heap.size + 1 < wB.heap.size := (by omega)); (try have he1wB : w.heap.size + 1 ≤ wB.heap.size := (by omega)); (try have hz2wB : w.heap.size + 1 + 1 < wB.heap.size := (by omega)); (try have he2wB : w.heap.size + 1 + 1 ≤ wB.heap.size := (by omega))))
  go_wp2_with fail
  refine bodyPost_ret (by simp [results, Try.results122, go_sem, *]; try rfl) rfl ?_
  exact ⟨by simp [lsd], by go_grown⟩

def lessG (a0 a1 a2 a3 : Int) (b0 b1 b2 b3 : Int) : Bool := goodB a0 a1 a2 a3 && (goodB b0 b1 b2 b3 && goodB (lsd a0 b0) (lsd a1 b1) (lsd a2 b2) (lsd a3 b3))

end Go.Proofs.Ytkmgcmgnaeamaaa

/- Contracts: the steps of pieces, in the model. -/
namespace Go.Proofs.Ytkmgcmgnaeamaaa
open Go.ChangeShapes Go.WideShapes Go.ChangeAt Go.RowKit

set_option linter.unusedVariables false
set_option linter.unusedSimpArgs false

theorem lsd_eq (x y : Int) (px : -999999 ≤ x) (qx : x ≤ 999999) (py : -999999 ≤ y) (qy : y ≤ 999999) : lsd x y = x - y := by
  unfold lsd
  rw [w64s (-1 * y) (by omega) (by omega), w64s _ (by omega) (by omega)]
  omega

theorem lsB (x0 x1 x2 x3 y0 y1 y2 y3 : Int) (px0 : -999999 ≤ x0) (qx0 : x0 ≤ 999999) (px1 : -999999 ≤ x1) (qx1 : x1 ≤ 999999) (px2 : -999999 ≤ x2) (qx2 : x2 ≤ 999999) (px3 : -999999 ≤ x3) (qx3 : x3 ≤ 999999) (py0 : -999999 ≤ y0) (qy0 : y0 ≤ 999999) (py1 : -999999 ≤ y1) (qy1 : y1 ≤ 999999) (py2 : -999999 ≤ y2) (qy2 : y2 ≤ 999999) (py3 : -999999 ≤ y3) (qy3 : y3 ≤ 999999) (w : World) :
    Calls Try.prog 122 #[.agg #[.int .i64 x0, .int .i64 x1, .int .i64 x2, .int .i64 x3], .agg #[.int .i64 y0, .int .i64 y1, .int .i64 y2, .int .i64 y3]] w fun e w' => e = .returned (.agg #[.int .i64 (x0 - y0), .int .i64 (x1 - y1), .int .i64 (x2 - y2), .int .i64 (x3 - y3)]) ∧ Below w.heap.size w w' :=
  (spLess_any x0 x1 x2 x3 y0 y1 y2 y3 w).mono fun e w' ⟨h, hb⟩ => ⟨by rw [h, lsd_eq x0 y0 px0 qx0 py0 qy0, lsd_eq x1 y1 px1 qx1 py1 qy1, lsd_eq x2 y2 px2 qx2 py2 qy2, lsd_eq x3 y3 px3 qx3 py3 qy3], hb⟩

set_option maxRecDepth 100000 in
set_option maxHeartbeats 1600000 in
theorem ptStep_L (h : Int) (h0 : 0 ≤ h) (h7 : h ≤ 7) (w : World) :
    Calls Try.prog 110 #[.int .u8 76, .int .i64 h] w fun e w' => e = .returned (.tuple #[.agg #[.int .i64 ((tu0 ((h + 7) % 8) 1 0 0 0) - (tu0 ((h + 6) % 8) 1 0 0 0)), .int .i64 ((tu1 ((h + 7) % 8) 1 0 0 0) - (tu1 ((h + 6) % 8) 1 0 0 0)), .int .i64 ((tu2 ((h + 7) % 8) 1 0 0 0) - (tu2 ((h + 6) % 8) 1 0 0 0)), .int .i64 ((tu3 ((h + 7) % 8) 1 0 0 0) - (tu3 ((h + 6) % 8) 1 0 0 0))], .int .i64 ((h + 1) % 8)]) ∧ Below w.heap.size w w' := by
  obtain ⟨a0, a0'⟩ := tu_bd0 ((h + 7) % 8) (by omega) (by omega)
  obtain ⟨a1, a1'⟩ := tu_bd1 ((h + 7) % 8) (by omega) (by omega)
  obtain ⟨a2, a2'⟩ := tu_bd2 ((h + 7) % 8) (by omega) (by omega)
  obtain ⟨a3, a3'⟩ := tu_bd3 ((h + 7) % 8) (by omega) (by omega)
  obtain ⟨b0, b0'⟩ := tu_bd0 ((h + 6) % 8) (by omega) (by omega)
  obtain ⟨b1, b1'⟩ := tu_bd1 ((h + 6) % 8) (by omega) (by omega)
  obtain ⟨b2, b2'⟩ := tu_bd2 ((h + 6) % 8) (by omega) (by omega)
  obtain ⟨b3, b3'⟩ := tu_bd3 ((h + 6) % 8) (by omega) (by omega)
  go_enter Try.func110, Try.ntmps110
  go_wp2_with fail
  (go_at_call 123; (with_reducible refine (ptHeading_any (h + 7) (by omega) (by omega) _).mono ?_); rintro e wA ⟨rfl, h1⟩; (try with_reducible replace h1 := undrew h1); have hB : Below w.heap.size w wA := ba (by go_grown) h1; obtain ⟨hcwA, hfwA⟩ := bcell h1; have hqwA := h1.size; (try simp at hqwA); (try have hz0wA : w.heap.size < wA.heap.size := (by omega)); (try have he0wA : w.heap.size ≤ wA.heap.size := (by omega)))
  go_wp2_with fail
  (go_at_call 123; (with_reducible refine (ptHeading_any (h + 6) (by omega) (by omega) _).mono ?_); rintro e wB ⟨rfl, h1⟩; (try with_reducible replace h1 := undrew h1); have hB : Below w.heap.size w wB := ba (by go_grown) h1; obtain ⟨hcwB, hfwB⟩ := bcell h1; have hqwB := h1.size; (try simp at hqwB); (try have hz0wB : w.heap.size < wB.heap.size := (by omega)); (try have he0wB : w.heap.size ≤ wB.heap.size := (by omega)))
  go_wp2_with fail
  (go_at_call 122; (with_reducible refine (lsB (tu0 ((h + 7) % 8) 1 0 0 0) (tu1 ((h + 7) % 8) 1 0 0 0) (tu2 ((h + 7) % 8) 1 0 0 0) (tu3 ((h + 7) % 8) 1 0 0 0) (tu0 ((h + 6) % 8) 1 0 0 0) (tu1 ((h + 6) % 8) 1 0 0 0) (tu2 ((h + 6) % 8) 1 0 0 0) (tu3 ((h + 6) % 8) 1 0 0 0) a0 a0' a1 a1' a2 a2' a3 a3' b0 b0' b1 b1' b2 b2' b3 b3' _).mono ?_); rintro e wC ⟨rfl, h1⟩; (try with_reducible replace h1 := undrew h1); have hB : Below w.heap.size w wC := ba (by go_grown) h1; obtain ⟨hcwC, hfwC⟩ := bcell h1; have hqwC := h1.size; (try simp at hqwC); (try have hz0wC : w.heap.size < wC.heap.size := (by omega)); (try have he0wC : w.heap.size ≤ wC.heap.size := (by omega)))
  go_wp2_with fail
  refine bodyPost_ret (by simp [results, Try.results110, go_sem, *]; try rfl) rfl ?_
  exact ⟨rfl, by go_grown⟩

set_option maxRecDepth 100000 in
set_option maxHeartbeats 1600000 in
theorem ptStep_R (h : Int) (h0 : 0 ≤ h) (h7 : h ≤ 7) (w : World) :
    Calls Try.prog 110 #[.int .u8 82, .int .i64 h] w fun e w' => e = .returned (.tuple #[.agg #[.int .i64 ((tu0 ((h + 1) % 8) 1 0 0 0) - (tu0 ((h + 2) % 8) 1 0 0 0)), .int .i64 ((tu1 ((h + 1) % 8) 1 0 0 0) - (tu1 ((h + 2) % 8) 1 0 0 0)), .int .i64 ((tu2 ((h + 1) % 8) 1 0 0 0) - (tu2 ((h + 2) % 8) 1 0 0 0)), .int .i64 ((tu3 ((h + 1) % 8) 1 0 0 0) - (tu3 ((h + 2) % 8) 1 0 0 0))], .int .i64 ((h + 7) % 8)]) ∧ Below w.heap.size w w' := by
  obtain ⟨a0, a0'⟩ := tu_bd0 ((h + 1) % 8) (by omega) (by omega)
  obtain ⟨a1, a1'⟩ := tu_bd1 ((h + 1) % 8) (by omega) (by omega)
  obtain ⟨a2, a2'⟩ := tu_bd2 ((h + 1) % 8) (by omega) (by omega)
  obtain ⟨a3, a3'⟩ := tu_bd3 ((h + 1) % 8) (by omega) (by omega)
  obtain ⟨b0, b0'⟩ := tu_bd0 ((h + 2) % 8) (by omega) (by omega)
  obtain ⟨b1, b1'⟩ := tu_bd1 ((h + 2) % 8) (by omega) (by omega)
  obtain ⟨b2, b2'⟩ := tu_bd2 ((h + 2) % 8) (by omega) (by omega)
  obtain ⟨b3, b3'⟩ := tu_bd3 ((h + 2) % 8) (by omega) (by omega)
  go_enter Try.func110, Try.ntmps110
  go_wp2_with fail
  (go_at_call 123; (with_reducible refine (ptHeading_any (h + 1) (by omega) (by omega) _).mono ?_); rintro e wA ⟨rfl, h1⟩; (try with_reducible replace h1 := undrew h1); have hB : Below w.heap.size w wA := ba (by go_grown) h1; obtain ⟨hcwA, hfwA⟩ := bcell h1; have hqwA := h1.size; (try simp at hqwA); (try have hz0wA : w.heap.size < wA.heap.size := (by omega)); (try have he0wA : w.heap.size ≤ wA.heap.size := (by omega)))
  go_wp2_with fail
  (go_at_call 123; (with_reducible refine (ptHeading_any (h + 2) (by omega) (by omega) _).mono ?_); rintro e wB ⟨rfl, h1⟩; (try with_reducible replace h1 := undrew h1); have hB : Below w.heap.size w wB := ba (by go_grown) h1; obtain ⟨hcwB, hfwB⟩ := bcell h1; have hqwB := h1.size; (try simp at hqwB); (try have hz0wB : w.heap.size < wB.heap.size := (by omega)); (try have he0wB : w.heap.size ≤ wB.heap.size := (by omega)))
  go_wp2_with fail
  (go_at_call 122; (with_reducible refine (lsB (tu0 ((h + 1) % 8) 1 0 0 0) (tu1 ((h + 1) % 8) 1 0 0 0) (tu2 ((h + 1) % 8) 1 0 0 0) (tu3 ((h + 1) % 8) 1 0 0 0) (tu0 ((h + 2) % 8) 1 0 0 0) (tu1 ((h + 2) % 8) 1 0 0 0) (tu2 ((h + 2) % 8) 1 0 0 0) (tu3 ((h + 2) % 8) 1 0 0 0) a0 a0' a1 a1' a2 a2' a3 a3' b0 b0' b1 b1' b2 b2' b3 b3' _).mono ?_); rintro e wC ⟨rfl, h1⟩; (try with_reducible replace h1 := undrew h1); have hB : Below w.heap.size w wC := ba (by go_grown) h1; obtain ⟨hcwC, hfwC⟩ := bcell h1; have hqwC := h1.size; (try simp at hqwC); (try have hz0wC : w.heap.size < wC.heap.size := (by omega)); (try have he0wC : w.heap.size ≤ wC.heap.size := (by omega)))
  go_wp2_with fail
  refine bodyPost_ret (by simp [results, Try.results110, go_sem, *]; try rfl) rfl ?_
  exact ⟨rfl, by go_grown⟩

set_option maxRecDepth 100000 in
set_option maxHeartbeats 1600000 in
theorem ptStep_S (h : Int) (h0 : 0 ≤ h) (h7 : h ≤ 7) (w : World) :
    Calls Try.prog 110 #[.int .u8 83, .int .i64 h] w fun e w' => e = .returned (.tuple #[.agg #[.int .i64 ((tu0 h 1 0 0 0)), .int .i64 ((tu1 h 1 0 0 0)), .int .i64 ((tu2 h 1 0 0 0)), .int .i64 ((tu3 h 1 0 0 0))], .int .i64 h]) ∧ Below w.heap.size w w' := by
  have hm : h % 8 = h := by omega
  have HM := Lib.hid hm
  clear hm
  go_enter Try.func110, Try.ntmps110
  go_wp2_with fail
  (go_at_call 123; (with_reducible refine (ptHeading_any h (by omega) (by omega) _).mono ?_); rintro e wA ⟨rfl, h1⟩; (try with_reducible replace h1 := undrew h1); have hB : Below w.heap.size w wA := ba (by go_grown) h1; obtain ⟨hcwA, hfwA⟩ := bcell h1; have hqwA := h1.size; (try simp at hqwA); (try have hz0wA : w.heap.size < wA.heap.size := (by omega)); (try have he0wA : w.heap.size ≤ wA.heap.size := (by omega)))
  go_wp2_with fail
  refine bodyPost_ret (by simp [results, Try.results110, go_sem, *]; try rfl) rfl ?_
  exact ⟨by rw [HM.out], by go_grown⟩

end Go.Proofs.Ytkmgcmgnaeamaaa

/- Contract: the model's tkLay. -/
namespace Go.Proofs.Ytkmgcmgnaeamaaa
open Go.ChangeShapes Go.WideShapes Go.ChangeAt Go.RowKit

set_option linter.unusedVariables false
set_option linter.unusedSimpArgs false

theorem ptInfo : (Try.prog.info? 79).map (fun i => (i.zero, i.size, i.bytes)) = some (some (.agg #[.int .i64 0, .int .i64 0, .int .i64 0, .int .i64 0]), 4, 32) := by kernel_rfl

theorem nmInfo : (Try.prog.info? 3).map (fun i => (i.zero, i.size, i.bytes)) = some (some (.int .i64 0), 1, 8) := by kernel_rfl

theorem own_belowL {W w1 : World} {B : Nat} {e : TypeId} {size n : Nat} {v : Value} {xs : List Value} (h : W.ownsRow B e size v n xs) (hb : Below W.heap.size W w1) : w1.ownsRow B e size v n xs :=
  h.kept (row := none) ⟨hb.os, hb.tape, hb.output, hb.size, fun k hk _ => hb.block k hk⟩ (by cases v.ownBlock <;> simp)

theorem own_setL {W : World} {B : Nat} {e : TypeId} {size n : Nat} {v : Value} {xs : List Value} (h : W.ownsRow B e size v n xs) (p : Addr) (u : Value) (hp : p.block < B) : (W.setCell p u).ownsRow B e size v n xs :=
  h.kept (row := some p.block) ⟨rfl, rfl, rfl, by simp [World.setCell], fun k _ hk => Below.heap_setCell _ _ _ _ (fun e => hk (by simp [e]))⟩ (by
    by_cases hv : v.ownBlock = some p.block
    · have := (h.lt _ hv).1; omega
    · exact .inr hv)

theorem own_ne {W : World} {B : Nat} {e e' : TypeId} {size size' n n' : Nat} {v v' : Value} {xs xs' : List Value} (h : W.ownsRow B e size v n xs) (h' : W.ownsRow B e' size' v' n' xs') (hne : e ≠ e') : v.ownBlock = none ∨ v.ownBlock ≠ v'.ownBlock := by
  rcases h.2 with ⟨rfl, _⟩ | ⟨g, cap, cur, rfl, _, hg, _⟩
  · exact .inl rfl
  · refine .inr fun he => ?_
    rcases h'.2 with ⟨rfl, _⟩ | ⟨g', cap', cur', rfl, _, hg', _⟩
    · cases he
    · simp only [Value.ownBlock, Option.some.injEq] at he
      subst he
      rw [hg] at hg'
      simp only [Option.some.injEq, Obj.cells.injEq] at hg'
      exact hne hg'.2.1

theorem blk_set {W : World} {g : Nat} {t : TypeId} {a0 a1 a2 a3 : Value} (h : W.heap[g]? = some (.cells #[a0, a1, a2, a3] t (0, 0))) (b0 b1 b2 b3 : Value) :
    ((((W.setCell ⟨g, 0, none⟩ b0).setCell ⟨g, 1, none⟩ b1).setCell ⟨g, 2, none⟩ b2).setCell ⟨g, 3, none⟩ b3).heap[g]? = some (.cells #[b0, b1, b2, b3] t (0, 0)) := by
  simp [World.setCell, Array.getElem?_modify, h]

theorem blk_cells {W : World} {g : Nat} {t : TypeId} {a0 a1 a2 a3 : Value} (h : W.heap[g]? = some (.cells #[a0, a1, a2, a3] t (0, 0))) :
    W.cell? ⟨g, 0, none⟩ = some a0 ∧ W.cell? ⟨g, 1, none⟩ = some a1 ∧ W.cell? ⟨g, 2, none⟩ = some a2 ∧ W.cell? ⟨g, 3, none⟩ = some a3 := by
  simp [World.cell?, h]

theorem blk_free {W : World} {g : Nat} {t : TypeId} {a0 a1 a2 a3 : Value} (h : W.heap[g]? = some (.cells #[a0, a1, a2, a3] t (0, 0))) :
    W.frozen? ⟨g, 0, none⟩ = false ∧ W.frozen? ⟨g, 1, none⟩ = false ∧ W.frozen? ⟨g, 2, none⟩ = false ∧ W.frozen? ⟨g, 3, none⟩ = false := by
  simp [World.frozen?, h]

theorem blk_lt {W : World} {g : Nat} {o : Obj} (h : W.heap[g]? = some o) : g < W.heap.size := (Array.getElem?_eq_some_iff.1 h).1

theorem spAddP (x0 x1 x2 x3 y0 y1 y2 y3 : Int) (px0 : -9000000 ≤ x0) (qx0 : x0 ≤ 9000000) (px1 : -9000000 ≤ x1) (qx1 : x1 ≤ 9000000) (px2 : -9000000 ≤ x2) (qx2 : x2 ≤ 9000000) (px3 : -9000000 ≤ x3) (qx3 : x3 ≤ 9000000) (py0 : -9000000 ≤ y0) (qy0 : y0 ≤ 9000000) (py1 : -9000000 ≤ y1) (qy1 : y1 ≤ 9000000) (py2 : -9000000 ≤ y2) (qy2 : y2 ≤ 9000000) (py3 : -9000000 ≤ y3) (qy3 : y3 ≤ 9000000) (w : World) :
    Calls Try.prog 111 #[.agg #[.int .i64 x0, .int .i64 x1, .int .i64 x2, .int .i64 x3], .agg #[.int .i64 y0, .int .i64 y1, .int .i64 y2, .int .i64 y3]] w fun e w' => e = .returned (.agg #[.int .i64 (x0 + y0), .int .i64 (x1 + y1), .int .i64 (x2 + y2), .int .i64 (x3 + y3)]) ∧ Below w.heap.size w w' :=
  (spAdd_any x0 x1 x2 x3 y0 y1 y2 y3 w).mono fun e w' ⟨h, hb⟩ => ⟨by rw [h, w64s (x0 + y0) (by omega) (by omega), w64s (x1 + y1) (by omega) (by omega), w64s (x2 + y2) (by omega) (by omega), w64s (x3 + y3) (by omega) (by omega)], hb⟩

def hdCells (l : List Sp) : List Value := l.map fun s => .int .i64 s.h

theorem hdCells_append (l m : List Sp) : hdCells (l ++ m) = hdCells l ++ hdCells m := by simp [hdCells]

theorem hdCells_length (l : List Sp) : (hdCells l).length = l.length := by simp [hdCells]

theorem layT (a : Sp) (s : ByteArray) (k : Nat) (hk : k < s.size) (c : UInt8) (hc : s[k] = c) : lays a (s.data.toList.take (k + 1)) = lays a (s.data.toList.take k) ++ [(fin a (s.data.toList.take k)).next c] := by
  rw [take_snoc s k hk, lays_snoc, hc]

theorem finT (a : Sp) (s : ByteArray) (k : Nat) (hk : k < s.size) (c : UInt8) (hc : s[k] = c) : fin a (s.data.toList.take (k + 1)) = (fin a (s.data.toList.take k)).next c := by
  rw [take_snoc s k hk, fin_snoc, hc]

def LayPost (a : Sp) (s : ByteArray) (w : World) (e : Ending) (w' : World) : Prop :=
  ∃ gj cj gh ch, e = .returned (.tuple #[.slice (some ⟨gj, 0, none⟩) (s.size + 1) cj, .slice (some ⟨gh, 0, none⟩) (s.size + 1) ch]) ∧
    w'.ownsRow (w.heap.size + 1) 79 4 (.slice (some ⟨gj, 0, none⟩) (s.size + 1) cj) (s.size + 1) (ptCells (lays a s.data.toList)) ∧
    w'.ownsRow (w.heap.size + 1) 3 1 (.slice (some ⟨gh, 0, none⟩) (s.size + 1) ch) (s.size + 1) (hdCells (lays a s.data.toList)) ∧ Below w.heap.size w w'

def LayRel (a : Sp) (s : ByteArray) (w : World) (h vj vh i : Value) (wr : World) : Prop :=
  ∃ (k gj cj gh ch : Nat), k ≤ s.size ∧ i = .int .i64 k ∧ h = .int .i64 (fin a (s.data.toList.take k)).h ∧ vj = .slice (some ⟨gj, 0, none⟩) (k + 1) cj ∧ vh = .slice (some ⟨gh, 0, none⟩) (k + 1) ch ∧
    wr.ownsRow (w.heap.size + 1) 79 4 (.slice (some ⟨gj, 0, none⟩) (k + 1) cj) (k + 1) (ptCells (lays a (s.data.toList.take k))) ∧
    wr.ownsRow (w.heap.size + 1) 3 1 (.slice (some ⟨gh, 0, none⟩) (k + 1) ch) (k + 1) (hdCells (lays a (s.data.toList.take k))) ∧
    wr.heap[w.heap.size]? = some (.cells #[.int .i64 (fin a (s.data.toList.take k)).x0, .int .i64 (fin a (s.data.toList.take k)).x1, .int .i64 (fin a (s.data.toList.take k)).x2, .int .i64 (fin a (s.data.toList.take k)).x3] 79 (0, 0)) ∧ Below w.heap.size w wr

theorem ptStep_any (c : UInt8) (hp : pcb c = true) (h : Int) (h0 : 0 ≤ h) (h7 : h ≤ 7) (w : World) :
    Calls Try.prog 110 #[.int .u8 ((c.toNat : Nat) : Int), .int .i64 h] w fun e w' => e = .returned (.tuple #[.agg #[.int .i64 (dd0 c h), .int .i64 (dd1 c h), .int .i64 (dd2 c h), .int .i64 (dd3 c h)], .int .i64 (nh c h)]) ∧ Below w.heap.size w w' := by
  rcases pcb_cases hp with rfl | rfl | rfl
  · exact ptStep_S h h0 h7 w
  · exact ptStep_L h h0 h7 w
  · exact ptStep_R h h0 h7 w

theorem litCells {W : World} {B n : Nat} {e : TypeId} {size : Nat} {cs : Array Value} {xs : List Value} (hn : W.heap.size = n) (hb : B ≤ n) (hs : cs.size = size) (hx : cs.toList = xs) : (W.alloc (.cells cs e)).ownsRow B e size (.slice (some ⟨n, 0, none⟩) 1 1) 1 xs := by
  subst hn hx
  exact World.ownsRow_lit W cs 1 hb (by decide) (by omega)

theorem newc {W : World} {cs : Array Value} {e : TypeId} {n : Nat} (hn : W.heap.size = n) : ∀ (j : Nat) u, cs.toList[j]? = some u → (W.alloc (.cells cs e)).cell? ((⟨n, 0, none⟩ : Addr).add j) = some u := by
  subst hn
  intro j u hu
  have h := Lib.cell_of_heap (heap_alloc_new W (.cells cs e)) j
  have ha : ((⟨W.heap.size, 0, none⟩ : Addr).add j) = ⟨W.heap.size, j, none⟩ := by by_cases e : j = 0 <;> simp [Addr.add, e]
  rw [ha, h, ← hu]
  simp

set_option maxRecDepth 100000 in
set_option maxHeartbeats 3200000 in
theorem tkLay_any (s : ByteArray) (ht : tkB s = true) (a : Sp) (hn : a.okB 1000000) (w : World) :
    Calls Try.prog 98 #[.string s, .agg #[.int .i64 a.x0, .int .i64 a.x1, .int .i64 a.x2, .int .i64 a.x3], .int .i64 a.h] w (LayPost a s w) := by
  have h40 := tkB_size ht
  have hs : s.size ≤ 1048576 := by omega
  have HT := Lib.hid (fun k hk => tkB_at ht (k := k) hk)
  have HK := Lib.hid hn
  obtain ⟨i0, hi, iz0, iz1, iz2⟩ := info_parts ptInfo
  obtain ⟨j0, ji, jz0, jz1, jz2⟩ := info_parts nmInfo
  clear hn
  go_enter Try.func98, Try.ntmps98
  go_wp2_with fail
  go_loopw [2, 8, 9, 10] (fun h vj vh i wr => LayRel a s w h vj vh i wr) (fun _ _ _ i _ => s.size - (intOf i).toNat)
  case atStart =>
    refine ⟨0, w.heap.size + 1, 1, w.heap.size + 1 + 1, 1, Nat.zero_le _, rfl, rfl, rfl, rfl, ?_, ?_, ?_, by go_grown⟩
    · exact (litCells (by simp) (Nat.le_refl _) rfl rfl).alloc _
    · exact litCells (by simp) (Nat.le_succ _) rfl rfl
    · rw [Below.heap_alloc _ _ _ (by simp; omega), Below.heap_alloc _ _ _ (by simp)]
      exact heap_alloc_new w _
  case round =>
    obtain ⟨k, gj, cj, gh, ch, hk, rfl, rfl, rfl, rfl, hJ, hH, hblk, hb⟩ := hrel
    have hz : w.heap.size ≤ wr.heap.size := hb.size
    by_cases hlt : k < s.size
    · have hp := HT.out k hlt
      have hok := fin_ok HK.out (s.data.toList.take k)
      have hl : (s.data.toList.take k).length ≤ 40 := by rw [List.length_take, size_list]; omega
      have hN := layT a s k hlt _ rfl
      have hF := finT a s k hlt _ rfl
      generalize fin a (s.data.toList.take k) = p at hN hF hok hblk
      obtain ⟨x0, x1, x2, x3, h⟩ := p
      simp only [Sp.okB] at hok
      obtain ⟨⟨b0, b0'⟩, ⟨b1, b1'⟩, ⟨b2, b2'⟩, ⟨b3, b3'⟩, b4, b5⟩ := hok
      have hstep := ptStep_any s[k] hp h b4 b5 wr
      have e0 := dd_bd0 s[k] h
      have e1 := dd_bd1 s[k] h
      have e2 := dd_bd2 s[k] h
      have e3 := dd_bd3 s[k] h
      have hnx : (Sp.mk x0 x1 x2 x3 h).next s[k] = ⟨x0 + dd0 s[k] h, x1 + dd1 s[k] h, x2 + dd2 s[k] h, x3 + dd3 s[k] h, nh s[k] h⟩ := rfl
      rw [hnx] at hN hF
      clear hnx
      generalize dd0 s[k] h = d0 at hN hF hstep e0
      generalize dd1 s[k] h = d1 at hN hF hstep e1
      generalize dd2 s[k] h = d2 at hN hF hstep e2
      generalize dd3 s[k] h = d3 at hN hF hstep e3
      generalize nh s[k] h = t at hN hF hstep
      obtain ⟨e0, e0'⟩ := e0
      obtain ⟨e1, e1'⟩ := e1
      obtain ⟨e2, e2'⟩ := e2
      obtain ⟨e3, e3'⟩ := e3
      have HST := Lib.hid hstep
      have HN := Lib.hid hN
      have HF := Lib.hid hF
      have hzl := blk_lt hblk
      have HJ := Lib.hid hJ
      have HH := Lib.hid hH
      have HB := Lib.hid hb
      have HBK := Lib.hid hblk
      clear hJ hH hb hblk hN hF hstep hp
      go_wp2_with fail
      refine HST.out.mono ?_
      rintro e w1 ⟨rfl, hb1⟩
      have hz1 : wr.heap.size ≤ w1.heap.size := hb1.size
      have hzl1 : w.heap.size < w1.heap.size := by omega
      have HJ1 := Lib.hid (own_belowL HJ.out hb1)
      have HH1 := Lib.hid (own_belowL HH.out hb1)
      have hbk1 := (hb1.block _ hzl).trans HBK.out
      have HB1 := Lib.hid (HB.out.trans (hb1.mono hz))
      obtain ⟨c0, c1, c2, c3⟩ := blk_cells hbk1
      have HBK1 := Lib.hid hbk1
      clear hbk1 hb1
      go_wp2_with fail
      refine (spAddP x0 x1 x2 x3 d0 d1 d2 d3 (by omega) (by omega) (by omega) (by omega) (by omega) (by omega) (by omega) (by omega) (by omega) (by omega) (by omega) (by omega) (by omega) (by omega) (by omega) (by omega) _).mono ?_
      rintro e w2 ⟨rfl, hb2⟩
      have hz2' : w1.heap.size + 1 ≤ w2.heap.size := by have := hb2.size; simpa using this
      have hzl2 : w.heap.size < w2.heap.size := by omega
      have HJ2 := Lib.hid (own_belowL (HJ1.out.alloc _) hb2)
      have HH2 := Lib.hid (own_belowL (HH1.out.alloc _) hb2)
      have hbk2 := (hb2.block w.heap.size (by simp; omega)).trans ((Below.heap_alloc _ _ _ hzl1).trans HBK1.out)
      have HB2 := Lib.hid ((HB1.out.alloc (by omega) _).trans (hb2.mono (by simp; omega)))
      clear c0 c1 c2 c3 hb2
      obtain ⟨c0, c1, c2, c3⟩ := blk_cells hbk2
      obtain ⟨f0, f1, f2, f3⟩ := blk_free hbk2
      have HBK2 := Lib.hid (blk_set hbk2 (.int .i64 (x0 + d0)) (.int .i64 (x1 + d1)) (.int .i64 (x2 + d2)) (.int .i64 (x3 + d3)))
      clear hbk2
      have HJ3 := Lib.hid (own_setL (own_setL (own_setL (own_setL HJ2.out ⟨w.heap.size, 0, none⟩ (.int .i64 (x0 + d0)) (by simp)) ⟨w.heap.size, 1, none⟩ (.int .i64 (x1 + d1)) (by simp)) ⟨w.heap.size, 2, none⟩ (.int .i64 (x2 + d2)) (by simp)) ⟨w.heap.size, 3, none⟩ (.int .i64 (x3 + d3)) (by simp))
      have HH3 := Lib.hid (own_setL (own_setL (own_setL (own_setL HH2.out ⟨w.heap.size, 0, none⟩ (.int .i64 (x0 + d0)) (by simp)) ⟨w.heap.size, 1, none⟩ (.int .i64 (x1 + d1)) (by simp)) ⟨w.heap.size, 2, none⟩ (.int .i64 (x2 + d2)) (by simp)) ⟨w.heap.size, 3, none⟩ (.int .i64 (x3 + d3)) (by simp))
      have HB3 := Lib.hid ((((HB2.out.setCell (p := ⟨w.heap.size, 0, none⟩) (Nat.le_refl _) (.int .i64 (x0 + d0))).setCell (p := ⟨w.heap.size, 1, none⟩) (Nat.le_refl _) (.int .i64 (x1 + d1))).setCell (p := ⟨w.heap.size, 2, none⟩) (Nat.le_refl _) (.int .i64 (x2 + d2))).setCell (p := ⟨w.heap.size, 3, none⟩) (Nat.le_refl _) (.int .i64 (x3 + d3)))
      go_wp2_with (at_builtin; refine wpList_append_own _ rfl _ _ 85 rfl (w.heap.size + 1) 79 i0 (.agg #[.int .i64 0, .int .i64 0, .int .i64 0, .int .i64 0]) 4 32 Try.underlying85 hi iz0 iz1 iz2 rfl (by decide) _ _ _ rfl (HJ3.out.alloc _) ⟨w2.heap.size, 0, none⟩ 1 1 [.int .i64 (x0 + d0), .int .i64 (x1 + d1), .int .i64 (x2 + d2), .int .i64 (x3 + d3)] rfl rfl ?c1 ?c2 ?c3 ?c4 ?c5 ?_)
      case c1 => exact newc (by simp [World.setCell])
      case c2 => intro u hu; simp at hu; rcases hu with rfl | rfl | rfl | rfl <;> rfl
      case c3 => unfold maxLen; omega
      case c4 => omega
      case c5 => simp; omega
      intro v' w3 hJ3 hg3 _
      have HJA := Lib.hid (HJ3.out.alloc (.cells #[.int .i64 (x0 + d0), .int .i64 (x1 + d1), .int .i64 (x2 + d2), .int .i64 (x3 + d3)] 79))
      have HHA := Lib.hid (HH3.out.alloc (.cells #[.int .i64 (x0 + d0), .int .i64 (x1 + d1), .int .i64 (x2 + d2), .int .i64 (x3 + d3)] 79))
      have hne : some w.heap.size ≠ (Value.slice (some ⟨gj, 0, none⟩) (k + 1) cj).ownBlock := fun e => by
        have := (HJA.out.lt _ e.symm).1
        omega
      have hz3 : w2.heap.size + 1 ≤ w3.heap.size := by have := hg3.size; simpa [World.setCell] using this
      have HH4 := Lib.hid (HHA.out.kept hg3 (own_ne HHA.out HJA.out (by decide)))
      have hbk3 := (hg3.block w.heap.size (by simp [World.setCell]; omega) hne).trans ((Below.heap_alloc _ _ _ (by simp [World.setCell]; omega)).trans HBK2.out)
      have HBK3 := Lib.hid hbk3
      have HB4 := Lib.hid ((HB3.out.alloc (by simp [World.setCell]; omega) (.cells #[.int .i64 (x0 + d0), .int .i64 (x1 + d1), .int .i64 (x2 + d2), .int .i64 (x3 + d3)] 79)).grown hg3 (by simp [World.setCell]; omega) (fun k hk => by have := (HJA.out.lt k hk).1; omega))
      obtain ⟨gj', cj', rfl, _⟩ := hJ3.form (by omega)
      have HJ4 := Lib.hid hJ3
      clear hJ3 hg3 hne hbk3 c0 c1 c2 c3 f0 f1 f2 f3
      go_wp2_with (at_builtin; refine wpList_append_own _ rfl _ _ 86 rfl (w.heap.size + 1) 3 j0 (.int .i64 0) 1 8 Try.underlying86 ji jz0 jz1 jz2 rfl (by decide) _ _ _ rfl (HH4.out.alloc _) ⟨w3.heap.size, 0, none⟩ 1 1 [.int .i64 t] rfl rfl ?c1 ?c2 ?c3 ?c4 ?c5 ?_)
      case c1 => exact newc rfl
      case c2 => intro u hu; simp at hu; subst hu; rfl
      case c3 => unfold maxLen; omega
      case c4 => omega
      case c5 => simp; omega
      intro v'' w4 hH5 hg4 _
      have HJB := Lib.hid (HJ4.out.alloc (.cells #[.int .i64 t] 3))
      have HHB := Lib.hid (HH4.out.alloc (.cells #[.int .i64 t] 3))
      have hne : some w.heap.size ≠ (Value.slice (some ⟨gh, 0, none⟩) (k + 1) ch).ownBlock := fun e => by
        have := (HHB.out.lt _ e.symm).1
        omega
      have HJ6 := Lib.hid (HJB.out.kept hg4 (own_ne HJB.out HHB.out (by decide)))
      have HBK4 := Lib.hid ((hg4.block w.heap.size (by simp; omega) hne).trans ((Below.heap_alloc _ _ _ (by omega)).trans HBK3.out))
      have HB5 := Lib.hid ((HB4.out.alloc (by omega) (.cells #[.int .i64 t] 3)).grown hg4 (by simp; omega) (fun k hk => by have := (HHB.out.lt k hk).1; omega))
      obtain ⟨gh', ch', rfl, _⟩ := hH5.form (by omega)
      have HH6 := Lib.hid hH5
      clear hH5 hg4 hne
      go_wp2_with fail
      go_roundw
      case rel => exact ⟨k + 1, gj', cj', gh', ch', by omega, by go_num, by rw [HF.out], rfl, rfl, by rw [HN.out, ptCells_append]; exact HJ6.out, by rw [HN.out, hdCells_append]; exact HH6.out, by rw [HF.out]; exact HBK4.out, HB5.out⟩
      case measure => simp [intOf]; omega
    · obtain rfl : k = s.size := by omega
      have hE := take_all s hlt
      rw [hE] at hJ hH
      have HJ := Lib.hid hJ
      have HH := Lib.hid hH
      have HB := Lib.hid hb
      clear hJ hH hb hE hblk
      go_wp2_with fail
      go_ret2
      exact ⟨gj, cj, gh, ch, rfl, HJ.out, HH.out, HB.out⟩

end Go.Proofs.Ytkmgcmgnaeamaaa
