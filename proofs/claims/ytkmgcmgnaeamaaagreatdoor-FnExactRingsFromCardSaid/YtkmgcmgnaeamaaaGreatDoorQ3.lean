/- Contracts and facts, put together (part 3). Conditions: each says its own. -/
import Derived.Test.YtkmgcmgnaeamaaaGreatDoorQ2
import Derived.Laws.AppendOwn
import Derived.Laws.OwnMore
import Derived.Deep.AppendLies
import Derived.Deep.DrawnRows
import Derived.Maps.OwnOps
import Derived.LoopTactic
import Derived.Outline
import Derived.Deep.QuietTactic
import Derived.BigQuiet
import Derived.Sort.Walk0
import Derived.Lib.Bytealg
import Derived.Test.YtkmgcmgnaeamaaaGreatDoorShelf
import Derived.Lib.MinMax

/- Contract: the program's stepsOf. -/
namespace Go.Proofs.YtkmgcmgnaeamaaaGreatDoor
open Go.ChangeShapes Go.WideShapes Go.ChangeAt Go.RowKit

theorem stInfo : (Tryz.prog.info? 72).map (fun i => (i.zero, i.size, i.bytes)) = some (some (.agg #[.int .i64 0, .int .i64 0, .int .i64 0, .int .i64 0, .int .i64 0]), 5, 40) := by kernel_rfl

theorem own_below {W w1 : World} {B : Nat} {e : TypeId} {size n : Nat} {v : Value} {xs : List Value} (h : W.ownsRow B e size v n xs) (hb : Below W.heap.size W w1) : w1.ownsRow B e size v n xs :=
  h.kept (row := none) ⟨hb.os, hb.tape, hb.output, hb.size, fun k hk _ => hb.block k hk⟩ (by cases v.ownBlock <;> simp)

theorem own_sp {W : World} {B n g cap i : Nat} {e : TypeId} {l : List Sp} {s : Sp} (h : W.ownsRow B e 5 (.slice (some ⟨g, 0, none⟩) n cap) n (spCells l)) (hn : l.length = n) (hs : l[i]? = some s) :
    W.cell? ⟨g, i * 5, none⟩ = some (.int .i64 s.x0) ∧ W.cell? ⟨g, i * 5 + 1, none⟩ = some (.int .i64 s.x1) ∧ W.cell? ⟨g, i * 5 + 2, none⟩ = some (.int .i64 s.x2) ∧ W.cell? ⟨g, i * 5 + 3, none⟩ = some (.int .i64 s.x3) ∧ W.cell? ⟨g, i * 5 + 4, none⟩ = some (.int .i64 s.h) := by
  have hi : i < n := by rw [← hn]; exact (List.getElem?_eq_some_iff.1 hs).1
  have a := fun j (hj : j < 5) => (h.cellAt (i * 5 + j) (by omega)).trans ((by rw [Nat.mul_comm]) : _ = (spCells l)[5 * i + j]?) |>.trans (spCells_at l hs j hj)
  exact ⟨a 0 (by omega), a 1 (by omega), a 2 (by omega), a 3 (by omega), a 4 (by omega)⟩

def StepsPost (s : ByteArray) (w : World) (e : Ending) (w' : World) : Prop :=
  ∃ g cap, e = .returned (.tuple #[.slice (some ⟨g, 0, none⟩) (s.size + 1) cap, .bool true]) ∧ w'.ownsRow w.heap.size 72 5 (.slice (some ⟨g, 0, none⟩) (s.size + 1) cap) (s.size + 1) (spCells (lays sp0 s.data.toList)) ∧ Below w.heap.size w w'

theorem lays_take (s : ByteArray) (k : Nat) (hk : k < s.size) (c : UInt8) (hc : s[k] = c) : lays sp0 (s.data.toList.take (k + 1)) = lays sp0 (s.data.toList.take k) ++ [(fin sp0 (s.data.toList.take k)).next c] := by
  rw [take_snoc s k hk, lays_snoc, hc]

theorem lays_at (s : ByteArray) (k : Nat) (hk : k ≤ s.size) : (lays sp0 (s.data.toList.take k))[k]? = some (fin sp0 (s.data.toList.take k)) := by
  have h := lays_last sp0 (s.data.toList.take k)
  rwa [List.length_take, size_list, Nat.min_eq_left hk] at h

theorem lays_len (s : ByteArray) (k : Nat) (hk : k ≤ s.size) : (lays sp0 (s.data.toList.take k)).length = k + 1 := by
  rw [lays_length, List.length_take, size_list, Nat.min_eq_left hk]

end Go.Proofs.YtkmgcmgnaeamaaaGreatDoor

/- Contract: the program's 'partsFrom'. -/
namespace Go.Proofs.YtkmgcmgnaeamaaaGreatDoor
open Go.ChangeShapes Go.WideShapes Go.ChangeAt Go.RowKit

set_option linter.unusedVariables false

theorem ptInfoP : (Tryz.prog.info? 93).map (fun i => (i.zero, i.size, i.bytes)) = some (some (.agg #[.int .i64 0, .int .i64 0, .int .i64 0, .int .i64 0, .int .i64 0, .string ByteArray.empty]), 6, 56) := by kernel_rfl

/-- How a piece is laid. -/
theorem laying_any {c : UInt8} (hc : pcb c = true) : ∃ g : FuncId, (g = 94 ∨ g = 95 ∨ g = 96) ∧ (∀ (x : ByteArray) (w : World), x = ⟨#[c]⟩ → Calls Tryz.prog 75 #[.string x] w fun e w' => e = .returned (.func (Fn.func g) #[] #[]) ∧ w = w') ∧
    ∀ (s : Sp), s.okB 1000000 → ∀ w : World, Calls Tryz.prog g #[.agg #[.int .i64 s.x0, .int .i64 s.x1, .int .i64 s.x2, .int .i64 s.x3, .int .i64 s.h]] w fun e w' =>
      e = .returned (.agg #[.int .i64 (s.next c).x0, .int .i64 (s.next c).x1, .int .i64 (s.next c).x2, .int .i64 (s.next c).x3, .int .i64 (s.next c).h]) ∧ Below w.heap.size w w' := by
  rcases pcb_cases hc with rfl | rfl | rfl
  · refine ⟨_, .inl rfl, fun x w hx => lay_S' x hx w, fun s hs w => ?_⟩
    obtain ⟨⟨b0, b0'⟩, ⟨b1, b1'⟩, ⟨b2, b2'⟩, ⟨b3, b3'⟩, b4, b5⟩ := hs
    exact straightP s.x0 s.x1 s.x2 s.x3 s.h b4 b5 b0 b0' b1 b1' b2 b2' b3 b3' w
  · refine ⟨_, .inr (.inl rfl), fun x w hx => lay_L' x hx w, fun s hs w => ?_⟩
    obtain ⟨⟨b0, b0'⟩, ⟨b1, b1'⟩, ⟨b2, b2'⟩, ⟨b3, b3'⟩, b4, b5⟩ := hs
    exact leftP s.x0 s.x1 s.x2 s.x3 s.h b4 b5 b0 b0' b1 b1' b2 b2' b3 b3' w
  · refine ⟨_, .inr (.inr rfl), fun x w hx => lay_R' x hx w, fun s hs w => ?_⟩
    obtain ⟨⟨b0, b0'⟩, ⟨b1, b1'⟩, ⟨b2, b2'⟩, ⟨b3, b3'⟩, b4, b5⟩ := hs
    exact rightP s.x0 s.x1 s.x2 s.x3 s.h b4 b5 b0 b0' b1 b1' b2 b2' b3 b3' w

def PrtPost (a : Sp) (n : Nat) (w : World) (e : Ending) (w' : World) : Prop :=
  ∃ g cap, e = .returned (.slice (some ⟨g, 0, none⟩) ((3 ^ n : Nat)) cap) ∧ w'.ownsRow w.heap.size 93 6 (.slice (some ⟨g, 0, none⟩) (3 ^ n) cap) (3 ^ n) (prtCells (parts a n)) ∧ Below w.heap.size w w'

theorem ltr_at {k : Nat} (hk : k < 3) : ∃ c, ltr[k]? = some c ∧ pcb c = true ∧ (ByteArray.mk #[76, 82, 83]).extract k (k + 1) = ⟨#[c]⟩ ∧ ltr.take (k + 1) = ltr.take k ++ [c] := by
  match k, hk with
  | 0, _ => exact ⟨76, rfl, rfl, by decide, rfl⟩
  | 1, _ => exact ⟨82, rfl, rfl, by decide, rfl⟩
  | 2, _ => exact ⟨83, rfl, rfl, by decide, rfl⟩

theorem parts_start (a : Sp) : prtCells (parts a 0) = [.int .i64 a.x0, .int .i64 a.x1, .int .i64 a.x2, .int .i64 a.x3, .int .i64 a.h, .string ⟨#[]⟩] := rfl

theorem litCellsP {W : World} {B n : Nat} {e : TypeId} {size : Nat} {cs : Array Value} {xs : List Value} (hn : W.heap.size = n) (hb : B ≤ n) (hs : cs.size = size) (hx : cs.toList = xs) : (W.alloc (.cells cs e)).ownsRow B e size (.slice (some ⟨n, 0, none⟩) 1 1) 1 xs := by
  subst hn hs hx
  exact ⟨by simp, .inr ⟨W.heap.size, 1, cs, rfl, hb, heap_alloc_new _ _, Nat.le_refl _, by decide, by simp, by rw [Nat.one_mul]; exact List.take_of_length_le (by simp)⟩⟩

theorem concat_run {a b t : ByteArray} (ht : a ++ b = t) (h : a.size + b.size ≤ 1000000) (w : World) : (Op.stringOp .add a b).run Tryz.prog w = .ok (.string t) w := by
  rw [← ht]
  exact run_string_add_sum w a b (by omega)

theorem blk6 {W : World} {g : Nat} {t : TypeId} {a0 a1 a2 a3 a4 a5 : Value} (h : W.heap[g]? = some (.cells #[a0, a1, a2, a3, a4, a5] t (0, 0))) :
    W.cell? ⟨g, 0, none⟩ = some a0 ∧ W.cell? ⟨g, 1, none⟩ = some a1 ∧ W.cell? ⟨g, 2, none⟩ = some a2 ∧ W.cell? ⟨g, 3, none⟩ = some a3 ∧ W.cell? ⟨g, 4, none⟩ = some a4 ∧ W.cell? ⟨g, 5, none⟩ = some a5 := by
  simp [World.cell?, h]

theorem blkLt {W : World} {g : Nat} {o : Obj} (h : W.heap[g]? = some o) : g < W.heap.size := (Array.getElem?_eq_some_iff.1 h).1

theorem own_lessP {W : World} {B B' : Nat} {e : TypeId} {size n : Nat} {v : Value} {xs : List Value} (h : W.ownsRow B e size v n xs) (hB : B' ≤ B) : W.ownsRow B' e size v n xs := by
  refine ⟨h.1, ?_⟩
  rcases h.2 with h2 | ⟨g, cap, cur, h1, h2, h3⟩
  · exact .inl h2
  · exact .inr ⟨g, cap, cur, h1, by omega, h3⟩

theorem own_nb {W : World} {B e size n : Nat} {v : Value} {xs : List Value} (h : W.ownsRow B e size v n xs) : v.ownBlock ≠ some W.heap.size := by
  intro hv
  have := (h.lt _ hv).2
  omega

set_option maxRecDepth 100000 in
set_option maxHeartbeats 3200000 in
theorem partsFrom_any (a : Sp) (ha : a.okB 900000) (n : Nat) (hn : n ≤ 10) (w : World) :
    Calls Tryz.prog 54 #[.agg #[.int .i64 a.x0, .int .i64 a.x1, .int .i64 a.x2, .int .i64 a.x3, .int .i64 a.h], .int .i64 n] w (PrtPost a n w) := by
  obtain ⟨i0, hi, iz0, iz1, iz2⟩ := info_parts ptInfoP
  go_enter Tryz.func54, Tryz.ntmps54
  go_wp2_with fail
  go_loopw [5, 15] (fun v i wr => ∃ k : Nat, k ≤ n ∧ i = .int .i64 k ∧ wr.ownsRow w.heap.size 93 6 v (3 ^ k) (prtCells (parts a k)) ∧ Below w.heap.size w wr) (fun _ i _ => n - (intOf i).toNat)
  case atStart => exact ⟨0, Nat.zero_le _, rfl, by rw [parts_start]; exact litCellsP (by simp) (Nat.le_succ _) rfl rfl, by go_grown⟩
  case round =>
    obtain ⟨k, hk, rfl, hO, hb⟩ := hrel
    have hz : w.heap.size ≤ wr.heap.size := hb.size
    have h3 : 0 < 3 ^ k := Nat.pow_pos (by decide)
    obtain ⟨g, cap, rfl, hg0, hcp⟩ := hO.form h3
    by_cases hlt : k < n
    · obtain ⟨M, hM⟩ : ∃ M, 3 ^ k = M := ⟨_, rfl⟩
      have hM1 : M ≤ 59049 := by rw [← hM]; exact Nat.pow_le_pow_right (by decide) (show k ≤ 10 by omega)
      have hMS := Lib.hid (show 3 ^ (k + 1) = 3 * M by rw [Nat.pow_succ, hM, Nat.mul_comm])
      rw [hM] at hO h3
      have hl := parts_len a k
      rw [hM] at hl
      have hok : ∀ p ∈ parts a k, p.1.okB 950000 ∧ p.2.length ≤ 10 := fun p hp => ⟨(parts_ok ha hp).1.mono (by omega), by rw [(parts_ok ha hp).2]; omega⟩
      have hnx := parts_nxt a k
      generalize parts a k = l at hO hl hok hnx
      have hg := (hO.lt g rfl).2
      have HP := Lib.hid (prt_of hO hl)
      have HL := Lib.hid hl
      have HOK := Lib.hid hok
      have HNX := Lib.hid hnx
      have HB := Lib.hid hb
      obtain ⟨wo, rfl⟩ : ∃ wo : World, wo = wr := ⟨_, rfl⟩
      rw [hM]
      clear hO hl hok hnx hb hM
      go_wp2_with fail
      go_loopw [6, 19] (fun t j wr => ∃ (jj : Nat) (v : Value), jj ≤ M ∧ j = .int .i64 jj ∧ v = t ∧ wr.ownsRow wo.heap.size 93 6 v (3 * jj) (prtCells (nxt (l.take jj))) ∧ Below wo.heap.size wo wr) (fun _ j _ => M - (intOf j).toNat)
      case atStart => exact ⟨0, _, Nat.zero_le _, rfl, rfl, World.ownsRow_nil _ _ _ _, Below.refl _ _⟩
      case round =>
        obtain ⟨j, v, hj, rfl, rfl, hN, hb2⟩ := hrel
        have hz2 := hb2.size
        by_cases hlj : j < M
        · obtain ⟨p, hp⟩ : ∃ p, l[j]? = some p := ⟨_, List.getElem?_eq_getElem (by rw [HL.out]; exact hlj)⟩
          obtain ⟨c0, c1, c2, c3, c4, c5⟩ := (HP.out.below hg hb2) j p hp
          obtain ⟨hpo, hpl⟩ := HOK.out p (List.mem_of_getElem? hp)
          have HT := Lib.hid (nxt_take hp)
          obtain ⟨s, u⟩ := p
          simp only at c0 c1 c2 c3 c4 c5 hpo hpl
          have HPO := Lib.hid hpo
          have HN := Lib.hid hN
          have HB2 := Lib.hid hb2
          obtain ⟨wi, rfl⟩ : ∃ wi : World, wi = wr := ⟨_, rfl⟩
          clear hp hpo hN hb2
          go_wp2_with fail
          go_loopw [6, 23] (fun t c wr => ∃ (cc : Nat) (v : Value), cc ≤ 3 ∧ c = .int .i64 cc ∧ v = t ∧ wr.ownsRow wo.heap.size 93 6 v (3 * j + cc) (prtCells (nxt (l.take j) ++ (ltr.take cc).map fun c => (s.next c, u ++ [c]))) ∧ v.ownBlock ≠ some wi.heap.size ∧
            wr.heap[wi.heap.size]? = some (.cells #[.int .i64 s.x0, .int .i64 s.x1, .int .i64 s.x2, .int .i64 s.x3, .int .i64 s.h, .string (ofL u)] 93 (0, 0)) ∧ Below wo.heap.size wo wr) (fun _ c _ => 4 - (intOf c).toNat)
          case atStart => exact ⟨0, v, by omega, rfl, rfl, by simpa using HN.out.alloc _, own_nb HN.out, heap_alloc_new _ _, HB2.out.alloc hz2 _⟩
          case round =>
            obtain ⟨cc, v, hcc, rfl, rfl, hN, hnb, hblk, hb2⟩ := hrel
            have hz3 := hb2.size
            have hzl := blkLt hblk
            by_cases hlc : cc < 3
            · obtain ⟨c, hc, hpc, hx, hta⟩ := ltr_at hlc
              obtain ⟨F, hF, lay1, lay2⟩ := laying_any hpc
              have LAY1 := Lib.hid (fun w => lay1 _ w hx)
              have LAY2 := Lib.hid (lay2 s (HPO.out.mono (by decide)))
              obtain ⟨T, hT⟩ : ∃ T, ofL (u ++ [c]) = T := ⟨_, rfl⟩
              have k1 : ∀ w : World, (Op.stringOp .add (ofL u) ((ByteArray.mk #[76, 82, 83]).extract cc (cc + 1))).run Tryz.prog w = .ok (.string T) w := fun w => concat_run (by rw [hx, ofL_snoc, hT]) (by rw [hx, ofL_size]; show _ + 1 ≤ _; omega) w
              have hS0 := blk6 hblk
              have HTA := Lib.hid hta
              have HTT := Lib.hid hT
              have HN := Lib.hid hN
              have HNB := Lib.hid hnb
              have HK := Lib.hid hblk
              have HB3 := Lib.hid hb2
              obtain ⟨q, hq⟩ : ∃ q, s.next c = q := ⟨_, rfl⟩
              have HV := Lib.hid (show prtCells (nxt (l.take j) ++ (ltr.take (cc + 1)).map fun c => (s.next c, u ++ [c])) = prtCells (nxt (l.take j) ++ (ltr.take cc).map fun c => (s.next c, u ++ [c])) ++ [.int .i64 q.x0, .int .i64 q.x1, .int .i64 q.x2, .int .i64 q.x3, .int .i64 q.h, .string T] by
                rw [hta, List.map_append, ← List.append_assoc, prtCells_append (_ ++ _), ← hq, ← hT]
                rfl)
              rw [hq] at LAY2
              have HQ := Lib.hid hq
              clear lay1 lay2 hx hta hT hN hnb hblk hb2 hq hc
              rcases hF with rfl | rfl | rfl
              all_goals
                go_wp2_with fail
                go_region_held3 (fun w' => w'.cell? ⟨wi.heap.size, 0, none⟩ = some (.int .i64 s.x0) ∧ w'.cell? ⟨wi.heap.size, 1, none⟩ = some (.int .i64 s.x1) ∧ w'.cell? ⟨wi.heap.size, 2, none⟩ = some (.int .i64 s.x2) ∧ w'.cell? ⟨wi.heap.size, 3, none⟩ = some (.int .i64 s.x3) ∧ w'.cell? ⟨wi.heap.size, 4, none⟩ = some (.int .i64 s.h) ∧ w'.cell? ⟨wi.heap.size, 5, none⟩ = some (.string (ofL u)))
                  (first | (first | (with_reducible assumption) | (with_reducible exact pr_drew hS0) | (with_reducible exact pr_drew (pr_alloc hS0 _)) | (with_reducible exact pr_alloc (pr_drew hS0) _) | (with_reducible refine pr_drew ?_; with_reducible assumption) | (with_reducible refine pr_alloc ?_ _; with_reducible assumption) | (with_reducible refine pr_re (by with_reducible assumption) ?_ _; (focus first | (with_reducible assumption) | omega | (simp; done) | (simp; omega))) | (with_reducible refine pr_below ?_ ?_ h1; (focus first | (with_reducible assumption) | (with_reducible refine pr_undrew ?_; with_reducible assumption)); (focus first | (with_reducible assumption) | omega | (simp; done) | (simp; omega))) | ((repeat (with_reducible refine pr_set ?_ _ _ ?_; rotate_left 1; (focus first | (with_reducible assumption) | omega | (simp; done) | (simp; omega)))); with_reducible assumption)) | (with_reducible refine pr_far ?_ ?_ hgrow; (first | (with_reducible assumption) | (with_reducible exact pr_drew (pr_alloc (by with_reducible assumption) _)) | (with_reducible exact pr_alloc (by with_reducible assumption) _)); exact Ne.symm HNB.out))
                  (first | (go_at_call 75; refine (LAY1.out _).mono ?_; rintro e w' ⟨rfl, rfl⟩) | ((with_reducible refine (LAY2.out _).mono ?_); rintro e wA ⟨rfl, h1⟩; (try with_reducible replace h1 := undrew h1); have HOA := Lib.hid (own_below HN.out h1); have hqA := h1.size; (try simp at hqA); have hzA : wi.heap.size < wA.heap.size := (by omega)) | ((refine step_append_lies _ (by rfl) _ _ _ (by rfl) wo.heap.size 93 i0 (.agg #[.int .i64 0, .int .i64 0, .int .i64 0, .int .i64 0, .int .i64 0, .string ByteArray.empty]) 6 56 Tryz.underlying90 hi iz0 iz1 iz2 (by rfl) (by decide) v (3 * j + cc) _ (by rfl) (HOA.out.alloc _) ⟨wA.heap.size, 0, none⟩ 1 1 [.int .i64 q.x0, .int .i64 q.x1, .int .i64 q.x2, .int .i64 q.x3, .int .i64 q.h, .string T] (by rfl) (by rfl) (World.news_of_block (heap_alloc_new _ _)) (by intro u hu; simp at hu; rcases hu with rfl | rfl | rfl | rfl | rfl | rfl <;> rfl) (by decide) (by unfold maxLen; omega) (by omega) (by simp; omega) (wA.heap.size + 1) (by simp) ?_); intro g2 cap2 w3 hown3 hgrow hat hlt3))
                have hBA := HB3.out.trans (h1.mono hz3)
                have hlt' := (HOA.out.alloc (.cells #[.int .i64 q.x0, .int .i64 q.x1, .int .i64 q.x2, .int .i64 q.x3, .int .i64 q.h, .string T] 93)).lt
                have HB4 := Lib.hid ((hBA.alloc (by omega) (.cells #[.int .i64 q.x0, .int .i64 q.x1, .int .i64 q.x2, .int .i64 q.x3, .int .i64 q.h, .string T] 93)).grown hgrow (by simp; omega) (fun k hk => (hlt' k hk).1))
                have hbA := (h1.block wi.heap.size hzl).trans HK.out
                have hbB := (Below.heap_alloc wA (.cells #[.int .i64 q.x0, .int .i64 q.x1, .int .i64 q.x2, .int .i64 q.x3, .int .i64 q.h, .string T] 93) wi.heap.size hzA).trans hbA
                have HK4 := Lib.hid ((hgrow.block wi.heap.size (by simp; omega) (Ne.symm HNB.out)).trans hbB)
                have hne4 : (Value.slice (some ⟨g2, 0, none⟩) (3 * j + cc + 1) cap2).ownBlock ≠ some wi.heap.size := by
                  rcases hat with h | h
                  · intro h'; exact HNB.out (h.trans h')
                  · intro h'; simp only [Value.ownBlock, Option.some.injEq] at h'; omega
                have HN4 := Lib.hid hown3
                have HE4 := Lib.hid hne4
                clear hBA hlt' hbA hbB hne4 hown3 hgrow hat h1 hS0
                go_wp2_with fail
                go_roundw
                case rel => exact ⟨cc + 1, _, by omega, by go_num, rfl, by rw [HV.out]; exact HN4.out, HE4.out, HK4.out, HB4.out⟩
                case measure => simp [intOf]; omega
            · obtain rfl : cc = 3 := by omega
              have HN := Lib.hid hN
              have HB3 := Lib.hid hb2
              clear hN hnb hblk hb2
              go_wp2_with fail
              go_roundw
              case rel => exact ⟨j + 1, v, by omega, by go_num, rfl, by rw [HT.out]; exact HN.out, HB3.out⟩
              case measure => simp [intOf]; omega
        · obtain rfl : j = M := by omega
          have hta : l.take j = l := List.take_of_length_le (by rw [HL.out]; exact Nat.le_refl _)
          rw [hta] at hN
          have HN := Lib.hid (own_lessP hN hz)
          have HB2 := Lib.hid (HB.out.trans (hb2.mono hz))
          clear hN hb2 hta
          go_wp2_with fail
          go_roundw
          case rel => exact ⟨k + 1, by omega, by go_num, by rw [hMS.out, HNX.out]; exact HN.out, HB2.out⟩
          case measure => simp [intOf]; omega
    · obtain rfl : k = n := by omega
      have HO := Lib.hid hO
      have HB := Lib.hid hb
      clear hO hb
      go_wp2_with fail
      go_ret
      exact ⟨g, cap, rfl, HO.out, HB.out⟩

end Go.Proofs.YtkmgcmgnaeamaaaGreatDoor

/- Contract: the way back from a step, in the program. -/
namespace Go.Proofs.YtkmgcmgnaeamaaaGreatDoor
open Go.ChangeShapes Go.WideShapes Go.ChangeAt Go.RowKit

set_option linter.unusedVariables false

theorem times_tuB (k : Int) (h0 : 0 ≤ k) (h7 : k ≤ 7) (a0 a1 a2 a3 : Int) (pa0 : -999999 ≤ a0) (qa0 : a0 ≤ 999999) (pa1 : -999999 ≤ a1) (qa1 : a1 ≤ 999999) (pa2 : -999999 ≤ a2) (qa2 : a2 ≤ 999999) (pa3 : -999999 ≤ a3) (qa3 : a3 ≤ 999999) (w : World) :
    Calls Tryz.prog 78 #[.agg #[.int .i64 a0, .int .i64 a1, .int .i64 a2, .int .i64 a3], .agg #[.int .i64 (tu0 k 1 0 0 0), .int .i64 (tu1 k 1 0 0 0), .int .i64 (tu2 k 1 0 0 0), .int .i64 (tu3 k 1 0 0 0)]] w fun e w' => e = .returned (.agg #[.int .i64 (tu0 k a0 a1 a2 a3), .int .i64 (tu1 k a0 a1 a2 a3), .int .i64 (tu2 k a0 a1 a2 a3), .int .i64 (tu3 k a0 a1 a2 a3)]) ∧ Below w.heap.size w w' := by
  obtain ⟨b0, b0'⟩ := tu_bd0 k h0 h7
  obtain ⟨b1, b1'⟩ := tu_bd1 k h0 h7
  obtain ⟨b2, b2'⟩ := tu_bd2 k h0 h7
  obtain ⟨b3, b3'⟩ := tu_bd3 k h0 h7
  refine (imTimes_any a0 a1 a2 a3 (tu0 k 1 0 0 0) (tu1 k 1 0 0 0) (tu2 k 1 0 0 0) (tu3 k 1 0 0 0) pa0 qa0 pa1 qa1 pa2 qa2 pa3 qa3 b0 b0' b1 b1' b2 b2' b3 b3' w).mono ?_
  rintro e w' ⟨rfl, hb⟩
  exact ⟨by rw [tm_tu0 a0 a1 a2 a3 k h0 h7, tm_tu1 a0 a1 a2 a3 k h0 h7, tm_tu2 a0 a1 a2 a3 k h0 h7, tm_tu3 a0 a1 a2 a3 k h0 h7], hb⟩

theorem turn_back (h : Int) (h0 : 0 ≤ h) (h7 : h ≤ 7) (w : World) :
    Calls Tryz.prog 76 #[.int .i64 0, .int .i64 (-h)] w fun e w' => e = .returned (.int .i64 ((8 - h) % 8)) ∧ w = w' := by
  have h2 : (-h + 8).tmod 8 = (8 - h) % 8 := by rw [Int.tmod_eq_emod_of_nonneg (by omega), show -h + 8 = 8 - h by omega]
  have HM := Lib.hid h2
  clear h2
  go_enter Tryz.func76, Tryz.ntmps76
  go_wp2
  go_ret
  exact ⟨by first | rfl | (rw [← HM.out]; rfl) | (simp; done), rfl⟩

set_option maxRecDepth 100000 in
set_option maxHeartbeats 1600000 in
theorem wayBack_any (s : Sp) (hs : s.okB 999999) (w : World) :
    Calls Tryz.prog 55 #[.agg #[.int .i64 s.x0, .int .i64 s.x1, .int .i64 s.x2, .int .i64 s.x3, .int .i64 s.h]] w fun e w' =>
      e = .returned (.agg #[.int .i64 (wayB s).x0, .int .i64 (wayB s).x1, .int .i64 (wayB s).x2, .int .i64 (wayB s).x3, .int .i64 (wayB s).h]) ∧ Below w.heap.size w w' := by
  obtain ⟨x0, x1, x2, x3, h⟩ := s
  obtain ⟨⟨b0, b0'⟩, ⟨b1, b1'⟩, ⟨b2, b2'⟩, ⟨b3, b3'⟩, b4, b5⟩ := hs
  simp only at b0 b0' b1 b1' b2 b2' b3 b3' b4 b5
  have hc0 : 0 ≤ (8 - h) % 8 := by omega
  have hc7 : (8 - h) % 8 ≤ 7 := by omega
  have T := Lib.hid (times_tuB ((8 - h) % 8) hc0 hc7 (-x0) (-x1) (-x2) (-x3) (by omega) (by omega) (by omega) (by omega) (by omega) (by omega) (by omega) (by omega))
  have PW := Lib.hid (power_any ((8 - h) % 8) hc0 hc7)
  have SC := Lib.hid (scN x0 x1 x2 x3 b0 b0' b1 b1' b2 b2' b3 b3')
  have TB := Lib.hid (turn_back h b4 b5)
  simp only [wayB]
  generalize (8 - h) % 8 = k at *
  go_enter Tryz.func55, Tryz.ntmps55
  go_wp2_with (go_at_call 76; refine (TB.out _).mono ?_; rintro e w' ⟨rfl, rfl⟩)
  (go_at_call 77; (with_reducible refine (SC.out _).mono ?_); rintro e wA ⟨rfl, h1⟩; (try with_reducible replace h1 := undrew h1); have hB : Below w.heap.size w wA := ba (by go_grown) h1; obtain ⟨hcwA, hfwA⟩ := bcell h1; have hqwA := h1.size; (try simp at hqwA); (try have hz0wA : w.heap.size < wA.heap.size := (by omega)); (try have he0wA : w.heap.size ≤ wA.heap.size := (by omega)); (try have hz1wA : w.heap.size + 1 < wA.heap.size := (by omega)); (try have he1wA : w.heap.size + 1 ≤ wA.heap.size := (by omega)))
  go_wp2_with fail
  (go_at_call 79; (with_reducible refine (PW.out _).mono ?_); rintro e wB ⟨rfl, h1⟩; (try with_reducible replace h1 := undrew h1); have hB : Below w.heap.size w wB := ba (by go_grown) h1; obtain ⟨hcwB, hfwB⟩ := bcell h1; have hqwB := h1.size; (try simp at hqwB); (try have hz0wB : w.heap.size < wB.heap.size := (by omega)); (try have he0wB : w.heap.size ≤ wB.heap.size := (by omega)); (try have hz1wB : w.heap.size + 1 < wB.heap.size := (by omega)); (try have he1wB : w.heap.size + 1 ≤ wB.heap.size := (by omega)))
  go_wp2_with fail
  (go_at_call 78; (with_reducible refine (T.out _).mono ?_); rintro e wC ⟨rfl, h1⟩; (try with_reducible replace h1 := undrew h1); have hB : Below w.heap.size w wC := ba (by go_grown) h1; obtain ⟨hcwC, hfwC⟩ := bcell h1; have hqwC := h1.size; (try simp at hqwC); (try have hz0wC : w.heap.size < wC.heap.size := (by omega)); (try have he0wC : w.heap.size ≤ wC.heap.size := (by omega)); (try have hz1wC : w.heap.size + 1 < wC.heap.size := (by omega)); (try have he1wC : w.heap.size + 1 ≤ wC.heap.size := (by omega)))
  go_wp2_with fail
  refine bodyPost_ret (by simp [results, Tryz.results55, go_sem, *]; try rfl) rfl ?_
  exact ⟨rfl, by go_grown⟩

end Go.Proofs.YtkmgcmgnaeamaaaGreatDoor

/- Contract: the program's 'closings'. -/
namespace Go.Proofs.YtkmgcmgnaeamaaaGreatDoor
open Go.ChangeShapes Go.WideShapes Go.ChangeAt Go.RowKit

set_option linter.unusedVariables false

def StrPost (l : List (List UInt8)) (w : World) (e : Ending) (w' : World) : Prop :=
  ∃ v, e = .returned v ∧ w'.ownsRow w.heap.size 9 1 v l.length (strV l) ∧ Below w.heap.size w w'

theorem srInfo : (Tryz.prog.info? 9).map (fun i => (i.zero, i.size, i.bytes)) = some (some (.string ByteArray.empty), 1, 16) := by kernel_rfl

/-- Texts at their place, in a block that was there. -/
def StrAt (w : World) (g : Nat) (l : List (List UInt8)) : Prop := ∀ i u, l[i]? = some u → w.cell? ⟨g, i, none⟩ = some (.string (ofL u))

theorem StrAt.below {w w' : World} {g n : Nat} {l : List (List UInt8)} (h : StrAt w g l) (hg : g < n) (hb : Below n w w') : StrAt w' g l := fun i u hu => by
  rw [hb.cell (p := ⟨g, i, none⟩) hg]; exact h i u hu

theorem str_of {W : World} {B n g cap : Nat} {e : TypeId} {l : List (List UInt8)} (h : W.ownsRow B e 1 (.slice (some ⟨g, 0, none⟩) n cap) n (strV l)) (hn : l.length = n) : StrAt W g l := fun i u hu => by
  have hi : i < n := by rw [← hn]; exact (List.getElem?_eq_some_iff.1 hu).1
  rw [h.cellAt i (by omega)]
  simp [strV, hu]

def accG (l2 l1 : List (Sp × List UInt8)) (j : Nat) : List (List UInt8) := (l2.take j).flatMap fun p => (grp (wayB p.1) l1).map fun v => p.2 ++ v

theorem accG_end (a : Sp) (k0 : 0 ≤ a.h) (k7 : a.h ≤ 7) (m n : Nat) : accG (parts a m) (parts sp0 n) (3 ^ m) = clsL a (m + n) := by
  rw [accG, List.take_of_length_le (by rw [parts_len]; exact Nat.le_refl _), cls_halves a k0 k7]

theorem accG_next {l2 l1 : List (Sp × List UInt8)} {j : Nat} {p : Sp × List UInt8} (h : l2[j]? = some p) : accG l2 l1 (j + 1) = accG l2 l1 j ++ (grp (wayB p.1) l1).map fun v => p.2 ++ v := by
  rw [accG, List.take_add_one, h]
  simp [accG, List.flatMap_append]

theorem accG_le (l2 l1 : List (Sp × List UInt8)) : ∀ j, (accG l2 l1 j).length ≤ j * l1.length
  | 0 => by simp [accG]
  | j + 1 => by
    have ih := accG_le l2 l1 j
    rw [Nat.succ_mul]
    by_cases h : j < l2.length
    · rw [accG_next (List.getElem?_eq_getElem h), List.length_append, List.length_map]
      have := grp_le (wayB l2[j].1) l1
      omega
    · rw [show accG l2 l1 (j + 1) = accG l2 l1 j by rw [accG, accG, List.take_of_length_le (by omega), List.take_of_length_le (by omega)]]
      omega

theorem PrtAt.grown {w w' : World} {g : Nat} {l : List (Sp × List UInt8)} {row : Option Nat} (h : PrtAt w g l) (hg : w.grownBy w' row) (hne : some g ≠ row) : PrtAt w' g l := by
  intro i p hp
  obtain ⟨a, b, c, d, e, f⟩ := h i p hp
  exact ⟨hg.cell a hne, hg.cell b hne, hg.cell c hne, hg.cell d hne, hg.cell e hne, hg.cell f hne⟩

theorem wayB_ok {s : Sp} {n : Int} (h : s.okB n) : (wayB s).okB n := by
  obtain ⟨⟨b0, b0'⟩, ⟨b1, b1'⟩, ⟨b2, b2'⟩, ⟨b3, b3'⟩, b4, b5⟩ := h
  simp only [Sp.okB, wayB]
  refine ⟨?_, ?_, ?_, ?_, by omega, by omega⟩
  · unfold tu0; repeat' split <;> omega
  · unfold tu1; repeat' split <;> omega
  · unfold tu2; repeat' split <;> omega
  · unfold tu3; repeat' split <;> omega

theorem own_blkC {W : World} {B : Nat} {e t : TypeId} {size n : Nat} {v : Value} {xs : List Value} {g : Nat} {cs : Array Value} {fz : Nat × Nat} (h : W.ownsRow B e size v n xs) (hg : W.heap[g]? = some (.cells cs t fz)) (hne : e ≠ t) : some g ≠ v.ownBlock := by
  rcases h.2 with ⟨rfl, _⟩ | ⟨g', cap, cur, rfl, _, hg', _⟩
  · simp [Value.ownBlock]
  · intro he
    simp only [Value.ownBlock, Option.some.injEq] at he
    subst he
    rw [hg] at hg'
    simp only [Option.some.injEq, Obj.cells.injEq] at hg'
    exact hne hg'.2.1.symm

theorem own_formC {W : World} {B n size : Nat} {e : TypeId} {v : Value} {xs : List Value} (h : W.ownsRow B e size v n xs) : ∃ av cv, v = .slice av n cv := by
  rcases h.2 with ⟨h, h0⟩ | ⟨g, cap, cur, h, _⟩
  · exact ⟨none, 0, by rw [h, h0]⟩
  · exact ⟨_, _, h⟩

theorem news_one {W W1 : World} {n : Nat} {row : Option Nat} (hn : W.heap.size = n) (x : Value) (t : TypeId) (hg : (W.alloc (.cells #[x] t)).grownBy W1 row) (hne : some n ≠ row) : ∀ j u, [x][j]? = some u → W1.cell? ((⟨n, 0, none⟩ : Addr).add j) = some u := by
  subst hn
  intro j u hj
  have h := cell_one_new W x t j u hj
  match j, hj, h with
  | 0, _, h => exact hg.cell h (by simpa [Addr.add] using hne)

theorem blk5 {W : World} {g : Nat} {t : TypeId} {a0 a1 a2 a3 a4 : Value} (h : W.heap[g]? = some (.cells #[a0, a1, a2, a3, a4] t (0, 0))) :
    W.cell? ⟨g, 0, none⟩ = some a0 ∧ W.cell? ⟨g, 1, none⟩ = some a1 ∧ W.cell? ⟨g, 2, none⟩ = some a2 ∧ W.cell? ⟨g, 3, none⟩ = some a3 ∧ W.cell? ⟨g, 4, none⟩ = some a4 := by
  simp [World.cell?, h]

theorem grp_mem {k : Sp} {l : List (Sp × List UInt8)} {x : List UInt8} (h : x ∈ grp k l) : ∃ p ∈ l, p.2 = x := by
  simp only [grp, List.mem_map, List.mem_filter] at h
  obtain ⟨p, ⟨hp, _⟩, rfl⟩ := h
  exact ⟨p, hp, rfl⟩

set_option maxRecDepth 100000 in
set_option maxHeartbeats 6400000 in
theorem closings_any (a : Sp) (ha : a.okB 900000) (n : Nat) (hn : n ≤ 14) (w : World) :
    Calls Tryz.prog 40 #[.agg #[.int .i64 a.x0, .int .i64 a.x1, .int .i64 a.x2, .int .i64 a.x3, .int .i64 a.h], .int .i64 n] w (StrPost (clsL a n) w) := by
  obtain ⟨i0, hi, iz0, iz1, iz2⟩ := info_parts srInfo
  obtain ⟨m, hm⟩ : ∃ m, n / 2 = m := ⟨_, rfl⟩
  obtain ⟨k, hk⟩ : ∃ k, n - m = k := ⟨_, rfl⟩
  have hE := Lib.hid (show accG (parts a m) (parts sp0 k) (3 ^ m) = clsL a n by rw [accG_end a ha.2.2.2.2.1 ha.2.2.2.2.2, show m + k = n by omega])
  have hq : (n : Int).tdiv 2 = (m : Int) := by rw [Int.tdiv_eq_ediv_of_nonneg (by omega)]; omega
  have hs : (n : Int) - (m : Int) = (k : Int) := by omega
  have P1 := Lib.hid (fun w => partsFrom_any sp0 (sp0_ok.mono (by decide)) k (by omega) w)
  have P2 := Lib.hid (fun w => partsFrom_any a ha m (by omega) w)
  have hmm := @run_makeMap Tryz.prog
  have K7 : 3 ^ k ≤ 2187 := Nat.pow_le_pow_right (by decide) (show k ≤ 7 by omega)
  have M7 : 3 ^ m ≤ 2187 := Nat.pow_le_pow_right (by decide) (show m ≤ 7 by omega)
  go_enter Tryz.func40, Tryz.ntmps40
  go_wp2_with fail
  refine (P1.out _).mono ?_
  rintro e w1 ⟨g, cap, rfl, hO, hb1⟩
  have hM0 := (World.ownsMap_made (H := Unit) (w.alloc (.cells #[.int .i64 a.x0, .int .i64 a.x1, .int .i64 a.x2, .int .i64 a.x3, .int .i64 a.h] 72)) Tryz.prog 72 hdrR).kept (below_grown hb1) (by simp)
  rw [show (w.alloc (.cells #[.int .i64 a.x0, .int .i64 a.x1, .int .i64 a.x2, .int .i64 a.x3, .int .i64 a.h] 72)).heap.size = w.heap.size + 1 by simp] at hM0
  have hG0 := Lib.hid (GrpAt_begin hM0)
  have hbx : w1.heap[w.heap.size]? = some (.cells #[.int .i64 a.x0, .int .i64 a.x1, .int .i64 a.x2, .int .i64 a.x3, .int .i64 a.h] 72 (0, 0)) := by
    rw [hb1.block w.heap.size (by simp; omega)]
    exact (Below.heap_alloc _ _ _ (by simp)).trans (heap_alloc_new _ _)
  have hl := parts_len sp0 k
  obtain ⟨K, hK⟩ : ∃ K, 3 ^ k = K := ⟨_, rfl⟩
  rw [hK] at hO hl K7 ⊢
  have hok : ∀ p ∈ parts sp0 k, p.1.okB 1000 ∧ p.2.length ≤ 10 := fun p hp => ⟨(parts_ok sp0_ok hp).1.mono (by omega), by rw [(parts_ok sp0_ok hp).2]; omega⟩
  generalize parts sp0 k = l1 at hE hO hl hok
  have hgl := (hO.lt g rfl).1
  simp at hgl
  have hgb : g ≠ w.heap.size + 1 := by omega
  have HP := Lib.hid (prt_of hO hl)
  have HL := Lib.hid hl
  have HOK := Lib.hid hok
  have hsz1 := hb1.size
  simp at hsz1
  have HB1 := Lib.hid (((Below.refl w.heap.size w).alloc (Nat.le_refl _) (.cells #[.int .i64 a.x0, .int .i64 a.x1, .int .i64 a.x2, .int .i64 a.x3, .int .i64 a.h] 72)).alloc (by simp) (.map #[] 0) |>.trans (hb1.mono (by simp; omega)))
  clear hM0 hO hl hok hb1 hK hgl
  go_wp2_with fail
  go_loopw [21] (fun i wr => ∃ j : Nat, j ≤ K ∧ i = .int .i64 j ∧ GrpAt wr (w.heap.size + 1) w1.heap.size j (l1.take j) ∧ w1.grownBy wr (some (w.heap.size + 1))) (fun i _ => K - (intOf i).toNat)
  case atStart => exact ⟨0, Nat.zero_le _, rfl, hG0.out, World.grownBy.refl _ _⟩
  case round =>
    obtain ⟨j, hj, rfl, hG, hgr⟩ := hrel
    by_cases hlt : j < K
    · obtain ⟨p, hp⟩ : ∃ p, l1[j]? = some p := ⟨_, List.getElem?_eq_getElem (by rw [HL.out]; exact hlt)⟩
      obtain ⟨c0, c1, c2, c3, c4, c5⟩ := (HP.out.grown hgr (by simp; omega)) j p hp
      obtain ⟨hpo, hpl⟩ := HOK.out p (List.mem_of_getElem? hp)
      have HTK := Lib.hid (show l1.take (j + 1) = l1.take j ++ [p] by rw [List.take_add_one, hp]; rfl)
      obtain ⟨s, u⟩ := p
      simp only at c0 c1 c2 c3 c4 c5 hpo hpl
      have hwf := wf_of hpo (by decide)
      have hGW := (hG.kept (World.grownBy_alloc wr (.cells #[.int .i64 s.x0, .int .i64 s.x1, .int .i64 s.x2, .int .i64 s.x3, .int .i64 s.h, .string (ofL u)] 93) none) (by simp) (by simp)).kept (World.grownBy_alloc _ (.cells #[.string (ofL u)] 9) none) (by simp) (by simp)
      have hgl := grp_le s (l1.take j)
      rw [List.length_take] at hgl
      obtain ⟨v, st, W1, rE, gE, oE, hE1⟩ := hGW.entry hwf (by unfold maxLen; omega)
      simp only [spV] at rE
      have hnews := news_one (n := wr.heap.size + 1) (by simp) (.string (ofL u)) 9 gE (by simp; have := hgr.size; omega)
      have h2 := grown_row hgr (World.grownBy_alloc wr (.cells #[.int .i64 s.x0, .int .i64 s.x1, .int .i64 s.x2, .int .i64 s.x3, .int .i64 s.h, .string (ofL u)] 93) none) (by simp)
      have h3 := grown_row h2 (World.grownBy_alloc _ (.cells #[.string (ofL u)] 9) none) (by simp)
      have H4 := Lib.hid (grown_row h3 gE (fun k hk => .inr hk))
      have HE1 := Lib.hid hE1
      have HOE := Lib.hid oE
      have hsW : w1.heap.size ≤ W1.heap.size := H4.out.size
      have HLT := Lib.hid (fun k hk => (oE.lt k hk).1)
      clear hp hpo hG hgr hGW hE1 oE gE h2 h3 hwf
      go_wp2_with (first | ((with_reducible refine wpList_mapEntry W1 (.tuple #[v, goInt st]) _ ?_ _ _ ?_ ?_ ?_ rE ?_); rfl; rfl; rfl; rfl) | (at_builtin; refine wpList_append_own_at _ rfl _ _ 29 rfl w1.heap.size 9 i0 (.string ByteArray.empty) 1 16 Tryz.underlying29 hi iz0 iz1 iz2 rfl (by decide) v _ _ rfl HOE.out ⟨wr.heap.size + 1, 0, none⟩ 1 1 [.string (ofL u)] rfl rfl hnews (by intro u hu; simp at hu; subst hu; rfl) (by unfold maxLen; omega) (by omega) hsW ?_; intro v' w2 hown' hgrow hnil hloc; obtain ⟨w3, r3, hG3, g3⟩ := HE1.out w2 v' u hgrow hown' (hloc.imp Eq.symm id); simp only [goInt] at r3))
      have h5 := grown_row H4.out hgrow (fun k hk => .inl (HLT.out k hk))
      have H6 := Lib.hid (grown_row h5 g3 (fun k hk => .inr hk))
      have HG3 := Lib.hid hG3
      clear h5 hgrow g3 hG3 hown' rE r3 hnews hnil hloc c0 c1 c2 c3 c4 c5
      go_roundw
      case rel => exact ⟨j + 1, by omega, by go_num, by rw [HTK.out]; exact HG3.out, H6.out⟩
      case measure => simp [intOf]; omega
    · obtain rfl : j = K := by omega
      have hta : l1.take j = l1 := List.take_of_length_le (by rw [HL.out]; exact Nat.le_refl _)
      rw [hta] at hG
      have hzw : w.heap.size < w1.heap.size := (Array.getElem?_eq_some_iff.1 hbx).1
      obtain ⟨q0, q1, q2, q3, q4⟩ := blk5 ((hgr.block w.heap.size hzw (by simp)).trans hbx)
      have HBW := Lib.hid (show Below w.heap.size w wr from HB1.out.grown hgr (by omega) (fun k hk => by injection hk with hk; omega))
      have HG := Lib.hid hG
      clear hG hta hgr
      go_wp2_with fail
      refine (P2.out _).mono ?_
      rintro e w5 ⟨g2, cap2, rfl, hO2, hb5⟩
      have hG5 := HG.out.below hb5
      have HB5 := Lib.hid (HBW.out.trans (hb5.mono HBW.out.size))
      have hl2 := parts_len a m
      obtain ⟨M, hM⟩ : ∃ M, 3 ^ m = M := ⟨_, rfl⟩
      rw [hM] at hO2 hl2 M7 hE ⊢
      have hok2 : ∀ p ∈ parts a m, p.1.okB 950000 ∧ p.2.length ≤ 10 := fun p hp => ⟨(parts_ok ha hp).1.mono (by omega), by rw [(parts_ok ha hp).2]; omega⟩
      generalize parts a m = l2 at hE hO2 hl2 hok2
      have hg2 := (hO2.lt g2 rfl).2
      have HP2 := Lib.hid (prt_of hO2 hl2)
      have HL2 := Lib.hid hl2
      have HOK2 := Lib.hid hok2
      have HG5 := Lib.hid hG5
      have hz5 := hb5.size
      clear hO2 hl2 hok2 hG5 hb5 hM q0 q1 q2 q3 q4
      go_wp2_with fail
      go_loopw [8, 41] (fun t i wr => ∃ (j2 : Nat) (v : Value), j2 ≤ M ∧ i = .int .i64 j2 ∧ v = t ∧ wr.ownsRow w5.heap.size 9 1 v (accG l2 l1 j2).length (strV (accG l2 l1 j2)) ∧ Below w5.heap.size w5 wr) (fun _ i _ => M - (intOf i).toNat)
      case atStart => exact ⟨0, _, Nat.zero_le _, rfl, rfl, by simpa [accG, strV] using World.ownsRow_nil _ _ _ _, Below.refl _ _⟩
      case round =>
        obtain ⟨j2, v, hj2, rfl, rfl, hT, hb⟩ := hrel
        have hz6 := hb.size
        have hle := accG_le l2 l1 j2
        rw [HL.out] at hle
        by_cases hlt2 : j2 < M
        · obtain ⟨p, hp⟩ : ∃ p, l2[j2]? = some p := ⟨_, List.getElem?_eq_getElem (by rw [HL2.out]; exact hlt2)⟩
          obtain ⟨c0, c1, c2, c3, c4, c5⟩ := (HP2.out.below hg2 hb) j2 p hp
          obtain ⟨hpo, hpl⟩ := HOK2.out p (List.mem_of_getElem? hp)
          have HNX := Lib.hid (accG_next (l1 := l1) hp)
          obtain ⟨s, u⟩ := p
          simp only at c0 c1 c2 c3 c4 c5 hpo hpl HNX
          obtain ⟨vL, oL, rL⟩ := HG5.out.look (wf_of (wayB_ok hpo) (by decide))
          have hgl := grp_le (wayB s) l1
          rw [HL.out] at hgl
          have hxl : ∀ x ∈ grp (wayB s) l1, x.length ≤ 10 := fun x hx => by
            obtain ⟨p, hp, rfl⟩ := grp_mem hx
            exact (HOK.out p hp).2
          have WB := Lib.hid (wayBack_any s (hpo.mono (by decide)))
          obtain ⟨R, hR⟩ : ∃ R, grp (wayB s) l1 = R := ⟨_, rfl⟩
          rw [hR] at oL hgl hxl HNX
          obtain ⟨Lc, hLc⟩ : ∃ Lc, R.length = Lc := ⟨_, rfl⟩
          rw [hLc] at oL hgl
          obtain ⟨av, cv, rfl⟩ := own_formC oL
          simp only [spV] at rL
          generalize wayB s = q at rL WB
          have HXL := Lib.hid hxl
          have HLC := Lib.hid hLc
          have HRL := Lib.hid rL
          have HT := Lib.hid hT
          have HB := Lib.hid hb
          obtain ⟨wi, rfl⟩ : ∃ wi : World, wi = wr := ⟨_, rfl⟩
          clear hp hpo hR hLc hxl rL hT hb
          go_wp2_with fail
          refine (WB.out _).mono ?_
          rintro e wA ⟨rfl, hA⟩
          have hbk := (hA.block wi.heap.size (by simp)).trans (heap_alloc_new _ _)
          have hA2 := (HB.out.alloc hz6 (.cells #[.int .i64 s.x0, .int .i64 s.x1, .int .i64 s.x2, .int .i64 s.x3, .int .i64 s.h, .string (ofL u)] 93)).trans (hA.mono (by simp; omega))
          have rL := HRL.out wA none (below_grown hA2) (by simp)
          have HT2 := Lib.hid ((HT.out.alloc (.cells #[.int .i64 s.x0, .int .i64 s.x1, .int .i64 s.x2, .int .i64 s.x3, .int .i64 s.h, .string (ofL u)] 93)).kept (below_grown hA) (by cases v.ownBlock <;> simp))
          have HA2 := Lib.hid hA2
          have HBK := Lib.hid hbk
          clear hA hA2 hbk c0 c1 c2 c3 c4 c5
          go_wp2_with fail
          go_loopw [8, 51] (fun t i wr => ∃ (c : Nat) (v : Value), c ≤ Lc ∧ i = .int .i64 c ∧ v = t ∧ wr.ownsRow w5.heap.size 9 1 v (accG l2 l1 j2 ++ (R.take c).map fun x => u ++ x).length (strV (accG l2 l1 j2 ++ (R.take c).map fun x => u ++ x)) ∧ wr.heap[wi.heap.size]? = some (.cells #[.int .i64 s.x0, .int .i64 s.x1, .int .i64 s.x2, .int .i64 s.x3, .int .i64 s.h, .string (ofL u)] 93 (0, 0)) ∧ Below w5.heap.size w5 wr) (fun _ i _ => Lc - (intOf i).toNat)
          case atStart => exact ⟨0, v, Nat.zero_le _, rfl, rfl, by simpa using HT2.out, HBK.out, HA2.out⟩
          case round =>
            obtain ⟨c, v, hc, rfl, rfl, hT, hblk, hb⟩ := hrel
            have hz7 := hb.size
            have hzl := blkLt hblk
            by_cases hlc : c < Lc
            · obtain ⟨x, hx⟩ : ∃ x, R[c]? = some x := ⟨_, List.getElem?_eq_getElem (by rw [HLC.out]; exact hlc)⟩
              have hx10 := HXL.out x (List.mem_of_getElem? hx)
              obtain ⟨gL, rfl⟩ : ∃ gL, av = some ⟨gL, 0, none⟩ := by
                rcases oL.2 with ⟨h, h0⟩ | ⟨gL, capL, _, h, _⟩
                · omega
                · injection h with h; exact ⟨gL, h⟩
              have d0 := (str_of oL HLC.out).below (oL.lt gL rfl).2 hb c x hx
              obtain ⟨e0, e1, e2, e3, e4, e5⟩ := blk6 hblk
              have htk : R.take (c + 1) = R.take c ++ [x] := by rw [List.take_add_one, hx]; rfl
              obtain ⟨T, hT0⟩ : ∃ T, ofL (u ++ x) = T := ⟨_, rfl⟩
              have k1 : ∀ w : World, (Op.stringOp .add (ofL u) (ofL x)).run Tryz.prog w = .ok (.string T) w := fun w => concat_run (by rw [ofL_append, hT0]) (by rw [ofL_size, ofL_size]; omega) w
              have hlen : (accG l2 l1 j2 ++ (R.take c).map fun x => u ++ x).length ≤ 6000000 := by
                rw [List.length_append, List.length_map, List.length_take]
                have := Nat.mul_le_mul (show j2 ≤ 2187 by omega) (show j ≤ 2187 by omega)
                omega
              have HV := Lib.hid (show (accG l2 l1 j2 ++ (R.take (c + 1)).map fun x => u ++ x) = (accG l2 l1 j2 ++ (R.take c).map fun x => u ++ x) ++ [u ++ x] by rw [htk, List.map_append, ← List.append_assoc]; rfl)
              generalize hA : (accG l2 l1 j2 ++ (R.take c).map fun x => u ++ x) = A at *
              have HT0 := Lib.hid hT0
              have HT := Lib.hid hT
              have HB7 := Lib.hid hb
              have HK := Lib.hid hblk
              have hnb := own_blkC (hT.alloc (.cells #[.string T] 9)) ((Below.heap_alloc wr (.cells #[.string T] 9) _ hzl).trans hblk) (by decide)
              clear hx hT hblk hb htk hT0 hA
              go_wp2_with (at_builtin; refine wpList_append_own_at _ rfl _ _ 29 rfl w5.heap.size 9 i0 (.string ByteArray.empty) 1 16 Tryz.underlying29 hi iz0 iz1 iz2 rfl (by decide) v _ _ rfl (HT.out.alloc _) ⟨wr.heap.size, 0, none⟩ 1 1 [.string T] rfl rfl (cell_one_new _ _ _) (by intro u hu; simp at hu; subst hu; rfl) (by unfold maxLen; omega) (by omega) (by simp; omega) ?_; intro v' w2 hown' hgrow hnil hloc)
              have hlt' := (HT.out.alloc (.cells #[.string T] 9)).lt
              have HB8 := Lib.hid ((HB7.out.alloc hz7 (.cells #[.string T] 9)).grown hgrow (by simp; omega) (fun k hk => (hlt' k hk).1))
              have HK8 := Lib.hid ((hgrow.block wi.heap.size (by simp; omega) hnb).trans ((Below.heap_alloc wr (.cells #[.string T] 9) _ hzl).trans HK.out))
              have HO8 := Lib.hid hown'
              clear hlt' hgrow hown' hnil hloc hnb
              go_roundw
              case rel => exact ⟨c + 1, v', by omega, by go_num, rfl, by rw [HV.out, strV_append, List.length_append]; simp only [strV, List.map_cons, List.map_nil, HT0.out]; exact HO8.out, HK8.out, HB8.out⟩
              case measure => simp [intOf]; omega
            · obtain rfl : c = Lc := by omega
              have hta : R.take c = R := List.take_of_length_le (by rw [HLC.out]; exact Nat.le_refl _)
              rw [hta] at hT
              have HT := Lib.hid hT
              have HB7 := Lib.hid hb
              clear hT hb hblk hta
              go_wp2_with fail
              go_roundw
              case rel => exact ⟨j2 + 1, v, by omega, by go_num, rfl, by rw [HNX.out]; exact HT.out, HB7.out⟩
              case measure => simp [intOf]; omega
        · obtain rfl : j2 = M := by omega
          have hT2 := own_lessP hT HB5.out.size
          rw [hE.out] at hT2
          have HT2 := Lib.hid hT2
          have HB6 := Lib.hid (HB5.out.trans (hb.mono HB5.out.size))
          clear hT hb hT2
          go_wp2_with fail
          go_ret
          exact ⟨_, rfl, HT2.out, HB6.out⟩

end Go.Proofs.YtkmgcmgnaeamaaaGreatDoor

/- Contracts: lists of numbers compared, marked and looked at again. -/
namespace Go.Proofs.YtkmgcmgnaeamaaaGreatDoor
open Go.ChangeShapes Go.WideShapes Go.ChangeAt Go.RowKit

set_option linter.unusedVariables false

/-- Block g holds the numbers xs from its beginning on. -/
def RowI (w : World) (g : Nat) (xs : List Int) : Prop := ∀ (j : Nat) x, xs[j]? = some x → w.cell? ⟨g, j, none⟩ = some (.int .i64 x)

/-- .. the first n are the numbers from k on. -/
def RowK (w : World) (g n : Nat) (k : Int) : Prop := ∀ j : Nat, j < n → w.cell? ⟨g, j, none⟩ = some (.int .i64 (k + j))

def FreeR (w : World) (g n : Nat) : Prop := ∀ j : Nat, j < n → w.frozen? ⟨g, j, none⟩ = false

theorem RowI.below {w w' : World} {g m : Nat} {xs : List Int} (h : RowI w g xs) (hg : g < m) (hb : Below m w w') : RowI w' g xs := fun j x hx => by
  rw [hb.cell (p := ⟨g, j, none⟩) hg]; exact h j x hx

theorem RowK.below {w w' : World} {g n m : Nat} {k : Int} (h : RowK w g n k) (hg : g < m) (hb : Below m w w') : RowK w' g n k := fun j hj => by
  rw [hb.cell (p := ⟨g, j, none⟩) hg]; exact h j hj

theorem RowI.grown {w w' : World} {g : Nat} {row : Option Nat} {xs : List Int} (h : RowI w g xs) (hg : w.grownBy w' row) (hne : some g ≠ row) : RowI w' g xs := fun j x hx =>
  hg.cell (h j x hx) hne

theorem below_drawn {w : World} (n m : Nat) : Below m w (w.drewN n) := ⟨rfl, rfl, rfl, Nat.le_refl _, fun _ _ => rfl⟩

theorem set_grown {w wr : World} {g : Nat} (h : w.grownBy wr (some g)) (j : Nat) (v : Value) : w.grownBy (wr.setCell ⟨g, j, none⟩ v) (some g) :=
  ⟨h.os, h.tape, h.output, by simpa [World.setCell] using h.size, fun k hk hne => by rw [Below.heap_setCell _ _ _ _ (fun e => hne (by simp [e]))]; exact h.block k hk hne⟩

end Go.Proofs.YtkmgcmgnaeamaaaGreatDoor

/- Contracts: lists of texts compared, marked and looked at again, in the laws. -/
namespace Go.Proofs.YtkmgcmgnaeamaaaGreatDoor
open Go.ChangeShapes Go.WideShapes Go.ChangeAt Go.RowKit

set_option linter.unusedVariables false

theorem one_strM (c : UInt8) (B cap : Nat) (w : World) (h : w.cell? ⟨B, 0, none⟩ = some (.int .u8 ((c.toNat : Nat) : Int))) :
    (convert 53 9 (.slice (some ⟨B, 0, none⟩) 1 cap)).run Tryz.prog w = .ok (.string (ofL [c])) w := by
  refine run_convert_bytes_back w 53 9 5 ⟨B, 0, none⟩ cap [c] Tryz.underlying53 Tryz.underlying5 Tryz.underlying9 (fun j hj => ?_)
  obtain rfl : j = 0 := by simpa using hj
  have h3 : ((⟨B, 0, none⟩ : Addr).add 0) = ⟨B, 0, none⟩ := by simp [Addr.add]
  rw [h3, h]
  rfl

def mkR (k : Nat) (acc : List UInt8) : List UInt8 := if k = 0 then acc else mkR (k / 10) (UInt8.ofNat (48 + k % 10) :: acc)
termination_by k
decreasing_by omega

theorem mkR_zero (acc : List UInt8) : mkR 0 acc = acc := by rw [mkR, if_pos rfl]

theorem mkR_pos {k : Nat} (h : k ≠ 0) (acc : List UInt8) : mkR k acc = mkR (k / 10) (UInt8.ofNat (48 + k % 10) :: acc) := by rw [mkR, if_neg h]

/-- The text of a mark. -/
def mkT (k : Nat) : ByteArray := ofL (109 :: mkR k [])

theorem one_strD (d B cap : Nat) (hd : d < 10) (w : World) (h : w.cell? ⟨B, 0, none⟩ = some (.int .u8 (48 + (d : Int)))) :
    (convert 53 9 (.slice (some ⟨B, 0, none⟩) 1 cap)).run Tryz.prog w = .ok (.string (ofL [UInt8.ofNat (48 + d)])) w := by
  refine one_strM (UInt8.ofNat (48 + d)) B cap w (h.trans ?_)
  have h2 : ((UInt8.ofNat (48 + d)).toNat : Int) = 48 + (d : Int) := by
    rw [UInt8.toNat_ofNat']
    omega
  exact congrArg (fun z => some (Value.int .u8 z)) h2.symm

set_option maxRecDepth 100000 in
set_option maxHeartbeats 1600000 in
theorem markText_any (k : Nat) (h1 : 1 ≤ k) (h2 : k ≤ 1000000) (w : World) :
    Calls Tryz.prog 25 #[.int .i64 (k : Nat)] w fun e w' => e = .returned (.string (mkT k)) ∧ Below w.heap.size w w' := by
  go_enter Tryz.func25, Tryz.ntmps25
  go_wp2_with fail
  go_loopw [0, 3] (fun i t wr => ∃ (j d : Nat) (acc : List UInt8), i = .int .i64 (j : Nat) ∧ t = .string (ofL acc) ∧ mkR j acc = mkR k [] ∧ acc.length = d ∧ d ≤ 8 ∧ j < 10 ^ (8 - d) ∧ Below w.heap.size w wr) (fun i _ _ => (intOf i).toNat)
  case atStart => exact ⟨k, 0, [], rfl, rfl, rfl, rfl, by omega, by show k < 100000000; omega, Below.refl _ _⟩
  case round =>
    obtain ⟨j, d, acc, rfl, rfl, hm, hd, hd8, hj, hb⟩ := hrel
    have hz := hb.size
    have HB := Lib.hid hb
    by_cases h0 : j = 0
    · subst h0
      rw [mkR_zero] at hm
      have HM := Lib.hid hm
      have k2 : ∀ w : World, (Op.stringOp .add ⟨#[109]⟩ (ofL acc)).run Tryz.prog w = .ok (.string (mkT k)) w := fun w => concat_run (by rw [mkT, ← hm]; exact ofL_append [109] acc) (by rw [ofL_size]; show 1 + _ ≤ _; omega) w
      clear hm hb
      go_wp2_with fail
      go_ret
      exact ⟨rfl, HB.out⟩
    · have hd7 : d < 8 := by
        refine Nat.lt_of_not_le fun h => ?_
        have : 8 - d = 0 := by omega
        rw [this, Nat.pow_zero] at hj
        omega
      have hj2 : j / 10 < 10 ^ (8 - (d + 1)) := by
        rw [show 8 - d = (8 - (d + 1)) + 1 by omega, Nat.pow_succ] at hj
        omega
      have hj8 : j < 100000000 := Nat.lt_of_lt_of_le hj (Nat.pow_le_pow_right (by decide) (by omega : 8 - d ≤ 8))
      rw [mkR_pos h0] at hm
      obtain ⟨a, ha⟩ : ∃ a : Nat, j / 10 = a := ⟨_, rfl⟩
      obtain ⟨b, hb2⟩ : ∃ b : Nat, j % 10 = b := ⟨_, rfl⟩
      rw [ha] at hm hj2
      rw [hb2] at hm
      have i2 : b < 10 := by omega
      have j1 : (0 : Int) ≤ (b : Int) := by omega
      have j2 : (b : Int) < 10 := by omega
      have j3 : (0 : Int) < (j : Int) := by omega
      have haj : a < j := by omega
      have hA : IntKind.i64.wrap ((j : Int) / 10) = (a : Int) := by rw [IntKind.wrap_i64]; omega
      have hA2 : (j : Int).tdiv 10 = (a : Int) := by rw [Int.tdiv_eq_ediv_of_nonneg (by omega)]; omega
      have hB : (j : Int).tmod 10 = (b : Int) := by rw [Int.tmod_eq_emod_of_nonneg (by omega)]; omega
      have hC : IntKind.i64.wrap (48 + (b : Int)) = 48 + (b : Int) := by rw [IntKind.wrap_i64]; omega
      have hD : IntKind.u8.wrap (48 + (b : Int)) = 48 + (b : Int) := by rw [IntKind.wrap_u8]; omega
      have q := one_strD b wr.heap.size 1 i2 (wr.alloc (.cells #[.int .u8 (48 + (b : Int))] 5)) (by go_simp)
      obtain ⟨ch, hch⟩ : ∃ ch : UInt8, UInt8.ofNat (48 + b) = ch := ⟨_, rfl⟩
      rw [hch] at hm q
      obtain ⟨T, hT⟩ : ∃ T, ofL (ch :: acc) = T := ⟨_, rfl⟩
      have k1 : ∀ w : World, (Op.stringOp .add (ofL [ch]) (ofL acc)).run Tryz.prog w = .ok (.string T) w := fun w => concat_run (by rw [← hT]; exact ofL_append [ch] acc) (by rw [ofL_size, ofL_size]; show 1 + _ ≤ _; omega) w
      have HM := Lib.hid hm
      have HT := Lib.hid hT
      clear hm hb ha hb2 hT hj hch
      go_wp2_with fail
      go_roundw
      case rel => exact ⟨a, d + 1, _, by go_num, by rw [← HT.out], HM.out, by rw [List.length_cons, hd], by omega, hj2, HB.out.alloc hz _⟩
      case measure => simp [intOf]; omega

/-- A list of texts that a call has handed back. -/
def StrV (w : World) (v : Value) (l : List (List UInt8)) : Prop := ∃ av cap, v = .slice av l.length cap ∧ (l = [] ∨ ∃ g, av = some ⟨g, 0, none⟩ ∧ g < w.heap.size ∧ StrAt w g l)

/-- The first n texts are marks from k on. -/
def MkAt (w : World) (g n k : Nat) : Prop := ∀ j : Nat, j < n → w.cell? ⟨g, j, none⟩ = some (.string (mkT (k + j)))

theorem MkAt.below {w w' : World} {g n k m : Nat} (h : MkAt w g n k) (hg : g < m) (hb : Below m w w') : MkAt w' g n k := fun j hj => by
  rw [hb.cell (p := ⟨g, j, none⟩) hg]; exact h j hj

set_option maxRecDepth 100000 in
set_option maxHeartbeats 800000 in
theorem eqStringS_same (v v' : Value) (l : List (List UInt8)) (hb : l.length ≤ 1000000) (w : World) (h1 : StrV w v l) (h2 : StrV w v' l) :
    Calls Tryz.prog 10 #[v, v'] w fun e w' => e = .returned (.bool true) ∧ Below w.heap.size w w' := by
  obtain ⟨av, cap, rfl, h1⟩ := h1
  obtain ⟨av', cap', rfl, h2⟩ := h2
  obtain ⟨n, hn⟩ : ∃ n, l.length = n := ⟨_, rfl⟩
  rw [hn] at hb ⊢
  have HN := Lib.hid hn
  by_cases h0 : n = 0
  · subst h0
    go_enter Tryz.func10, Tryz.ntmps10
    go_wp2_with fail
    refine wp_loop_rounds 1 ?_
    rw [rounds_succ]
    go_wp2_with fail
    go_ret
    exact ⟨rfl, Below.refl _ _⟩
  · have hne : l ≠ [] := fun h => h0 (by rw [← hn, h]; rfl)
    obtain ⟨g, rfl, hg, s1⟩ := h1.resolve_left hne
    obtain ⟨g', rfl, hg', s2⟩ := h2.resolve_left hne
    have H1 := Lib.hid s1
    have H2 := Lib.hid s2
    clear hn h1 h2 s1 s2
    go_enter Tryz.func10, Tryz.ntmps10
    go_wp2_with fail
    go_loopw [5] (fun i wr => ∃ k : Nat, k ≤ n ∧ i = .int .i64 k ∧ Below w.heap.size w wr) (fun i _ => n - (intOf i).toNat)
    case atStart => exact ⟨0, Nat.zero_le _, rfl, Below.refl _ _⟩
    case round =>
      obtain ⟨k, hk, rfl, hB⟩ := hrel
      have HB := Lib.hid hB
      by_cases hlt : k < n
      · obtain ⟨x, hx⟩ : ∃ x, l[k]? = some x := ⟨_, List.getElem?_eq_getElem (by rw [HN.out]; exact hlt)⟩
        have c0 := (H1.out.below hg hB) k x hx
        have d0 := (H2.out.below hg' hB) k x hx
        have i1 : (0 : Int) ≤ (k : Int) := by omega
        have i2 : (k : Int) < (n : Int) := by omega
        clear hB hx
        go_wp2_with fail
        go_quiet (fail)
        go_wp2_with fail
        go_roundw
        case rel => exact ⟨k + 1, by omega, by go_num, HB.out.trans (below_drawn _ _)⟩
        case measure => simp [intOf]; omega
      · clear hB
        go_wp2_with fail
        go_ret
        exact ⟨rfl, HB.out⟩

set_option maxRecDepth 100000 in
set_option maxHeartbeats 1600000 in
theorem markStringS_any (v : Value) (l : List (List UInt8)) (hb : l.length ≤ 900000) (w : World) (h1 : StrV w v l) (hf : ∀ g, v.ownBlock = some g → FreeR w g l.length) :
    Calls Tryz.prog 11 #[v, .int .i64 1] w fun e w' => e = .returned (.int .i64 (1 + (l.length : Int))) ∧ (∀ g, v.ownBlock = some g → MkAt w' g l.length 1) ∧ w.grownBy w' v.ownBlock := by
  obtain ⟨av, cap, rfl, h1⟩ := h1
  obtain ⟨n, hn⟩ : ∃ n, l.length = n := ⟨_, rfl⟩
  rw [hn] at hb hf ⊢
  have HN := Lib.hid hn
  by_cases h0 : n = 0
  · subst h0
    go_enter Tryz.func11, Tryz.ntmps11
    go_wp2_with fail
    refine wp_loop_rounds 1 ?_
    rw [rounds_succ]
    go_wp2_with fail
    go_ret
    exact ⟨rfl, fun _ _ j hj => absurd hj (by omega), World.grownBy.refl _ _⟩
  · have hne : l ≠ [] := fun h => h0 (by rw [← hn, h]; rfl)
    obtain ⟨g, rfl, hg, s1⟩ := h1.resolve_left hne
    have H1 := Lib.hid s1
    have HF := Lib.hid (hf g rfl)
    clear hn h1 s1 hf
    go_enter Tryz.func11, Tryz.ntmps11
    go_wp2_with fail
    go_loopw [1, 5] (fun t i wr => ∃ k : Nat, k ≤ n ∧ i = .int .i64 k ∧ t = .int .i64 (1 + (k : Int)) ∧ MkAt wr g k 1 ∧ (∀ j : Nat, k ≤ j → wr.cell? ⟨g, j, none⟩ = w.cell? ⟨g, j, none⟩) ∧ FreeR wr g n ∧ w.grownBy wr (some g)) (fun _ i _ => n - (intOf i).toNat)
    case atStart => exact ⟨0, Nat.zero_le _, rfl, rfl, fun j hj => absurd hj (by omega), fun _ _ => rfl, HF.out, World.grownBy.refl _ _⟩
    case round =>
      obtain ⟨k, hk, rfl, rfl, r1, r2, r3, hG⟩ := hrel
      have hgr : g < wr.heap.size := Nat.lt_of_lt_of_le hg hG.size
      have R1 := Lib.hid r1
      have R2 := Lib.hid r2
      have R3 := Lib.hid r3
      have HG := Lib.hid hG
      clear r1 r2 r3 hG
      by_cases hlt : k < n
      · obtain ⟨x, hx⟩ : ∃ x, l[k]? = some x := ⟨_, List.getElem?_eq_getElem (by rw [HN.out]; exact hlt)⟩
        have C0 := Lib.hid ((R2.out k (Nat.le_refl _)).trans (H1.out k x hx))
        have MT := Lib.hid (markText_any (1 + k) (by omega) (by omega))
        have hc1 : ((1 + k : Nat) : Int) = 1 + (k : Int) := by omega
        rw [hc1] at MT
        clear hx hc1
        go_wp2_with fail
        refine (MT.out _).mono ?_
        rintro e wA ⟨rfl, hA⟩
        have c0 : wA.cell? ⟨g, k, none⟩ = some (.string (ofL x)) := by rw [hA.cell (p := ⟨g, k, none⟩) hgr]; exact C0.out
        have f0 : wA.frozen? ⟨g, k, none⟩ = false := by rw [hA.frozen (p := ⟨g, k, none⟩) hgr]; exact R3.out k hlt
        have C1 := Lib.hid c0
        have HA := Lib.hid hA
        clear hA
        go_wp2_with fail
        go_roundw
        case rel =>
          refine ⟨k + 1, by omega, by go_num, by congr 1, fun j hj => ?_, fun j hj => ?_, fun j hj => ?_, set_grown (HG.out.trans ((below_grown HA.out).but _)) k _⟩
          · by_cases e : k = j
            · subst e
              rw [World.cell?_setCell_same (h := C1.out)]
            · rw [World.cell?_setCell_other (h := fun h => e (by injection h)), HA.out.cell (p := ⟨g, j, none⟩) hgr]
              exact R1.out j (by omega)
          · rw [World.cell?_setCell_other (h := fun h => absurd (by injection h) (show ¬ k = j by omega)), HA.out.cell (p := ⟨g, j, none⟩) hgr]
            exact R2.out j (by omega)
          · rw [World.frozen?_setCell, HA.out.frozen (p := ⟨g, j, none⟩) hgr]
            exact R3.out j hj
        case measure => simp [intOf]; omega
      · obtain rfl : k = n := by omega
        go_wp2_with fail
        go_ret
        exact ⟨rfl, fun g' h => by simp only [Value.ownBlock, Option.some.injEq] at h; subst h; exact R1.out, HG.out⟩

set_option maxRecDepth 100000 in
set_option maxHeartbeats 1600000 in
theorem heldStringS_any (av : Option Addr) (n cap : Nat) (hb : n ≤ 900000) (w : World) (h1 : n = 0 ∨ ∃ g, av = some ⟨g, 0, none⟩ ∧ g < w.heap.size ∧ MkAt w g n 1) :
    Calls Tryz.prog 12 #[.slice av n cap, .int .i64 1] w fun e w' => e = .returned (.int .i64 (1 + (n : Int))) ∧ Below w.heap.size w w' := by
  by_cases h0 : n = 0
  · subst h0
    go_enter Tryz.func12, Tryz.ntmps12
    go_wp2_with fail
    refine wp_loop_rounds 1 ?_
    rw [rounds_succ]
    go_wp2_with fail
    go_ret
    exact ⟨rfl, Below.refl _ _⟩
  · obtain ⟨g, rfl, hg, s1⟩ := h1.resolve_left h0
    have H1 := Lib.hid s1
    clear h1 s1
    go_enter Tryz.func12, Tryz.ntmps12
    go_wp2_with fail
    go_loopw [1, 5] (fun t i wr => ∃ k : Nat, k ≤ n ∧ i = .int .i64 k ∧ t = .int .i64 (1 + (k : Int)) ∧ Below w.heap.size w wr) (fun _ i _ => n - (intOf i).toNat)
    case atStart => exact ⟨0, Nat.zero_le _, rfl, rfl, Below.refl _ _⟩
    case round =>
      obtain ⟨k, hk, rfl, rfl, hB⟩ := hrel
      have hgr : g < wr.heap.size := Nat.lt_of_lt_of_le hg hB.size
      by_cases hlt : k < n
      · have hS0 := (H1.out.below hg hB) k hlt
        have MT := Lib.hid (markText_any (1 + k) (by omega) (by omega))
        have hc1 : ((1 + k : Nat) : Int) = 1 + (k : Int) := by omega
        rw [hc1] at MT
        have i1 : (0 : Int) ≤ (k : Int) := by omega
        have i2 : (k : Int) < (n : Int) := by omega
        have HB := Lib.hid hB
        clear hB hc1
        generalize mkT (1 + k) = T at *
        go_wp2_with fail
        go_region_held3 (fun w' => w'.cell? ⟨g, k, none⟩ = some (.string T))
          (first | (with_reducible assumption) | (with_reducible exact cl_drew hS0) | (with_reducible refine cl_below ?_ ?_ h1; (first | (with_reducible assumption) | (with_reducible exact cl_drew hS0)); (first | omega | (simp; omega))))
          (((with_reducible refine (MT.out _).mono ?_); rintro e wA ⟨rfl, h1⟩; (try with_reducible replace h1 := undrew h1)))
        all_goals
          have HB2 := Lib.hid (HB.out.trans (h1.mono HB.out.size))
          clear h1 hS0
          go_wp2_with fail
          go_roundw
          case rel => exact ⟨k + 1, by omega, by go_num, by congr 1, HB2.out⟩
          case measure => simp [intOf]; omega
      · obtain rfl : k = n := by omega
        have HB := Lib.hid hB
        clear hB
        go_wp2_with fail
        go_ret
        exact ⟨rfl, HB.out⟩

end Go.Proofs.YtkmgcmgnaeamaaaGreatDoor

/- What a list of texts and whether there is one are, behind a call. -/
namespace Go.Proofs.YtkmgcmgnaeamaaaGreatDoor
open Go.ChangeShapes Go.WideShapes Go.ChangeAt Go.RowKit

def STPost (l : List (List UInt8)) (b : Bool) (w : World) (e : Ending) (w' : World) : Prop :=
  ∃ v, e = .returned (.tuple #[v, .bool b]) ∧ w'.ownsRow w.heap.size 9 1 v l.length (strV l) ∧ Below w.heap.size w w'

theorem stNo {w w' : World} (h : Below w.heap.size w w') : STPost [] false w (.returned (.tuple #[.slice none 0 0, .bool false])) w' := ⟨_, rfl, World.ownsRow_nil _ _ _ _, h⟩

theorem strV_own {W : World} {B : Nat} {v : Value} {l : List (List UInt8)} (h : W.ownsRow B 9 1 v l.length (strV l)) : StrV W v l := by
  have h0 := h
  rcases h.2 with ⟨rfl, h2⟩ | ⟨g, cap, cur, rfl, _⟩
  · exact ⟨none, 0, by rw [h2], .inl (List.eq_nil_of_length_eq_zero h2)⟩
  · exact ⟨_, cap, rfl, .inr ⟨g, rfl, (h0.lt g rfl).2, str_of h0 rfl⟩⟩

theorem StrV.below {w w' : World} {v : Value} {l : List (List UInt8)} (h : StrV w v l) (hb : Below w.heap.size w w') : StrV w' v l := by
  obtain ⟨av, cap, rfl, h⟩ := h
  refine ⟨av, cap, rfl, h.imp id ?_⟩
  rintro ⟨g, rfl, hg, hs⟩
  exact ⟨g, rfl, Nat.lt_of_lt_of_le hg hb.size, hs.below hg hb⟩

theorem StrV.grown {w w' : World} {v : Value} {l : List (List UInt8)} {row : Option Nat} (h : StrV w v l) (hg : w.grownBy w' row) (hne : v.ownBlock = none ∨ v.ownBlock ≠ row) : StrV w' v l := by
  obtain ⟨av, cap, rfl, h⟩ := h
  refine ⟨av, cap, rfl, h.imp id ?_⟩
  rintro ⟨g, rfl, hlt, hs⟩
  refine ⟨g, rfl, Nat.lt_of_lt_of_le hlt hg.size, fun i u hu => hg.cell (hs i u hu) ?_⟩
  rcases hne with h | h
  · cases h
  · exact h

theorem free_own {W : World} {B : Nat} {v : Value} {l : List (List UInt8)} (h : W.ownsRow B 9 1 v l.length (strV l)) : ∀ g, v.ownBlock = some g → FreeR W g l.length := by
  intro g hg j hj
  rcases h.2 with ⟨rfl, _⟩ | ⟨g', cap, cur, rfl, _⟩
  · cases hg
  · simp only [Value.ownBlock, Option.some.injEq] at hg
    subst hg
    exact h.frozenAt j

theorem own_apart {W W' : World} {B B' : Nat} {e e' size size' n n' : Nat} {v v' : Value} {xs xs' : List Value} (h : W.ownsRow B e size v n xs) (h' : W'.ownsRow B' e' size' v' n' xs') (hB : W.heap.size ≤ B') : v.ownBlock = none ∨ v.ownBlock ≠ v'.ownBlock := by
  cases hv : v.ownBlock with
  | none => exact .inl rfl
  | some k =>
    refine .inr fun e => ?_
    have h1 := (h.lt k hv).2
    have h2 := (h'.lt k e.symm).1
    omega

end Go.Proofs.YtkmgcmgnaeamaaaGreatDoor

/- Rings spun: from each beginning, their least ones, their periods. Nothing of the program. -/
namespace Go.Proofs.YtkmgcmgnaeamaaaGreatDoor

set_option linter.unusedSimpArgs false

def spn (l : List UInt8) (k : Nat) : List UInt8 := l.drop k ++ l.take k

theorem spn_len (l : List UInt8) (k : Nat) : (spn l k).length = l.length := by simp [spn]; omega

theorem spn_zero (l : List UInt8) : spn l 0 = l := by simp [spn]

theorem spn_full (l : List UInt8) : spn l l.length = l := by simp [spn]

theorem spn_at (l : List UInt8) (k j : Nat) (hk : k ≤ l.length) (hj : j < l.length) : (spn l k)[j]? = l[(k + j) % l.length]? := by
  unfold spn
  rw [List.getElem?_append, List.length_drop]
  by_cases h : j < l.length - k
  · rw [if_pos h, List.getElem?_drop, Nat.mod_eq_of_lt (by omega)]
  · rw [if_neg h, List.getElem?_take, if_pos (by omega)]
    congr 1
    rw [Nat.mod_eq_sub_mod (by omega), Nat.mod_eq_of_lt (by omega)]
    omega

theorem spn_mod (l : List UInt8) (k : Nat) (hk : k ≤ l.length) : spn l k = spn l (k % l.length) := by
  by_cases h : k = l.length
  · rw [h, Nat.mod_self, spn_full, spn_zero]
  · rw [Nat.mod_eq_of_lt (by omega)]

theorem spn_spn (l : List UInt8) (k j : Nat) (hk : k ≤ l.length) (hj : j ≤ l.length) : spn (spn l k) j = spn l ((k + j) % l.length) := by
  by_cases h0 : l.length = 0
  · have : l = [] := List.eq_nil_of_length_eq_zero h0
    subst this; simp [spn]
  apply List.ext_getElem?
  intro t
  by_cases ht : t < l.length
  · rw [spn_at (spn l k) j t (by rw [spn_len]; exact hj) (by rw [spn_len]; exact ht), spn_len, spn_at l k _ hk (Nat.mod_lt _ (by omega)),
      spn_at l _ t (Nat.le_of_lt (Nat.mod_lt _ (by omega))) ht]
    congr 1
    rw [Nat.add_mod_mod, Nat.mod_add_mod, Nat.add_assoc]
  · rw [List.getElem?_eq_none (by rw [spn_len, spn_len]; omega), List.getElem?_eq_none (by rw [spn_len]; omega)]

/-- One from another beginning. -/
def orb (a b : List UInt8) : Prop := ∃ k, k ≤ a.length ∧ b = spn a k

theorem orb_refl (a : List UInt8) : orb a a := ⟨0, Nat.zero_le _, (spn_zero a).symm⟩

theorem orb_len {a b : List UInt8} (h : orb a b) : b.length = a.length := by obtain ⟨k, _, rfl⟩ := h; exact spn_len a k

theorem orb_trans {a b c : List UInt8} (h : orb a b) (g : orb b c) : orb a c := by
  obtain ⟨k, hk, rfl⟩ := h
  obtain ⟨j, hj, rfl⟩ := g
  rw [spn_len] at hj
  refine ⟨(k + j) % a.length, ?_, spn_spn a k j hk hj⟩
  by_cases h0 : a.length = 0
  · rw [h0] at hk hj ⊢
    have : k = 0 := by omega
    have : j = 0 := by omega
    subst k j; simp
  · exact Nat.le_of_lt (Nat.mod_lt _ (by omega))

theorem orb_symm {a b : List UInt8} (h : orb a b) : orb b a := by
  obtain ⟨k, hk, rfl⟩ := h
  refine ⟨a.length - k, by rw [spn_len]; omega, ?_⟩
  rw [spn_spn a k _ hk (by omega), show k + (a.length - k) = a.length by omega, Nat.mod_self, spn_zero]

/-- The order of texts. -/
theorem lt_irr (a : List UInt8) : ¬ a < a := List.lt_irrefl a

theorem lt_tri (a b : List UInt8) : a < b ∨ a = b ∨ b < a := by
  by_cases h1 : a < b
  · exact .inl h1
  by_cases h2 : b < a
  · exact .inr (.inr h2)
  · exact .inr (.inl (List.le_antisymm (List.not_lt.1 h2) (List.not_lt.1 h1)))

theorem lt_asy {a b : List UInt8} (h : a < b) : ¬ b < a := List.lt_asymm h

theorem lt_trn {a b c : List UInt8} (h : a < b) (g : b < c) : a < c := List.lt_trans h g

/-- The least of some: the first one that none is less than. -/
def mn (x : List UInt8) (ys : List (List UInt8)) : List UInt8 := ys.foldl (fun m y => if y < m then y else m) x

theorem mn_cons (x y : List UInt8) (ys : List (List UInt8)) : mn x (y :: ys) = mn (if y < x then y else x) ys := rfl

theorem mn_mem : ∀ (ys : List (List UInt8)) (x : List UInt8), mn x ys ∈ x :: ys
  | [], x => by simp [mn]
  | y :: ys, x => by
    rw [mn_cons]
    have := mn_mem ys (if y < x then y else x)
    split at this <;> rename_i h
    · rw [if_pos h]
      exact List.mem_cons_of_mem _ this
    · rw [if_neg h]
      rcases List.mem_cons.1 this with h | h
      · rw [h]; exact List.mem_cons_self
      · exact List.mem_cons_of_mem _ (List.mem_cons_of_mem _ h)

theorem mn_le : ∀ (ys : List (List UInt8)) (x : List UInt8), ∀ y ∈ x :: ys, ¬ y < mn x ys
  | [], x, y, hy => by
    have : y = x := by simpa using hy
    subst this
    exact lt_irr y
  | z :: ys, x, y, hy => by
    rw [mn_cons]
    have ih := mn_le ys (if z < x then z else x)
    have h0 := ih _ List.mem_cons_self
    rcases List.mem_cons.1 hy with rfl | hy
    · intro h
      split at h0 <;> rename_i hz
      · rw [if_pos hz] at h
        exact h0 (lt_trn hz h)
      · rw [if_neg hz] at h
        exact h0 h
    rcases List.mem_cons.1 hy with rfl | hy
    · intro h
      split at h0 <;> rename_i hz
      · rw [if_pos hz] at h
        exact h0 h
      · rw [if_neg hz] at h
        rcases lt_tri y x with g | g | g
        · exact hz g
        · subst g; exact h0 h
        · exact h0 (lt_trn g h)
    · exact ih y (List.mem_cons_of_mem _ hy)

/-- What is least is one alone. -/
theorem least_one {S T : List (List UInt8)} (h : ∀ x, x ∈ S ↔ x ∈ T) {m n : List UInt8} (hm : m ∈ S) (hn : n ∈ T) (h1 : ∀ x ∈ S, ¬ x < m) (h2 : ∀ x ∈ T, ¬ x < n) : m = n := by
  rcases lt_tri m n with g | g | g
  · exact absurd g (h2 m ((h m).1 hm))
  · exact g
  · exact absurd g (h1 n ((h n).2 hn))

def rotA (l : List UInt8) : List (List UInt8) := (List.range l.length).map (spn l)

theorem rot_mem {l a : List UInt8} (h0 : 0 < l.length) : a ∈ rotA l ↔ orb l a := by
  simp only [rotA, List.mem_map, List.mem_range, orb]
  constructor
  · rintro ⟨k, hk, rfl⟩; exact ⟨k, by omega, rfl⟩
  · rintro ⟨k, hk, rfl⟩
    exact ⟨k % l.length, Nat.mod_lt _ h0, (spn_mod l k hk).symm⟩

def leastL (l : List UInt8) : List UInt8 := mn l (rotA l)

theorem rot_cons {l a : List UInt8} (h0 : 0 < l.length) : a ∈ l :: rotA l ↔ orb l a := by
  rw [List.mem_cons, rot_mem h0]
  constructor
  · rintro (rfl | h)
    · exact orb_refl a
    · exact h
  · exact .inr

theorem leastL_orb {l : List UInt8} (h0 : 0 < l.length) : orb l (leastL l) := (rot_cons h0).1 (mn_mem (rotA l) l)

theorem leastL_le {l a : List UInt8} (h0 : 0 < l.length) (h : orb l a) : ¬ a < leastL l := mn_le (rotA l) l a ((rot_cons h0).2 h)

theorem leastL_len {l : List UInt8} (h0 : 0 < l.length) : (leastL l).length = l.length := orb_len (leastL_orb h0)

theorem leastL_eq {a b : List UInt8} (h0 : 0 < a.length) (h : orb a b) : leastL a = leastL b := by
  have hb : 0 < b.length := by rw [orb_len h]; exact h0
  refine least_one (S := a :: rotA a) (T := b :: rotA b) (fun x => ?_) (mn_mem _ _) (mn_mem _ _) (mn_le _ _) (mn_le _ _)
  rw [rot_cons h0, rot_cons hb]
  exact ⟨fun g => orb_trans (orb_symm h) g, fun g => orb_trans h g⟩

theorem leastL_iff {a b : List UInt8} (h0 : 0 < a.length) (hb : 0 < b.length) : leastL a = leastL b ↔ orb a b := by
  refine ⟨fun h => ?_, leastL_eq h0⟩
  have h1 := leastL_orb h0
  rw [h] at h1
  exact orb_trans h1 (orb_symm (leastL_orb hb))

/-- The program's order of the spun ones: by 1, 2, .., up to all pieces. -/
def rot1 (l : List UInt8) : List (List UInt8) := (List.range l.length).map fun i => spn l (i + 1)

theorem rot1_mem {l a : List UInt8} (h0 : 0 < l.length) : a ∈ rot1 l ↔ orb l a := by
  simp only [rot1, List.mem_map, List.mem_range, orb]
  constructor
  · rintro ⟨k, hk, rfl⟩; exact ⟨k + 1, by omega, rfl⟩
  · rintro ⟨k, hk, rfl⟩
    by_cases h : k = 0
    · subst h
      exact ⟨l.length - 1, by omega, by rw [show l.length - 1 + 1 = l.length by omega, spn_full, spn_zero]⟩
    · exact ⟨k - 1, by omega, by rw [show k - 1 + 1 = k by omega]⟩

theorem rot1_len (l : List UInt8) : (rot1 l).length = l.length := by simp [rot1]

/-- The order of bytes as the library tells it. -/
theorem cmpB_lt : ∀ (a b : List UInt8), Lib.compareBytes a b < 0 ↔ a < b
  | [], [] => by simp [Lib.compareBytes]
  | [], _ :: _ => by simp [Lib.compareBytes]
  | _ :: _, [] => by simp [Lib.compareBytes]
  | x :: a, y :: b => by
    have ih := cmpB_lt a b
    rw [Lib.compareBytes, List.cons_lt_cons_iff]
    by_cases h1 : x < y
    · simp [h1]
    · by_cases h2 : y < x
      · have : ¬ x = y := fun e => by subst e; exact h1 h2
        simp [h1, h2, this]
      · have : x = y := UInt8.le_antisymm (UInt8.not_lt.1 h2) (UInt8.not_lt.1 h1)
        simp [h1, h2, this, ih]

end Go.Proofs.YtkmgcmgnaeamaaaGreatDoor

/- Tracks that are laid whole from a box: all of them in order, the rings among them. Nothing of the program. -/
namespace Go.Proofs.YtkmgcmgnaeamaaaGreatDoor

set_option linter.unusedVariables false
set_option linter.unusedSimpArgs false

theorem words_iffB : ∀ (n : Nat) (w : List UInt8), w ∈ words n ↔ w.length = n ∧ ∀ c ∈ w, c ∈ ltr
  | 0, w => by
    simp only [words, List.mem_cons, List.not_mem_nil, or_false, List.length_eq_zero_iff]
    constructor
    · rintro rfl; simp
    · exact fun h => h.1
  | n + 1, [] => by simp [words_cons]
  | n + 1, c :: w => by
    rw [words_cons]
    simp only [List.mem_flatMap, List.mem_map, List.cons.injEq, List.length_cons, Nat.add_right_cancel_iff, List.mem_cons, forall_eq_or_imp]
    constructor
    · rintro ⟨d, hd, u, hu, rfl, rfl⟩
      have := (words_iffB n u).1 hu
      exact ⟨this.1, hd, this.2⟩
    · rintro ⟨h1, h2, h3⟩
      exact ⟨c, h2, w, (words_iffB n w).2 ⟨h1, h3⟩, rfl, rfl⟩

theorem cls_iffB {n : Nat} {w : List UInt8} : w ∈ clsL sp0 n ↔ (w.length = n ∧ ∀ c ∈ w, c ∈ ltr) ∧ fin sp0 w = sp0 := by
  rw [clsL, List.mem_filter, words_iffB, spE_iff]

theorem words_ltB : ∀ n, (words n).Pairwise fun a b => a < b
  | 0 => by simp [words]
  | n + 1 => by
    rw [words_cons, List.pairwise_flatMap]
    constructor
    · intro c _
      exact List.Pairwise.map _ (fun a b h => List.cons_lt_cons_iff.2 (.inr ⟨rfl, h⟩)) (words_ltB n)
    · have hl : ltr.Pairwise fun a b => a < b := by decide
      refine hl.imp fun {a b} hab x hx y hy => ?_
      obtain ⟨u, _, rfl⟩ := List.mem_map.1 hx
      obtain ⟨v, _, rfl⟩ := List.mem_map.1 hy
      exact List.cons_lt_cons_iff.2 (.inl hab)

theorem cls_ltB (a : Sp) (n : Nat) : (clsL a n).Pairwise fun a b => a < b := (words_ltB n).filter _

theorem cnt3B : ∀ {w : List UInt8}, (∀ c ∈ w, c ∈ ltr) → cnt 83 w + cnt 76 w + cnt 82 w = w.length
  | [], _ => rfl
  | c :: w, h => by
    have ih := cnt3B (w := w) (fun d hd => h d (by simp [hd]))
    have hc := h c (by simp)
    have e : ∀ d : UInt8, cnt d (c :: w) = cnt d w + (if c == d then 1 else 0) := fun d => by simp [cnt, List.count_cons]
    rw [e, e, e, List.length_cons]
    simp only [ltr, List.mem_cons, List.not_mem_nil, or_false] at hc
    rcases hc with rfl | rfl | rfl <;> simp <;> omega

/-- The texts of pieces that are laid whole from s straights and c curves, in order. -/
def bxW (s c : Nat) : List (List UInt8) := (words (s + c)).filter fun w => cnt 83 w == s

def bxL (s c : Nat) (u : List UInt8) : List (List UInt8) := (bxW s c).map fun v => u ++ v

theorem cnt_cons (d c : UInt8) (w : List UInt8) : cnt d (c :: w) = cnt d w + (if c == d then 1 else 0) := by simp [cnt, List.count_cons]

theorem filt_next (n s : Nat) : (words (n + 1)).filter (fun w => cnt 83 w == s) = ((words n).filter fun w => cnt 83 w == s).map (fun v => 76 :: v) ++ (((words n).filter fun w => cnt 83 w == s).map (fun v => 82 :: v) ++ ((words n).filter fun w => cnt 83 w + 1 == s).map (fun v => 83 :: v)) := by
  rw [words_cons]
  simp only [ltr, List.flatMap_cons, List.flatMap_nil, List.append_nil, List.filter_append, List.filter_map, Function.comp_def, cnt_cons]
  congr 1

theorem filt_none (n s : Nat) (h : n < s) : (words n).filter (fun w => cnt 83 w == s) = [] := by
  rw [List.filter_eq_nil_iff]
  intro w hw
  have h1 := words_len n w hw
  have h2 : cnt 83 w ≤ w.length := List.count_le_length
  simp only [beq_iff_eq]
  omega

theorem bxL_zero (u : List UInt8) : bxL 0 0 u = [u] := by simp [bxL, bxW, words, cnt]

theorem bxW_curve (s c : Nat) : bxW s (c + 1) = (bxW s c).map (fun v => 76 :: v) ++ ((bxW s c).map (fun v => 82 :: v) ++ match s with | 0 => [] | s + 1 => (bxW s (c + 1)).map fun v => 83 :: v) := by
  unfold bxW
  rw [show s + (c + 1) = (s + c) + 1 from rfl, filt_next]
  congr 2
  cases s with
  | zero => simp
  | succ s =>
    rw [show s + 1 + c = s + (c + 1) by omega]
    congr 1
    apply List.filter_congr
    intro v _
    simp

theorem bxW_last (s : Nat) : bxW (s + 1) 0 = (bxW s 0).map fun v => 83 :: v := by
  unfold bxW
  rw [show s + 1 + 0 = s + 1 from rfl, filt_next, filt_none s (s + 1) (by omega)]
  simp only [List.map_nil, List.nil_append, Nat.add_zero]
  congr 1
  apply List.filter_congr
  intro v _
  simp

theorem map_cons_app (u : List UInt8) (d : UInt8) (l : List (List UInt8)) : (l.map fun v => d :: v).map (fun v => u ++ v) = l.map fun v => (u ++ [d]) ++ v := by
  rw [List.map_map]
  congr 1
  funext v
  simp

theorem bxL_C (c : Nat) (u : List UInt8) : bxL 0 (c + 1) u = bxL 0 c (u ++ [76]) ++ bxL 0 c (u ++ [82]) := by
  unfold bxL
  rw [bxW_curve, List.map_append, List.map_append, map_cons_app, map_cons_app]
  simp

theorem bxL_B (s c : Nat) (u : List UInt8) : bxL (s + 1) (c + 1) u = bxL (s + 1) c (u ++ [76]) ++ bxL (s + 1) c (u ++ [82]) ++ bxL s (c + 1) (u ++ [83]) := by
  unfold bxL
  rw [bxW_curve, List.map_append, List.map_append, map_cons_app, map_cons_app, map_cons_app, List.append_assoc]

theorem bxL_S (s : Nat) (u : List UInt8) : bxL (s + 1) 0 u = bxL s 0 (u ++ [83]) := by
  unfold bxL
  rw [bxW_last, map_cons_app]

theorem bxW_nil (s c : Nat) : bxL s c [] = bxW s c := by simp [bxL]

theorem bxW_iff {s c : Nat} {w : List UInt8} : w ∈ bxW s c ↔ (w.length = s + c ∧ ∀ d ∈ w, d ∈ ltr) ∧ cnt 83 w = s := by
  rw [bxW, List.mem_filter, words_iffB, beq_iff_eq]

theorem bxW_lt (s c : Nat) : (bxW s c).Pairwise fun a b => a < b := (words_ltB _).filter _

theorem bxW_le (s c : Nat) : (bxW s c).length ≤ 3 ^ (s + c) := by
  rw [← words_count]
  exact List.length_filter_le _ _

/-- A ring, as its pieces. -/
def rgb (w : List UInt8) : Bool := decide (0 < w.length) && spE (fin sp0 w) sp0

def bxR (s c : Nat) : List (List UInt8) := (bxW s c).filter rgb

theorem bxR_iff {s c : Nat} {w : List UInt8} : w ∈ bxR s c ↔ ((w.length = s + c ∧ ∀ d ∈ w, d ∈ ltr) ∧ cnt 83 w = s) ∧ (0 < w.length ∧ fin sp0 w = sp0) := by
  rw [bxR, List.mem_filter, bxW_iff, rgb, Bool.and_eq_true, decide_eq_true_eq, spE_iff]

theorem bxR_cls {s c : Nat} (h : 0 < s + c) : bxR s c = (clsL sp0 (s + c)).filter fun w => cnt 83 w == s := by
  rw [bxR, bxW, clsL, List.filter_filter, List.filter_filter]
  apply List.filter_congr
  intro w hw
  have h1 := words_len _ w hw
  rw [rgb, show decide (0 < w.length) = true by simp; omega, Bool.true_and, Bool.and_comm]

theorem bxR_zero : bxR 0 0 = [] := by simp [bxR, bxW, words, rgb, cnt]

theorem bxR_le (s c : Nat) : (bxR s c).length ≤ 3 ^ (s + c) := Nat.le_trans (List.length_filter_le _ _) (bxW_le s c)

theorem bxR_lt (s c : Nat) : (bxR s c).Pairwise fun a b => a < b := (bxW_lt s c).filter _

end Go.Proofs.YtkmgcmgnaeamaaaGreatDoor

/- The first greatest one of some; the longest ring of a box, on both sides; how many tracks; boxes of rings; different ends. Nothing of the program. -/
namespace Go.Proofs.YtkmgcmgnaeamaaaGreatDoor

set_option linter.unusedVariables false
set_option linter.unusedSimpArgs false

/-- One more: it takes the place of the greatest if it is greater. -/
def fgS {α : Type} (gt : α → α → Bool) (o : Option α) (x : α) : Option α := match o with | none => some x | some g => some (if gt x g then x else g)

def fgO {α : Type} (gt : α → α → Bool) (l : List α) : Option α := l.foldl (fgS gt) none

theorem fgO_nil {α : Type} (gt : α → α → Bool) : fgO gt ([] : List α) = none := rfl

theorem fgO_snoc {α : Type} (gt : α → α → Bool) (l : List α) (x : α) : fgO gt (l ++ [x]) = fgS gt (fgO gt l) x := by simp [fgO]

theorem fgO_some {α : Type} (gt : α → α → Bool) (l : List α) (h : l ≠ []) : ∃ g, fgO gt l = some g := by
  rcases List.eq_nil_or_concat l with rfl | ⟨m, x, rfl⟩
  · exact absurd rfl h
  · rw [List.concat_eq_append, fgO_snoc]
    cases fgO gt m
    · exact ⟨x, rfl⟩
    · exact ⟨_, rfl⟩

theorem fgO_isSome {α : Type} (gt : α → α → Bool) (l : List α) : (fgO gt l).isSome = decide (0 < l.length) := by
  cases l with
  | nil => rfl
  | cons a l =>
    obtain ⟨g, hg⟩ := fgO_some gt (a :: l) (by simp)
    rw [hg]; simp

theorem fgO_mem {α : Type} (gt : α → α → Bool) (l : List α) (g : α) (h : fgO gt l = some g) : g ∈ l := by
  rcases List.eq_nil_or_concat l with rfl | ⟨m, x, rfl⟩
  · cases h
  · rw [List.concat_eq_append] at h ⊢
    rw [fgO_snoc] at h
    cases hm : fgO gt m with
    | none => rw [hm] at h; simp only [fgS, Option.some.injEq] at h; simp [h]
    | some g' =>
      have := fgO_mem gt m g' hm
      rw [hm] at h
      simp only [fgS, Option.some.injEq] at h
      split at h
      · simp [← h]
      · simp [← h, this]
termination_by l.length
decreasing_by simp_all

/-- The rings that are laid from s straights and c curves, by their numbers of pieces. -/
def cvr (s c : Nat) (w : List UInt8) : Bool := decide (cnt 83 w ≤ s) && decide (w.length ≤ cnt 83 w + c)

def lgN (s c n : Nat) : List (List UInt8) := (clsL sp0 n).filter (cvr s c)

def lgL (s c k : Nat) : List (List UInt8) := (List.range k).flatMap fun i => lgN s c (i + 1)

theorem lgL_succ (s c k : Nat) : lgL s c (k + 1) = lgL s c k ++ lgN s c (k + 1) := by simp [lgL, List.range_succ]

theorem lgN_iff {s c n : Nat} {w : List UInt8} : w ∈ lgN s c n ↔ ((w.length = n ∧ ∀ d ∈ w, d ∈ ltr) ∧ fin sp0 w = sp0) ∧ (cnt 83 w ≤ s ∧ w.length ≤ cnt 83 w + c) := by
  rw [lgN, List.mem_filter, cls_iffB, cvr, Bool.and_eq_true, decide_eq_true_eq, decide_eq_true_eq]

theorem lgL_iff {s c k : Nat} {w : List UInt8} : w ∈ lgL s c k ↔ 0 < w.length ∧ w.length ≤ k ∧ w ∈ lgN s c w.length := by
  rw [lgL, List.mem_flatMap]
  constructor
  · rintro ⟨i, hi, hw⟩
    have h := (lgN_iff.1 hw).1.1.1
    have := List.mem_range.1 hi
    refine ⟨by omega, by omega, ?_⟩
    rw [h]; exact hw
  · rintro ⟨h0, hk, hw⟩
    exact ⟨w.length - 1, List.mem_range.2 (by omega), by rw [show w.length - 1 + 1 = w.length by omega]; exact hw⟩

def ltl (a b : List UInt8) : Prop := a.length < b.length ∨ (a.length = b.length ∧ a < b)

theorem lgL_lt (s c : Nat) : ∀ k, (lgL s c k).Pairwise ltl
  | 0 => by simp [lgL]
  | k + 1 => by
    rw [lgL_succ, List.pairwise_append]
    refine ⟨lgL_lt s c k, ?_, fun a ha b hb => ?_⟩
    · refine List.Pairwise.imp_of_mem (fun {a b} ha hb h => .inr ⟨?_, h⟩) ((cls_ltB sp0 (k + 1)).filter (cvr s c))
      have h1 := (cls_iffB.1 (List.mem_filter.1 ha).1).1.1
      have h2 := (cls_iffB.1 (List.mem_filter.1 hb).1).1.1
      omega
    · have h1 := (lgL_iff.1 ha).2.1
      have h2 := (lgN_iff.1 hb).1.1.1
      exact .inl (by omega)

/-- The first one of those with the most pieces. -/
def IsLg (l : List (List UInt8)) (o : Option (List UInt8)) : Prop := match o with | none => l = [] | some w => w ∈ l ∧ ∀ v ∈ l, v.length < w.length ∨ (v.length = w.length ∧ ¬ v < w)

def lgt (x g : List UInt8) : Bool := decide (g.length < x.length)

theorem lg_fg {l : List (List UInt8)} (h : l.Pairwise ltl) : IsLg l (fgO lgt l) := by
  rcases List.eq_nil_or_concat l with rfl | ⟨m, x, rfl⟩
  · rfl
  · rw [List.concat_eq_append] at h ⊢
    rw [List.pairwise_append] at h
    have ih := lg_fg h.1
    rw [fgO_snoc]
    cases hm : fgO lgt m with
    | none =>
      rw [hm] at ih
      simp only [IsLg] at ih
      subst ih
      simp only [IsLg, fgS, List.nil_append, List.mem_singleton, forall_eq, true_and]
      exact .inr (lt_irr x)
    | some g =>
      rw [hm] at ih
      obtain ⟨i1, i2⟩ := ih
      have hgx := h.2.2 g i1 x (by simp)
      simp only [fgS, lgt, decide_eq_true_eq, IsLg]
      by_cases hc : g.length < x.length
      · rw [if_pos hc]
        refine ⟨by simp, fun v hv => ?_⟩
        rcases List.mem_append.1 hv with hv | hv
        · have := i2 v hv
          exact .inl (by omega)
        · rw [List.mem_singleton.1 hv]; exact .inr ⟨rfl, lt_irr x⟩
      · rw [if_neg hc]
        refine ⟨by simp [i1], fun v hv => ?_⟩
        rcases List.mem_append.1 hv with hv | hv
        · exact i2 v hv
        · rw [List.mem_singleton.1 hv]
          rcases hgx with g1 | ⟨g1, g2⟩
          · omega
          · exact .inr ⟨g1.symm, lt_asy g2⟩
termination_by l.length
decreasing_by simp_all

theorem lg_one {l : List (List UInt8)} {o p : Option (List UInt8)} (h : IsLg l o) (g : IsLg l p) : o = p := by
  cases o with
  | none =>
    simp only [IsLg] at h
    subst h
    cases p with
    | none => rfl
    | some w => simp [IsLg] at g
  | some w =>
    cases p with
    | none => simp only [IsLg] at g; subst g; simp [IsLg] at h
    | some v =>
      obtain ⟨h1, h2⟩ := h
      obtain ⟨g1, g2⟩ := g
      have a := h2 v g1
      have b := g2 w h1
      have e : v.length = w.length := by omega
      have a : ¬ v < w := by rcases a with a | a; omega; exact a.2
      have b : ¬ w < v := by rcases b with b | b; omega; exact b.2
      rcases lt_tri v w with t | t | t
      · exact absurd t a
      · rw [t]
      · exact absurd t b

def lgO (s c : Nat) : Option (List UInt8) := fgO lgt (lgL s c (s + c))

/-- The model's search: the least ring of n pieces with at most s straights and c curves. -/
def IsLs (X : List UInt8 → Prop) (b : List UInt8) : Prop := (b = [] ∧ ∀ w, ¬ X w) ∨ (X b ∧ 0 < b.length ∧ ∀ v, X v → ¬ v < b)

theorem isLs_start : IsLs (fun _ => False) [] := .inl ⟨rfl, fun _ h => h⟩

theorem isLs_ext {X Y : List UInt8 → Prop} {b : List UInt8} (h : IsLs X b) (e : ∀ w, X w ↔ Y w) : IsLs Y b := by
  have : X = Y := funext fun w => propext (e w)
  rw [← this]; exact h

/-- One more: it is taken if it is the first or less. -/
def lsN (b x : List UInt8) : List UInt8 := if b = [] ∨ x < b then x else b

theorem isLs_next {X : List UInt8 → Prop} {b x : List UInt8} (h : IsLs X b) (hx : 0 < x.length) : IsLs (fun w => X w ∨ w = x) (lsN b x) := by
  unfold lsN
  rcases h with ⟨rfl, h⟩ | ⟨h1, h2, h3⟩
  · rw [if_pos (.inl rfl)]
    refine .inr ⟨.inr rfl, hx, fun v hv => ?_⟩
    rcases hv with hv | rfl
    · exact absurd hv (h v)
    · exact lt_irr v
  · by_cases hlt : x < b
    · rw [if_pos (.inr hlt)]
      refine .inr ⟨.inr rfl, hx, fun v hv => ?_⟩
      rcases hv with hv | rfl
      · exact fun g => h3 v hv (lt_trn g hlt)
      · exact lt_irr v
    · rw [if_neg (by rintro (rfl | g); exact absurd h2 (by simp); exact hlt g)]
      refine .inr ⟨.inl h1, h2, fun v hv => ?_⟩
      rcases hv with hv | rfl
      · exact h3 v hv
      · exact hlt

/-- The least one of n pieces, when nothing longer is there. -/
theorem isLs_long {s c n : Nat} {b : List UInt8} (h : IsLs (fun w => w ∈ lgN s c n) b) (hn : 0 < n) (hns : n ≤ s + c) (hno : ∀ m, n < m → m ≤ s + c → lgN s c m = []) (hb : b ≠ []) : lgO s c = some b := by
  refine lg_one (lg_fg (lgL_lt s c (s + c))) ?_
  rcases h with ⟨rfl, _⟩ | ⟨h1, h2, h3⟩
  · exact absurd rfl hb
  · have hl := (lgN_iff.1 h1).1.1.1
    refine ⟨lgL_iff.2 ⟨h2, by omega, by rw [hl]; exact h1⟩, fun v hv => ?_⟩
    have hv := lgL_iff.1 hv
    rcases Nat.lt_trichotomy v.length n with g | g | g
    · exact .inl (by omega)
    · exact .inr ⟨by omega, h3 v (g ▸ hv.2.2)⟩
    · rw [hno _ g hv.2.1] at hv; simp at hv

theorem isLs_none {s c : Nat} (hno : ∀ m, 0 < m → m ≤ s + c → lgN s c m = []) : lgO s c = none := by
  refine lg_one (lg_fg (lgL_lt s c (s + c))) ?_
  show lgL s c (s + c) = []
  rw [List.eq_nil_iff_forall_not_mem]
  intro v hv
  have hv := lgL_iff.1 hv
  rw [hno _ hv.1 hv.2.1] at hv; simp at hv

theorem lgN_box {s c n : Nat} (hn : 0 < n) {w : List UInt8} : w ∈ lgN s c n ↔ ∃ k, n - c ≤ k ∧ k ≤ s ∧ k ≤ n ∧ w ∈ bxR k (n - k) := by
  rw [lgN_iff]
  constructor
  · rintro ⟨⟨⟨h1, h2⟩, h3⟩, h4, h5⟩
    have h6 : cnt 83 w ≤ w.length := List.count_le_length
    exact ⟨cnt 83 w, by omega, h4, by omega, bxR_iff.2 ⟨⟨⟨by omega, h2⟩, rfl⟩, by omega, h3⟩⟩
  · rintro ⟨k, k1, k2, k3, hw⟩
    have h := bxR_iff.1 hw
    exact ⟨⟨⟨by omega, h.1.1.2⟩, h.2.2⟩, by omega, by omega⟩

/-- How many tracks: the model's product and the program's. -/
def ctM (s c : Nat) : Nat → Nat
  | 0 => 1
  | k + 1 => ctM s c k * (c + (k + 1)) / (k + 1)

def ctP (s c : Nat) : Nat → Nat
  | 0 => 1
  | k + 1 => 2 * ctP s c k * (s + (k + 1)) / (k + 1)

theorem ct_all : ∀ s < 13, ∀ c < 13, s + c ≤ 12 → ctM s c s * 2 ^ c = ctP s c c ∧ (∀ k ≤ s, ctM s c k ≤ 1000) ∧ ∀ k ≤ c, ctP s c k ≤ 1000000 := by decide +kernel

theorem ct_same {s c : Nat} (h : s + c ≤ 12) : ctM s c s * 2 ^ c = ctP s c c := (ct_all s (by omega) c (by omega) h).1

theorem ctM_le {s c k : Nat} (h : s + c ≤ 12) (hk : k ≤ s) : ctM s c k ≤ 1000 := (ct_all s (by omega) c (by omega) h).2.1 k hk

theorem ctP_le {s c k : Nat} (h : s + c ≤ 12) (hk : k ≤ c) : ctP s c k ≤ 1000000 := (ct_all s (by omega) c (by omega) h).2.2 k hk

/-- The numbers of straights of the boxes of n pieces from which a ring is laid whole. -/
def hasR (n s : Nat) : Bool := decide (0 < (bxR s (n - s)).length)

def rbL (n k : Nat) : List Nat := (List.range k).filter (hasR n)

theorem rbL_succ (n k : Nat) : rbL n (k + 1) = rbL n k ++ (if hasR n k then [k] else []) := by
  simp only [rbL, List.range_succ, List.filter_append, List.filter_cons, List.filter_nil]

theorem rbL_le (n k : Nat) : (rbL n k).length ≤ k := by
  have := List.length_filter_le (hasR n) (List.range k)
  rw [List.length_range] at this
  exact this

theorem hasR_iff {n s : Nat} (hn : 0 < n) (hs : s ≤ n) : hasR n s = true ↔ ∃ w ∈ clsL sp0 n, cnt 83 w = s := by
  rw [hasR, decide_eq_true_eq, bxR_cls (by omega), show s + (n - s) = n by omega, List.length_pos_iff_exists_mem]
  constructor
  · rintro ⟨w, hw⟩
    rw [List.mem_filter, beq_iff_eq] at hw
    exact ⟨w, hw⟩
  · rintro ⟨w, hw⟩
    exact ⟨w, by rw [List.mem_filter, beq_iff_eq]; exact hw⟩

/-- The different ones of some. -/
def ddS (l : List Sp) (x : Sp) : List Sp := if l.any (fun y => spE y x) then l else l ++ [x]

def ddL (l : List Sp) : List Sp := l.foldl ddS []

theorem ddL_snoc (l : List Sp) (x : Sp) : ddL (l ++ [x]) = ddS (ddL l) x := by simp [ddL]

theorem ddL_le (l : List Sp) : (ddL l).length ≤ l.length := by
  rcases List.eq_nil_or_concat l with rfl | ⟨m, x, rfl⟩
  · exact Nat.le_refl _
  · rw [List.concat_eq_append, ddL_snoc, ddS]
    have := ddL_le m
    split <;> simp <;> omega
termination_by l.length
decreasing_by simp_all

end Go.Proofs.YtkmgcmgnaeamaaaGreatDoor

/- Contracts: how often a piece is in a track, in the model and in Go's library. -/
namespace Go.Proofs.YtkmgcmgnaeamaaaGreatDoor
open Go.ChangeShapes Go.WideShapes Go.ChangeAt Go.RowKit

theorem ext_toList (s : ByteArray) (k : Nat) (h : k < s.size) : (s.extract k (k + 1)).toList = [s[k]] := by
  rw [ext_one s k h, ByteArray.toList_eq]

theorem count_any (s : ByteArray) (c : UInt8) (w : World) :
    Calls Tryz.prog 56 #[.string s, .string ⟨#[c]⟩] w fun e w' => e = .returned (.int .i64 (cnt c s.data.toList : Nat)) ∧ w = w' :=
  (Tryz.strings_Count_one s c w).mono fun _ _ h => ⟨h.1, h.2.symm⟩

def tuR (s : ByteArray) : Int := cond (tkB s) ((cnt 76 s.data.toList : Int) - (cnt 82 s.data.toList : Int)) 0

theorem one_size {s : ByteArray} (h : s.size = 1) : ∃ c, s = ⟨#[c]⟩ := by
  obtain ⟨⟨d⟩⟩ := s
  match d, h with
  | [c], _ => exact ⟨c, rfl⟩

/-- A text is a piece. -/
def pcS (p : ByteArray) : Bool := p.toList == [83] || (p.toList == [76] || p.toList == [82])

def cpR (s p : ByteArray) : Int := cond (tkB s && pcS p) (cnt (p.toList.headD 0) s.data.toList : Int) 0

theorem pcS_one (c : UInt8) : pcS ⟨#[c]⟩ = pcb c := by
  simp [pcS, pcb, ByteArray.toList_eq]

theorem pcS_size {p : ByteArray} (h : pcS p = true) : ∃ c, p = ⟨#[c]⟩ ∧ pcb c = true := by
  simp only [pcS, Bool.or_eq_true, beq_iff_eq, ByteArray.toList_eq] at h
  obtain ⟨⟨l⟩⟩ := p
  rcases h with h | h | h <;> (simp at h; subst h; exact ⟨_, rfl, by decide⟩)

theorem pcS_no {p : ByteArray} (h : pcS p = false) : (p.toList == [83]) = false ∧ (p.toList == [76]) = false ∧ (p.toList == [82]) = false := by
  simpa [pcS, Bool.or_eq_false_iff] using h

end Go.Proofs.YtkmgcmgnaeamaaaGreatDoor

/- Contract: whether a number lies in a range. -/
namespace Go.Proofs.YtkmgcmgnaeamaaaGreatDoor
open Go.ChangeShapes Go.WideShapes Go.ChangeAt Go.RowKit

set_option maxRecDepth 100000 in
theorem isInRange_any (n lo hi : Int) (w : World) :
    Calls Tryz.prog 39 #[.int .i64 n, .int .i64 lo, .int .i64 hi] w fun e w' => e = .returned (.bool (inB n lo hi)) ∧ w = w' := by
  go_enter Tryz.func39, Tryz.ntmps39
  go_wp2
  · go_ret
    exact ⟨by simp [inB, *], rfl⟩
  · go_ret
    exact ⟨by simp [inB]; omega, rfl⟩

end Go.Proofs.YtkmgcmgnaeamaaaGreatDoor

/- Contracts: boxes and what tracks need, in the model and in the program: which boxes there are, what is laid from them, what is missing, sums and prices. -/
namespace Go.Proofs.YtkmgcmgnaeamaaaGreatDoor
open Go.ChangeShapes Go.WideShapes Go.ChangeAt Go.RowKit

set_option linter.unusedVariables false
set_option linter.unusedSimpArgs false

/-- A box of at most m pieces. -/
def bxB (m : Int) (b : Bq) : Bool := inB b.x 0 m && inB b.r 0 (m - b.x)

theorem bxB_yes {m : Int} {b : Bq} (h : bxB m b = true) : 0 ≤ b.x ∧ 0 ≤ b.r ∧ b.x + b.r ≤ m := by simp [bxB, inB] at h; omega

theorem bxB_nat {m : Nat} {b : Bq} (h : bxB m b = true) : ∃ s c : Nat, b = ⟨s, c⟩ ∧ s + c ≤ m := by
  obtain ⟨h0, h1, h2⟩ := bxB_yes h
  obtain ⟨x, r⟩ := b
  simp only at h0 h1 h2
  exact ⟨x.toNat, r.toNat, by rw [Int.toNat_of_nonneg h0, Int.toNat_of_nonneg h1], by omega⟩

theorem bxB_of {m : Nat} {s c : Nat} (h : s + c ≤ m) : bxB m ⟨s, c⟩ = true := by simp [bxB, inB]; omega

set_option maxRecDepth 100000 in
theorem spBox_any (b : Bq) (w : World) : Calls Tryz.prog 26 #[bv b] w fun e w' => e = .returned (.bool (bxB 40 b)) ∧ Below w.heap.size w w' := by
  obtain ⟨x, r⟩ := b
  cases h0 : inB x 0 40
  · go_enter Tryz.func26, Tryz.ntmps26
    go_wp2_with (go_at_call 42; refine (l1In_any _ _ _ _).mono ?_; rintro e w' ⟨rfl, rfl⟩)
    go_returns
    exact ⟨by simp [bxB, h0], by go_grown⟩
  · have hx : 0 ≤ x ∧ x ≤ 40 := by simpa [inB] using h0
    have e : (40 : Int) + wrap64 (-1 * x) = 40 - x := by rw [IntWalk.wrap64_in _ ⟨by omega, by omega⟩]; omega
    cases h1 : inB r 0 (40 - x)
    all_goals
      go_enter Tryz.func26, Tryz.ntmps26
      go_wp2_with (go_at_call 42; refine (l1In_any _ _ _ _).mono ?_; rintro e w' ⟨rfl, rfl⟩)
      go_returns
      exact ⟨by simp [bxB, h0, h1], by go_grown⟩

set_option maxRecDepth 100000 in
theorem isWithinB_any (b : Bq) (m : Int) (h : 0 ≤ m) (hm : m ≤ 1000) (w : World) : Calls Tryz.prog 20 #[bv b, .int .i64 m] w fun e w' => e = .returned (.bool (bxB m b)) ∧ Below w.heap.size w w' := by
  obtain ⟨x, r⟩ := b
  cases h0 : inB x 0 m
  · go_enter Tryz.func20, Tryz.ntmps20
    go_wp2_with (go_at_call 39; refine (isInRange_any _ _ _ _).mono ?_; rintro e w' ⟨rfl, rfl⟩)
    go_returns
    exact ⟨by simp [bxB, h0], by go_grown⟩
  · have hx : 0 ≤ x ∧ x ≤ m := by simpa [inB] using h0
    cases h1 : inB r 0 (m - x)
    all_goals
      go_enter Tryz.func20, Tryz.ntmps20
      go_wp2_with (go_at_call 39; refine (isInRange_any _ _ _ _).mono ?_; rintro e w' ⟨rfl, rfl⟩)
      go_returns
      exact ⟨by simp [bxB, h0, h1], by go_grown⟩

/-- How many straights and curves a track has. -/
def stN (s : ByteArray) : Nat := cnt 83 s.data.toList

def cvN (s : ByteArray) : Nat := s.size - cnt 83 s.data.toList

theorem st_cv (s : ByteArray) : stN s + cvN s = s.size := by
  have := cnt_le 83 s.data.toList
  rw [size_list] at this
  unfold stN cvN; omega

theorem lr_cv {s : ByteArray} (h : tkB s = true) : cnt 76 s.data.toList + cnt 82 s.data.toList = cvN s := by
  have := cnt3B (w := s.data.toList) fun c hc => by
    have := pcb_cases (tkB_list h c hc)
    rcases this with rfl | rfl | rfl <;> simp [ltr]
  rw [size_list] at this
  unfold cvN; omega

set_option maxRecDepth 100000 in
theorem tallyOf_any (s : ByteArray) (ht : tkB s = true) (w : World) : Calls Tryz.prog 41 #[.string s] w fun e w' => e = .returned (.agg #[.int .i64 (stN s : Nat), .int .i64 (cnt 76 s.data.toList : Nat), .int .i64 (cnt 82 s.data.toList : Nat)]) ∧ Below w.heap.size w w' := by
  have P := Lib.hid (fun c w => count_any s c w)
  go_enter Tryz.func41, Tryz.ntmps41
  go_wp2_with (go_at_call 56; refine (P.out _ _).mono ?_; rintro e w' ⟨rfl, rfl⟩)
  refine bodyPost_ret (by simp [results, Tryz.results41, go_sem, *]; try rfl) rfl ?_
  exact ⟨rfl, by go_grown⟩

set_option maxRecDepth 100000 in
theorem needsOf_any (s : ByteArray) (ht : tkB s = true) (w : World) : Calls Tryz.prog 23 #[.string s] w fun e w' => e = .returned (bv ⟨stN s, cvN s⟩) ∧ Below w.heap.size w w' := by
  have h40 := tkB_size ht
  have hs := st_cv s
  have hl := lr_cv ht
  have P := Lib.hid (fun w => tallyOf_any s ht w)
  generalize stN s = a at *
  generalize cvN s = c at *
  generalize cnt 76 s.data.toList = x at *
  generalize cnt 82 s.data.toList = y at *
  have e : (x : Int) + (y : Int) = (c : Int) := by omega
  go_enter Tryz.func23, Tryz.ntmps23
  go_wp2_with (go_at_call 41; refine (P.out _).mono ?_; rintro e w1 ⟨rfl, h1⟩; have hB : Below w.heap.size w w1 := ba (by go_grown) h1; obtain ⟨hc1, hf1⟩ := bcell h1; have hq := h1.size; (try simp at hq); have hz0 : w.heap.size < w1.heap.size := (by omega); have HK1 := Lib.hid h1; clear h1 hq)
  refine bodyPost_ret (by simp [results, Tryz.results23, go_sem, *]; try rfl) rfl ?_
  exact ⟨rfl, by go_grown⟩

set_option maxRecDepth 100000 in
theorem boxSupply_any (b : Bq) (w : World) : Calls Tryz.prog 24 #[bv b] w fun e w' => e = .returned (bv b) ∧ Below w.heap.size w w' := by
  obtain ⟨x, r⟩ := b
  go_enter Tryz.func24, Tryz.ntmps24
  go_wp2_with fail
  refine bodyPost_ret (by simp [results, Tryz.results24, go_sem, *]; try rfl) rfl ?_
  exact ⟨rfl, by go_grown⟩

/-- '==' on two supplies. -/
theorem supUnder : Tryz.prog.underlying 48 = some (.array 2 3) := by kernel_rfl

theorem intOne : Tryz.prog.cellsOf 3 = 1 := by kernel_rfl

theorem eqSupAt (d : Nat) (x y z u : Int) (w : World) : (Op.equalIn (d + 1 + 1) 48 (.agg #[.int .i64 x, .int .i64 y]) (.agg #[.int .i64 z, .int .i64 u])).run Tryz.prog w = .ok (x == z && y == u) w := by
  cases hq : Tryz.prog.info? 3 with
  | none =>
    have h : (Tryz.prog.info? 3).isSome = true := by kernel_rfl
    rw [hq] at h
    cases h
  | some i =>
    have e0 := run_equalIn_int (P := Tryz.prog) w d 3 .i64 .i64 x z Tryz.underlying3
    have e1 := run_equalIn_int (P := Tryz.prog) w d 3 .i64 .i64 y u Tryz.underlying3
    rw [run_equalIn_array w (d + 1) _ _ supUnder hq, intOne]
    simp only [List.range, List.range.loop, Op.eqItems, Sem.run_bind]
    have p0 : ∀ (a b : Int), (part 3 #[.int .i64 a, .int .i64 b] (0 * 1)).run Tryz.prog w = .ok (.int .i64 a) w := fun a b => by simp [go_sem]
    have p1 : ∀ (a b : Int), (part 3 #[.int .i64 a, .int .i64 b] (1 * 1)).run Tryz.prog w = .ok (.int .i64 b) w := fun a b => by simp [go_sem]
    rw [p0 x y, Result.andThen_ok, p0 z u, Result.andThen_ok, e0, Result.andThen_ok]
    cases h0 : (x == z)
    · simp
    · simp only [Bool.not_true, Bool.false_eq_true, if_false, Bool.true_and, Sem.run_bind]
      rw [p1 x y, Result.andThen_ok, p1 z u, Result.andThen_ok, e1, Result.andThen_ok]
      cases h1 : (y == u) <;> simp

@[go_sem high] theorem eqSup (x y z u : Int) (w : World) : (binOp .eql 48 (.agg #[.int .i64 x, .int .i64 y]) (.agg #[.int .i64 z, .int .i64 u])).run Tryz.prog w = .ok (.bool (x == z && y == u)) w := by
  rw [run_eql_struct, show (10000 : Nat) = 9998 + 1 + 1 from rfl, eqSupAt]
  rfl

end Go.Proofs.YtkmgcmgnaeamaaaGreatDoor

/- Contract of the model: all tracks that are laid whole from a box, in order. -/
namespace Go.Proofs.YtkmgcmgnaeamaaaGreatDoor
open Go.ChangeShapes Go.WideShapes Go.ChangeAt Go.RowKit

set_option linter.unusedVariables false
set_option linter.unusedSimpArgs false

/-- Block F is a variable that holds a list of texts; its row lies behind it. -/
def LkAt (w : World) (F : Nat) (v : Value) (L : List (List UInt8)) : Prop :=
  w.heap[F]? = some (.cells #[v] 29 (0, 0)) ∧ w.ownsRow (F + 1) 9 1 v L.length (strV L)

structure LkFr (w w' : World) (F : Nat) (v : Value) : Prop where
  os : w'.os = w.os
  tape : w'.tape = w.tape
  output : w'.output = w.output
  size : w.heap.size ≤ w'.heap.size
  block : ∀ k, k < w.heap.size → k ≠ F → v.ownBlock ≠ some k → w'.heap[k]? = w.heap[k]?

/-- A row that lies where it lay, or in a new block. -/
def LkSt (m : Nat) (v v' : Value) : Prop := v'.ownBlock = v.ownBlock ∨ ∀ k, v'.ownBlock = some k → m ≤ k

theorem LkSt.refl (m : Nat) (v : Value) : LkSt m v v := .inl rfl

theorem LkSt.trans {m m2 : Nat} {v v1 v2 : Value} (h : LkSt m v v1) (g : LkSt m2 v1 v2) (hm : m ≤ m2) : LkSt m v v2 := by
  rcases g with g | g
  · rcases h with h | h
    · exact .inl (g.trans h)
    · exact .inr fun k hk => h k (g ▸ hk)
  · exact .inr fun k hk => Nat.le_trans hm (g k hk)

theorem LkSt.mono {m m2 : Nat} {v v1 : Value} (h : LkSt m2 v v1) (hm : m ≤ m2) : LkSt m v v1 := h.imp id fun h k hk => Nat.le_trans hm (h k hk)

theorem LkFr.of_below {w w' : World} {F : Nat} {v : Value} (h : Below w.heap.size w w') : LkFr w w' F v := ⟨h.os, h.tape, h.output, h.size, fun k hk _ _ => h.block k hk⟩

theorem LkFr.trans {w w1 w2 : World} {F : Nat} {v v1 : Value} (h : LkFr w w1 F v) (g : LkFr w1 w2 F v1) (hs : LkSt w.heap.size v v1) : LkFr w w2 F v :=
  ⟨g.os.trans h.os, g.tape.trans h.tape, g.output.trans h.output, Nat.le_trans h.size g.size, fun k hk hF hv => by
    have hv1 : v1.ownBlock ≠ some k := fun e => by
      rcases hs with hs | hs
      · exact hv (hs ▸ e)
      · have := hs k e; omega
    rw [g.block k (Nat.lt_of_lt_of_le hk h.size) hF hv1, h.block k hk hF hv]⟩

theorem LkFr.then {w w1 w2 : World} {F : Nat} {v : Value} (h : LkFr w w1 F v) (g : Below w1.heap.size w1 w2) : LkFr w w2 F v := h.trans (LkFr.of_below g) (.refl _ _)

theorem LkFr.below {w w' : World} {F m : Nat} {v : Value} (h : LkFr w w' F v) (hF : m ≤ F) (hv : ∀ k, v.ownBlock = some k → m ≤ k) (hm : m ≤ w.heap.size) : Below m w w' :=
  ⟨h.os, h.tape, h.output, h.size, fun k hk => h.block k (by omega) (by omega) (fun e => by have := hv k e; omega)⟩

theorem LkAt.lt {w : World} {F : Nat} {v : Value} {L : List (List UInt8)} (h : LkAt w F v L) : F < w.heap.size := (Array.getElem?_eq_some_iff.1 h.1).1

theorem LkAt.own {w : World} {F : Nat} {v : Value} {L : List (List UInt8)} (h : LkAt w F v L) : ∀ k, v.ownBlock = some k → F + 1 ≤ k ∧ k < w.heap.size := fun k hk => ⟨(h.2.lt k hk).1, (h.2.lt k hk).2⟩

theorem LkAt.below {w w' : World} {F : Nat} {v : Value} {L : List (List UInt8)} (h : LkAt w F v L) (hb : Below w.heap.size w w') : LkAt w' F v L :=
  ⟨(hb.block F h.lt).trans h.1, h.2.kept (row := none) ⟨hb.os, hb.tape, hb.output, hb.size, fun k hk _ => hb.block k hk⟩ (by cases v.ownBlock <;> simp)⟩

theorem LkAt.cells {w : World} {F : Nat} {v : Value} {L : List (List UInt8)} (h : LkAt w F v L) : w.cell? ⟨F, 0, none⟩ = some v ∧ w.frozen? ⟨F, 0, none⟩ = false := by
  simp [World.cell?, World.frozen?, h.1]

def LkPost (w : World) (F : Nat) (v : Value) (L : List (List UInt8)) (e : Ending) (w' : World) : Prop :=
  e = .returned (.tuple #[]) ∧ ∃ v', LkAt w' F v' L ∧ LkSt w.heap.size v v' ∧ LkFr w w' F v

theorem lk_store {w w1 w2 : World} {F : Nat} {v v' : Value} {L L' : List (List UInt8)} (h : LkAt w F v L) (hw : Below w.heap.size w w1) (hg : w1.grownBy w2 v.ownBlock) (ho : w2.ownsRow (F + 1) 9 1 v' L'.length (strV L')) (hs : v'.ownBlock = v.ownBlock ∨ v'.ownBlock = some w1.heap.size) :
    LkPost w F v L' (.returned (.tuple #[])) (w2.setCell ⟨F, 0, none⟩ v') := by
  have hF := h.lt
  have hvF : v.ownBlock ≠ some F := fun e => by have := (h.2.lt F e).1; omega
  have hvF' : v'.ownBlock ≠ some F := fun e => by have := (ho.lt F e).1; omega
  have hb2 : w2.heap[F]? = some (.cells #[v] 29 (0, 0)) := by
    rw [hg.block F (Nat.lt_of_lt_of_le hF hw.size) (fun e => hvF e.symm), hw.block F hF, h.1]
  refine ⟨rfl, v', ⟨?_, ?_⟩, ?_, ?_⟩
  · simp [World.setCell, Array.getElem?_modify, hb2]
  · refine ho.kept (row := some F) ⟨rfl, rfl, rfl, by simp [World.setCell], fun k hk hne => ?_⟩ (.inr fun e => hvF' e)
    have : ¬ F = k := fun e => hne (by rw [e])
    simp [World.setCell, Array.getElem?_modify, this]
  · rcases hs with hs | hs
    · exact .inl hs
    · exact .inr fun k hk => by rw [hs] at hk; injection hk with hk; have := hw.size; omega
  · refine ⟨hg.os.trans hw.os, hg.tape.trans hw.tape, hg.output.trans hw.output, ?_, fun k hk hkF hv => ?_⟩
    · have h1 := hw.size
      have h2 := hg.size
      simp [World.setCell]; omega
    · have : ¬ F = k := fun e => hkF e.symm
      have e1 : (w2.setCell ⟨F, 0, none⟩ v').heap[k]? = w2.heap[k]? := by simp [World.setCell, Array.getElem?_modify, this]
      rw [e1, hg.block k (Nat.lt_of_lt_of_le hk hw.size) (fun e => hv e.symm), hw.block k hk]

theorem lk_mid {w w1 w2 : World} {F : Nat} {v : Value} {L : List (List UInt8)} (h : LkAt w F v L) (hw : Below w.heap.size w w1) (hg : w1.grownBy w2 v.ownBlock) : w2.cell? ⟨F, 0, none⟩ = some v ∧ w2.frozen? ⟨F, 0, none⟩ = false := by
  have hF := h.lt
  have hvF : v.ownBlock ≠ some F := fun e => by have := (h.2.lt F e).1; omega
  have hb2 : w2.heap[F]? = some (.cells #[v] 29 (0, 0)) := by
    rw [hg.block F (Nat.lt_of_lt_of_le hF hw.size) (fun e => hvF e.symm), hw.block F hF, h.1]
  simp [World.cell?, World.frozen?, hb2]

theorem blk2 {W : World} {g : Nat} {t : TypeId} {fz : Nat × Nat} {a0 a1 : Value} (h : W.heap[g]? = some (.cells #[a0, a1] t fz)) :
    W.cell? ⟨g, 0, none⟩ = some a0 ∧ W.cell? ⟨g, 1, none⟩ = some a1 := by
  simp [World.cell?, h]

set_option maxRecDepth 100000 in
set_option maxHeartbeats 800000 in
theorem spLook_leaf (F : Nat) (u : List UInt8) (L : List (List UInt8)) (hL : L.length + 1 ≤ 1000000) (w : World) (v : Value) (hF : LkAt w F v L) :
    Calls Tryz.prog 34 #[bv ⟨0, 0⟩, .string (ofL u), .pointer (some ⟨F, 0, none⟩)] w (LkPost w F v (L ++ [u])) := by
  obtain ⟨i0, hi, iz0, iz1, iz2⟩ := info_parts srInfo
  have hzF := hF.lt
  have HFA := Lib.hid hF
  have hB : Below w.heap.size w (w.alloc (.cells #[.int .i64 0, .int .i64 0] 26)) := Below.alloc (Below.refl _ _) (Nat.le_refl _) _
  have hFw := hF.below hB
  obtain ⟨f0, f1⟩ := hFw.cells
  obtain ⟨U, hU⟩ : ∃ U, ofL u = U := ⟨_, rfl⟩
  have HU := Lib.hid hU
  rw [hU]
  have HO := Lib.hid (hFw.2.alloc (.cells #[.string U] 9))
  have hnews := cell_one_new (w.alloc (.cells #[.int .i64 0, .int .i64 0] 26)) (.string U) 9
  have HB2 := Lib.hid (hB.alloc hB.size (.cells #[.string U] 9))
  have e1 : (w.alloc (.cells #[.int .i64 0, .int .i64 0] 26)).heap.size = w.heap.size + 1 := by simp
  rw [e1] at hnews
  clear hF hFw hB hU e1
  go_enter Tryz.func34, Tryz.ntmps34
  go_wp2_with (at_builtin; refine wpList_append_own_at _ rfl _ _ 29 rfl (F + 1) 9 i0 (.string ByteArray.empty) 1 16 Tryz.underlying29 hi iz0 iz1 iz2 rfl (by decide) v _ _ rfl HO.out ⟨w.heap.size + 1, 0, none⟩ 1 1 [.string U] rfl rfl hnews (by intro u hu; simp at hu; subst hu; rfl) (by unfold maxLen; omega) (by omega) (by simp; omega) ?_; intro v' w2 hown' hgrow hnil hloc; obtain ⟨av', cv', rfl⟩ := own_formC hown'; obtain ⟨k1, k2⟩ := lk_mid HFA.out HB2.out hgrow)
  have HP := Lib.hid (lk_store (L' := L ++ [u]) HFA.out HB2.out hgrow (by rw [strV_append, List.length_append]; simp only [strV, List.map_cons, List.map_nil, HU.out]; exact hown') (hloc.imp id fun h => by rw [h]))
  go_returns
  exact HP.out

theorem lk_concat (u : List UInt8) (c : UInt8) (h : u.length ≤ 900000) (w : World) : (Op.stringOp .add (ofL u) ⟨#[c]⟩).run Tryz.prog w = .ok (.string (ofL (u ++ [c]))) w :=
  concat_run (ofL_snoc u c) (by rw [ofL_size]; show _ + 1 ≤ _; omega) w

/-- What the search answers for every box of n pieces. -/
def LkAll (F n : Nat) : Prop := ∀ (s c : Nat), s + c = n → ∀ (u : List UInt8), u.length + n ≤ 1000 → ∀ (L : List (List UInt8)), L.length + 3 ^ n ≤ 1000000 → ∀ (w : World) (v : Value), LkAt w F v L →
  Calls Tryz.prog 34 #[bv ⟨(s : Nat), (c : Nat)⟩, .string (ofL u), .pointer (some ⟨F, 0, none⟩)] w (LkPost w F v (L ++ bxL s c u))

theorem bxL_le (s c : Nat) (u : List UInt8) : (bxL s c u).length ≤ 3 ^ (s + c) := by rw [bxL, List.length_map]; exact bxW_le s c

theorem lk_own_ne {w : World} {F k : Nat} {v : Value} {L : List (List UInt8)} (h : LkAt w F v L) (hk : w.heap.size ≤ k) : k ≠ F ∧ v.ownBlock ≠ some k := ⟨by have := h.lt; omega, fun e => by have := (h.own k e).2; omega⟩

set_option maxRecDepth 100000 in
set_option maxHeartbeats 1600000 in
theorem spLook_S (F s n : Nat) (hn : s + 1 = n + 1) (ih : LkAll F n) (u : List UInt8) (hu : u.length + (n + 1) ≤ 1000) (L : List (List UInt8)) (hL : L.length + 3 ^ (n + 1) ≤ 1000000) (w : World) (v : Value) (hF : LkAt w F v L) :
    Calls Tryz.prog 34 #[bv ⟨((s + 1 : Nat) : Int), 0⟩, .string (ofL u), .pointer (some ⟨F, 0, none⟩)] w (LkPost w F v (L ++ bxL (s + 1) 0 u)) := by
  rw [Nat.pow_succ] at hL
  rw [bxL_S]
  obtain ⟨m, hm⟩ : ∃ m : Nat, s + 1 = m := ⟨_, rfl⟩
  have P0 : ∀ (w : World) (v : Value), LkAt w F v L → Calls Tryz.prog 34 #[bv ⟨(s : Int), 0⟩, .string (ofL (u ++ [83])), .pointer (some ⟨F, 0, none⟩)] w (LkPost w F v (L ++ bxL s 0 (u ++ [83]))) := fun w v h => ih s 0 (by omega) (u ++ [83]) (by rw [List.length_append]; simp; omega) L (by have := Nat.pow_pos (n := n) (show 0 < 3 by decide); omega) w v h
  have P := Lib.hid P0
  clear P0
  have k1 := lk_concat u 83 (by omega)
  generalize bxL s 0 (u ++ [83]) = R at *
  generalize ofL (u ++ [83]) = U at *
  generalize ofL u = V at *
  have e1 : (m : Int) - 1 = (s : Int) := by omega
  have ew1 : wrap64 ((s : Int)) = (s : Int) := IntWalk.wrap64_in _ ⟨by omega, by omega⟩
  have e2 : ¬ (m : Int) = 0 := by omega
  have ew : wrap64 (m : Int) = (m : Int) := IntWalk.wrap64_in _ ⟨by omega, by omega⟩
  have e3 : (0 : Int) < (m : Int) := by omega
  have HF := Lib.hid hF
  rw [hm]
  clear ih hF hu hL hm hn
  go_enter Tryz.func34, Tryz.ntmps34
  go_wp2_with fail
  have hB : Below w.heap.size w (w.alloc (.cells #[.int .i64 (m : Int), .int .i64 0] 26)) := Below.alloc (Below.refl _ _) (Nat.le_refl _) _
  (with_reducible refine Calls.mono (P.out _ v (HF.out.below hB)) ?_)
  rintro e w1 ⟨rfl, v1, hA, hs, hf⟩
  have HP := Lib.hid (show LkPost w F v (L ++ R) (.returned (.tuple #[])) w1 from ⟨rfl, v1, hA, hs.mono hB.size, (LkFr.of_below hB).trans hf (.refl _ _)⟩)
  clear hA hs hf hB
  go_wp2_with fail
  refine ⟨rfl, .tuple #[], by first | rfl | (simp [results, Tryz.results34, go_sem]; done), ?_⟩
  exact HP.out

theorem LkFr.blk {w w' : World} {F k : Nat} {v : Value} {o : Obj} (h : LkFr w w' F v) (hk : w.heap[k]? = some o) (h1 : k ≠ F) (h2 : v.ownBlock ≠ some k) : w'.heap[k]? = some o := (h.block k (Array.getElem?_eq_some_iff.1 hk).1 h1 h2).trans hk

theorem LkSt.ne {m k : Nat} {v v' : Value} (h : LkSt m v v') (hk : k < m) (h2 : v.ownBlock ≠ some k) : v'.ownBlock ≠ some k := fun e => by
  rcases h with h | h
  · exact h2 (h ▸ e)
  · have := h k e; omega

set_option maxRecDepth 100000 in
set_option maxHeartbeats 1600000 in
theorem spLook_C (F c n : Nat) (hn : c + 1 = n + 1) (ih : LkAll F n) (u : List UInt8) (hu : u.length + (n + 1) ≤ 1000) (L : List (List UInt8)) (hL : L.length + 3 ^ (n + 1) ≤ 1000000) (w : World) (v : Value) (hF : LkAt w F v L) :
    Calls Tryz.prog 34 #[bv ⟨0, ((c + 1 : Nat) : Int)⟩, .string (ofL u), .pointer (some ⟨F, 0, none⟩)] w (LkPost w F v (L ++ bxL 0 (c + 1) u)) := by
  rw [Nat.pow_succ] at hL
  rw [bxL_C]
  obtain ⟨m, hm⟩ : ∃ m : Nat, c + 1 = m := ⟨_, rfl⟩
  have hp3 := Nat.pow_pos (n := n) (show 0 < 3 by decide)
  have hl1 := bxL_le 0 c (u ++ [76])
  rw [show 0 + c = n by omega] at hl1
  have P0 : ∀ (w : World) (v : Value), LkAt w F v L → Calls Tryz.prog 34 #[bv ⟨0, (c : Int)⟩, .string (ofL (u ++ [76])), .pointer (some ⟨F, 0, none⟩)] w (LkPost w F v (L ++ bxL 0 c (u ++ [76]))) := fun w v h => ih 0 c (by omega) (u ++ [76]) (by rw [List.length_append]; simp; omega) L (by omega) w v h
  have Q0 : ∀ (w : World) (v : Value), LkAt w F v (L ++ bxL 0 c (u ++ [76])) → Calls Tryz.prog 34 #[bv ⟨0, (c : Int)⟩, .string (ofL (u ++ [82])), .pointer (some ⟨F, 0, none⟩)] w (LkPost w F v (L ++ bxL 0 c (u ++ [76]) ++ bxL 0 c (u ++ [82]))) := fun w v h => ih 0 c (by omega) (u ++ [82]) (by rw [List.length_append]; simp; omega) _ (by rw [List.length_append]; omega) w v h
  have P := Lib.hid P0
  have Q := Lib.hid Q0
  clear P0 Q0 hl1
  have k1 := lk_concat u 76 (by omega)
  have k2 := lk_concat u 82 (by omega)
  rw [← List.append_assoc]
  generalize L ++ bxL 0 c (u ++ [76]) = R1 at *
  generalize R1 ++ bxL 0 c (u ++ [82]) = R2 at *
  generalize ofL (u ++ [76]) = U1 at *
  generalize ofL (u ++ [82]) = U2 at *
  generalize ofL u = V at *
  have e1 : (m : Int) - 1 = (c : Int) := by omega
  have ew1 : wrap64 ((c : Int)) = (c : Int) := IntWalk.wrap64_in _ ⟨by omega, by omega⟩
  have e2 : ¬ (m : Int) = 0 := by omega
  have ew : wrap64 (m : Int) = (m : Int) := IntWalk.wrap64_in _ ⟨by omega, by omega⟩
  have e3 : (0 : Int) < (m : Int) := by omega
  have HF := Lib.hid hF
  rw [hm]
  clear ih hF hu hL hm hn
  go_enter Tryz.func34, Tryz.ntmps34
  go_wp2_with fail
  have hz : (w.alloc (.cells #[.int .i64 0, .int .i64 (m : Int)] 26)).heap.size = w.heap.size + 1 := by simp
  have hB : Below w.heap.size w ((w.alloc (.cells #[.int .i64 0, .int .i64 (m : Int)] 26)).alloc (.cells #[.int .i64 0, .int .i64 (c : Int)] 26)) := (Below.alloc (Below.refl _ _) (Nat.le_refl _) _).alloc (by simp) _
  have b0 : ((w.alloc (.cells #[.int .i64 0, .int .i64 (m : Int)] 26)).alloc (.cells #[.int .i64 0, .int .i64 (c : Int)] 26)).heap[w.heap.size]? = some (.cells #[.int .i64 0, .int .i64 (m : Int)] 26 (0, 0)) := (Below.heap_alloc _ _ _ (by simp)).trans (heap_alloc_new _ _)
  have b1 : ((w.alloc (.cells #[.int .i64 0, .int .i64 (m : Int)] 26)).alloc (.cells #[.int .i64 0, .int .i64 (c : Int)] 26)).heap[w.heap.size + 1]? = some (.cells #[.int .i64 0, .int .i64 (c : Int)] 26 (0, 0)) := by rw [← hz]; exact heap_alloc_new _ _
  have hA0 := HF.out.below hB
  obtain ⟨n0, n0'⟩ := lk_own_ne HF.out (Nat.le_refl w.heap.size)
  obtain ⟨n1, n1'⟩ := lk_own_ne HF.out (Nat.le_succ w.heap.size)
  (with_reducible refine Calls.mono (P.out _ v hA0) ?_)
  rintro e w1 ⟨rfl, v1, hA1, hs1, hf1⟩
  have hz1 := hf1.size
  simp only [World.size_alloc] at hz1
  have d0 := hf1.blk b0 n0 n0'
  have d1 := hf1.blk b1 n1 n1'
  obtain ⟨c0, c1⟩ := blk2 d0
  obtain ⟨c2, c3⟩ := blk2 d1
  have HS1 := Lib.hid (hs1.mono hB.size)
  have HS1' := Lib.hid (And.intro (hs1.ne (k := w.heap.size) (by simp; omega) n0') (hs1.ne (k := w.heap.size + 1) (by simp) n1'))
  have HF1 := Lib.hid ((LkFr.of_below (F := F) (v := v) hB).trans hf1 (.refl _ _))
  have HA1 := Lib.hid hA1
  have HD := Lib.hid (And.intro d0 d1)
  have HN := Lib.hid (And.intro n0 n1)
  clear hA0 hA1 hs1 hf1 d0 d1 b0 b1 hB hz n0 n1 n0' n1'
  go_wp2_with fail
  (with_reducible refine Calls.mono (Q.out _ v1 HA1.out) ?_)
  rintro e w2 ⟨rfl, v2, hA2, hs2, hf2⟩
  have e0 := hf2.blk HD.out.1 HN.out.1 HS1'.out.1
  obtain ⟨g0, g1⟩ := blk2 e0
  have HP := Lib.hid (show LkPost w F v R2 (.returned (.tuple #[])) w2 from ⟨rfl, v2, hA2, HS1.out.trans hs2 (by omega), HF1.out.trans hf2 HS1.out⟩)
  clear hA2 hs2 hf2 e0 c0 c1 c2 c3
  go_wp2_with fail
  refine ⟨rfl, .tuple #[], by first | rfl | (simp [results, Tryz.results34, go_sem]; done), ?_⟩
  exact HP.out

set_option maxRecDepth 100000 in
set_option maxHeartbeats 1600000 in
theorem spLook_B (F s c n : Nat) (hn : (s + 1) + (c + 1) = n + 1) (ih : LkAll F n) (u : List UInt8) (hu : u.length + (n + 1) ≤ 1000) (L : List (List UInt8)) (hL : L.length + 3 ^ (n + 1) ≤ 1000000) (w : World) (v : Value) (hF : LkAt w F v L) :
    Calls Tryz.prog 34 #[bv ⟨((s + 1 : Nat) : Int), ((c + 1 : Nat) : Int)⟩, .string (ofL u), .pointer (some ⟨F, 0, none⟩)] w (LkPost w F v (L ++ bxL (s + 1) (c + 1) u)) := by
  rw [Nat.pow_succ] at hL
  rw [bxL_B]
  obtain ⟨m, hm⟩ : ∃ m : Nat, c + 1 = m := ⟨_, rfl⟩
  obtain ⟨q, hq⟩ : ∃ q : Nat, s + 1 = q := ⟨_, rfl⟩
  have hp3 := Nat.pow_pos (n := n) (show 0 < 3 by decide)
  have hl1 := bxL_le (s + 1) c (u ++ [76])
  rw [show s + 1 + c = n by omega] at hl1
  have hl2 := bxL_le (s + 1) c (u ++ [82])
  rw [show s + 1 + c = n by omega] at hl2
  have P0 : ∀ (w : World) (v : Value), LkAt w F v L → Calls Tryz.prog 34 #[bv ⟨(q : Int), (c : Int)⟩, .string (ofL (u ++ [76])), .pointer (some ⟨F, 0, none⟩)] w (LkPost w F v (L ++ bxL (s + 1) c (u ++ [76]))) := fun w v h => by
    rw [← hq]
    exact ih (s + 1) c (by omega) (u ++ [76]) (by rw [List.length_append]; simp; omega) L (by omega) w v h
  have Q0 : ∀ (w : World) (v : Value), LkAt w F v (L ++ bxL (s + 1) c (u ++ [76])) → Calls Tryz.prog 34 #[bv ⟨(q : Int), (c : Int)⟩, .string (ofL (u ++ [82])), .pointer (some ⟨F, 0, none⟩)] w (LkPost w F v (L ++ bxL (s + 1) c (u ++ [76]) ++ bxL (s + 1) c (u ++ [82]))) := fun w v h => by
    rw [← hq]
    exact ih (s + 1) c (by omega) (u ++ [82]) (by rw [List.length_append]; simp; omega) _ (by rw [List.length_append]; omega) w v h
  have S0 : ∀ (w : World) (v : Value), LkAt w F v (L ++ bxL (s + 1) c (u ++ [76]) ++ bxL (s + 1) c (u ++ [82])) → Calls Tryz.prog 34 #[bv ⟨(s : Int), (m : Int)⟩, .string (ofL (u ++ [83])), .pointer (some ⟨F, 0, none⟩)] w (LkPost w F v (L ++ bxL (s + 1) c (u ++ [76]) ++ bxL (s + 1) c (u ++ [82]) ++ bxL s (c + 1) (u ++ [83]))) := fun w v h => by
    rw [← hm]
    exact ih s (c + 1) (by omega) (u ++ [83]) (by rw [List.length_append]; simp; omega) _ (by rw [List.length_append, List.length_append]; omega) w v h
  have S := Lib.hid S0
  have P := Lib.hid P0
  have Q := Lib.hid Q0
  clear P0 Q0 S0 hl1 hl2 hL hp3
  have k1 := lk_concat u 76 (by omega)
  have k2 := lk_concat u 82 (by omega)
  have k3 := lk_concat u 83 (by omega)
  rw [← List.append_assoc, ← List.append_assoc]
  generalize L ++ bxL (s + 1) c (u ++ [76]) = R1 at *
  generalize R1 ++ bxL (s + 1) c (u ++ [82]) = R2 at *
  generalize R2 ++ bxL s (c + 1) (u ++ [83]) = R3 at *
  rw [hm, hq]
  generalize ofL (u ++ [83]) = U3 at *
  generalize ofL (u ++ [76]) = U1 at *
  generalize ofL (u ++ [82]) = U2 at *
  generalize ofL u = V at *
  have e1 : (m : Int) - 1 = (c : Int) := by omega
  have f1 : (q : Int) - 1 = (s : Int) := by omega
  have fw1 : wrap64 ((s : Int)) = (s : Int) := IntWalk.wrap64_in _ ⟨by omega, by omega⟩
  have ew1 : wrap64 ((c : Int)) = (c : Int) := IntWalk.wrap64_in _ ⟨by omega, by omega⟩
  have e2 : ¬ (q : Int) + (m : Int) = 0 := by omega
  have ew : wrap64 ((q : Int) + (m : Int)) = (q : Int) + (m : Int) := IntWalk.wrap64_in _ ⟨by omega, by omega⟩
  have f3 : (0 : Int) < (q : Int) := by omega
  have e3 : (0 : Int) < (m : Int) := by omega
  have HF := Lib.hid hF
  clear ih hF hu hn
  go_enter Tryz.func34, Tryz.ntmps34
  go_wp2_with fail
  have hz : (w.alloc (.cells #[.int .i64 (q : Int), .int .i64 (m : Int)] 26)).heap.size = w.heap.size + 1 := by simp
  have hB : Below w.heap.size w ((w.alloc (.cells #[.int .i64 (q : Int), .int .i64 (m : Int)] 26)).alloc (.cells #[.int .i64 (q : Int), .int .i64 (c : Int)] 26)) := (Below.alloc (Below.refl _ _) (Nat.le_refl _) _).alloc (by simp) _
  have b0 : ((w.alloc (.cells #[.int .i64 (q : Int), .int .i64 (m : Int)] 26)).alloc (.cells #[.int .i64 (q : Int), .int .i64 (c : Int)] 26)).heap[w.heap.size]? = some (.cells #[.int .i64 (q : Int), .int .i64 (m : Int)] 26 (0, 0)) := (Below.heap_alloc _ _ _ (by simp)).trans (heap_alloc_new _ _)
  have b1 : ((w.alloc (.cells #[.int .i64 (q : Int), .int .i64 (m : Int)] 26)).alloc (.cells #[.int .i64 (q : Int), .int .i64 (c : Int)] 26)).heap[w.heap.size + 1]? = some (.cells #[.int .i64 (q : Int), .int .i64 (c : Int)] 26 (0, 0)) := by rw [← hz]; exact heap_alloc_new _ _
  have hA0 := HF.out.below hB
  obtain ⟨n0, n0'⟩ := lk_own_ne HF.out (Nat.le_refl w.heap.size)
  obtain ⟨n1, n1'⟩ := lk_own_ne HF.out (Nat.le_succ w.heap.size)
  (with_reducible refine Calls.mono (P.out _ v hA0) ?_)
  rintro e w1 ⟨rfl, v1, hA1, hs1, hf1⟩
  have hz1 := hf1.size
  simp only [World.size_alloc] at hz1
  have d0 := hf1.blk b0 n0 n0'
  have d1 := hf1.blk b1 n1 n1'
  obtain ⟨c0, c1⟩ := blk2 d0
  obtain ⟨c2, c3⟩ := blk2 d1
  have HS1 := Lib.hid (hs1.mono hB.size)
  have HS1' := Lib.hid (And.intro (hs1.ne (k := w.heap.size) (by simp; omega) n0') (hs1.ne (k := w.heap.size + 1) (by simp) n1'))
  have HF1 := Lib.hid ((LkFr.of_below (F := F) (v := v) hB).trans hf1 (.refl _ _))
  have HA1 := Lib.hid hA1
  have HD := Lib.hid (And.intro d0 d1)
  have HN := Lib.hid (And.intro n0 n1)
  clear hA0 hA1 hs1 hf1 d0 d1 b0 b1 hB hz n0 n1 n0' n1'
  go_wp2_with fail
  (with_reducible refine Calls.mono (Q.out _ v1 HA1.out) ?_)
  rintro e w2 ⟨rfl, v2, hA2, hs2, hf2⟩
  have e0 := hf2.blk HD.out.1 HN.out.1 HS1'.out.1
  obtain ⟨g0, g1⟩ := blk2 e0
  have HS2 := Lib.hid (HS1.out.trans hs2 (by omega))
  have HF2 := Lib.hid (HF1.out.trans hf2 HS1.out)
  have HA2 := Lib.hid hA2
  clear hA2 hs2 hf2 e0 c0 c1 c2 c3
  go_wp2_with fail
  (with_reducible refine Calls.mono (S.out _ v2 HA2.out) ?_)
  rintro e w3 ⟨rfl, v3, hA3, hs3, hf3⟩
  have hz3 := HF2.out.size
  have HP := Lib.hid (show LkPost w F v R3 (.returned (.tuple #[])) w3 from ⟨rfl, v3, hA3, HS2.out.trans hs3 (by omega), HF2.out.trans hf3 HS2.out⟩)
  clear hA3 hs3 hf3 g0 g1
  go_wp2_with fail
  refine ⟨rfl, .tuple #[], by first | rfl | (simp [results, Tryz.results34, go_sem]; done), ?_⟩
  exact HP.out

theorem spLook_all (F : Nat) : ∀ n, LkAll F n
  | 0 => fun s c h u hu L hL w v hA => by
    obtain rfl : s = 0 := by omega
    obtain rfl : c = 0 := by omega
    rw [bxL_zero]
    exact spLook_leaf F u L (by omega) w v hA
  | n + 1 => fun s c h u hu L hL w v hA => by
    have ih := spLook_all F n
    match s, c, h with
    | 0, c + 1, h => exact spLook_C F c n (by omega) ih u hu L hL w v hA
    | s + 1, 0, h => exact spLook_S F s n (by omega) ih u hu L hL w v hA
    | s + 1, c + 1, h => exact spLook_B F s c n (by omega) ih u hu L hL w v hA

def AllPost (s c : Nat) (w : World) (e : Ending) (w' : World) : Prop :=
  ∃ v, e = .returned v ∧ w'.ownsRow w.heap.size 9 1 v (bxW s c).length (strV (bxW s c)) ∧ Below w.heap.size w w'

set_option maxRecDepth 100000 in
theorem spAll_any (s c : Nat) (h : s + c ≤ 12) (w : World) : Calls Tryz.prog 17 #[bv ⟨(s : Int), (c : Int)⟩] w (AllPost s c w) := by
  have hb : ∀ w0 : World, LkAt (w0.alloc (.cells #[.slice none 0 0] 29)) w0.heap.size (.slice none 0 0) [] := fun w0 => ⟨heap_alloc_new _ _, World.ownsRow_nil _ _ _ _⟩
  have P0 : ∀ (w : World) (F : Nat) (v : Value), LkAt w F v [] → Calls Tryz.prog 34 #[bv ⟨(s : Int), (c : Int)⟩, .string ⟨#[]⟩, .pointer (some ⟨F, 0, none⟩)] w (LkPost w F v (bxW s c)) := fun w F v hA => by
    have := spLook_all F (s + c) s c rfl [] (by simp; omega) [] (by have := Nat.pow_le_pow_right (show 0 < 3 by decide) h; simp; omega) w v hA
    rw [bxW_nil, List.nil_append] at this
    exact this
  have P := Lib.hid P0
  have HB := Lib.hid hb
  clear P0 hb
  unfold AllPost
  generalize bxW s c = R at *
  go_enter Tryz.func17, Tryz.ntmps17
  go_wp2_with fail
  have hA := HB.out (w.alloc (.cells #[.int .i64 (s : Int), .int .i64 (c : Int)] 26))
  have hz : (w.alloc (.cells #[.int .i64 (s : Int), .int .i64 (c : Int)] 26)).heap.size = w.heap.size + 1 := by simp
  rw [hz] at hA
  (with_reducible refine Calls.mono (P.out _ _ _ hA) ?_)
  rintro e w1 ⟨rfl, v1, hA1, hs1, hf1⟩
  obtain ⟨c0, c1⟩ := hA1.cells
  have hBB : Below w.heap.size w ((w.alloc (.cells #[.int .i64 (s : Int), .int .i64 (c : Int)] 26)).alloc (.cells #[.slice none 0 0] 29)) := (Below.alloc (Below.refl _ _) (Nat.le_refl _) _).alloc (by simp) _
  have HBB := Lib.hid (hBB.trans (hf1.below (by omega) (fun k hk => by cases hk) hBB.size))
  have HO := Lib.hid (own_lessP hA1.2 (show w.heap.size ≤ w.heap.size + 1 + 1 by omega))
  obtain ⟨av, cv, rfl⟩ := own_formC hA1.2
  clear hA hA1 hs1 hf1 hBB
  go_wp2_with fail
  go_ret
  exact ⟨_, rfl, HO.out, HBB.out⟩

end Go.Proofs.YtkmgcmgnaeamaaaGreatDoor
