/- Contract: ParsePoint of the model. -/
import Derived.Test.YtamojnbhnbeecaaDoorPpM
import Derived.Test.YtamojnbhnbeecaaDoorRdA
import Derived.Test.YtamojnbhnbeecaaDoorLsA
import Derived.Test.YtamojnbhnbeecaaDoorPt3
import Derived.Test.YtamojnbhnbeecaaDoorKit
import Derived.Test.YtamojnbhnbeecaaDoorCl
namespace Go.Proofs.YtamojnbhnbeecaaDoor
open Go.ChangeShapes Go.WideShapes Go.ChangeAt Go.RowKit

set_option linter.unusedVariables false

def q0 (q : Option Q4) : Int := match q with | some q => q.1 | none => 0
def q1 (q : Option Q4) : Int := match q with | some q => q.2.1 | none => 0
def q2 (q : Option Q4) : Int := match q with | some q => q.2.2.1 | none => 0
def q3 (q : Option Q4) : Int := match q with | some q => q.2.2.2 | none => 0
theorem ret_pp {s : ByteArray} {q : Option Q4} {a b c d : Int} {g : Bool} (h : ppP s = q) (h0 : q0 q = a) (h1 : q1 q = b) (h2 : q2 q = c) (h3 : q3 q = d) (hg : q.isSome = g) : Ending.returned (.tuple #[.agg #[.int .i64 a, .int .i64 b, .int .i64 c, .int .i64 d], .bool g]) = Ending.returned (.tuple #[.agg #[.int .i64 (q0 (ppP s)), .int .i64 (q1 (ppP s)), .int .i64 (q2 (ppP s)), .int .i64 (q3 (ppP s))], .bool (ppP s).isSome]) := by
  subst h0 h1 h2 h3 hg
  rw [h]

theorem nmInf : (Tryd.prog.info? 3).map (fun i => (i.zero, i.size, i.bytes)) = some (some (.int .i64 0), 1, 8) := by kernel_rfl
def numC (xs : List Int) : List Value := xs.map fun n => Value.int .i64 n
theorem numC_append (xs ys : List Int) : numC (xs ++ ys) = numC xs ++ numC ys := by simp [numC]
theorem own_cellL {W : World} {B : Nat} {e : TypeId} {g n cap : Nat} {xs : List Value} {j : Nat} {v : Value} (h : W.ownsRow B e 1 (.slice (some ⟨g, 0, none⟩) n cap) n xs) (hx : xs[j]? = some v) : W.cell? ⟨g, j, none⟩ = some v := by
  have h2 := h.cells (g := g) rfl j v hx
  have ha : ((⟨g, 0, none⟩ : Addr).add j) = ⟨g, j, none⟩ := by by_cases e : j = 0 <;> simp [Addr.add, e]
  rw [ha] at h2
  exact h2

theorem ownBelow {W W' : World} {B : Nat} {e : TypeId} {size n : Nat} {v : Value} {xs : List Value} (h : W.ownsRow B e size v n xs) (hb : Below W.heap.size W W') : W'.ownsRow B e size v n xs :=
  h.kept (row := none) ⟨hb.os, hb.tape, hb.output, hb.size, fun k hk _ => hb.block k hk⟩ (Classical.em _)
def mmQ (ws : List (List UInt8)) : Option Q4 := match ws with
  | [x0, x1, x2, x3] => if piB x0 = true ∧ piB x1 = true ∧ piB x2 = true ∧ piB x3 = true then some (piV x0, piV x1, piV x2, piV x3) else none
  | _ => none
theorem pp_mm {s : ByteArray} (h : ¬ 40 < s.size) : ppP s = mmQ (lsp 44 s.data.toList) := by
  rw [pp_eq, ppM, if_neg h]
  rfl
theorem mm_len {ws : List (List UInt8)} (h : ws.length ≠ 4) : mmQ ws = none := by
  unfold mmQ
  split
  · simp at h
  · rfl
theorem mm_bad {ws : List (List UInt8)} {k : Nat} {x : List UInt8} (h : ws[k]? = some x) (hb : piB x = false) : mmQ ws = none := by
  have hm := List.mem_of_getElem? h
  unfold mmQ
  split
  · rw [if_neg]
    rintro ⟨h0, h1, h2, h3⟩
    simp only [List.mem_cons, List.mem_nil_iff, or_false] at hm
    rcases hm with rfl | rfl | rfl | rfl
    · rw [hb] at h0; cases h0
    · rw [hb] at h1; cases h1
    · rw [hb] at h2; cases h2
    · rw [hb] at h3; cases h3
  · rfl
theorem mm_good {x0 x1 x2 x3 : List UInt8} (h : ∀ x ∈ [x0, x1, x2, x3], piB x = true) : mmQ [x0, x1, x2, x3] = some (piV x0, piV x1, piV x2, piV x3) := by
  unfold mmQ
  exact if_pos ⟨h x0 (by simp), h x1 (by simp), h x2 (by simp), h x3 (by simp)⟩

set_option maxRecDepth 100000 in
set_option maxHeartbeats 1600000 in
theorem spParsePoint (s : ByteArray) (hs : s.size ≤ 1048576) (w : World) :
    Calls Tryd.prog 8 #[.string s] w fun e w' => e = .returned (.tuple #[.agg #[.int .i64 (q0 (ppP s)), .int .i64 (q1 (ppP s)), .int .i64 (q2 (ppP s)), .int .i64 (q3 (ppP s))], .bool (ppP s).isSome]) ∧ Below w.heap.size w w' := by
  by_cases h40 : 40 < s.size
  · have HR := Lib.hid (show ppP s = none by rw [pp_eq]; simp [ppM, h40])
    go_enter Tryd.func8, Tryd.ntmps8
    go_wp2_with fail
    refine bodyPost_ret (by simp [results, Tryd.results8, go_sem, *]; try rfl) rfl ?_
    exact ⟨ret_pp HR.out rfl rfl rfl rfl rfl, by go_grown⟩
  · obtain ⟨i0, hi, iz0, iz1, iz2⟩ := infoP nmInf
    obtain ⟨ws, hws⟩ : ∃ ws, lsp 44 s.data.toList = ws := ⟨_, rfl⟩
    have hsm : ∀ x ∈ ws, x.length ≤ 1048576 := fun x hx => by
      have := (lsp_mem 44 s.data.toList x (by rw [hws]; exact hx)).2
      rw [size_list] at this
      omega
    have hwl : ws.length ≤ 41 := by
      have := lsp_len 44 s.data.toList
      rw [hws, size_list] at this
      omega
    have SP := l1Split_any s 44 hs
    have HM := Lib.hid (show ppP s = mmQ ws by rw [pp_mm h40, hws])
    rw [hws] at SP
    have SP := Lib.hid SP
    have h40' : ¬ (40 : Int) < (s.size : Int) := by omega
    have HSM := Lib.hid hsm
    clear hws hsm
    obtain ⟨n, hn⟩ : ∃ n, ws.length = n := ⟨_, rfl⟩
    have HN := Lib.hid hn
    rw [hn] at hwl
    clear hn
    go_enter Tryd.func8, Tryd.ntmps8
    go_wp2_with (go_at_call 16; refine (SP.out _).mono ?_; rintro e wA ⟨g, cap, he, hO, hA⟩; rw [HN.out] at he hO; subst he; have HBA := Lib.hid (show Below w.heap.size w wA from ba (by go_grown) hA); obtain ⟨hcA, hfA⟩ := bcell hA; have hqA := hA.size; (try simp at hqA); have hzA : w.heap.size < wA.heap.size := (by omega); have hgl := (hO.lt g rfl).2; have HOA := Lib.hid hO; clear hO hA)
    go_loopw [4, 16] (fun v4 v16 wr => ∃ k : Nat, k ≤ n ∧ v16 = .int .i64 (k : Int) ∧ (∀ x ∈ ws.take k, piB x = true) ∧ wr.ownsRow wA.heap.size 3 1 v4 k (numC ((ws.take k).map piV)) ∧ Below wA.heap.size wA wr) (fun _ v16 _ => n - (intOf v16).toNat)
    case atStart => exact ⟨0, Nat.zero_le _, rfl, by simp, World.ownsRow_nil _ _ _ _, Below.refl _ _⟩
    case round =>
      obtain ⟨k, hk, rfl, hP, hO, hb⟩ := hrel
      have HP := Lib.hid hP
      have HO := Lib.hid hO
      have hz : wA.heap.size ≤ wr.heap.size := hb.size
      have HB := Lib.hid hb
      have hBW : Below w.heap.size w wr := HBA.out.trans (hb.mono (by omega))
      have hzr : w.heap.size < wr.heap.size := by omega
      obtain ⟨hcr, hfr⟩ := bcell hb
      have k0 : (0 : Int) ≤ (k : Int) := by omega
      clear hP hO hb
      by_cases hlt : k < n
      · obtain ⟨x, hx⟩ : ∃ x, ws[k]? = some x := ⟨_, List.getElem?_eq_getElem (by rw [HN.out]; exact hlt)⟩
        have hxl : (ofL x).size ≤ 1048576 := by rw [ofL_size]; exact HSM.out x (List.mem_of_getElem? hx)
        have hcell : wA.cell? ⟨g, k, none⟩ = some (.string (ofL x)) := own_cellL HOA.out (by simp [strC, hx])
        have PI := ptInt_any (ofL x) hxl
        rw [show (ofL x).data.toList = x by simp [ofL]] at PI
        have HX := Lib.hid hx
        obtain ⟨X, hX⟩ : ∃ X, ofL x = X := ⟨_, rfl⟩
        rw [hX] at PI hcell
        have k1 : (k : Int) < (n : Int) := by omega
        cases hpb : piB x
        · rw [hpb] at PI
          have PI := Lib.hid PI
          have HR := Lib.hid (show ppP s = none by rw [HM.out]; exact mm_bad hx hpb)
          clear hx hX hpb hxl
          go_wp2_with (first | (go_at_call 17; (with_reducible refine (PI.out _).mono ?_); rintro e wB ⟨rfl, h1⟩; (try with_reducible replace h1 := undrew h1); have hB : Below w.heap.size w wB := ba (by go_grown) h1; obtain ⟨hcwB, hfwB⟩ := bcell h1; have hqwB := h1.size; (try simp at hqwB); (try have hz0wB : w.heap.size < wB.heap.size := (by omega)); (try have he0wB : w.heap.size ≤ wB.heap.size := (by omega)); (try have hz1wB : wA.heap.size < wB.heap.size := (by omega)); (try have he1wB : wA.heap.size ≤ wB.heap.size := (by omega)); (try have hz2wB : wr.heap.size < wB.heap.size := (by omega)); (try have he2wB : wr.heap.size ≤ wB.heap.size := (by omega))))
          refine bodyPost_ret (by simp [results, Tryd.results8, go_sem, *]; try rfl) rfl ?_
          exact ⟨ret_pp HR.out rfl rfl rfl rfl rfl, by go_grown⟩
        · rw [hpb] at PI
          have PI := Lib.hid PI
          have HS := Lib.hid (show (∀ y ∈ ws.take (k + 1), piB y = true) ∧ numC ((ws.take (k + 1)).map piV) = numC ((ws.take k).map piV) ++ [.int .i64 (piV x)] by
            have e1 : ws.take (k + 1) = ws.take k ++ [x] := by rw [List.take_add_one, hx]; rfl
            refine ⟨?_, by rw [e1, List.map_append, numC_append]; rfl⟩
            intro y hy
            rw [e1] at hy
            rcases List.mem_append.1 hy with hy | hy
            · exact HP.out y hy
            · rw [List.mem_singleton.1 hy]; exact hpb)
          clear hx hX hpb hxl
          have w5 : IntKind.i64.wrap ((k : Int) + 1) = ((k + 1 : Nat) : Int) := by rw [IntKind.wrap_i64]; omega
          go_wp2_with (first | (go_at_call 17; (with_reducible refine (PI.out _).mono ?_); rintro e wB ⟨rfl, h1⟩; (try with_reducible replace h1 := undrew h1); have hB : Below w.heap.size w wB := ba (by go_grown) h1; obtain ⟨hcwB, hfwB⟩ := bcell h1; have hqwB := h1.size; (try simp at hqwB); (try have hz0wB : w.heap.size < wB.heap.size := (by omega)); (try have he0wB : w.heap.size ≤ wB.heap.size := (by omega)); (try have hz1wB : wA.heap.size < wB.heap.size := (by omega)); (try have he1wB : wA.heap.size ≤ wB.heap.size := (by omega)); (try have hz2wB : wr.heap.size < wB.heap.size := (by omega)); (try have he2wB : wr.heap.size ≤ wB.heap.size := (by omega)); have HOB := Lib.hid (ownBelow HO.out h1); have HBB := Lib.hid (HB.out.trans (h1.mono hz)); have hzB : wA.heap.size ≤ wB.heap.size := (by omega)) | (at_builtin; refine wpList_append_own _ rfl _ _ 38 rfl wA.heap.size 3 i0 (.int .i64 0) 1 8 Tryd.underlying38 hi iz0 iz1 iz2 rfl (by decide) _ _ _ rfl (HOB.out.alloc _) ⟨wB.heap.size, 0, none⟩ 1 1 [.int .i64 (piV x)] rfl rfl (newcL rfl) (by intro u hu; simp at hu; subst hu; rfl) (by unfold maxLen; omega) (by omega) (by simp; omega) ?_))
          intro v' w3 hJ3 hg3 _
          have HO3 := Lib.hid hJ3
          have HB3 := Lib.hid ((HBB.out.alloc hzB (.cells #[.int .i64 (piV x)] 3)).grown hg3 (by simp; omega) (fun k hk => (HOB.out.lt k hk).1))
          clear hJ3 hg3
          go_wp2_with fail
          exact ⟨⟨k + 1, by omega, by go_num, HS.out.1, by rw [HS.out.2, List.map_take]; exact HO3.out, HB3.out⟩, by simp [intOf]; omega⟩
      · obtain rfl : k = n := by omega
        have k1 : ¬ (k : Int) < (k : Int) := by omega
        have e1 : ws.take k = ws := List.take_of_length_le (by rw [HN.out]; exact Nat.le_refl _)
        have HP2 := Lib.hid (show ∀ x ∈ ws, piB x = true by have := HP.out; rw [e1] at this; exact this)
        have hO2 : wr.ownsRow wA.heap.size 3 1 u4 k (numC (ws.map piV)) := by have := HO.out; rw [e1] at this; exact this
        by_cases h4 : k = 4
        · subst h4
          obtain ⟨x0, x1, x2, x3, rfl⟩ : ∃ x0 x1 x2 x3, ws = [x0, x1, x2, x3] := by
            have := HN.out
            match ws, this with
            | [x0, x1, x2, x3], _ => exact ⟨x0, x1, x2, x3, rfl⟩
          have HR := HM.out.trans (mm_good HP2.out)
          have hg : goodB (piV x0) (piV x1) (piV x2) (piV x3) = true := by
            have b0 := pi_back2 (HP2.out x0 (by simp))
            have b1 := pi_back2 (HP2.out x1 (by simp))
            have b2 := pi_back2 (HP2.out x2 (by simp))
            have b3 := pi_back2 (HP2.out x3 (by simp))
            simp only [goodB, decide_eq_true_eq]
            omega
          obtain ⟨g4, cap4, hv, hz4⟩ : ∃ g4 cap4, u4 = .slice (some ⟨g4, 0, none⟩) 4 cap4 ∧ wA.heap.size ≤ g4 := by
            rcases hO2.2 with ⟨_, h0⟩ | ⟨g2, cap2, cur, hv, hz, _⟩
            · cases h0
            · exact ⟨_, _, hv, hz⟩
          subst hv
          have hg4 := (hO2.lt g4 rfl).2
          have y0 : wr.cell? ⟨g4, 0, none⟩ = some (.int .i64 (piV x0)) := own_cellL hO2 rfl
          have y1 : wr.cell? ⟨g4, 1, none⟩ = some (.int .i64 (piV x1)) := own_cellL hO2 rfl
          have y2 : wr.cell? ⟨g4, 2, none⟩ = some (.int .i64 (piV x2)) := own_cellL hO2 rfl
          have y3 : wr.cell? ⟨g4, 3, none⟩ = some (.int .i64 (piV x3)) := own_cellL hO2 rfl
          obtain ⟨v0, hv0⟩ : ∃ v, piV x0 = v := ⟨_, rfl⟩
          obtain ⟨v1, hv1⟩ : ∃ v, piV x1 = v := ⟨_, rfl⟩
          obtain ⟨v2, hv2⟩ : ∃ v, piV x2 = v := ⟨_, rfl⟩
          obtain ⟨v3, hv3⟩ : ∃ v, piV x3 = v := ⟨_, rfl⟩
          rw [hv0, hv1, hv2, hv3] at hg HR
          rw [hv0] at y0
          rw [hv1] at y1
          rw [hv2] at y2
          rw [hv3] at y3
          have IF := spIf_any v0 v1 v2 v3
          rw [hg] at IF
          simp only [sel] at IF
          have IF := Lib.hid IF
          have HR := Lib.hid HR
          have HY := Lib.hid (show wr.cell? ⟨g4, 0, none⟩ = some (.int .i64 v0) ∧ wr.cell? ⟨g4, 1, none⟩ = some (.int .i64 v1) ∧ wr.cell? ⟨g4, 2, none⟩ = some (.int .i64 v2) ∧ wr.cell? ⟨g4, 3, none⟩ = some (.int .i64 v3) from ⟨y0, y1, y2, y3⟩)
          clear hO2 e1 hg hv0 hv1 hv2 hv3 y0 y1 y2 y3
          go_wp2_with fail
          have hS0 := HY.out
          go_region_held3 (fun w' => w'.cell? ⟨g4, 0, none⟩ = some (.int .i64 v0) ∧ w'.cell? ⟨g4, 1, none⟩ = some (.int .i64 v1) ∧ w'.cell? ⟨g4, 2, none⟩ = some (.int .i64 v2) ∧ w'.cell? ⟨g4, 3, none⟩ = some (.int .i64 v3))
            (first | (with_reducible assumption) | (with_reducible exact po_drew hS0) | (with_reducible exact po_drew (po_alloc hS0 _)) | (with_reducible exact po_alloc (po_drew hS0) _) | (with_reducible refine po_drew ?_; with_reducible assumption) | (with_reducible refine po_alloc ?_ _; with_reducible assumption) | (with_reducible refine po_re (by with_reducible assumption) ?_ _; (focus first | (with_reducible assumption) | omega | (simp; done) | (simp; omega))) | (with_reducible refine po_below ?_ ?_ h1; (focus first | (with_reducible assumption) | (with_reducible refine po_undrew ?_; with_reducible assumption)); (focus first | (with_reducible assumption) | omega | (simp; done) | (simp; omega))) | ((repeat (with_reducible refine po_set ?_ _ _ ?_; rotate_left 1; (focus first | (with_reducible assumption) | omega | (simp; done) | (simp; omega)))); with_reducible assumption))
            (first | (go_at_call 18; (with_reducible refine (IF.out _).mono ?_); rintro e wB ⟨rfl, h1⟩; (try with_reducible replace h1 := undrew h1); have hB : Below w.heap.size w wB := ba (by go_grown) h1; obtain ⟨hcwB, hfwB⟩ := bcell h1; have hqwB := h1.size; (try simp at hqwB); (try have hz0wB : w.heap.size < wB.heap.size := (by omega)); (try have he0wB : w.heap.size ≤ wB.heap.size := (by omega)); (try have hz1wB : wA.heap.size < wB.heap.size := (by omega)); (try have he1wB : wA.heap.size ≤ wB.heap.size := (by omega)); (try have hz2wB : wr.heap.size < wB.heap.size := (by omega)); (try have he2wB : wr.heap.size ≤ wB.heap.size := (by omega)); (try have hz3wB : g4 < wB.heap.size := (by omega)); (try have he3wB : g4 ≤ wB.heap.size := (by omega))))
          all_goals clear hS0
          all_goals go_wp2_with fail
          all_goals
            refine bodyPost_ret (by simp [results, Tryd.results8, go_sem, *]; try rfl) rfl ?_
            exact ⟨ret_pp HR.out rfl rfl rfl rfl rfl, by go_grown⟩
        · have HR := Lib.hid (show ppP s = none by rw [HM.out]; exact mm_len (by rw [HN.out]; exact h4))
          obtain ⟨ao, cap4, hv⟩ : ∃ ao cap4, u4 = .slice ao k cap4 := by
            rcases hO2.2 with ⟨hv, h0⟩ | ⟨g2, cap2, cur, hv, _⟩
            · exact ⟨_, _, by rw [hv, h0]⟩
            · exact ⟨_, _, hv⟩
          subst hv
          have m4 : ¬ (k : Int) = 4 := by omega
          clear hO2 e1 h4
          go_wp2_with fail
          refine bodyPost_ret (by simp [results, Tryd.results8, go_sem, *]; try rfl) rfl ?_
          exact ⟨ret_pp HR.out rfl rfl rfl rfl rfl, by go_grown⟩

end Go.Proofs.YtamojnbhnbeecaaDoor
