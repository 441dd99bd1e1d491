/- Contract: the model's 'clAll'. -/
import Derived.Test.YtadlkmfgjmcgeaaCg
import Derived.Test.YtadlkmfgjmcgeaaWdN
import Derived.Test.YtadlkmfgjmcgeaaLy
import Derived.Test.YtadlkmfgjmcgeaaSqL
import Derived.Lib.SlBytesConst
namespace Go.Proofs.Ytadlkmfgjmcgeaa
open Go.ChangeShapes Go.WideShapes Go.ChangeAt Go.RowKit

set_option linter.unusedVariables false

theorem one_strC (c : UInt8) (B cap : Nat) (w : World) (h : w.cell? ⟨B, 0, none⟩ = some (.int .u8 ((c.toNat : Nat) : Int))) :
    (convert 78 9 (.slice (some ⟨B, 0, none⟩) 1 cap)).run Try.prog w = .ok (.string (ofL [c])) w := by
  refine run_convert_bytes_back w 78 9 5 ⟨B, 0, none⟩ cap [c] Try.underlying78 Try.underlying5 Try.underlying9 (fun j hj => ?_)
  obtain rfl : j = 0 := by simpa using hj
  have h3 : ((⟨B, 0, none⟩ : Addr).add 0) = ⟨B, 0, none⟩ := by simp [Addr.add]
  rw [h3, h]
  rfl

theorem bytes_at {W : World} {B : Nat} {fz : Nat × Nat} (h : W.heap[B]? = some (.cells #[.int .u8 76, .int .u8 82, .int .u8 83] 5 fz)) {i : Nat} {c : UInt8} (hc : ltr[i]? = some c) : W.cell? ⟨B, i, none⟩ = some (.int .u8 ((c.toNat : Nat) : Int)) := by
  match i, hc with
  | 0, hc => simp [ltr] at hc; subst hc; simp [World.cell?, h]
  | 1, hc => simp [ltr] at hc; subst hc; simp [World.cell?, h]
  | 2, hc => simp [ltr] at hc; subst hc; simp [World.cell?, h]

theorem news_at {W : World} {n : Nat} (hn : W.heap.size = n) (x : Value) (t : TypeId) : ∀ j u, [x][j]? = some u → (W.alloc (.cells #[x] t)).cell? ((⟨n, 0, none⟩ : Addr).add j) = some u := by
  subst hn
  exact cell_one_new W x t
theorem blk4 {W : World} {g : Nat} {t : TypeId} {a0 a1 a2 a3 : Value} (h : W.heap[g]? = some (.cells #[a0, a1, a2, a3] t (0, 0))) :
    W.cell? ⟨g, 0, none⟩ = some a0 ∧ W.cell? ⟨g, 1, none⟩ = some a1 ∧ W.cell? ⟨g, 2, none⟩ = some a2 ∧ W.cell? ⟨g, 3, none⟩ = some a3 := by
  simp [World.cell?, h]

def accA (s : Sp) (n c : Nat) : List (List UInt8) := (ltr.take c).flatMap fun ch => (clsL (s.next ch) n).map fun w => ch :: w
theorem accA_end (s : Sp) (n : Nat) : accA s n 3 = clsL s (n + 1) := by rw [cls_succ]; rfl
theorem accA_next {s : Sp} {n c : Nat} {ch : UInt8} (h : ltr.take (c + 1) = ltr.take c ++ [ch]) : accA s n (c + 1) = accA s n c ++ (clsL (s.next ch) n).map fun w => ch :: w := by
  simp [accA, h, List.flatMap_append]
theorem accA_le (s : Sp) (n : Nat) (c : Nat) (hc : c ≤ 3) : (accA s n c).length ≤ 3 * 3 ^ n := by
  match c, hc with
  | 0, _ => simp [accA]
  | 1, _ => have := cls_len (s.next 76) n; simp [accA, ltr]; omega
  | 2, _ => have := cls_len (s.next 76) n; have := cls_len (s.next 82) n; simp [accA, ltr]; omega
  | 3, _ => have := cls_len (s.next 76) n; have := cls_len (s.next 82) n; have := cls_len (s.next 83) n; simp [accA, ltr]; omega

theorem cls_mem {a : Sp} {n : Nat} {w : List UInt8} (h : w ∈ clsL a n) : w.length = n := words_len n w (List.mem_filter.1 h).1

set_option maxRecDepth 100000 in
set_option maxHeartbeats 1600000 in
theorem clAll_zero (s : Sp) (w : World) : Calls Try.prog 53 #[.agg #[.int .i64 s.x0, .int .i64 s.x1, .int .i64 s.x2, .int .i64 s.x3], .int .i64 s.h, .int .i64 0] w (StrPost (clsL s 0) w) := by
  rw [cls_zero]
  obtain ⟨x0, x1, x2, x3, h⟩ := s
  have hE : spE ⟨x0, x1, x2, x3, h⟩ sp0 = ((x0 == 0 && (x1 == 0 && (x2 == 0 && x3 == 0))) && h == 0) := rfl
  rw [hE]
  cases hq : (x0 == 0 && (x1 == 0 && (x2 == 0 && x3 == 0)))
  · have R := Lib.hid hq
    go_enter Try.func53, Try.ntmps53
    go_wp2_with fail
    go_ret
    exact ⟨_, rfl, World.ownsRow_nil _ _ _ _, by go_grown⟩
  · by_cases h0 : h = 0
    · subst h0
      go_enter Try.func53, Try.ntmps53
      go_wp2_with fail
      go_ret
      exact ⟨_, rfl, litCellsP (by simp) (by omega) rfl rfl, by go_grown⟩
    · have hb : (h == 0) = false := beq_eq_false_iff_ne.2 h0
      rw [hb]
      go_enter Try.func53, Try.ntmps53
      go_wp2_with fail
      go_ret
      exact ⟨_, rfl, World.ownsRow_nil _ _ _ _, by go_grown⟩

set_option maxRecDepth 100000 in
set_option maxHeartbeats 6400000 in
theorem clAll_step (s : Sp) (n : Nat) (hn : n ≤ 9) (hs : s.okB (999000 - 2 * ((n + 1 : Nat) : Int)))
    (ih : ∀ (t : Sp), t.okB (999000 - 2 * (n : Int)) → ∀ w : World, Calls Try.prog 53 #[.agg #[.int .i64 t.x0, .int .i64 t.x1, .int .i64 t.x2, .int .i64 t.x3], .int .i64 t.h, .int .i64 (n : Nat)] w (StrPost (clsL t n) w)) (w : World) :
    Calls Try.prog 53 #[.agg #[.int .i64 s.x0, .int .i64 s.x1, .int .i64 s.x2, .int .i64 s.x3], .int .i64 s.h, .int .i64 ((n + 1 : Nat) : Int)] w (StrPost (clsL s (n + 1)) w) := by
  obtain ⟨i0, hi, iz0, iz1, iz2⟩ := info_parts srInfo
  have hsq : s.okB 999999 := hs.mono (by omega)
  have hnx : ∀ c, (s.next c).okB (999000 - 2 * (n : Int)) := fun c => (hs.next c).mono (by omega)
  obtain ⟨⟨b0, b0'⟩, ⟨b1, b1'⟩, ⟨b2, b2'⟩, ⟨b3, b3'⟩, b4, b5⟩ := hsq
  have NB := nm_bd s.x0 s.x1 s.x2 s.x3 b0 b0' b1 b1' b2 b2' b3 b3'
  obtain ⟨N, hN⟩ : ∃ N : Int, ((n + 1 : Nat) : Int) = N := ⟨_, rfl⟩
  have N1 : 1 ≤ N := by omega
  have N10 : N ≤ 10 := by omega
  have Q0 : 0 ≤ N * N := Int.mul_nonneg (by omega) (by omega)
  have Q1 : N * N ≤ 100 := by have := Int.mul_le_mul N10 N10 (by omega) (by omega : (0 : Int) ≤ 10); omega
  have hfar := cls_far s (hs.mono (by omega)) (n + 1)
  have hN1 : N - 1 = (n : Int) := by omega
  have NZ : ¬ N = 0 := by omega
  rw [hN] at hfar ⊢
  have P1 := Lib.hid (spNorm_any s.x0 s.x1 s.x2 s.x3)
  obtain ⟨u, hu⟩ : ∃ u, nm0 s.x0 s.x1 s.x2 s.x3 = u := ⟨_, rfl⟩
  obtain ⟨v, hv⟩ : ∃ v, nm1 s.x0 s.x1 s.x2 s.x3 = v := ⟨_, rfl⟩
  rw [hu, hv] at NB hfar P1
  have P2 := Lib.hid (fun w => ptCompare_any u v (N * N) 0 (by omega) (by omega) (by omega) (by omega) (by omega) (by omega) (by omega) (by omega) w)
  rw [Int.sub_zero] at P2
  obtain ⟨sg, hsg⟩ : ∃ sg, sgn2 (u - N * N) v = sg := ⟨_, rfl⟩
  rw [hsg] at hfar P2
  have HIH := Lib.hid ih
  have HNX := Lib.hid hnx
  have hcv := fun (W : World) => Lib.run_convert_bytes_const W 78 5 #[.int .u8 76, .int .u8 82, .int .u8 83] 3 3 Try.underlying78 Try.underlying5
  clear hu hv ih hnx hsg hN
  by_cases hsp : 0 < sg
  · have HF := Lib.hid (hfar hsp)
    go_enter Try.func53, Try.ntmps53
    go_wp2_with fail
    (go_at_call 73; (with_reducible refine (P1.out _).mono ?_); rintro e wA ⟨rfl, h1⟩; (try with_reducible replace h1 := undrew h1); have hB : Below w.heap.size w wA := ba (by go_grown) h1; obtain ⟨hcwA, hfwA⟩ := bcell h1; have hqwA := h1.size; (try simp at hqwA); (try have hz0wA : w.heap.size < wA.heap.size := (by omega)); (try have he0wA : w.heap.size ≤ wA.heap.size := (by omega)))
    go_wp2_with fail
    (go_at_call 72; (with_reducible refine (P2.out _).mono ?_); rintro e wC ⟨rfl, h1⟩; (try with_reducible replace h1 := undrew h1); have hB : Below w.heap.size w wC := ba (by go_grown) h1; obtain ⟨hcwC, hfwC⟩ := bcell h1; have hqwC := h1.size; (try simp at hqwC); (try have hz0wC : w.heap.size < wC.heap.size := (by omega)); (try have he0wC : w.heap.size ≤ wC.heap.size := (by omega)))
    go_wp2_with fail
    go_ret
    exact ⟨_, rfl, by rw [HF.out]; exact World.ownsRow_nil _ _ _ _, by go_grown⟩
  · clear hfar
    go_enter Try.func53, Try.ntmps53
    go_wp2_with fail
    (go_at_call 73; (with_reducible refine (P1.out _).mono ?_); rintro e wA ⟨rfl, h1⟩; (try with_reducible replace h1 := undrew h1); have hB : Below w.heap.size w wA := ba (by go_grown) h1; obtain ⟨hcwA, hfwA⟩ := bcell h1; have hqwA := h1.size; (try simp at hqwA); (try have hz0wA : w.heap.size < wA.heap.size := (by omega)); (try have he0wA : w.heap.size ≤ wA.heap.size := (by omega)))
    have h1A := h1
    go_wp2_with fail
    (go_at_call 72; (with_reducible refine (P2.out _).mono ?_); rintro e wC ⟨rfl, h1⟩; (try with_reducible replace h1 := undrew h1); have hB : Below w.heap.size w wC := ba (by go_grown) h1; obtain ⟨hcwC, hfwC⟩ := bcell h1; have hqwC := h1.size; (try simp at hqwC); (try have hz0wC : w.heap.size < wC.heap.size := (by omega)); (try have he0wC : w.heap.size ≤ wC.heap.size := (by omega)))
    go_wp2_with fail
    have HX0 := Lib.hid (show wC.heap[w.heap.size]? = some (.cells #[.int .i64 s.x0, .int .i64 s.x1, .int .i64 s.x2, .int .i64 s.x3] 42 (0, 0)) by
      rw [h1.block w.heap.size (by omega), h1A.block w.heap.size (by simp)]
      exact heap_alloc_new _ _)
    have HBC := Lib.hid hB
    have h3n : 3 ^ n ≤ 19683 := Nat.pow_le_pow_right (by decide) hn
    have hzC : w.heap.size < wC.heap.size := (Array.getElem?_eq_some_iff.1 HX0.out).1
    clear h1 hB
    go_loopw [7, 35] (fun t i wr => ∃ (c : Nat) (v : Value), c ≤ 3 ∧ i = .int .i64 c ∧ v = t ∧ wr.ownsRow w.heap.size 9 1 v (accA s n c).length (strV (accA s n c)) ∧ wr.heap[w.heap.size]? = some (.cells #[.int .i64 s.x0, .int .i64 s.x1, .int .i64 s.x2, .int .i64 s.x3] 42 (0, 0)) ∧ wr.heap[wC.heap.size]? = some (.cells #[.int .u8 76, .int .u8 82, .int .u8 83] 5 (3, 4)) ∧ Below w.heap.size w wr) (fun _ i _ => 4 - (intOf i).toNat)
    case atStart => exact ⟨0, _, Nat.zero_le _, rfl, rfl, by simpa [accA, strV] using World.ownsRow_nil _ _ _ _, (Below.heap_alloc _ _ _ hzC).trans HX0.out, heap_alloc_new _ _, HBC.out.alloc (by omega) _⟩
    case round =>
      obtain ⟨c, v, hc, rfl, rfl, hO, hX, hY, hb⟩ := hrel
      have hz := hb.size
      have hzX := blkLt hX
      have hzY := blkLt hY
      by_cases hlt : c < 3
      · obtain ⟨ch, hch, hpc, _, hta⟩ := ltr_at hlt
        have cY := bytes_at hY hch
        obtain ⟨x0, x1, x2, x3⟩ := blk4 hX
        have HNA := Lib.hid (accA_next (s := s) (n := n) hta)
        have P3 := Lib.hid (ptStep_any ch hpc s.h b4 b5)
        have d0 := dd_bd0 ch s.h
        have d1 := dd_bd1 ch s.h
        have d2 := dd_bd2 ch s.h
        have d3 := dd_bd3 ch s.h
        have P4 := Lib.hid (spAddP s.x0 s.x1 s.x2 s.x3 (dd0 ch s.h) (dd1 ch s.h) (dd2 ch s.h) (dd3 ch s.h) (by omega) (by omega) (by omega) (by omega) (by omega) (by omega) (by omega) (by omega) (by omega) (by omega) (by omega) (by omega) (by omega) (by omega) (by omega) (by omega))
        have P5 := Lib.hid (HIH.out (s.next ch) (HNX.out ch))
        have hle := accA_le s n c (by omega)
        have hlr := cls_len (s.next ch) n
        have hxl : ∀ x ∈ clsL (s.next ch) n, x.length ≤ 10 := fun x hx => by rw [cls_mem hx]; omega
        obtain ⟨R, hR⟩ : ∃ R, clsL (s.next ch) n = R := ⟨_, rfl⟩
        rw [hR] at P5 HNA hlr hxl
        have HXL := Lib.hid hxl
        simp only [Sp.next] at P5
        generalize dd0 ch s.h = y0 at *
        generalize dd1 ch s.h = y1 at *
        generalize dd2 ch s.h = y2 at *
        generalize dd3 ch s.h = y3 at *
        generalize nh ch s.h = y4 at *
        obtain ⟨wo, rfl⟩ : ∃ wo : World, wo = wr := ⟨_, rfl⟩
        have HO := Lib.hid hO
        have HX := Lib.hid hX
        have HY := Lib.hid hY
        have HB := Lib.hid hb
        clear hch hpc hta hR hxl hO hX hY hb
        go_wp2_with fail
        refine (P3.out _).mono ?_
        rintro e wp ⟨rfl, hp1⟩
        have hpz := hp1.size
        have hzp : w.heap.size < wp.heap.size := by omega
        obtain ⟨x0, x1, x2, x3⟩ := blk4 ((hp1.block w.heap.size hzX).trans HX.out)
        go_wp2_with fail
        refine (P4.out _).mono ?_
        rintro e wq ⟨rfl, hq1⟩
        have hqz := hq1.size
        simp at hqz
        go_wp2_with fail
        refine (P5.out _).mono ?_
        rintro e wt ⟨vL, rfl, oL, ht1⟩
        have htz := ht1.size
        have hAll := ((hp1.alloc hpz (.cells #[.int .i64 y0, .int .i64 y1, .int .i64 y2, .int .i64 y3] 42)).trans (hq1.mono (by simp; omega))).trans (ht1.mono (by omega))
        have hv1 : ∀ k, v.ownBlock = some k → k < wo.heap.size := fun k hk => (HO.out.lt k hk).2
        obtain ⟨Lc, hLc⟩ : ∃ Lc, R.length = Lc := ⟨_, rfl⟩
        rw [hLc] at oL hlr
        obtain ⟨av, cv, rfl⟩ := own_formC oL
        have hne0 : (Value.slice av Lc cv).ownBlock = none ∨ (Value.slice av Lc cv).ownBlock ≠ v.ownBlock := by
          cases hk : (Value.slice av Lc cv).ownBlock with
          | none => exact .inl rfl
          | some k =>
            refine .inr fun e => ?_
            have h1 := (oL.lt k hk).1
            have h2 := hv1 k e.symm
            omega
        have HNE := Lib.hid hne0
        have HOL := Lib.hid oL
        have HLC := Lib.hid hLc
        have HO2 := Lib.hid (HO.out.kept (below_grown hAll) (by cases v.ownBlock <;> simp))
        have HX2 := Lib.hid ((hAll.block w.heap.size hzX).trans HX.out)
        have HY2 := Lib.hid ((hAll.block wC.heap.size hzY).trans HY.out)
        have HB2 := Lib.hid (HB.out.trans (hAll.mono hz))
        clear hp1 hq1 ht1 hAll hv1 hne0 oL hLc x0 x1 x2 x3 cY
        go_wp2_with fail
        go_loopw [7, 53] (fun t i wr => ∃ (e : Nat) (v : Value), e ≤ Lc ∧ i = .int .i64 e ∧ v = t ∧ wr.ownsRow w.heap.size 9 1 v (accA s n c ++ (R.take e).map fun x => ch :: x).length (strV (accA s n c ++ (R.take e).map fun x => ch :: x)) ∧ wr.ownsRow wq.heap.size 9 1 (.slice av Lc cv) Lc (strV R) ∧ ((Value.slice av Lc cv).ownBlock = none ∨ (Value.slice av Lc cv).ownBlock ≠ v.ownBlock) ∧
          wr.heap[w.heap.size]? = some (.cells #[.int .i64 s.x0, .int .i64 s.x1, .int .i64 s.x2, .int .i64 s.x3] 42 (0, 0)) ∧ wr.heap[wC.heap.size]? = some (.cells #[.int .u8 76, .int .u8 82, .int .u8 83] 5 (3, 4)) ∧ Below w.heap.size w wr) (fun _ i _ => Lc - (intOf i).toNat)
        case atStart => exact ⟨0, v, Nat.zero_le _, rfl, rfl, by simpa using HO2.out, HOL.out, HNE.out, HX2.out, HY2.out, HB2.out⟩
        case round =>
          obtain ⟨e, v, he, rfl, rfl, hO, oL, hne, hX, hY, hb⟩ := hrel
          have hz9 := hb.size
          have hzX9 := blkLt hX
          have hzY9 := blkLt hY
          by_cases hlc : e < Lc
          · obtain ⟨x, hx⟩ : ∃ x, R[e]? = some x := ⟨_, List.getElem?_eq_getElem (by rw [HLC.out]; exact hlc)⟩
            have hx10 := HXL.out x (List.mem_of_getElem? hx)
            obtain ⟨gL, rfl⟩ : ∃ gL, av = some ⟨gL, 0, none⟩ := by
              rcases oL.2 with ⟨h, h0⟩ | ⟨gL, capL, _, h, _⟩
              · omega
              · injection h with h; exact ⟨gL, h⟩
            have d9 := str_of oL HLC.out e x hx
            have hgL := (oL.lt gL rfl).2
            have htk : R.take (e + 1) = R.take e ++ [x] := by rw [List.take_add_one, hx]; rfl
            obtain ⟨T, hT0⟩ : ∃ T, ofL (ch :: x) = T := ⟨_, rfl⟩
            have k1 : ∀ w : World, (Op.stringOp .add (ofL [ch]) (ofL x)).run Try.prog w = .ok (.string T) w := fun w => concat_run (by rw [ofL_append, ← hT0]; rfl) (by rw [ofL_size, ofL_size, List.length_singleton]; omega) w
            have q := one_strC ch wr.heap.size 1 (wr.alloc (.cells #[.int .u8 ((ch.toNat : Nat) : Int)] 5)) (by go_simp)
            have hlen : (accA s n c ++ (R.take e).map fun x => ch :: x).length ≤ 600000 := by
              rw [List.length_append, List.length_map, List.length_take]
              omega
            have HV := Lib.hid (show (accA s n c ++ (R.take (e + 1)).map fun x => ch :: x) = (accA s n c ++ (R.take e).map fun x => ch :: x) ++ [ch :: x] by rw [htk, List.map_append, ← List.append_assoc]; rfl)
            generalize hA : (accA s n c ++ (R.take e).map fun x => ch :: x) = A at *
            have HT0 := Lib.hid hT0
            have HO := Lib.hid ((hO.alloc (.cells #[.int .u8 ((ch.toNat : Nat) : Int)] 5)).alloc (.cells #[.string T] 9))
            have HOL := Lib.hid ((oL.alloc (.cells #[.int .u8 ((ch.toNat : Nat) : Int)] 5)).alloc (.cells #[.string T] 9))
            have HX := Lib.hid ((Below.heap_alloc (wr.alloc (.cells #[.int .u8 ((ch.toNat : Nat) : Int)] 5)) (.cells #[.string T] 9) w.heap.size (by simp; omega)).trans ((Below.heap_alloc wr (.cells #[.int .u8 ((ch.toNat : Nat) : Int)] 5) _ hzX9).trans hX))
            have HY := Lib.hid ((Below.heap_alloc (wr.alloc (.cells #[.int .u8 ((ch.toNat : Nat) : Int)] 5)) (.cells #[.string T] 9) wC.heap.size (by simp; omega)).trans ((Below.heap_alloc wr (.cells #[.int .u8 ((ch.toNat : Nat) : Int)] 5) _ hzY9).trans hY))
            have HB := Lib.hid ((hb.alloc hz9 (.cells #[.int .u8 ((ch.toNat : Nat) : Int)] 5)).alloc (by simp; omega) (.cells #[.string T] 9))
            have HNE := Lib.hid hne
            have hnX := own_blkC HO.out HX.out (by decide)
            have hnY := own_blkC HO.out HY.out (by decide)
            have hnews := news_at (W := wr.alloc (.cells #[.int .u8 ((ch.toNat : Nat) : Int)] 5)) (n := wr.heap.size + 1) (by simp) (.string T) 9
            clear hx hO oL hX hY hb hne htk hT0 hA
            go_wp2_with (at_builtin; refine wpList_append_own_at _ rfl _ _ 30 rfl w.heap.size 9 i0 (.string ByteArray.empty) 1 16 Try.underlying30 hi iz0 iz1 iz2 rfl (by decide) v _ _ rfl HO.out ⟨wr.heap.size + 1, 0, none⟩ 1 1 [.string T] rfl rfl hnews (by intro u hu; simp at hu; subst hu; rfl) (by unfold maxLen; omega) (by omega) (by simp; omega) ?_; intro v' w2 hown' hgrow hnil hloc)
            have hlt' := HO.out.lt
            have HB8 := Lib.hid (HB.out.grown hgrow (by simp; omega) (fun k hk => (hlt' k hk).1))
            have HX8 := Lib.hid ((hgrow.block w.heap.size (by simp; omega) hnX).trans HX.out)
            have HY8 := Lib.hid ((hgrow.block wC.heap.size (by simp; omega) hnY).trans HY.out)
            have HOL8 := Lib.hid (HOL.out.kept hgrow HNE.out)
            have HNE8 := Lib.hid (show (Value.slice (some ⟨gL, 0, none⟩) Lc cv).ownBlock = none ∨ (Value.slice (some ⟨gL, 0, none⟩) Lc cv).ownBlock ≠ v'.ownBlock by
              refine .inr fun e => ?_
              rcases hloc with h | h
              · rcases HNE.out with h2 | h2
                · cases h2
                · exact h2 (e.trans h)
              · rw [h] at e
                simp [Value.ownBlock] at e
                omega)
            have HO8 := Lib.hid hown'
            clear hlt' hgrow hown' hnil hloc hnX hnY hnews q
            go_roundw
            case rel => exact ⟨e + 1, v', by omega, by go_num, rfl, by rw [HV.out, strV_append, List.length_append]; simp only [strV, List.map_cons, List.map_nil, HT0.out]; exact HO8.out, HOL8.out, HNE8.out, HX8.out, HY8.out, HB8.out⟩
            case measure => simp [intOf]; omega
          · obtain rfl : e = Lc := by omega
            have hta : R.take e = R := List.take_of_length_le (by rw [HLC.out]; exact Nat.le_refl _)
            rw [hta] at hO
            have HO := Lib.hid hO
            have HX := Lib.hid hX
            have HY := Lib.hid hY
            have HB := Lib.hid hb
            clear hO oL hne hX hY hb hta
            go_wp2_with fail
            go_roundw
            case rel => exact ⟨c + 1, v, by omega, by go_num, rfl, by rw [HNA.out]; exact HO.out, HX.out, HY.out, HB.out⟩
            case measure => simp [intOf]; omega
      · obtain rfl : c = 3 := by omega
        rw [accA_end] at hO
        have HO := Lib.hid hO
        have HB := Lib.hid hb
        clear hO hX hY hb
        go_wp2_with fail
        go_ret
        exact ⟨_, rfl, HO.out, HB.out⟩

set_option maxRecDepth 100000 in
theorem clAll_any (n : Nat) : n ≤ 10 → ∀ (s : Sp), s.okB (999000 - 2 * (n : Int)) → ∀ w : World, Calls Try.prog 53 #[.agg #[.int .i64 s.x0, .int .i64 s.x1, .int .i64 s.x2, .int .i64 s.x3], .int .i64 s.h, .int .i64 (n : Nat)] w (StrPost (clsL s n) w) := by
  induction n with
  | zero => intro _ s _ w; exact clAll_zero s w
  | succ n ih => intro hn s hs w; exact clAll_step s n (by omega) hs (fun t ht w => ih (by omega) t ht w) w

end Go.Proofs.Ytadlkmfgjmcgeaa
