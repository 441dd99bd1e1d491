/- Contracts and facts, put together (part 3). Conditions: each says its own. -/
import Derived.Test.YtppbbcckijcckaaT2

/- Contracts: FarthestPair, in the program. -/
namespace Go.Proofs.Ytppbbcckijcckaa
open Go.ChangeShapes Go.WideShapes Go.ChangeAt Go.RowKit Go.Sort

set_option linter.unusedVariables false
set_option linter.unusedSimpArgs false

theorem imCmp9 (s t : Su) (h : Bs 2000000000000000 s) (k : Bs 2000000000000000 t) (w : World) : Calls Try.prog 99 #[sv s, sv t] w fun e w' => e = .returned (.int .i64 (s - t).sn) ∧ Below w.heap.size w w' :=
  (imCmpG s t h k w).mono fun _ _ h => ⟨h.1, h.2.1⟩

abbrev chO (p q : Pn) : Obj := .cells #[.int .i64 p.a, .int .i64 p.b, .int .i64 p.c, .int .i64 p.d, .int .i64 q.a, .int .i64 q.b, .int .i64 q.c, .int .i64 q.d] 66

/-- The block of the chord that is the longest so far; the results' blocks as they were made. -/
structure FcAt (w X : World) (B : Nat) (P Q : Pn) : Prop where
  ca : X.cell? ⟨B, 0, none⟩ = some (.int .i64 (P).a) ∧ X.cell? ⟨B, 1, none⟩ = some (.int .i64 (P).b) ∧ X.cell? ⟨B, 2, none⟩ = some (.int .i64 (P).c) ∧ X.cell? ⟨B, 3, none⟩ = some (.int .i64 (P).d)
  cb : X.cell? ⟨B, 4, none⟩ = some (.int .i64 (Q).a) ∧ X.cell? ⟨B, 5, none⟩ = some (.int .i64 (Q).b) ∧ X.cell? ⟨B, 6, none⟩ = some (.int .i64 (Q).c) ∧ X.cell? ⟨B, 7, none⟩ = some (.int .i64 (Q).d)
  fb : ∀ i, X.frozen? ⟨B, i, none⟩ = false
  c0 : X.cell? ⟨w.heap.size, 0, none⟩ = some (.int .i64 ((⟨0, 0, 0, 0⟩ : Pn)).a) ∧ X.cell? ⟨w.heap.size, 1, none⟩ = some (.int .i64 ((⟨0, 0, 0, 0⟩ : Pn)).b) ∧ X.cell? ⟨w.heap.size, 2, none⟩ = some (.int .i64 ((⟨0, 0, 0, 0⟩ : Pn)).c) ∧ X.cell? ⟨w.heap.size, 3, none⟩ = some (.int .i64 ((⟨0, 0, 0, 0⟩ : Pn)).d)
  c1 : X.cell? ⟨w.heap.size + 1, 0, none⟩ = some (.int .i64 ((⟨0, 0, 0, 0⟩ : Pn)).a) ∧ X.cell? ⟨w.heap.size + 1, 1, none⟩ = some (.int .i64 ((⟨0, 0, 0, 0⟩ : Pn)).b) ∧ X.cell? ⟨w.heap.size + 1, 2, none⟩ = some (.int .i64 ((⟨0, 0, 0, 0⟩ : Pn)).c) ∧ X.cell? ⟨w.heap.size + 1, 3, none⟩ = some (.int .i64 ((⟨0, 0, 0, 0⟩ : Pn)).d)
  f0 : ∀ i, X.frozen? ⟨w.heap.size, i, none⟩ = false
  f1 : ∀ i, X.frozen? ⟨w.heap.size + 1, i, none⟩ = false
  lb : B < X.heap.size
  lw : w.heap.size + 1 < X.heap.size
  bl : Below w.heap.size w X

theorem FcAt.mono {w X X' : World} {B : Nat} {P Q : Pn} (h : FcAt w X B P Q) (hb : Below X.heap.size X X') : FcAt w X' B P Q := by
  obtain ⟨ca, cb, fb, c0, c1, f0, f1, lb, lw, bl⟩ := h
  have k : ∀ (b o : Nat) (v : Value), b < X.heap.size → X.cell? ⟨b, o, none⟩ = some v → X'.cell? ⟨b, o, none⟩ = some v := fun b o v hlt hv => by rw [hb.cell (p := ⟨b, o, none⟩) hlt]; exact hv
  have f : ∀ (b o : Nat), b < X.heap.size → X.frozen? ⟨b, o, none⟩ = false → X'.frozen? ⟨b, o, none⟩ = false := fun b o hlt hv => by rw [hb.frozen (p := ⟨b, o, none⟩) hlt]; exact hv
  have hz := hb.size
  exact ⟨⟨k _ _ _ lb ca.1, k _ _ _ lb ca.2.1, k _ _ _ lb ca.2.2.1, k _ _ _ lb ca.2.2.2⟩, ⟨k _ _ _ lb cb.1, k _ _ _ lb cb.2.1, k _ _ _ lb cb.2.2.1, k _ _ _ lb cb.2.2.2⟩, fun i => f _ _ lb (fb i),
    ⟨k _ _ _ (by omega) c0.1, k _ _ _ (by omega) c0.2.1, k _ _ _ (by omega) c0.2.2.1, k _ _ _ (by omega) c0.2.2.2⟩, ⟨k _ _ _ (by omega) c1.1, k _ _ _ (by omega) c1.2.1, k _ _ _ (by omega) c1.2.2.1, k _ _ _ (by omega) c1.2.2.2⟩, fun i => f _ _ (by omega) (f0 i), fun i => f _ _ (by omega) (f1 i), by omega, by omega, ba bl hb⟩

theorem FcAt.alloc {w X : World} {B : Nat} {P Q : Pn} (h : FcAt w X B P Q) (o : Obj) : FcAt w (X.alloc o) B P Q := h.mono ((Below.refl _ X).alloc (Nat.le_refl _) o)

theorem FcAt.put {w X : World} {B : Nat} {P Q P' Q' : Pn} (h : FcAt w X B P Q) (lB : w.heap.size + 1 < B) :
    FcAt w ((((((((X.setCell ⟨B, 0, none⟩ (.int .i64 P'.a)).setCell ⟨B, 1, none⟩ (.int .i64 P'.b)).setCell ⟨B, 2, none⟩ (.int .i64 P'.c)).setCell ⟨B, 3, none⟩ (.int .i64 P'.d)).setCell ⟨B, 4, none⟩ (.int .i64 Q'.a)).setCell ⟨B, 5, none⟩ (.int .i64 Q'.b)).setCell ⟨B, 6, none⟩ (.int .i64 Q'.c)).setCell ⟨B, 7, none⟩ (.int .i64 Q'.d)) B P' Q' := by
  obtain ⟨⟨a0, a1, a2, a3⟩, ⟨b0, b1, b2, b3⟩, fb, ⟨c0, c1, c2, c3⟩, ⟨d0, d1, d2, d3⟩, f0, f1, lb, lw, bl⟩ := h
  have x1 : ¬ B = w.heap.size := by omega
  have x4 : ¬ B = w.heap.size + 1 := by omega
  refine ⟨⟨?_, ?_, ?_, ?_⟩, ⟨?_, ?_, ?_, ?_⟩, ?_, ⟨?_, ?_, ?_, ?_⟩, ⟨?_, ?_, ?_, ?_⟩, ?_, ?_, by simpa using lb, by simpa using lw, ?_⟩
  any_goals (simp [go_sem, *]; done)
  exact (((((((bl.setCell (by show w.heap.size ≤ B; omega) _).setCell (by show w.heap.size ≤ B; omega) _).setCell (by show w.heap.size ≤ B; omega) _).setCell (by show w.heap.size ≤ B; omega) _).setCell (by show w.heap.size ≤ B; omega) _).setCell (by show w.heap.size ≤ B; omega) _).setCell (by show w.heap.size ≤ B; omega) _).setCell (by show w.heap.size ≤ B; omega) _

set_option maxRecDepth 100000 in
set_option maxHeartbeats 6400000 in
theorem imFarthestPair (g n cap : Nat) (l : List Pn) (hn : l.length = n) (hb : n ≤ 1048576) (hcap : n ≤ cap) (w : World) (hg : g < w.heap.size) (h1 : RowP w g l) :
    Calls Try.prog 47 #[.slice (some ⟨g, 0, none⟩) n cap] w fun e w' => e = .returned (.tuple #[pv (fpR l).1, pv (fpR l).2, .bool (plsB l)]) ∧ Below w.heap.size w w' := by
  have IR := isInRange_any (n : Int) 1 20
  have HE := Lib.hid (show plsB l = (inB (n : Int) 1 20 && l.all plB) by unfold plsB; rw [hn])
  cases hi : inB (n : Int) 1 20 <;> rw [hi] at IR
  · have hp : plsB l = false := by rw [HE.out, hi]; rfl
    rw [fpR_no hp, hp]
    clear h1 hn HE hp
    go_enter Try.func47, Try.ntmps47
    go_wp2_with (go_at_call 87; refine (IR _).mono ?_; rintro e w' ⟨rfl, rfl⟩)
    refine bodyPost_ret (by simp [results, Try.results47, go_sem, *]; try rfl) rfl ?_
    exact ⟨rfl, by go_grown⟩
  have n20 : n ≤ 20 := by
    unfold inB at hi
    simp only [decide_eq_true_eq] at hi
    omega
  have n1 : 1 ≤ n := by
    unfold inB at hi
    simp only [decide_eq_true_eq] at hi
    omega
  have AP := fun (W : World) (hW : Below w.heap.size w W) => arePlacesP g n cap l hn (by omega) W (Nat.lt_of_lt_of_le hg hW.size) (h1.below hg hW)
  cases ha : l.all plB <;> rw [ha] at AP
  · have hp : plsB l = false := by rw [HE.out, hi, ha]; rfl
    rw [fpR_no hp, hp]
    have HAP := Lib.hid AP
    clear h1 AP hn HE hp hi ha
    go_enter Try.func47, Try.ntmps47
    go_wp2_with (go_at_call 87; refine (IR _).mono ?_; rintro e w' ⟨rfl, rfl⟩)
    (go_at_call 55; (with_reducible refine Calls.mono (HAP.out _ ?_) ?_); (focus (go_grown; done)); rintro e wA ⟨rfl, h1⟩; (try with_reducible replace h1 := undrew h1); have hB : Below w.heap.size w wA := ba (by go_grown) h1; obtain ⟨hcwA, hfwA⟩ := bcell h1; have hqwA := h1.size; (try simp at hqwA); (try have hz0wA : w.heap.size < wA.heap.size := (by omega)); (try have he0wA : w.heap.size ≤ wA.heap.size := (by omega)); (try have hz1wA : w.heap.size + 1 < wA.heap.size := (by omega)); (try have he1wA : w.heap.size + 1 ≤ wA.heap.size := (by omega)))
    have y0 : wA.cell? ⟨w.heap.size, 0, none⟩ = some (.int .i64 ((⟨0, 0, 0, 0⟩ : Pn)).a) ∧ wA.cell? ⟨w.heap.size, 1, none⟩ = some (.int .i64 ((⟨0, 0, 0, 0⟩ : Pn)).b) ∧ wA.cell? ⟨w.heap.size, 2, none⟩ = some (.int .i64 ((⟨0, 0, 0, 0⟩ : Pn)).c) ∧ wA.cell? ⟨w.heap.size, 3, none⟩ = some (.int .i64 ((⟨0, 0, 0, 0⟩ : Pn)).d) := ⟨by go_simp, by go_simp, by go_simp, by go_simp⟩
    have y1 : wA.cell? ⟨w.heap.size + 1, 0, none⟩ = some (.int .i64 ((⟨0, 0, 0, 0⟩ : Pn)).a) ∧ wA.cell? ⟨w.heap.size + 1, 1, none⟩ = some (.int .i64 ((⟨0, 0, 0, 0⟩ : Pn)).b) ∧ wA.cell? ⟨w.heap.size + 1, 2, none⟩ = some (.int .i64 ((⟨0, 0, 0, 0⟩ : Pn)).c) ∧ wA.cell? ⟨w.heap.size + 1, 3, none⟩ = some (.int .i64 ((⟨0, 0, 0, 0⟩ : Pn)).d) := ⟨by go_simp, by go_simp, by go_simp, by go_simp⟩
    have y2 : ∀ i, wA.frozen? ⟨w.heap.size, i, none⟩ = false := fun i => by go_simp
    have y3 : ∀ i, wA.frozen? ⟨w.heap.size + 1, i, none⟩ = false := fun i => by go_simp
    obtain ⟨y00, y01, y02, y03⟩ := y0
    obtain ⟨y10, y11, y12, y13⟩ := y1
    have HBA := Lib.hid hB
    clear hcwA hfwA hB
    go_wp2_with fail
    refine bodyPost_ret (by simp [results, Try.results47, go_sem, *]; try rfl) rfl ?_
    have hB := HBA.out
    exact ⟨rfl, by go_grown⟩
  · have hp : plsB l = true := by rw [HE.out, hi, ha]; rfl
    obtain ⟨_, hbd⟩ := plsB_n hn hp
    obtain ⟨p0, hp0⟩ : ∃ x, l[0]? = some x := ⟨_, List.getElem?_eq_getElem (by omega)⟩
    obtain ⟨R, hR⟩ : ∃ R, fpR l = R := ⟨_, rfl⟩
    have HS := Lib.hid (show fpO (l.drop 0) (p0, p0) = R by rw [← hR, fpR_yes hp hp0])
    rw [hR, hp]
    have hp0m := List.mem_of_getElem? hp0
    have HAP := Lib.hid AP
    have HN := Lib.hid hn
    have H1 := Lib.hid h1
    have HM := Lib.hid hbd
    have HP0 := Lib.hid hp0
    have n2 : (0 : Int) < (n : Int) := by omega
    have n0 : 0 < n := by omega
    clear hR h1 AP hn hbd hp hp0 hi ha HE
    go_enter Try.func47, Try.ntmps47
    go_wp2_with (go_at_call 87; refine (IR _).mono ?_; rintro e w' ⟨rfl, rfl⟩)
    (go_at_call 55; (with_reducible refine Calls.mono (HAP.out _ ?_) ?_); (focus (go_grown; done)); rintro e wA ⟨rfl, h1⟩; (try with_reducible replace h1 := undrew h1); have hB : Below w.heap.size w wA := ba (by go_grown) h1; obtain ⟨hcwA, hfwA⟩ := bcell h1; have hqwA := h1.size; (try simp at hqwA); (try have hz0wA : w.heap.size < wA.heap.size := (by omega)); (try have he0wA : w.heap.size ≤ wA.heap.size := (by omega)); (try have hz1wA : w.heap.size + 1 < wA.heap.size := (by omega)); (try have he1wA : w.heap.size + 1 ≤ wA.heap.size := (by omega)))
    have hC0 := (H1.out.below hg hB) 0 p0 HP0.out
    simp only [Nat.zero_mul, Nat.zero_add] at hC0
    obtain ⟨c0, c1, c2, c3⟩ := hC0
    have y0 : wA.cell? ⟨w.heap.size, 0, none⟩ = some (.int .i64 ((⟨0, 0, 0, 0⟩ : Pn)).a) ∧ wA.cell? ⟨w.heap.size, 1, none⟩ = some (.int .i64 ((⟨0, 0, 0, 0⟩ : Pn)).b) ∧ wA.cell? ⟨w.heap.size, 2, none⟩ = some (.int .i64 ((⟨0, 0, 0, 0⟩ : Pn)).c) ∧ wA.cell? ⟨w.heap.size, 3, none⟩ = some (.int .i64 ((⟨0, 0, 0, 0⟩ : Pn)).d) := ⟨by go_simp, by go_simp, by go_simp, by go_simp⟩
    have y1 : wA.cell? ⟨w.heap.size + 1, 0, none⟩ = some (.int .i64 ((⟨0, 0, 0, 0⟩ : Pn)).a) ∧ wA.cell? ⟨w.heap.size + 1, 1, none⟩ = some (.int .i64 ((⟨0, 0, 0, 0⟩ : Pn)).b) ∧ wA.cell? ⟨w.heap.size + 1, 2, none⟩ = some (.int .i64 ((⟨0, 0, 0, 0⟩ : Pn)).c) ∧ wA.cell? ⟨w.heap.size + 1, 3, none⟩ = some (.int .i64 ((⟨0, 0, 0, 0⟩ : Pn)).d) := ⟨by go_simp, by go_simp, by go_simp, by go_simp⟩
    have y2 : ∀ i, wA.frozen? ⟨w.heap.size, i, none⟩ = false := fun i => by go_simp
    have y3 : ∀ i, wA.frozen? ⟨w.heap.size + 1, i, none⟩ = false := fun i => by go_simp
    obtain ⟨y00, y01, y02, y03⟩ := y0
    obtain ⟨y10, y11, y12, y13⟩ := y1
    have gA : g < wA.heap.size := Nat.lt_of_lt_of_le hg hB.size
    have HBA := Lib.hid hB
    clear hcwA hfwA hB
    go_wp2_with fail
    refine absW (F := fun W => (W.cell? ⟨g, 0, none⟩ = some (.int .i64 (p0).a) ∧ W.cell? ⟨g, 1, none⟩ = some (.int .i64 (p0).b) ∧ W.cell? ⟨g, 2, none⟩ = some (.int .i64 (p0).c) ∧ W.cell? ⟨g, 3, none⟩ = some (.int .i64 (p0).d)) ∧ (W.cell? ⟨w.heap.size, 0, none⟩ = some (.int .i64 ((⟨0, 0, 0, 0⟩ : Pn)).a) ∧ W.cell? ⟨w.heap.size, 1, none⟩ = some (.int .i64 ((⟨0, 0, 0, 0⟩ : Pn)).b) ∧ W.cell? ⟨w.heap.size, 2, none⟩ = some (.int .i64 ((⟨0, 0, 0, 0⟩ : Pn)).c) ∧ W.cell? ⟨w.heap.size, 3, none⟩ = some (.int .i64 ((⟨0, 0, 0, 0⟩ : Pn)).d)) ∧ (W.cell? ⟨w.heap.size + 1, 0, none⟩ = some (.int .i64 ((⟨0, 0, 0, 0⟩ : Pn)).a) ∧ W.cell? ⟨w.heap.size + 1, 1, none⟩ = some (.int .i64 ((⟨0, 0, 0, 0⟩ : Pn)).b) ∧ W.cell? ⟨w.heap.size + 1, 2, none⟩ = some (.int .i64 ((⟨0, 0, 0, 0⟩ : Pn)).c) ∧ W.cell? ⟨w.heap.size + 1, 3, none⟩ = some (.int .i64 ((⟨0, 0, 0, 0⟩ : Pn)).d)) ∧ (∀ i, W.frozen? ⟨w.heap.size, i, none⟩ = false) ∧ (∀ i, W.frozen? ⟨w.heap.size + 1, i, none⟩ = false) ∧ g < W.heap.size ∧ w.heap.size + 1 < W.heap.size ∧ Below w.heap.size w W) ⟨⟨c0, c1, c2, c3⟩, ⟨y00, y01, y02, y03⟩, ⟨y10, y11, y12, y13⟩, y2, y3, gA, hz1wA, HBA.out⟩ ?_
    rintro W ⟨⟨a0, a1, a2, a3⟩, ⟨b0, b1, b2, b3⟩, ⟨d0, d1, d2, d3⟩, fr0, fr1, gW, zW, HBW⟩
    have HBW := Lib.hid HBW
    clear c0 c1 c2 c3 y00 y01 y02 y03 y10 y11 y12 y13 y2 y3
    have ne0 : ¬ W.heap.size = w.heap.size := by omega
    have ne2 : ¬ W.heap.size = w.heap.size + 1 := by omega
    have ne4 : ¬ W.heap.size = g := by omega
    have z1 : w.heap.size < W.heap.size := by omega
    have hBW := HBW.out
    go_cut [5] (fun t wx => ∃ B : Nat, t = .pointer (some ⟨B, 0, none⟩) ∧ w.heap.size + 1 < B ∧ FcAt w wx B p0 p0)
    case first =>
      go_region_held3 (fun w' => w'.cell? ⟨g, 0, none⟩ = some (.int .i64 (p0).a) ∧ w'.cell? ⟨g, 1, none⟩ = some (.int .i64 (p0).b) ∧ w'.cell? ⟨g, 2, none⟩ = some (.int .i64 (p0).c) ∧ w'.cell? ⟨g, 3, none⟩ = some (.int .i64 (p0).d)) (go_keep) (fail)
      all_goals
        go_wp2_with fail
        go_meet
        refine ⟨W.heap.size, rfl, by omega, ⟨by go_simp, by go_simp, by go_simp, by go_simp⟩, ⟨by go_simp, by go_simp, by go_simp, by go_simp⟩, fun i => by go_simp, ⟨by go_simp, by go_simp, by go_simp, by go_simp⟩, ⟨by go_simp, by go_simp, by go_simp, by go_simp⟩, fun i => by go_simp, fun i => by go_simp, by first | (simp; done) | (simp; omega), by first | (simp; done) | (simp; omega), by go_grown⟩
    case rest =>
      obtain ⟨B, rfl, lB, hAt⟩ := hcut
      have HAt0 := Lib.hid hAt
      clear hAt
      go_wp2_with fail
      go_loopw [31] (fun i wr => ∃ (k : Nat) (acc : Pn × Pn), k ≤ n ∧ i = .int .i64 k ∧ fpO (l.drop k) acc = R ∧ (acc.1 ∈ l ∧ acc.2 ∈ l) ∧ FcAt w wr B acc.1 acc.2) (fun i _ => n - (intOf i).toNat)
      case atStart => exact ⟨0, (p0, p0), Nat.zero_le _, rfl, HS.out, ⟨hp0m, hp0m⟩, HAt0.out⟩
      case round =>
        obtain ⟨k, acc, hk, rfl, hF, hmem, hAt⟩ := hrel
        by_cases hlt : k < n
        · obtain ⟨a, ha⟩ : ∃ x, l[k]? = some x := ⟨_, List.getElem?_eq_getElem (by rw [HN.out]; exact hlt)⟩
          obtain ⟨c0, c1, c2, c3⟩ := (H1.out.below hg hAt.bl) k a ha
          have gr : g < wr.heap.size := Nat.lt_of_lt_of_le hg hAt.bl.size
          have ham := List.mem_of_getElem? ha
          have hF2 := hF
          rw [fpO_drop ha] at hF2
          have HF2 := Lib.hid hF2
          have HAt := Lib.hid hAt
          have HA1 := Lib.hid (hAt.alloc (ptO a))
          have hz := hAt.lb
          have hma := HM.out a ham
          have i1 : (0 : Int) ≤ (k : Int) := by omega
          have i2 : (k : Int) < (n : Int) := by omega
          have i3 : (0 : Int) ≤ (k : Int) + 1 := by omega
          have i4 : IntKind.i64.wrap ((k : Int) + 1) = (k : Int) + 1 := IntWalk.i64_in _ ⟨by omega, by omega⟩
          have i5 : (k : Int) + 1 ≤ (n : Int) := by omega
          have i6 : (n : Int) ≤ (cap : Int) := by omega
          have i7 : ((k : Int) + 1).toNat = k + 1 := by omega
          have Y0 := Lib.hid (newpt7 wr a)
          clear hF hF2 hAt ha
          by_cases hck : cap = k + 1
          · go_wp2_with fail
            obtain ⟨wo, rfl⟩ : ∃ wo, wo = wr := ⟨_, rfl⟩
            go_loopw [41] (fun j wi => ∃ (c : Nat) (acc' : Pn × Pn), c ≤ n - (k + 1) ∧ j = .int .i64 c ∧ fpO (l.drop (k + 1)) (fpI a (l.drop (k + 1 + c)) acc') = R ∧ (acc'.1 ∈ l ∧ acc'.2 ∈ l) ∧ FcAt w wi B acc'.1 acc'.2 ∧ (wi.cell? ⟨wo.heap.size, 0, none⟩ = some (.int .i64 (a).a) ∧ wi.cell? ⟨wo.heap.size, 1, none⟩ = some (.int .i64 (a).b) ∧ wi.cell? ⟨wo.heap.size, 2, none⟩ = some (.int .i64 (a).c) ∧ wi.cell? ⟨wo.heap.size, 3, none⟩ = some (.int .i64 (a).d)) ∧ wo.heap.size < wi.heap.size) (fun j _ => n - (intOf j).toNat)
            case atStart => exact ⟨0, acc, Nat.zero_le _, rfl, HF2.out, hmem, HA1.out, Y0.out, by simp⟩
            case round =>
              clear hmem HF2 HA1 Y0 HAt
              obtain ⟨c, ⟨P, Q⟩, hc, rfl, hF, ⟨hP, hQ⟩, hAt, ⟨q0, q1, q2, q3⟩, zi⟩ := hrel
              by_cases hcl : c < n - (k + 1)
              · exfalso; omega

              · have hcn : c = n - (k + 1) := by omega
                rw [fpI_end (by rw [HN.out]; omega)] at hF
                have HF3 := Lib.hid hF
                have HA3 := Lib.hid hAt
                have g1 : ¬ (c : Int) < ((n - (k + 1) : Nat) : Int) := by omega
                clear hF hAt q0 q1 q2 q3
                go_wp2_with fail
                go_roundw
                case rel => exact ⟨k + 1, (P, Q), by omega, by go_num, HF3.out, ⟨hP, hQ⟩, HA3.out⟩
                case measure => simp [intOf]; omega
          · go_wp2_with fail
            obtain ⟨wo, rfl⟩ : ∃ wo, wo = wr := ⟨_, rfl⟩
            go_loopw [41] (fun j wi => ∃ (c : Nat) (acc' : Pn × Pn), c ≤ n - (k + 1) ∧ j = .int .i64 c ∧ fpO (l.drop (k + 1)) (fpI a (l.drop (k + 1 + c)) acc') = R ∧ (acc'.1 ∈ l ∧ acc'.2 ∈ l) ∧ FcAt w wi B acc'.1 acc'.2 ∧ (wi.cell? ⟨wo.heap.size, 0, none⟩ = some (.int .i64 (a).a) ∧ wi.cell? ⟨wo.heap.size, 1, none⟩ = some (.int .i64 (a).b) ∧ wi.cell? ⟨wo.heap.size, 2, none⟩ = some (.int .i64 (a).c) ∧ wi.cell? ⟨wo.heap.size, 3, none⟩ = some (.int .i64 (a).d)) ∧ wo.heap.size < wi.heap.size) (fun j _ => n - (intOf j).toNat)
            case atStart => exact ⟨0, acc, Nat.zero_le _, rfl, HF2.out, hmem, HA1.out, Y0.out, by simp⟩
            case round =>
              clear hmem HF2 HA1 Y0 HAt
              obtain ⟨c, ⟨P, Q⟩, hc, rfl, hF, ⟨hP, hQ⟩, hAt, ⟨q0, q1, q2, q3⟩, zi⟩ := hrel
              by_cases hcl : c < n - (k + 1)
              · obtain ⟨b, hb'⟩ : ∃ x, l[k + 1 + c]? = some x := ⟨_, List.getElem?_eq_getElem (by rw [HN.out]; omega)⟩
                obtain ⟨e0, e1, e2, e3⟩ := (H1.out.below hg hAt.bl) (k + 1 + c) b hb'
                rw [Nat.add_mul (k + 1) c] at e0 e1 e2 e3
                have hbm := List.mem_of_getElem? hb'
                have gr' : g < wr.heap.size := Nat.lt_of_lt_of_le hg hAt.bl.size
                rw [fpI_drop hb'] at hF
                have HF := Lib.hid hF
                have hmb := HM.out b hbm
                have NA := chNormP a b hma hmb
                have NF := chNormP P Q (HM.out P hP) (HM.out Q hQ)
                have CM := imCmp9 (a.sub b).nm (P.sub Q).nm ((nm_bd hma hmb).mono (by omega)) ((nm_bd (HM.out P hP) (HM.out Q hQ)).mono (by omega))
                have HFF := Lib.hid (show fpF (P, Q) (a, b) = if 0 < ((a.sub b).nm - (P.sub Q).nm).sn then (a, b) else (P, Q) from rfl)
                generalize hv0 : ((a.sub b).nm - (P.sub Q).nm).sn = v at *
                have hlb := hAt.lb
                have hBw := hAt.bl
                have HAi := Lib.hid ((hAt.alloc (ptO b)).alloc (chO a b))
                have j1 : (0 : Int) ≤ (c : Int) := by omega
                have j2 : (c : Int) < ((n - (k + 1) : Nat) : Int) := by omega
                have t1 : ¬ B = wo.heap.size := by omega
                have t3 : ¬ B = wr.heap.size := by omega
                have t4 : ¬ B = wr.heap.size + 1 := by omega
                clear hF hb' hAt
                go_wp2_with fail
                refine absW (F := fun W => FcAt w W B P Q ∧ (W.cell? ⟨wr.heap.size + 1, 0, none⟩ = some (.int .i64 (a).a) ∧ W.cell? ⟨wr.heap.size + 1, 1, none⟩ = some (.int .i64 (a).b) ∧ W.cell? ⟨wr.heap.size + 1, 2, none⟩ = some (.int .i64 (a).c) ∧ W.cell? ⟨wr.heap.size + 1, 3, none⟩ = some (.int .i64 (a).d)) ∧ (W.cell? ⟨wr.heap.size + 1, 4, none⟩ = some (.int .i64 (b).a) ∧ W.cell? ⟨wr.heap.size + 1, 5, none⟩ = some (.int .i64 (b).b) ∧ W.cell? ⟨wr.heap.size + 1, 6, none⟩ = some (.int .i64 (b).c) ∧ W.cell? ⟨wr.heap.size + 1, 7, none⟩ = some (.int .i64 (b).d)) ∧ (W.cell? ⟨wo.heap.size, 0, none⟩ = some (.int .i64 (a).a) ∧ W.cell? ⟨wo.heap.size, 1, none⟩ = some (.int .i64 (a).b) ∧ W.cell? ⟨wo.heap.size, 2, none⟩ = some (.int .i64 (a).c) ∧ W.cell? ⟨wo.heap.size, 3, none⟩ = some (.int .i64 (a).d)) ∧ wr.heap.size + 1 < W.heap.size) ⟨HAi.out, ⟨by go_simp, by go_simp, by go_simp, by go_simp⟩, ⟨by go_simp, by go_simp, by go_simp, by go_simp⟩, ⟨by go_simp, by go_simp, by go_simp, by go_simp⟩, by simp⟩ ?_
                rintro W1 ⟨hF1, ⟨s0, s1, s2, s3⟩, ⟨s4, s5, s6, s7⟩, ⟨r0, r1, r2, r3⟩, zW1⟩
                have HF1W := Lib.hid hF1
                obtain ⟨⟨u0, u1', u2', u3'⟩, ⟨u4, u5', u6', u7'⟩, fb, _, _, _, _, lb, lw, HB⟩ := hF1
                have k0 := fun d os => cell_regrown s0 d os
                have k1 := fun d os => cell_regrown s1 d os
                have k2 := fun d os => cell_regrown s2 d os
                have k3 := fun d os => cell_regrown s3 d os
                have k4 := fun d os => cell_regrown s4 d os
                have k5 := fun d os => cell_regrown s5 d os
                have k6 := fun d os => cell_regrown s6 d os
                have k7 := fun d os => cell_regrown s7 d os
                have l0 := fun d os => cell_regrown u0 d os
                have l1 := fun d os => cell_regrown u1' d os
                have l2 := fun d os => cell_regrown u2' d os
                have l3 := fun d os => cell_regrown u3' d os
                have l4 := fun d os => cell_regrown u4 d os
                have l5 := fun d os => cell_regrown u5' d os
                have l6 := fun d os => cell_regrown u6' d os
                have l7 := fun d os => cell_regrown u7' d os
                clear e0 e1 e2 e3 q0 q1 q2 q3
                refine wp_region_quiet_below (by kernel_rfl) (by kernel_rfl) ?_
                repeat (quiet_step (first | (go_at_call 98; with_reducible exact Calls.regrown_of (NA _)) | (go_at_call 98; with_reducible exact Calls.regrown_of (NF _)) | (go_at_call 99; with_reducible exact Calls.regrown_of (CM _))))
                refine wpQuiet_nil ?_
                rintro _ ⟨⟨dq, osq⟩, rfl⟩
                have hbw4 := below_regrown W1 dq osq
                generalize grow (redrawn W1 dq) osq = w4 at hbw4 ⊢
                obtain ⟨hcw4, hfw4⟩ := bcell hbw4
                have hlw4 := hbw4.size
                replace HB := ba HB hbw4
                have HF4 := Lib.hid (HF1W.out.mono hbw4)
                have zo : wo.heap.size < W1.heap.size := by omega
                have z4 : wo.heap.size < w4.heap.size := by omega
                by_cases hv : 0 < v
                · have HF5 := Lib.hid (show fpO (l.drop (k + 1)) (fpI a (l.drop (k + 1 + c + 1)) (a, b)) = R by
                    have := HFF.out
                    rw [if_pos hv] at this
                    rw [← this]; exact HF.out)
                  have dv : decide (0 < v) = true := decide_eq_true hv
                  go_wp2_with fail
                  go_roundw
                  case rel => exact ⟨c + 1, (a, b), by omega, by go_num, HF5.out, ⟨ham, hbm⟩, FcAt.put HF4.out lB, ⟨by go_simp, by go_simp, by go_simp, by go_simp⟩, by simp; omega⟩
                  case measure => simp [intOf]; omega
                · have HF5 := Lib.hid (show fpO (l.drop (k + 1)) (fpI a (l.drop (k + 1 + c + 1)) (P, Q)) = R by
                    have := HFF.out
                    rw [if_neg (by omega)] at this
                    rw [← this]; exact HF.out)
                  have dv : decide (0 < v) = false := decide_eq_false hv
                  go_wp2_with fail
                  go_roundw
                  case rel => exact ⟨c + 1, (P, Q), by omega, by go_num, HF5.out, ⟨hP, hQ⟩, HF4.out, ⟨by go_simp, by go_simp, by go_simp, by go_simp⟩, z4⟩
                  case measure => simp [intOf]; omega

              · have hcn : c = n - (k + 1) := by omega
                rw [fpI_end (by rw [HN.out]; omega)] at hF
                have HF3 := Lib.hid hF
                have HA3 := Lib.hid hAt
                have g1 : ¬ (c : Int) < ((n - (k + 1) : Nat) : Int) := by omega
                clear hF hAt q0 q1 q2 q3
                go_wp2_with fail
                go_roundw
                case rel => exact ⟨k + 1, (P, Q), by omega, by go_num, HF3.out, ⟨hP, hQ⟩, HA3.out⟩
                case measure => simp [intOf]; omega
        · have hkn : k = n := by omega
          rw [fpO_end (by rw [HN.out]; omega)] at hF
          obtain ⟨P, Q⟩ := acc
          have HF3 := Lib.hid hF
          obtain ⟨⟨a0, a1, a2, a3⟩, ⟨b0, b1, b2, b3⟩, fb, ⟨x0, x1, x2, x3⟩, ⟨d0, d1, d2, d3⟩, f0, f1, lb, lw, bl⟩ := hAt
          have s2 : ¬ B = w.heap.size := by omega
          have s4 : ¬ B = w.heap.size + 1 := by omega
          have s6 : ¬ w.heap.size = B := by omega
          have s8 : ¬ w.heap.size + 1 = B := by omega
          clear hF hmem
          go_wp2_with fail
          go_region_held3 (fun w' => (w'.cell? ⟨B, 0, none⟩ = some (.int .i64 (P).a) ∧ w'.cell? ⟨B, 1, none⟩ = some (.int .i64 (P).b) ∧ w'.cell? ⟨B, 2, none⟩ = some (.int .i64 (P).c) ∧ w'.cell? ⟨B, 3, none⟩ = some (.int .i64 (P).d)) ∧ (w'.cell? ⟨B, 4, none⟩ = some (.int .i64 (Q).a) ∧ w'.cell? ⟨B, 5, none⟩ = some (.int .i64 (Q).b) ∧ w'.cell? ⟨B, 6, none⟩ = some (.int .i64 (Q).c) ∧ w'.cell? ⟨B, 7, none⟩ = some (.int .i64 (Q).d))) (go_keep) (fail)
          all_goals
            go_wp2_with fail
            refine bodyPost_ret (by simp [results, Try.results47, go_sem, *]; try rfl) rfl ?_
            exact ⟨by rw [← HF3.out], by go_grown⟩

end Go.Proofs.Ytppbbcckijcckaa
