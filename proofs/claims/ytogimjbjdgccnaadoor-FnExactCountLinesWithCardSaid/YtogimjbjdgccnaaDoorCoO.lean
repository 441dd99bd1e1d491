/- Contract of the program: the signals of a line followed until they come again. -/
import Derived.Test.YtogimjbjdgccnaaDoorCoL
import Derived.WalkArith
import Derived.Deep.LoopGhost
namespace Go.Proofs.YtogimjbjdgccnaaDoor
open Go Go.ChangeMaps Go.MapKept Go.ChangeShapes Go.WideShapes Go.ChangeAt Go.RowKit
open Go.WideMaps (KeyLaw)
open Go.Maps (Keyed)
open Ln

set_option linter.unusedVariables false

theorem strInfo' : (Tryd.prog.info? 9).map (fun i => (i.zero, i.size, i.bytes)) = some (some (.string ⟨#[]⟩), 1, 16) := by kernel_rfl

set_option maxRecDepth 100000 in
theorem courseOf_no (s : ByteArray) (g : Int) (hs : s.size ≤ 1048576) (hno : askB s g = false) (w : World) :
    Calls Tryd.prog 64 #[.string s, .int .i64 g] w fun e w' => e = .returned (.tuple #[.agg #[.slice none 0 0, .int .i64 0], .bool false]) ∧ Below w.heap.size w w' := by
  have C0 := circuitOf_no s g hs hno
  clear hno
  go_enter Tryd.func64, Tryd.ntmps64
  go_wp2_with fail
  refine (C0 _).mono ?_
  rintro e w1 ⟨rfl, h1⟩
  have B1 : Below w.heap.size w w1 := ba (by go_grown) h1
  have z1 := h1.size
  simp at z1
  have c0 := (h1.cell (p := ⟨w.heap.size, 0, none⟩) (by simp)).trans (show (w.alloc _).cell? ⟨w.heap.size, 0, none⟩ = some (.slice none 0 0) by go_simp)
  have c1 := (h1.cell (p := ⟨w.heap.size, 1, none⟩) (by simp)).trans (show (w.alloc _).cell? ⟨w.heap.size, 1, none⟩ = some (.int .i64 0) by go_simp)
  have f0 := (h1.frozen (p := ⟨w.heap.size, 0, none⟩) (by simp)).trans (show (w.alloc _).frozen? ⟨w.heap.size, 0, none⟩ = false by go_simp)
  have f1 := (h1.frozen (p := ⟨w.heap.size, 1, none⟩) (by simp)).trans (show (w.alloc _).frozen? ⟨w.heap.size, 1, none⟩ = false by go_simp)
  have hlt : w.heap.size < w1.heap.size := by omega
  have HB1 := Lib.hid B1
  clear B1 h1
  go_wp2_with fail
  refine bodyPost_ret (by simp [results, Tryd.results64, go_sem, *]; try rfl) rfl ?_
  exact ⟨rfl, ((HB1.out.setCell (p := ⟨w.heap.size, 0, none⟩) (Nat.le_refl _) _).setCell (p := ⟨w.heap.size, 1, none⟩) (Nat.le_refl _) _).alloc (by simp; omega) _⟩

theorem own_slice_n {W : World} {B : Nat} {e : TypeId} {size n : Nat} {v : Value} {xs : List Value} (h : W.ownsRow B e size v n xs) : ∃ ao cap, v = .slice ao n cap := by
  rcases h.2 with ⟨hv, h0⟩ | ⟨g, cap, cur, hv, _⟩
  · exact ⟨_, _, by rw [hv, h0]⟩
  · exact ⟨_, _, hv⟩

/-- What courseOf hands back of a line. -/
def CoPost (w : World) (l : List UInt8) (gp p q : Nat) (e : Ending) (w' : World) : Prop :=
  ∃ g cap, e = .returned (.tuple #[.agg #[.slice (some ⟨g, 0, none⟩) p cap, .int .i64 q], .bool true]) ∧ w.heap.size ≤ g ∧ g < w'.heap.size ∧ p ≤ cap ∧ cap ≤ maxLen ∧ (∀ i, i < p → w'.cell? ⟨g, i, none⟩ = some (.string (sgT l gp i))) ∧ Below w.heap.size w w'

set_option maxRecDepth 100000 in
set_option maxHeartbeats 3200000 in
theorem courseOf_yes (s : ByteArray) (gp p q : Nat) (hl : LnOk s.data.toList) (hg1 : 1 ≤ gp) (hg3 : gp ≤ 3) (hP : IsPer s.data.toList gp p q) (w : World) :
    Calls Tryd.prog 64 #[.string s, .int .i64 gp] w (CoPost w s.data.toList gp p q) := by
  have hmm := @run_makeMap Tryd.prog
  have C0 := circuitOf_yes s gp hl hg1 hg3
  obtain ⟨n, hn⟩ : ∃ n, s.data.toList.length = n := ⟨_, rfl⟩
  obtain ⟨l, hll⟩ : ∃ l, s.data.toList = l := ⟨_, rfl⟩
  unfold CirPost at C0
  rw [hn, hll] at C0
  rw [hll] at hn hl hP ⊢
  obtain ⟨sx, hsx⟩ : ∃ sx, min gp (n - 1) = sx := ⟨_, rfl⟩
  rw [hsx] at C0
  have C1 := Lib.hid C0
  have n24 : n ≤ 24 := by rw [← hn]; exact hl.n24
  have SG := Lib.hid (fun (B E g cap : Nat) (cs : List Nat) (j : Nat) (w1 : World) (hB : B ≤ E) (hC : Cir B E g cs (orb l gp j) w1) => show Calls Tryd.prog 60 #[.agg #[.slice (some ⟨g, 0, none⟩) n cap, .int .i64 sx]] w1 fun e w' => e = .returned (.string (sgT l gp j)) ∧ Cir B E g cs (orb l gp j) w' ∧ Turn B E w1 w' from signals_any B E g n cap gp sx cs (orb l gp j) (by rw [orb_len]; exact hn) n24 hg1 hsx.symm w1 hB hC)
  have TK := Lib.hid (fun (B E g cap : Nat) (cs : List Nat) (j : Nat) (w1 : World) (hB : B ≤ E) (hC : Cir B E g cs (orb l gp j) w1) => show Calls Tryd.prog 92 #[.agg #[.slice (some ⟨g, 0, none⟩) n cap, .int .i64 sx], .string (sgT l gp j)] w1 fun e w' => e = .returned (.tuple #[]) ∧ Cir B E g cs (orb l gp (j + 1)) w' ∧ Turn B E w1 w' from tick_any B E g n cap gp sx cs (orb l gp j) (orb_ok hl gp j) (by rw [orb_len]; exact hn) hg1 w1 hB hC)
  have SZ := Lib.hid (fun i => show (sgT l gp i).size ≤ 24 from sgT_size hl gp i)
  have NEW := Lib.hid (fun k (hk : k < p) i (hi : i < k) => show ¬ sgT l gp i = sgT l gp k from fun e => hP.new hk i hi (sgT_inj hl e))
  have OLD := Lib.hid (show sgT l gp q = sgT l gp p by rw [sgT, sgT, hP.2.2.1])
  have hqp := hP.1
  have hp24 := hP.2.1
  obtain ⟨i0, hi, iz0, iz1, iz2⟩ := info_parts strInfo'
  clear hn hll hl hP hsx C0
  go_enter Tryd.func64, Tryd.ntmps64
  go_wp2_with fail
  refine (C1.out _).mono ?_
  rintro e w1 ⟨g, cap, cs, rfl, hC, h1⟩
  have B1 : Below w.heap.size w w1 := ba (by go_grown) h1
  have z1 := h1.size
  simp at z1
  have c0 := (h1.cell (p := ⟨w.heap.size, 0, none⟩) (by simp)).trans (show (w.alloc _).cell? ⟨w.heap.size, 0, none⟩ = some (.slice none 0 0) by go_simp)
  have c1 := (h1.cell (p := ⟨w.heap.size, 1, none⟩) (by simp)).trans (show (w.alloc _).cell? ⟨w.heap.size, 1, none⟩ = some (.int .i64 0) by go_simp)
  have f0 := (h1.frozen (p := ⟨w.heap.size, 0, none⟩) (by simp)).trans (show (w.alloc _).frozen? ⟨w.heap.size, 0, none⟩ = false by go_simp)
  have f1 := (h1.frozen (p := ⟨w.heap.size, 1, none⟩) (by simp)).trans (show (w.alloc _).frozen? ⟨w.heap.size, 1, none⟩ = false by go_simp)
  simp only [World.size_alloc] at hC
  obtain ⟨E, hE⟩ : ∃ E, w1.heap.size = E := ⟨_, rfl⟩
  have hlt : w.heap.size < w1.heap.size := by omega
  have hM0 := World.ownsMap_made ((w1.alloc (.cells #[.slice (some ⟨g, 0, none⟩) n cap, .int .i64 sx] 54)).alloc (.cells #[.slice none 0 0, .int .i64 0] 63)) Tryd.prog 9 (plainElem (H := Unit) Tryd.prog 3)
  simp only [World.size_alloc] at hM0
  have HA : ∀ b, b < w1.heap.size → (((w1.alloc (.cells #[.slice (some ⟨g, 0, none⟩) n cap, .int .i64 sx] 54)).alloc (.cells #[.slice none 0 0, .int .i64 0] 63)).alloc (.map #[] 0)).heap[b]? = w1.heap[b]? := fun b hb => by
    rw [Below.heap_alloc _ _ _ (by simp; omega), Below.heap_alloc _ _ _ (by simp; omega), Below.heap_alloc _ _ _ hb]
  have D0 := Lib.hid (show Co w (w.heap.size + 1) w1.heap.size g cap n sx cs l gp 0 0 (((w1.alloc (.cells #[.slice (some ⟨g, 0, none⟩) n cap, .int .i64 sx] 54)).alloc (.cells #[.slice none 0 0, .int .i64 0] 63)).alloc (.map #[] 0)) from
    ⟨((hC.alloc _).alloc _).alloc _, (cell_same (HA _ hlt)).trans c0, (cell_same (HA _ hlt)).trans c1, (frozen_same (HA _ hlt)).trans f0, (frozen_same (HA _ hlt)).trans f1, by go_simp, by go_simp, ⟨.slice none 0 0, by go_simp, World.ownsRow_nil _ _ _ _⟩, by go_simp, by go_simp, by go_simp, ⟨_, hM0, MpS.zero _⟩, by simp, by omega, ((B1.alloc B1.size _).alloc (by simp; omega) _).alloc (by simp; omega) _⟩)
  have hBE : w.heap.size + 1 ≤ w1.heap.size := by omega
  clear B1 h1 c0 c1 f0 f1 hC hM0 hE HA
  clear E
  go_wp2_with fail
  go_loopg [] p (fun m wr => ∃ k : Nat, k ≤ p ∧ m = p - k ∧ Co w (w.heap.size + 1) w1.heap.size g cap n sx cs l gp k k wr)
  case atStart => exact ⟨0, Nat.zero_le _, rfl, D0.out⟩
  case round =>
    obtain ⟨k, hk, hm, hD⟩ := hrel
    have c0 := hD.c0
    have c1 := hD.c1
    have HD := Lib.hid hD
    have HS := Lib.hid (SG.out _ _ g cap cs k wr hBE hD.cir)
    have HMM := Lib.hid hm
    clear hD hm
    go_wp2_with fail
    refine (HS.out).mono ?_
    rintro e w2 ⟨rfl, C2, T2⟩
    have D2 := HD.out.turn T2 C2 hBE
    clear c0 c1 C2 T2
    obtain ⟨v, hv, hr⟩ := D2.row
    obtain ⟨ao, cap', rfl⟩ := own_slice_n hr
    obtain ⟨D, hM, hMD⟩ := D2.map
    have hsz24 := SZ.out k
    have hkey := klT_key (sgT l gp k) (by omega)
    obtain ⟨v0, ps, hlook, hv0⟩ := hM.look_ok (Keyed.of_law skLaw) Tryd.underlying99 (by kernel_rfl) (plainElem_int Tryd.underlying3 (q := .i64) (a := 0) (by decide)) hkey
    obtain ⟨x0, rfl, hcc, _⟩ := plainElem_int_inv Tryd.underlying3 hv0
    simp only [Prod.mk.injEq] at hcc
    have hcc := hcc.1
    have H2 := Lib.hid D2
    have c0 := D2.c0
    have c1 := D2.c1
    have d1 := D2.d1
    have e0 := D2.e0
    have e1 := D2.e1
    have hlt2 := D2.lt
    have k0 : (0 : Int) ≤ (k : Int) := by omega
    have k1 : (k : Int) ≤ 16777216 := by omega
    clear D2 hv0
    by_cases hlt : k < p
    · have hno := hMD.no k (NEW.out k hlt)
      rw [hno] at hlook
      obtain ⟨W3, hup, hM3, hg3⟩ := hM.update (Keyed.of_law skLaw) Tryd.underlying99 (by unfold maxLen; omega) hkey (plainElem_int Tryd.underlying3 (q := .i64) (a := (k : Int)) (WalkArith.wf_i64 (by omega)))
      have HM3 := Lib.hid hM3
      have HD3 := Lib.hid (hMD.succ (fun i => Nat.le_trans (SZ.out i) (by decide)) (NEW.out k hlt))
      have HG3 := Lib.hid hg3
      have HV := Lib.hid hv
      have HR := Lib.hid hr
      have s3 := hg3.size
      have v3 : W3.cell? ⟨w1.heap.size + 1, 0, none⟩ = some (.slice ao k cap') := hg3.cell hv (fun e => by injection e with e; simp at e)
      have hvb : (Value.slice ao k cap').ownBlock ≠ some (w1.heap.size + 2) := fun e => by have := (hr.lt _ e).1; omega
      have HO3 := Lib.hid ((hr.kept hg3 (.inr hvb)).alloc (.cells #[.string (sgT l gp k)] 9))
      clear hM hM3 hg3 hr hno hcc hvb hMD
      go_wp2_with (at_builtin; refine wpList_append_own_at _ rfl _ _ 61 rfl (w1.heap.size + 3) 9 i0 (.string ByteArray.empty) 1 16 Tryd.underlying61 hi iz0 iz1 iz2 rfl (by decide) _ _ _ rfl HO3.out ⟨W3.heap.size, 0, none⟩ 1 1 [.string (sgT l gp k)] rfl rfl (cell_new1 _ _ _) (by intro u hu; simp at hu; subst hu; rfl) (by unfold maxLen; omega) (by omega) (by simp; omega) ?_; intro v' W4 hown' hgr hnil hloc; obtain ⟨q0, q1, hN⟩ := H2.out.put hBE HV.out HR.out HM3.out HD3.out HG3.out _ hown' hgr; obtain ⟨ao', n', cap'', rfl⟩ := own_slice hown'; have c05 := hN.c0; have c15 := hN.c1; have HN := Lib.hid hN; clear hN hgr hnil hloc hown')
      refine (TK.out _ _ g cap cs k _ hBE HN.out.cir).mono ?_
      rintro e w6 ⟨rfl, C6, T6⟩
      have D6 := Lib.hid (HN.out.turn T6 C6 hBE)
      clear C6 T6 c05 c15
      go_wp2_with fail
      go_roundg (p - (k + 1))
      case measure => rw [HMM.out]; omega
      case rel => exact ⟨k + 1, by omega, rfl, D6.out⟩
    · obtain rfl : k = p := by omega
      have hyes := hMD.has q hqp
      have hat := hMD.at' q hqp
      rw [OLD.out] at hyes hat
      rw [hyes] at hlook
      rw [hat] at hcc
      injection hcc with hcc
      injection hcc with _ hcc
      subst hcc
      have b0 := H2.out.b0
      have b1 := H2.out.b1
      have f0 := H2.out.f0
      have f1 := H2.out.f1
      have k3 : (0 : Int) ≤ (q : Int) := by omega
      have k4 : (q : Int) < (k : Int) := by omega
      have hq0 := hr.2
      rcases hq0 with ⟨_, h0⟩ | ⟨g', cap3, cur, hvv, hgb, hgh, hnc, hcm, _⟩
      · omega
      obtain ⟨rfl, rfl⟩ : ao = some ⟨g', 0, none⟩ ∧ cap' = cap3 := by
        injection hvv with a1 a2 a3
        exact ⟨a1, a3⟩
      have HR := Lib.hid hr
      have hgl := (Array.getElem?_eq_some_iff.1 hgh).1
      have HLOW := Lib.hid H2.out.low
      have hNC := Lib.hid hnc
      have hCM := Lib.hid hcm
      clear hM hMD hkey hyes hat hr hvv hgh hcm hnc
      go_wp2_with fail
      refine bodyPost_ret (by simp [results, Tryd.results64, go_sem, *]; try rfl) rfl ?_
      refine ⟨g', cap', rfl, by omega, by simp; omega, hNC.out, hCM.out, fun i hi => ?_, ((HLOW.out.setCell (p := ⟨w1.heap.size + 1, 1, none⟩) (by show w.heap.size ≤ w1.heap.size + 1; omega) _).setCell (p := ⟨w.heap.size, 0, none⟩) (Nat.le_refl _) _).setCell (p := ⟨w.heap.size, 1, none⟩) (Nat.le_refl _) _⟩
      have := HR.out.cells (g := g') rfl i _ (sgV_get hi)
      have ha : ((⟨g', 0, none⟩ : Addr).add i) = ⟨g', i, none⟩ := by by_cases e : i = 0 <;> simp [Addr.add, e]
      rw [ha] at this
      have hne1 : w1.heap.size + 1 ≠ g' := by omega
      have hne2 : w.heap.size ≠ g' := by omega
      refine (cell_same ?_).trans this
      simp [World.setCell, Array.getElem?_modify, hne1, hne2]

end Go.Proofs.YtogimjbjdgccnaaDoor
