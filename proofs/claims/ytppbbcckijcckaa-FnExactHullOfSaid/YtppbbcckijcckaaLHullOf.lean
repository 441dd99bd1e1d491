/- For every input the law FnExactHullOf returns true, and its arguments read afterwards as they read before. Conditions: none. -/
import Derived.Test.YtppbbcckijcckaaU2
namespace Go.Proofs.Ytppbbcckijcckaa.lHullOf
open Go.ChangeShapes Go.WideShapes Go.ChangeAt Go.RowKit Go.Joins Go.Sort

set_option linter.unusedVariables false

theorem rowAl {w : World} {g : Nat} {l : List Pn} (h : RowP w g l) (hg : g < w.heap.size) (o : Obj) : RowP (w.alloc o) g l := h.below hg ((Below.refl _ w).alloc (Nat.le_refl _) o)

theorem rowGr {w w' : World} {g : Nat} {row : Option Nat} {l : List Pn} (h : RowP w g l) (hg : w.grownBy w' row) (hne : some g ≠ row) : RowP w' g l := fun i p hp => by
  obtain ⟨a, b, c, d⟩ := h i p hp
  exact ⟨hg.cell a hne, hg.cell b hne, hg.cell c hne, hg.cell d hne⟩

theorem freeOf {w : World} {g n : Nat} (h : RoomP w g n) : FreeR w g (n * 4) := fun j hj => (h.2 j hj).2

theorem freeBl {w w' : World} {g n m : Nat} (h : FreeR w g n) (hg : g < m) (hb : Below m w w') : FreeR w' g n := freeR_below h hg hb

theorem freeGr {w w' : World} {g n : Nat} {row : Option Nat} (h : FreeR w g n) (hlt : g < w.heap.size) (hg : w.grownBy w' row) (hne : some g ≠ row) : FreeR w' g n := fun j hj => by
  rw [World.frozen?_of_block (w := w) (a := ⟨g, j, none⟩) (hg.block g hlt hne)]
  exact h j hj

theorem spPost (g n cap : Nat) (l : List Pn) (hn : l.length = n) (hb : n ≤ 1048576) (w : World) (hg : g < w.heap.size) (h1 : RowP w g l) :
    Calls Try.prog 40 #[.slice (some ⟨g, 0, none⟩) n cap] w (HoPost l w) := by
  refine (spHullOf g n cap l hn hb w hg h1).mono ?_
  rintro e w' ⟨v, he, h0, h2, h3⟩
  refine ⟨v, he, h0, fun hp => ?_, h3⟩
  have hO := h2 hp
  obtain ⟨⟨n1, n20⟩, hbd⟩ := plsB_n hn hp
  have hne : l ≠ [] := fun e => by rw [e] at hn; simp at hn; omega
  obtain ⟨g', c', rfl, hg', hg''⟩ := hO.form (hlL_is hbd hne).pos
  exact ⟨g', c', rfl, hg', hg'', own_cap8 hO, RowP.of_own hO rfl, fun j _ => hO.frozenAt j⟩

set_option maxRecDepth 100000 in
set_option maxHeartbeats 3200000 in
theorem walk_no (w : World) (pa : Option Addr) (pn pc : Nat) (pl : List Pn) (p1 : pl.length = pn) (hfit : pn ≤ 1048576) (p3 : PdA w.heap.size w pa pl) (hp : plsB pl = false) :
    Calls Try.prog 13 #[.slice pa pn pc] w fun e w' => e = .returned (.bool true) ∧ Below w.heap.size w w' := by
  have SZ := szPointS_any pa pn pc 1048576 (by omega) (by omega) (by omega)
  rw [if_pos (by omega)] at SZ
  have i1 : ¬ (1048576 : Int) - pn < 0 := by omega
  have i2 : ¬ (1 : Int) + 4 * (pn : Int) < 0 := by omega
  have P1 := fun (W : World) (g : Nat) (hg : g < W.heap.size) (h : RowP W g pl) => spPost g pn pn pl p1 hfit W hg h
  have P2 := fun (W : World) (g : Nat) (hg : g < W.heap.size) (h : RowP W g pl) => imHullOf g pn pn pl p1 hfit W hg h
  unfold HoPost at P1 P2
  rw [hp] at P1 P2
  have C1 := Lib.hid P1
  have C2 := Lib.hid P2
  have TP := Lib.hid (fun (W : World) (hW : Below w.heap.size w W) => toPointS_any pa pn pc pl p1 hfit W w.heap.size hW.size (p3.below (Nat.le_refl _) hW))
  have EQ := Lib.hid (fun (W : World) (g g' : Nat) => eqPointS_same g pn g' pn pn pl p1 (by omega) W)
  have MK := Lib.hid (fun (W : World) (g : Nat) => markPointS_any g pn pn pl p1 (by omega) W)
  clear p1 p3 hp P1 P2
  go_enter Try.func13, Try.ntmps13
  go_wp2_with (go_at_call 39; refine (SZ _).mono ?_; rintro e w' ⟨rfl, rfl⟩)
  (go_at_call 41; (with_reducible refine Calls.mono (TP.out _ ?_) ?_); (focus (go_grown; done)); rintro e w1 ⟨rfl, r1, m1, h1⟩; (try with_reducible replace h1 := undrew h1); have hB : Below w.heap.size w w1 := ba (by go_grown) h1; obtain ⟨hcw1, hfw1⟩ := bcell h1; have hqw1 := h1.size; (try simp at hqw1); (try have hz0w1 : w.heap.size < w1.heap.size := (by omega)); (try have he0w1 : w.heap.size ≤ w1.heap.size := (by omega)); have R1 := Lib.hid r1; have g1 := m1.1; have hB1 := Lib.hid hB; clear r1 m1 hcw1 hfw1 hB)
  go_wp2_with fail
  refine (C1.out _ _ g1 R1.out).mono ?_
  rintro e w2 ⟨v, rfl, hv, _, h2⟩
  obtain rfl := hv (by first | rfl | trivial)
  have hB : Below w.heap.size w w2 := ba hB1.out h2
  have hz2 := h2.size
  clear h2
  go_wp2_with fail
  (go_at_call 41; (with_reducible refine Calls.mono (TP.out _ ?_) ?_); (focus (go_grown; done)); rintro e w3 ⟨rfl, r3, m3, h1⟩; (try with_reducible replace h1 := undrew h1); have hB : Below w.heap.size w w3 := ba (by go_grown) h1; obtain ⟨hcw3, hfw3⟩ := bcell h1; have hqw3 := h1.size; (try simp at hqw3); (try have hz0w3 : w.heap.size < w3.heap.size := (by omega)); (try have he0w3 : w.heap.size ≤ w3.heap.size := (by omega)); have R3 := Lib.hid r3; have g3 := m3.1; have F3 := Lib.hid (freeOf m3); have hB3 := Lib.hid hB; clear r3 m3 hcw3 hfw3 hB)
  go_wp2_with fail
  refine (C2.out _ _ g3 R3.out).mono ?_
  rintro e w4 ⟨v, rfl, hv, _, h4⟩
  obtain rfl := hv (by first | rfl | trivial)
  have R4 := Lib.hid (R3.out.below g3 h4)
  have F4 := Lib.hid (freeBl F3.out g3 h4)
  have hB : Below w.heap.size w w4 := ba hB3.out h4
  have hz4 := h4.size
  have g4 : w2.heap.size < w4.heap.size := by omega
  clear h4
  go_wp2_with (first | (go_at_call 43; refine (eqPointS_nil _).mono ?_; rintro e w' ⟨rfl, rfl⟩))
  (go_at_call 41; (with_reducible refine Calls.mono (TP.out _ ?_) ?_); (focus (go_grown; done)); rintro e w7 ⟨rfl, r7, m7, h1⟩; (try with_reducible replace h1 := undrew h1); have hB : Below w.heap.size w w7 := ba (by go_grown) h1; obtain ⟨hcw7, hfw7⟩ := bcell h1; have hqw7 := h1.size; (try simp at hqw7); (try have hz0w7 : w.heap.size < w7.heap.size := (by omega)); (try have he0w7 : w.heap.size ≤ w7.heap.size := (by omega)); (try have hz1w7 : w2.heap.size < w7.heap.size := (by omega)); (try have he1w7 : w2.heap.size ≤ w7.heap.size := (by omega)); have R7 := Lib.hid r7; have g7 := m7.1; have S7 := Lib.hid (R4.out.below g4 h1); have F7 := Lib.hid (freeBl F4.out g4 h1); have hB7 := Lib.hid hB; clear r7 m7 hcw7 hfw7 hB)
  go_wp2_with fail
  refine (EQ.out _ _ _ (by omega) g7 S7.out R7.out).mono ?_
  rintro e w8 ⟨rfl, h8⟩
  have S8 := Lib.hid (S7.out.below (by omega) h8)
  have F8 := Lib.hid (freeBl F7.out (by omega) h8)
  have hB8 := Lib.hid (ba hB7.out h8)
  have hz8 := h8.size
  clear h8
  go_wp2_with fail
  refine (MK.out _ _ S8.out F8.out).mono ?_
  rintro e w9 ⟨rfl, _, hG9⟩
  have hB : Below w.heap.size w w9 := hB8.out.grown hG9 (by omega) (fun k hk => by injection hk with hk; omega)
  clear hG9
  go_wp2_with (first | (go_at_call 43; refine (eqPointS_nil _).mono ?_; rintro e w' ⟨rfl, rfl⟩) | (go_at_call 44; refine (markPointS_nil _).mono ?_; rintro e w' ⟨rfl, rfl⟩) | (go_at_call 45; refine (heldPointS_nil _).mono ?_; rintro e w' ⟨rfl, rfl⟩))
  (go_at_call 41; (with_reducible refine Calls.mono (TP.out _ ?_) ?_); (focus (go_grown; done)); rintro e w10 ⟨rfl, r10, m10, h1⟩; (try with_reducible replace h1 := undrew h1); have hB : Below w.heap.size w w10 := ba (by go_grown) h1; obtain ⟨hcw10, hfw10⟩ := bcell h1; have hqw10 := h1.size; (try simp at hqw10); (try have hz0w10 : w.heap.size < w10.heap.size := (by omega)); (try have he0w10 : w.heap.size ≤ w10.heap.size := (by omega)); have R10 := Lib.hid r10; have g10 := m10.1; have hB10 := Lib.hid hB; clear r10 m10 hcw10 hfw10 hB)
  go_wp2_with fail
  refine (C2.out _ _ g10 R10.out).mono ?_
  rintro e w11 ⟨v, rfl, hv, _, h11⟩
  obtain rfl := hv (by first | rfl | trivial)
  have hB : Below w.heap.size w w11 := ba hB10.out h11
  clear h11
  go_wp2_with (first | (go_at_call 43; refine (eqPointS_nil _).mono ?_; rintro e w' ⟨rfl, rfl⟩) | (go_at_call 45; refine (heldPointS_nil _).mono ?_; rintro e w' ⟨rfl, rfl⟩))
  all_goals go_returns
  all_goals exact ⟨rfl, hB⟩

set_option maxRecDepth 100000 in
set_option maxHeartbeats 3200000 in
theorem walk_yes (w : World) (pa : Option Addr) (pn pc : Nat) (pl : List Pn) (p1 : pl.length = pn) (hfit : pn ≤ 1048576) (p3 : PdA w.heap.size w pa pl) (hp : plsB pl = true) :
    Calls Try.prog 13 #[.slice pa pn pc] w fun e w' => e = .returned (.bool true) ∧ Below w.heap.size w w' := by
  have SZ := szPointS_any pa pn pc 1048576 (by omega) (by omega) (by omega)
  rw [if_pos (by omega)] at SZ
  have i1 : ¬ (1048576 : Int) - pn < 0 := by omega
  have i2 : ¬ (1 : Int) + 4 * (pn : Int) < 0 := by omega
  obtain ⟨⟨n1, n20⟩, hbd⟩ := plsB_n p1 hp
  have hm : (hlL pl).length ≤ 40 := by
    have := hlL_length hbd (fun e => by rw [e] at p1; simp at p1; omega)
    omega
  have P1 := fun (W : World) (g : Nat) (hg : g < W.heap.size) (h : RowP W g pl) => spPost g pn pn pl p1 hfit W hg h
  have P2 := fun (W : World) (g : Nat) (hg : g < W.heap.size) (h : RowP W g pl) => imHullOf g pn pn pl p1 hfit W hg h
  unfold HoPost at P1 P2
  rw [hp] at P1 P2
  have TP := Lib.hid (fun (W : World) (hW : Below w.heap.size w W) => toPointS_any pa pn pc pl p1 hfit W w.heap.size hW.size (p3.below (Nat.le_refl _) hW))
  have EQ := Lib.hid (fun (W : World) (g g' : Nat) => eqPointS_same g pn g' pn pn pl p1 (by omega) W)
  have MK := Lib.hid (fun (W : World) (g : Nat) => markPointS_any g pn pn pl p1 (by omega) W)
  generalize hlL pl = H at *
  obtain ⟨m, hHm⟩ : ∃ m, H.length = m := ⟨_, rfl⟩
  rw [hHm] at P1 P2 hm
  have C1 := Lib.hid P1
  have C2 := Lib.hid P2
  have EQH := Lib.hid (fun (W : World) (g c g' c' : Nat) => eqPointS_same g c g' c' m H hHm (by omega) W)
  have MKH := Lib.hid (fun (W : World) (g c : Nat) => markPointS_any g c m H hHm (by omega) W)
  have HLD := Lib.hid (fun (W : World) (g c : Nat) => heldPointS_any g c m (by omega) W)
  have i3 : ¬ (1 : Int) + 4 * (m : Int) < 0 := by omega
  clear p1 p3 hp P1 P2 hHm hbd
  go_enter Try.func13, Try.ntmps13
  go_wp2_with (go_at_call 39; refine (SZ _).mono ?_; rintro e w' ⟨rfl, rfl⟩)
  (go_at_call 41; (with_reducible refine Calls.mono (TP.out _ ?_) ?_); (focus (go_grown; done)); rintro e w1 ⟨rfl, r1, m1, h1⟩; (try with_reducible replace h1 := undrew h1); have hB : Below w.heap.size w w1 := ba (by go_grown) h1; obtain ⟨hcw1, hfw1⟩ := bcell h1; have hqw1 := h1.size; (try simp at hqw1); (try have hz0w1 : w.heap.size < w1.heap.size := (by omega)); (try have he0w1 : w.heap.size ≤ w1.heap.size := (by omega)); have R1 := Lib.hid r1; have g1 := m1.1; have hB1 := Lib.hid hB; clear r1 m1 hcw1 hfw1 hB)
  go_wp2_with fail
  refine (C1.out _ _ g1 R1.out).mono ?_
  rintro e w2 ⟨v, rfl, _, hv, h2⟩
  obtain ⟨gw, cw, rfl, gw0, gw1, _, rw2, _⟩ := hv (by first | rfl | trivial)
  have Rw2 := Lib.hid rw2
  have hB : Below w.heap.size w w2 := ba hB1.out h2
  have hz2 := h2.size
  clear h2 rw2
  go_wp2_with fail
  (go_at_call 41; (with_reducible refine Calls.mono (TP.out _ ?_) ?_); (focus (go_grown; done)); rintro e w3 ⟨rfl, r3, m3, h1⟩; (try with_reducible replace h1 := undrew h1); have hB : Below w.heap.size w w3 := ba (by go_grown) h1; obtain ⟨hcw3, hfw3⟩ := bcell h1; have hqw3 := h1.size; (try simp at hqw3); (try have hz0w3 : w.heap.size < w3.heap.size := (by omega)); (try have he0w3 : w.heap.size ≤ w3.heap.size := (by omega)); have R3 := Lib.hid r3; have g3 := m3.1; have F3 := Lib.hid (freeOf m3); have hB3 := Lib.hid hB; have Rw3 := Lib.hid (Rw2.out.below gw1 h1); clear r3 m3 hcw3 hfw3 hB)
  go_wp2_with fail
  refine (C2.out _ _ g3 R3.out).mono ?_
  rintro e w4 ⟨v, rfl, _, hv, h4⟩
  obtain ⟨gg, cg, rfl, gg0, gg1, _, rg4, fg4⟩ := hv (by first | rfl | trivial)
  have Rg4 := Lib.hid rg4
  have Fg4 := Lib.hid (show FreeR w4 gg (m * 4) from fg4)
  have R4 := Lib.hid (R3.out.below g3 h4)
  have F4 := Lib.hid (freeBl F3.out g3 h4)
  have Rw4 := Lib.hid (Rw3.out.below (by omega) h4)
  have hB4 := Lib.hid (ba hB3.out h4)
  have hz4 := h4.size
  clear h4 rg4 fg4
  go_wp2_with fail
  refine (EQH.out _ gg cg gw cw gg1 (by omega) Rg4.out Rw4.out).mono ?_
  rintro e w5 ⟨rfl, h5⟩
  have Rg5 := Lib.hid (Rg4.out.below gg1 h5)
  have Fg5 := Lib.hid (freeBl Fg4.out gg1 h5)
  have R5 := Lib.hid (R4.out.below (by omega) h5)
  have F5 := Lib.hid (freeBl F4.out (by omega) h5)
  have Rw5 := Lib.hid (Rw4.out.below (by omega) h5)
  have hB : Below w.heap.size w w5 := ba hB4.out h5
  have hz5 := h5.size
  have x5 : w2.heap.size < w5.heap.size := by omega
  have y5 : gg < w5.heap.size := by omega
  have z5 : gw < w5.heap.size := by omega
  clear h5
  go_wp2_with fail
  (go_at_call 41; (with_reducible refine Calls.mono (TP.out _ ?_) ?_); (focus (go_grown; done)); rintro e w6 ⟨rfl, r6, m6, h1⟩; (try with_reducible replace h1 := undrew h1); have hB : Below w.heap.size w w6 := ba (by go_grown) h1; obtain ⟨hcw6, hfw6⟩ := bcell h1; have hqw6 := h1.size; (try simp at hqw6); (try have hz0w6 : w.heap.size < w6.heap.size := (by omega)); (try have he0w6 : w.heap.size ≤ w6.heap.size := (by omega)); have R6 := Lib.hid r6; have g6 := m6.1; have S6 := Lib.hid (R5.out.below x5 h1); have F6 := Lib.hid (freeBl F5.out x5 h1); have Rg6 := Lib.hid (Rg5.out.below y5 h1); have Fg6 := Lib.hid (freeBl Fg5.out y5 h1); have Rw6 := Lib.hid (Rw5.out.below z5 h1); have hB6 := Lib.hid hB; clear r6 m6 hcw6 hfw6 hB)
  go_wp2_with fail
  refine (EQ.out _ _ _ (by omega) g6 S6.out R6.out).mono ?_
  rintro e w7 ⟨rfl, h7⟩
  have S7 := Lib.hid (S6.out.below (by omega) h7)
  have F7 := Lib.hid (freeBl F6.out (by omega) h7)
  have Rg7 := Lib.hid (Rg6.out.below (by omega) h7)
  have Fg7 := Lib.hid (freeBl Fg6.out (by omega) h7)
  have Rw7 := Lib.hid (Rw6.out.below (by omega) h7)
  have hB7 := Lib.hid (ba hB6.out h7)
  have hz7 := h7.size
  clear h7
  go_wp2_with fail
  refine (MK.out _ _ S7.out F7.out).mono ?_
  rintro e w8 ⟨rfl, _, hG8⟩
  have Rg8 := Lib.hid (rowGr Rg7.out hG8 (by intro e; injection e with e; omega))
  have Fg8 := Lib.hid (freeGr Fg7.out (by omega) hG8 (by intro e; injection e with e; omega))
  have Rw8 := Lib.hid (rowGr Rw7.out hG8 (by intro e; injection e with e; omega))
  have hB8 := Lib.hid (hB7.out.grown hG8 (by omega) (fun k hk => by injection hk with hk; omega))
  have hz8 := hG8.size
  clear hG8
  go_wp2_with fail
  refine (EQH.out _ gg cg gw cw (by omega) (by omega) Rg8.out Rw8.out).mono ?_
  rintro e w9 ⟨rfl, h9⟩
  have Rg9 := Lib.hid (Rg8.out.below (by omega) h9)
  have Fg9 := Lib.hid (freeBl Fg8.out (by omega) h9)
  have Rw9 := Lib.hid (Rw8.out.below (by omega) h9)
  have hB9 := Lib.hid (ba hB8.out h9)
  have hz9 := h9.size
  clear h9
  go_wp2_with fail
  refine (MKH.out _ gg cg Rg9.out Fg9.out).mono ?_
  rintro e w10 ⟨rfl, hK10, hG10⟩
  have K10 := Lib.hid hK10
  have Rw10 := Lib.hid (rowGr Rw9.out hG10 (by intro e; injection e with e; omega))
  have hB : Below w.heap.size w w10 := hB9.out.grown hG10 (by omega) (fun k hk => by injection hk with hk; omega)
  have hz10 := hG10.size
  have y10 : gg < w10.heap.size := by omega
  have z10 : gw < w10.heap.size := by omega
  clear hG10 hK10
  go_wp2_with fail
  refine (HLD.out _ gg cg K10.out).mono ?_
  rintro e w' ⟨rfl, rfl⟩
  go_wp2_with fail
  (go_at_call 41; (with_reducible refine Calls.mono (TP.out _ ?_) ?_); (focus (go_grown; done)); rintro e w11 ⟨rfl, r11, m11, h1⟩; (try with_reducible replace h1 := undrew h1); have hB : Below w.heap.size w w11 := ba (by go_grown) h1; obtain ⟨hcw11, hfw11⟩ := bcell h1; have hqw11 := h1.size; (try simp at hqw11); (try have hz0w11 : w.heap.size < w11.heap.size := (by omega)); (try have he0w11 : w.heap.size ≤ w11.heap.size := (by omega)); have R11 := Lib.hid r11; have g11 := m11.1; have K11 := Lib.hid (K10.out.below y10 h1); have Rw11 := Lib.hid (Rw10.out.below z10 h1); have hB11 := Lib.hid hB; clear r11 m11 hcw11 hfw11 hB)
  go_wp2_with fail
  refine (C2.out _ _ g11 R11.out).mono ?_
  rintro e w12 ⟨v, rfl, _, hv, h12⟩
  obtain ⟨gh, ch, rfl, gh0, gh1, _, rh12, _⟩ := hv (by first | rfl | trivial)
  have Rh12 := Lib.hid rh12
  have K12 := Lib.hid (K11.out.below (by omega) h12)
  have Rw12 := Lib.hid (Rw11.out.below (by omega) h12)
  have hB12 := Lib.hid (ba hB11.out h12)
  have hz12 := h12.size
  clear h12 rh12
  go_wp2_with fail
  refine (EQH.out _ gh ch gw cw gh1 (by omega) Rh12.out Rw12.out).mono ?_
  rintro e w13 ⟨rfl, h13⟩
  have K13 := Lib.hid (K12.out.below (by omega) h13)
  have hB13 := Lib.hid (ba hB12.out h13)
  clear h13
  go_wp2_with fail
  refine (HLD.out _ gg cg K13.out).mono ?_
  rintro e w' ⟨rfl, rfl⟩
  go_wp2_with fail
  all_goals go_returns
  all_goals exact ⟨rfl, hB13.out⟩

set_option maxRecDepth 100000 in
theorem walk (w : World) (pa : Option Addr) (pn pc : Nat) (pl : List Pn) (p1 : pl.length = pn) (p2 : pn ≤ maxLen) (p3 : PdA w.heap.size w pa pl) :
    Calls Try.prog 13 #[.slice pa pn pc] w fun e w' => e = .returned (.bool true) ∧ Below w.heap.size w w' := by
  by_cases hfit : pn ≤ 1048576
  · cases hp : plsB pl
    · exact walk_no w pa pn pc pl p1 hfit p3 hp
    · exact walk_yes w pa pn pc pl p1 hfit p3 hp
  · have hmx : pn ≤ 9223372036854775807 := by unfold maxLen at p2; exact p2
    have SZ := szPointS_any pa pn pc 1048576 (by omega) (by omega) hmx
    rw [if_neg (by omega)] at SZ
    go_enter Try.func13, Try.ntmps13
    go_wp2_with (go_at_call 39; refine (SZ _).mono ?_; rintro e w' ⟨rfl, rfl⟩)
    go_returns
    exact ⟨rfl, by go_grown⟩

set_option maxRecDepth 100000 in
theorem lifted (os : Os) (started : os.Started) (H : Type) (enc : TypeId × Value → H) :
    ReturnsInHanded {} Try.checked os 13 .any (Rows.fnExactHullOfSpec.pre6 enc Try.prog Try.f13 Rows.fnExactHullOfRow.domain false) (Rows.fnExactHullOfSpec.post enc Try.prog Try.f13 false true false false) := by
  refine returnsInHanded_of_change (C := Try.checked) Try.own started (by kernel_rfl) Try.func13
    (ChangeSpec.witness6 (enc := enc) (C := Try.checked) false ⟨#[], #[.slice none 0 0], []⟩ 8 (by kernel_rfl) (by kernel_rfl) (by kernel_rfl) (by kernel_rfl)) ?_
  intro W base args ds gs before hval0 hW _ _
  have hval : ∀ (j : Nat) t v, Try.f13.params[j]? = some t → args[j]? = some v → Value.okWide Try.prog W .any base t v := hval0
  have hW0 := hW
  obtain ⟨p, q, hA0, hV, rfl, _, _⟩ := hW
  have hA : DataW.TrodAll enc Try.prog W 0 (fun _ => true) true Try.f13.params.toList args.toList ds p := hA0
  rw [Try.params13] at hA hval
  obtain ⟨v0, d0, rfl, rfl, h0⟩ := trodAll_one hA
  obtain ⟨pa, pn, pc, pl, rfl, p1, p2, p3⟩ := open_points (hval 0 45 v0 rfl rfl) h0
  refine (walk W pa pn pc pl p1 p2 p3).mono fun e W' ⟨he, hw⟩ => ?_
  subst he
  exact ⟨_, rfl, law_post Try.laidOut (by kernel_rfl) rfl Try.underlying4 rfl rfl hW0 hw⟩

set_option maxRecDepth 100000 in
theorem closed : joinedFacts Try.prog 13 Try.f13 Rows.fnExactHullOfSpec Rows.fnExactHullOfRow = true := by
  unfold joinedFacts
  simp only [Bool.and_eq_true]
  repeat' (with_reducible apply And.intro)
  all_goals first | (with_reducible exact enter_ok) | (rw [make_ok]; kernel_rfl) | (rw [lifts_ok]; kernel_rfl) | kernel_rfl

theorem holds : Rows.FnExactHullOfSaid :=
  OpenClaim.holds_of_wide 13 Try.f13 rfl rfl rfl rfl rfl rfl rfl ⟨rfl, rfl, rfl, rfl, rfl⟩ rfl rfl rfl rfl rfl (by kernel_rfl) Try.func13 closed
    (of_decide_eq_true (by kernel_rfl)) (by unfold Func.isWrapper; first | (rw [if_pos (by decide +kernel)]; kernel_rfl) | (rw [if_neg (by decide +kernel)]; exact ⟨rfl, rfl⟩))
    (fun os started H enc _ => lifted os started H enc)

end Go.Proofs.Ytppbbcckijcckaa.lHullOf
