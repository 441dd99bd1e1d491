/- Contracts: the program's reading of runs. -/
import Derived.Test.YtamojnbhnbeecabDoorPrU
import Derived.Shelf.Strings.SlTrimAscii
namespace Go.Proofs.YtamojnbhnbeecabDoor
open Go.ChangeShapes Go.WideShapes Go.ChangeAt Go.RowKit

set_option linter.unusedVariables false

abbrev tens : ByteArray := ⟨#[48, 49, 50, 51, 52, 53, 54, 55, 56, 57]⟩
theorem tens_isD (b : UInt8) : tens.data.toList.contains b = isD b := by
  rw [Bool.eq_iff_iff]
  simp only [isD, List.contains_iff_mem, List.mem_cons, List.mem_nil_iff, or_false, decide_eq_true_eq, ← UInt8.toNat_inj]
  constructor
  · rintro (h | h | h | h | h | h | h | h | h | h) <;> (rw [h]; decide)
  · rintro ⟨h1, h2⟩
    have : ∀ n : Nat, 48 ≤ n → n ≤ 57 → (n = 48 ∨ n = 49 ∨ n = 50 ∨ n = 51 ∨ n = 52 ∨ n = 53 ∨ n = 54 ∨ n = 55 ∨ n = 56 ∨ n = 57) := by omega
    exact this _ h1 h2
theorem trimT_any (T : ByteArray) (w : World) :
    Calls Tryd.prog 12 #[.string T, .string tens] w fun e w' => e = .returned (.string (ofL (T.data.toList.dropWhile isD))) ∧ Below w.heap.size w w' :=
  (Any.strings_TrimLeft_laid Tryd.lays161 (by kernel_rfl) T tens w (by decide) (ascii_of_all (by decide))).mono fun e w' ⟨he, hb⟩ => ⟨by
    rw [he, Lib.trimLeftS, show (fun x => tens.data.toList.contains x) = isD from funext tens_isD]; rfl, hb⟩

theorem joined2_no {a b : ByteArray} (h : tkB a = false ∨ tkB b = false ∨ ¬ a.size + b.size ≤ 40) : joB [a, b] = false := (jo2_no h).1

def unP (s : ByteArray) : ByteArray := ofL ((unr [] s.data.toList).getD [])
def unB (s : ByteArray) : Bool := (unr [] s.data.toList).isSome
theorem ret_un {s x : ByteArray} {b : Bool} {l : Option (List UInt8)} (h : unr [] s.data.toList = l) (hb : l.isSome = b) (hx : ofL (l.getD []) = x) : Ending.returned (.tuple #[.string x, .bool b]) = Ending.returned (.tuple #[.string (unP s), .bool (unB s)]) := by rw [unP, unB, h, hb, hx]

theorem tk_list {l : List UInt8} (hp : ∀ c ∈ l, pcb c = true) (hl : l.length ≤ 40) : tkB (ofL l) = true := by
  simp only [tkB, ofL_size, Bool.and_eq_true, decide_eq_true_eq, List.all_eq_true]
  exact ⟨hl, fun c hc => hp c (by simpa [ofL] using hc)⟩

set_option maxRecDepth 100000 in
set_option maxHeartbeats 3200000 in
theorem unrolled_any {w0 : World} {tp1 tp2 : TypeId} {p1 p2 : Value} (hv1 : w0.var? Tryd.prog "strconv.ErrSyntax" = some #[.iface tp1 p1]) (hv2 : w0.var? Tryd.prog "strconv.ErrRange" = some #[.iface tp2 p2])
    (s : ByteArray) (hs : s.size ≤ 1048576) (w : World) (hb0 : Below w0.heap.size w0 w) :
    Calls Tryd.prog 18 #[.string s] w fun e w' => e = .returned (.tuple #[.string (unP s), .bool (unB s)]) ∧ Below w.heap.size w w' := by
  have UR := Lib.hid (fun (c : UInt8) (D : ByteArray) (hd : D.size ≤ 1048576) (W : World) (hb : Below w.heap.size w W) => urun_any hv1 hv2 c D hd W (hb0.trans (hb.mono hb0.size)))
  clear hv1 hv2 hb0
  go_enter Tryd.func18, Tryd.ntmps18
  go_wp2_with fail
  go_loopw [4, 5] (fun tr v wr => ∃ (x : ByteArray) (acc : List UInt8), v = .string x ∧ tr = .string (ofL acc) ∧ (∀ c ∈ acc, pcb c = true) ∧ acc.length ≤ 40 ∧ unr acc x.data.toList = unr [] s.data.toList ∧ x.size ≤ s.size ∧ Below w.heap.size w wr) (fun tr v _ => match v with | .string x => x.size | _ => 0)
  case atStart => exact ⟨s, [], rfl, rfl, by simp, by simp, rfl, Nat.le_refl _, Below.refl _ _⟩
  case round =>
    obtain ⟨x, acc, rfl, rfl, hpc, hlen, hu, hx, hb⟩ := hrel
    have HP := Lib.hid hpc
    have HU := Lib.hid hu
    have HB := Lib.hid hb
    have hz0 : w.heap.size ≤ wr.heap.size := hb.size
    clear hpc hu
    cases hl : x.data.toList with
    | nil =>
      have HN := Lib.hid (show unr [] s.data.toList = some acc by rw [← HU.out, hl, unr_nil])
      have hE : x.toList.isEmpty = true := by rw [Lib.toList_data, hl]; rfl
      clear hl
      go_wp2_with fail
      go_ret2
      exact ⟨ret_un HN.out rfl rfl, HB.out⟩
    | cons c t =>
      have hE : x.toList.isEmpty = false := by rw [Lib.toList_data, hl]; rfl
      have hx1 : x.size = t.length + 1 := by rw [← size_list x, hl]; rfl
      have X1 : x.extract 0 1 = oneC c := ru_ext (i := 0) (by rw [hl]; rfl)
      have hT : x.extract 1 x.size = ofL t := tail_of hl
      have e3 := congrArg List.length (List.takeWhile_append_dropWhile (p := isD) (l := t))
      rw [List.length_append] at e3
      obtain ⟨ds, hds⟩ : ∃ ds, t.takeWhile isD = ds := ⟨_, rfl⟩
      obtain ⟨rl, hrl⟩ : ∃ rl, t.dropWhile isD = rl := ⟨_, rfl⟩
      have X2 : x.extract 1 (1 + ds.length) = ofL ds := by
        have h2 : (x.extract 1 (1 + ds.length)).data.toList = ds := by
          rw [Lib.extract_data, hl, ← hds]
          have h6 : t.take (t.takeWhile isD).length = t.takeWhile isD := (List.prefix_iff_eq_take.1 (List.takeWhile_prefix isD)).symm
          simp [h6]
        rw [← ofL_self (x.extract 1 (1 + ds.length)), h2]
      have HUC := Lib.hid (show (if urB c ds = true ∧ acc.length + (urS c ds).size ≤ 40 then unr (acc ++ (urS c ds).data.toList) rl else none) = unr [] s.data.toList by rw [← HU.out, hl, unr_cons, hds, hrl])
      rw [hds, hrl] at e3
      obtain ⟨T, hTT⟩ : ∃ T, ofL t = T := ⟨_, rfl⟩
      obtain ⟨r, hr⟩ : ∃ r, ofL rl = r := ⟨_, rfl⟩
      obtain ⟨D, hD⟩ : ∃ D, ofL ds = D := ⟨_, rfl⟩
      have TC := Lib.hid (fun W => (trimT_any T W).mono (fun e w' h => show e = .returned (.string r) ∧ Below W.heap.size W w' from ⟨by rw [h.1, ← hTT, ← hr, ← hrl]; simp [ofL], h.2⟩))
      have hDl : D.data.toList = ds := by rw [← hD]; simp [ofL]
      have hrs : r.size = rl.length := by rw [← hr, ofL_size]
      have hDs : D.size = ds.length := by rw [← hD, ofL_size]
      rw [hD] at X2
      rw [hTT] at hT
      have RL := Lib.hid (show r.data.toList = rl by rw [← hr]; simp [ofL])
      have hw : IntKind.i64.wrap ((x.size : Int) - (r.size : Int)) = ((1 + ds.length : Nat) : Int) := by rw [IntKind.wrap_i64]; omega
      obtain ⟨m, hm⟩ : ∃ m, 1 + ds.length = m := ⟨_, rfl⟩
      rw [hm] at X2 hw
      have k0 : (1 : Int) ≤ (x.size : Int) := by omega
      have k1 : (1 : Int) ≤ (m : Int) := by omega
      have k2 : (m : Int) ≤ (x.size : Int) := by omega
      have U1 := Lib.hid (UR.out c D (by omega))
      rw [hDl] at U1
      have HL := Lib.hid hl
      have HDS := Lib.hid hds
      have hrx : r.size < x.size := by omega
      have hrs2 : r.size ≤ s.size := by omega
      clear hl hds hrl hTT hr hD hDl hx1 e3 hrs hDs hm
      cases hub : urB c ds
      · have HN := Lib.hid (show unr [] s.data.toList = none by rw [← HUC.out, hub]; simp)
        rw [hub] at U1
        go_wp2_with (first | (go_at_call 12; (with_reducible refine (TC.out _).mono ?_); rintro e wA ⟨rfl, h1⟩; (try with_reducible replace h1 := undrew h1); have hB : Below w.heap.size w wA := ba (by go_grown) h1; obtain ⟨hcwA, hfwA⟩ := bcell h1; have hqwA := h1.size; (try simp at hqwA); (try have hz0wA : w.heap.size < wA.heap.size := (by omega)); (try have he0wA : w.heap.size ≤ wA.heap.size := (by omega))))
        go_region_with (first | (go_at_call 27; (with_reducible refine (U1.out _ (by go_grown)).mono ?_); rintro e wB ⟨rfl, h1⟩; (try with_reducible replace h1 := undrew h1); have hB : Below w.heap.size w wB := ba (by go_grown) h1; obtain ⟨hcwB, hfwB⟩ := bcell h1; have hqwB := h1.size; (try simp at hqwB); (try have hz0wB : w.heap.size < wB.heap.size := (by omega)); (try have he0wB : w.heap.size ≤ wB.heap.size := (by omega)); (try have hz1wB : wA.heap.size < wB.heap.size := (by omega)); (try have he1wB : wA.heap.size ≤ wB.heap.size := (by omega))))
        all_goals go_wp2_with fail
        all_goals go_ret2
        all_goals exact ⟨ret_un HN.out rfl rfl, by go_grown⟩
      · obtain ⟨n, hS, hpc, hn40⟩ := urS_pcb hub
        have HS := Lib.hid hS
        rw [hub, hS] at U1
        have tk1 : tkB (ofL acc) = true := tk_list HP.out hlen
        by_cases h40 : acc.length + n ≤ 40
        · have tk2 : tkB (ofL (List.replicate n c)) = true := tk_list (fun d hd => by rw [(List.mem_replicate.1 hd).2]; exact hpc) (by rw [List.length_replicate]; omega)
          obtain ⟨j1, j2⟩ := jo2_yes tk1 tk2 (by rw [ofL_size, ofL_size, List.length_replicate]; exact h40)
          have J1 := Lib.hid j1
          have J2 := Lib.hid (j2.trans (ofL_append _ _))
          have HN := Lib.hid (show unr (acc ++ List.replicate n c) r.data.toList = unr [] s.data.toList by
            rw [← HUC.out, RL.out, HS.out, if_pos ⟨hub, by rw [ofL_size, List.length_replicate]; exact h40⟩]
            simp [ofL])
          have HPC := Lib.hid hpc
          clear j1 j2 tk1 tk2 hS hpc
          go_wp2_with (first | (go_at_call 12; (with_reducible refine (TC.out _).mono ?_); rintro e wA ⟨rfl, h1⟩; (try with_reducible replace h1 := undrew h1); have hB : Below w.heap.size w wA := ba (by go_grown) h1; obtain ⟨hcwA, hfwA⟩ := bcell h1; have hqwA := h1.size; (try simp at hqwA); (try have hz0wA : w.heap.size < wA.heap.size := (by omega)); (try have he0wA : w.heap.size ≤ wA.heap.size := (by omega))))
          go_region_with (first | (go_at_call 27; (with_reducible refine (U1.out _ (by go_grown)).mono ?_); rintro e wB ⟨rfl, h1⟩; (try with_reducible replace h1 := undrew h1); have hB : Below w.heap.size w wB := ba (by go_grown) h1; obtain ⟨hcwB, hfwB⟩ := bcell h1; have hqwB := h1.size; (try simp at hqwB); (try have hz0wB : w.heap.size < wB.heap.size := (by omega)); (try have he0wB : w.heap.size ≤ wB.heap.size := (by omega)); (try have hz1wB : wA.heap.size < wB.heap.size := (by omega)); (try have he1wB : wA.heap.size ≤ wB.heap.size := (by omega))))
          all_goals go_wp2_with fail
          all_goals refine (joined_any wB.heap.size 0 2 2 [ofL acc, ofL (List.replicate n c)] _ rfl (by omega) (by intro y hy; simp only [List.mem_cons, List.mem_nil_iff, or_false] at hy; rcases hy with rfl | rfl <;> (simp only [ofL_size, List.length_replicate]; omega)) (by simp) (by
            intro j y hy
            match j, hy with
            | 0, hy => simp at hy; subst hy; go_simp
            | 1, hy => simp at hy; subst hy; go_simp)).mono ?_
          all_goals rintro e wE ⟨he, hE⟩
          all_goals rw [J1.out, J2.out] at he
          all_goals subst he
          all_goals have hBE : Below w.heap.size w wE := ba (by go_grown) hE
          all_goals go_wp2_with fail
          all_goals go_roundw
          case rel => exact ⟨r, acc ++ List.replicate n c, rfl, rfl, (by intro d hd; rcases List.mem_append.1 hd with hd | hd; exact HP.out d hd; rw [(List.mem_replicate.1 hd).2]; exact HPC.out), by rw [List.length_append, List.length_replicate]; exact h40, HN.out, hrs2, hBE⟩
          case measure => show r.size < x.size; exact hrx
        · obtain ⟨j1, j2⟩ := jo2_no (a := ofL acc) (b := ofL (List.replicate n c)) (.inr (.inr (by rw [ofL_size, ofL_size, List.length_replicate]; exact h40)))
          have J1 := Lib.hid j1
          have J2 := Lib.hid j2
          have HN := Lib.hid (show unr [] s.data.toList = none by
            rw [← HUC.out, HS.out, if_neg]
            rw [ofL_size, List.length_replicate]
            exact fun h => h40 h.2)
          clear j1 j2 tk1 hS hpc
          go_wp2_with (first | (go_at_call 12; (with_reducible refine (TC.out _).mono ?_); rintro e wA ⟨rfl, h1⟩; (try with_reducible replace h1 := undrew h1); have hB : Below w.heap.size w wA := ba (by go_grown) h1; obtain ⟨hcwA, hfwA⟩ := bcell h1; have hqwA := h1.size; (try simp at hqwA); (try have hz0wA : w.heap.size < wA.heap.size := (by omega)); (try have he0wA : w.heap.size ≤ wA.heap.size := (by omega))))
          go_region_with (first | (go_at_call 27; (with_reducible refine (U1.out _ (by go_grown)).mono ?_); rintro e wB ⟨rfl, h1⟩; (try with_reducible replace h1 := undrew h1); have hB : Below w.heap.size w wB := ba (by go_grown) h1; obtain ⟨hcwB, hfwB⟩ := bcell h1; have hqwB := h1.size; (try simp at hqwB); (try have hz0wB : w.heap.size < wB.heap.size := (by omega)); (try have he0wB : w.heap.size ≤ wB.heap.size := (by omega)); (try have hz1wB : wA.heap.size < wB.heap.size := (by omega)); (try have he1wB : wA.heap.size ≤ wB.heap.size := (by omega))))
          all_goals go_wp2_with fail
          all_goals refine (joined_any wB.heap.size 0 2 2 [ofL acc, ofL (List.replicate n c)] _ rfl (by omega) (by intro y hy; simp only [List.mem_cons, List.mem_nil_iff, or_false] at hy; rcases hy with rfl | rfl <;> (simp only [ofL_size, List.length_replicate]; omega)) (by simp) (by
            intro j y hy
            match j, hy with
            | 0, hy => simp at hy; subst hy; go_simp
            | 1, hy => simp at hy; subst hy; go_simp)).mono ?_
          all_goals rintro e wE ⟨he, hE⟩
          all_goals rw [J1.out, J2.out] at he
          all_goals subst he
          all_goals have hBE : Below w.heap.size w wE := ba (by go_grown) hE
          all_goals go_wp2_with fail
          all_goals go_ret2
          all_goals exact ⟨ret_un HN.out rfl rfl, hBE⟩

end Go.Proofs.YtamojnbhnbeecabDoor
