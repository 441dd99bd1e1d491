/- Contract: ParseRuns of the model. -/
import Derived.Test.YtamojnbhnbeecabDoorPrX
import Derived.BigQuiet
import Derived.Deep.DeepCutAuto
import Derived.Deep.CutBlock
import Derived.WalkSpells
namespace Go.Proofs.YtamojnbhnbeecabDoor
open Go.ChangeShapes Go.WideShapes Go.ChangeAt Go.RowKit

set_option linter.unusedVariables false

theorem pm_none {s : ByteArray} (hs : s ≠ ⟨#[45]⟩) (h : mdl [] s.data.toList = none) : prM s = none := by simp [prM, hs, h]
theorem pm_empty {s : ByteArray} (hs : s ≠ ⟨#[45]⟩) (h : mdl [] s.data.toList = some []) : prM s = none := by simp [prM, hs, h]
theorem pm_no {s : ByteArray} {l : List UInt8} (hs : s ≠ ⟨#[45]⟩) (h : mdl [] s.data.toList = some l) (hr : ruS (ofL l) ≠ s) : prM s = none := by simp [prM, hs, h, hr]
theorem pm_some {s : ByteArray} {l : List UInt8} (hs : s ≠ ⟨#[45]⟩) (h : mdl [] s.data.toList = some l) (hl : l ≠ []) (hr : ruS (ofL l) = s) : prM s = some l := by simp [prM, hs, h, hr, hl]

set_option maxRecDepth 100000 in
set_option maxHeartbeats 3200000 in
theorem spParseRuns (s : ByteArray) (hs : s.size ≤ 1048576) (w : World) :
    Calls Tryd.prog 7 #[.string s] w fun e w' => e = .returned (.tuple #[.string (prS s), .bool (prB s)]) ∧ Below w.heap.size w w' := by
  by_cases hd : s = ⟨#[45]⟩
  · have HR := Lib.hid (show prM s = some [] by simp [prM, hd])
    have hE : (s.toList == [45]) = true := (beq_data s ⟨#[45]⟩).trans (decide_eq_true hd)
    clear hd
    go_enter Tryd.func7, Tryd.ntmps7
    go_wp2_with fail
    go_ret2
    exact ⟨ret_pm HR.out rfl rfl, Below.refl _ _⟩
  have hE : (s.toList == [45]) = false := (beq_data s ⟨#[45]⟩).trans (decide_eq_false hd)
  have HD := Lib.hid hd
  clear hd
  go_enter Tryd.func7, Tryd.ntmps7
  go_wp2_with fail
  go_loopw [4, 5] (fun o v wr => ∃ (i : Nat) (acc : List UInt8), i ≤ s.size ∧ v = .int .i64 i ∧ o = .string (ofL acc) ∧ (∀ c ∈ acc, pcb c = true) ∧ acc.length ≤ 40 ∧ mdl acc (s.data.toList.drop i) = mdl [] s.data.toList ∧ Below w.heap.size w wr) (fun _ v _ => s.size - (intOf v).toNat)
  case atStart => exact ⟨0, [], Nat.zero_le _, rfl, rfl, by simp, by simp, rfl, Below.refl _ _⟩
  case round =>
    obtain ⟨i, acc, hi, rfl, rfl, hp, hl, hm, hb⟩ := hrel
    have HP := Lib.hid hp
    have HM := Lib.hid hm
    clear hp hm
    by_cases hlt : i < s.size
    · obtain ⟨c, hc⟩ : ∃ c, s.data.toList[i]? = some c := ⟨_, List.getElem?_eq_getElem (by rw [size_list]; exact hlt)⟩
      obtain ⟨T, hT⟩ : ∃ T, s.data.toList.drop (i + 1) = T := ⟨_, rfl⟩
      have hTl : T.length = s.size - (i + 1) := by rw [← hT, List.length_drop, size_list]
      have hTj : ∀ j, T[j]? = s.data.toList[i + 1 + j]? := fun j => by rw [← hT, List.getElem?_drop]
      have hcons : s.data.toList.drop i = c :: T := by
        rw [← hT, List.drop_eq_getElem_cons (by rw [size_list]; exact hlt)]
        congr 1
        obtain ⟨_, h2⟩ := List.getElem?_eq_some_iff.1 hc
        exact h2
      obtain ⟨ds, hds⟩ : ∃ ds, (T.takeWhile isD).take 3 = ds := ⟨_, rfl⟩
      obtain ⟨k, hk⟩ : ∃ k, ds.length = k := ⟨_, rfl⟩
      have hk3 : k ≤ 3 := by rw [← hk, ← hds, List.length_take]; omega
      have hdD : ∀ d ∈ ds, isD d = true := fun d hd => List.all_eq_true.1 List.all_takeWhile d (List.mem_of_mem_take (by rw [hds]; exact hd))
      have hkT : i + 1 + k ≤ s.size := by
        have h1 : k ≤ T.length := by
          rw [← hk, ← hds, List.length_take]
          have := (List.takeWhile_prefix isD (l := T)).length_le
          omega
        omega
      have HMC := Lib.hid (show (if pcb c = true ∧ acc.length + dlen ds ≤ 40 then mdl (acc ++ List.replicate (dlen ds) c) (s.data.toList.drop (i + 1 + k)) else none) = mdl [] s.data.toList by
        rw [← HM.out, hcons, mdl_cons, hds, hk, ← hT, List.drop_drop])
      have AT := Lib.hid (fun j (hj : j < k) => show ∃ d, s.data.toList[i + 1 + j]? = some d ∧ isD d = true ∧ dval (ds.take (j + 1)) = 10 * dval (ds.take j) + (d.toNat - 48) ∧ dval (ds.take j) < 1000 by
        obtain ⟨d, h1, h2, h3⟩ := ds_at (t := T) (j := j) (by rw [hds, hk]; exact hj)
        rw [hds] at h3
        refine ⟨d, by rw [← hTj]; exact h1, h2, by rw [h3, dval_snoc], ?_⟩
        have h4 := dval_lt j (ds.take j) (by rw [List.length_take]; omega) (fun x hx => hdD x (List.mem_of_mem_take hx))
        have h5 : 10 ^ j ≤ 10 ^ 3 := Nat.pow_le_pow_right (by decide) (by omega)
        omega)
      have EN := Lib.hid (fun e (he : s.data.toList[i + 1 + k]? = some e) (hi : isD e = true) => show k = 3 by
        have := ds_end (t := T) (e := e) (by rw [hds, hk, hTj]; exact he) hi
        rw [hds, hk] at this
        exact this)
      have HDV := Lib.hid (show dval (ds.take k) = dval ds by rw [List.take_of_length_le (by omega)])
      have hdv : dval ds < 1000 := by
        have h4 := dval_lt k ds hk hdD
        have h5 : 10 ^ k ≤ 10 ^ 3 := Nat.pow_le_pow_right (by decide) hk3
        omega
      have HC := Lib.hid hc
      have HK := Lib.hid hk
      have X1 : s.extract i (i + 1) = oneC c := ru_ext hc
      have k0 : (0 : Int) ≤ (i : Int) := by omega
      have k1 : (i : Int) < (s.size : Int) := by omega
      have k2 : (i : Int) + 1 ≤ (s.size : Int) := by omega
      have z1 : (oneC c).size = 1 := rfl
      have gc : ∀ h : 0 < (oneC c).size, (oneC c)[0]'h = c := fun h => rfl
      clear hT hTl hTj hcons hds hk hdD hc
      go_upto_block 2 with fail
      go_cut [5, 7, 8] (fun v5 v7 v8 wx => v5 = .int .i64 ((i + 1 + k : Nat) : Int) ∧ v7 = .int .i64 (dval ds : Int) ∧ v8 = .int .i64 (k : Int) ∧ Below w.heap.size w wx)
      case first =>
        go_wp2_with fail
        go_loopw [5, 7, 8] (fun v5 v7 v8 wx => ∃ j N I : Nat, j ≤ k ∧ N = dval (ds.take j) ∧ I = i + 1 + j ∧ v5 = .int .i64 (I : Int) ∧ v7 = .int .i64 (N : Int) ∧ v8 = .int .i64 (j : Int) ∧ Below w.heap.size w wx) (fun _ _ v8 _ => k - (intOf v8).toNat)
        case atStart => exact ⟨0, 0, i + 1, Nat.zero_le _, rfl, rfl, by go_num, rfl, rfl, hb⟩
        case round =>
          obtain ⟨j, N, I, hj, hN, hI, rfl, rfl, rfl, hbj⟩ := hrel
          have HN := Lib.hid hN
          have HI := Lib.hid hI
          by_cases hjk : j < k
          · obtain ⟨d, h1, h2, h3, h4⟩ := AT.out j hjk
            rw [← hN] at h3 h4
            obtain ⟨q1, q2⟩ := isD_bd h2
            have gj : ∀ h : I < s.size, s[I]'h = d := fun h => get_of (by rw [hI]; exact h1) h
            have m0 : (0 : Int) ≤ (I : Int) := by omega
            have m1 : (I : Int) < (s.size : Int) := by omega
            have m2 : (48 : Int) ≤ (d.toNat : Int) := by omega
            have m3 : (d.toNat : Int) ≤ 57 := by omega
            have m4 : (j : Int) < 3 := by omega
            obtain ⟨M, hM⟩ : ∃ M, 10 * N = M := ⟨_, rfl⟩
            obtain ⟨q, hq⟩ : ∃ q, d.toNat - 48 = q := ⟨_, rfl⟩
            have w1 : IntKind.i64.wrap (10 * (N : Int)) = (M : Int) := by rw [IntKind.wrap_i64]; omega
            have w2 : IntKind.u8.wrap ((d.toNat : Int) - 48) = (q : Int) := by rw [IntKind.wrap_u8]; omega
            have w3 : IntKind.i64.wrap (q : Int) = (q : Int) := by rw [IntKind.wrap_i64]; omega
            have w4 : IntKind.i64.wrap ((M : Int) + (q : Int)) = ((M + q : Nat) : Int) := by rw [IntKind.wrap_i64]; omega
            have w5 : IntKind.i64.wrap ((j : Int) + 1) = ((j + 1 : Nat) : Int) := by rw [IntKind.wrap_i64]; omega
            have w6 : IntKind.i64.wrap ((I : Int) + 1) = ((I + 1 : Nat) : Int) := by rw [IntKind.wrap_i64]; omega
            have H3 := Lib.hid (show M + q = dval (ds.take (j + 1)) by rw [h3, ← hM, ← hq])
            clear h1 h2 h3 hN hI hM hq
            go_wp2_with fail
            exact ⟨⟨j + 1, M + q, I + 1, by omega, H3.out, by rw [HI.out]; omega, by go_num, by go_num, by go_num, hbj⟩, by simp [intOf]; omega⟩
          · have HJ := Lib.hid (show j = k by omega)
            by_cases hIs : I < s.size
            · obtain ⟨e, he⟩ : ∃ e, s.data.toList[I]? = some e := ⟨_, List.getElem?_eq_getElem (by rw [size_list]; exact hIs)⟩
              have gj : ∀ h : I < s.size, s[I]'h = e := fun h => get_of he h
              have m0 : (0 : Int) ≤ (I : Int) := by omega
              have m1 : (I : Int) < (s.size : Int) := by omega
              have H3 := Lib.hid (fun (h : isD e = true) => EN.out e (by rw [← HJ.out, ← hI]; exact he) h)
              have hIk : I = i + 1 + k := by have := HJ.out; omega
              have hNk : N = dval ds := hN.trans (by rw [HJ.out]; exact HDV.out)
              have HF := Lib.hid (show (Value.int .i64 (I : Int) = .int .i64 ((i + 1 + k : Nat) : Int)) ∧ (Value.int .i64 (N : Int) = .int .i64 (dval ds : Int)) ∧ (Value.int .i64 (j : Int) = .int .i64 (k : Int)) ∧ Below w.heap.size w wr from ⟨by rw [hIk], by rw [hNk], by rw [HJ.out], hbj⟩)
              clear he hN hI hIk hNk
              by_cases m2 : (48 : Int) ≤ (e.toNat : Int)
              · by_cases m3 : (e.toNat : Int) ≤ 57
                · have m4 : ¬ (j : Int) < 3 := by
                    have := H3.out (by simp only [isD, decide_eq_true_eq]; omega)
                    have := HJ.out
                    omega
                  go_wp2_with fail
                  go_meet
                  case rel => exact HF.out
                · go_wp2_with fail
                  go_meet
                  case rel => exact HF.out
              · go_wp2_with fail
                go_meet
                case rel => exact HF.out
            · have m1 : ¬ (I : Int) < (s.size : Int) := by omega
              have hIk : I = i + 1 + k := by have := HJ.out; omega
              have hNk : N = dval ds := hN.trans (by rw [HJ.out]; exact HDV.out)
              have HF := Lib.hid (show (Value.int .i64 (I : Int) = .int .i64 ((i + 1 + k : Nat) : Int)) ∧ (Value.int .i64 (N : Int) = .int .i64 (dval ds : Int)) ∧ (Value.int .i64 (j : Int) = .int .i64 (k : Int)) ∧ Below w.heap.size w wr from ⟨by rw [hIk], by rw [hNk], by rw [HJ.out], hbj⟩)
              clear hN hI hIk hNk
              go_wp2_with fail
              go_meet
              case rel => exact HF.out
      case rest =>
        obtain ⟨rfl, rfl, rfl, hbc⟩ := hcut
        obtain ⟨n, hn⟩ : ∃ n, dlen ds = n := ⟨_, rfl⟩
        have hn1000 : n < 1000 := by
          rw [← hn]
          by_cases hk0 : k = 0
          · rw [dlen_zero (by rw [HK.out]; exact hk0)]; omega
          · rw [dlen_pos (by rw [HK.out]; exact hk0)]; exact hdv
        have HN := Lib.hid hn
        clear hn
        go_upto_if 55 with fail
        go_cut [7] (fun v7 wx => v7 = .int .i64 (n : Int) ∧ Below w.heap.size w wx)
        case first =>
          by_cases hk0 : k = 0
          · have kk : (k : Int) = 0 := by omega
            have H1 := Lib.hid (show n = 1 by rw [← HN.out, dlen_zero (by rw [HK.out]; exact hk0)])
            clear hk0
            go_wp2_with fail
            go_meet
            case rel => exact ⟨by rw [H1.out]; rfl, hbc⟩
          · have kk : ¬ (k : Int) = 0 := by omega
            have H1 := Lib.hid (show n = dval ds by rw [← HN.out, dlen_pos (by rw [HK.out]; exact hk0)])
            go_wp2_with fail
            go_meet
            case rel => exact ⟨by rw [H1.out], hbc⟩
        case rest =>
          obtain ⟨rfl, hbd⟩ := hcut
          have hA : (ofL acc).size = acc.length := ofL_size acc
          have he := pcB_pcb c
          cases hp : pcb c
          · have hp2 : pcB ((c.toNat : Nat) : Int) = false := he.trans hp
            have HF := Lib.hid (show mdl [] s.data.toList = none by rw [← HMC.out, hp]; simp)
            clear he hp
            go_wp2_with (go_at_call 17; refine (ptPiece_any _ _).mono ?_; rintro e w' ⟨rfl, rfl⟩)
            go_ret2
            exact ⟨ret_pm (pm_none HD.out HF.out) rfl rfl, hbd⟩
          · have hp2 : pcB ((c.toNat : Nat) : Int) = true := he.trans hp
            obtain ⟨b, hb40⟩ : ∃ b, 40 - acc.length = b := ⟨_, rfl⟩
            have w1 : IntKind.i64.wrap (40 - (acc.length : Int)) = (b : Int) := by rw [IntKind.wrap_i64]; omega
            by_cases hfit : acc.length + n ≤ 40
            · have m1 : ¬ (b : Int) < (n : Int) := by omega
              have HF := Lib.hid (show mdl (acc ++ List.replicate n c) (s.data.toList.drop (i + 1 + k)) = mdl [] s.data.toList by rw [← HMC.out, HN.out, if_pos ⟨hp, hfit⟩])
              have HPC := Lib.hid hp
              clear he hp hb40
              go_wp2_with (go_at_call 17; refine (ptPiece_any _ _).mono ?_; rintro e w' ⟨rfl, rfl⟩)
              go_loopw [4, 7] (fun o v wx => ∃ q : Nat, q ≤ n ∧ v = .int .i64 (q : Int) ∧ o = .string (ofL (acc ++ List.replicate (n - q) c)) ∧ Below w.heap.size w wx) (fun _ v _ => (intOf v).toNat)
              case atStart => exact ⟨n, Nat.le_refl _, rfl, by simp, hbd⟩
              case round =>
                obtain ⟨q, hq, rfl, rfl, hbq⟩ := hrel
                by_cases hq0 : 0 < q
                · obtain ⟨L, hL⟩ : ∃ L, acc ++ List.replicate (n - q) c = L := ⟨_, rfl⟩
                  have hLl : (ofL L).size ≤ 40 := by rw [ofL_size, ← hL, List.length_append, List.length_replicate]; omega
                  have kc : ∀ W : World, (Op.stringOp .add (ofL L) (oneC c)).run Tryd.prog W = .ok (.string (ofL (L ++ [c]))) W := fun W => by
                    rw [run_string_add_sum W _ _ (by omega), oneC, ofL_append]
                  have w2 : IntKind.i64.wrap ((q : Int) - 1) = ((q - 1 : Nat) : Int) := by rw [IntKind.wrap_i64]; omega
                  have mq : (0 : Int) < (q : Int) := by omega
                  have HL := Lib.hid (show L ++ [c] = acc ++ List.replicate (n - (q - 1)) c by
                    rw [← hL, show n - (q - 1) = (n - q) + 1 by omega, List.replicate_succ', List.append_assoc])
                  rw [hL]
                  clear hL hLl
                  go_wp2_with fail
                  exact ⟨⟨q - 1, by omega, by first | rfl | exact congrArg (Value.int .i64) (by omega), by rw [HL.out], hbq⟩, by simp [intOf]; omega⟩
                · obtain rfl : q = 0 := by omega
                  have mq : ¬ (0 : Int) < ((0 : Nat) : Int) := by omega
                  go_wp2_with fail
                  exact ⟨⟨i + 1 + k, acc ++ List.replicate n c, hkT, rfl, rfl, (by intro d hd; rcases List.mem_append.1 hd with hd | hd; exact HP.out d hd; rw [(List.mem_replicate.1 hd).2]; exact HPC.out), by rw [List.length_append, List.length_replicate]; exact hfit, HF.out, hbq⟩, by simp [intOf]; omega⟩
            · have m1 : (b : Int) < (n : Int) := by omega
              have HF := Lib.hid (show mdl [] s.data.toList = none by rw [← HMC.out, HN.out, if_neg (fun h => hfit h.2)])
              clear he hp hb40
              go_wp2_with (go_at_call 17; refine (ptPiece_any _ _).mono ?_; rintro e w' ⟨rfl, rfl⟩)
              go_ret2
              exact ⟨ret_pm (pm_none HD.out HF.out) rfl rfl, hbd⟩
    · obtain rfl : i = s.size := by omega
      have HN := Lib.hid (show mdl [] s.data.toList = some acc by rw [← HM.out, List.drop_of_length_le (by rw [size_list]; exact Nat.le_refl _), mdl_nil])
      by_cases hacc : acc = []
      · have hE2 : (ofL acc).toList.isEmpty = true := by rw [Lib.toList_data, hacc]; rfl
        have HR := Lib.hid (pm_empty HD.out (HN.out.trans (by rw [hacc])))
        clear hacc
        go_wp2_with fail
        go_ret2
        exact ⟨ret_pm HR.out rfl rfl, hb⟩
      · have hE2 : (ofL acc).toList.isEmpty = false := by rw [Lib.toList_data]; simpa [ofL] using hacc
        have TK := tkRuns_any (ofL acc) (by rw [ofL_size]; exact hl)
        obtain ⟨x, hx⟩ : ∃ x, ruS (ofL acc) = x := ⟨_, rfl⟩
        rw [hx] at TK
        have TK := Lib.hid TK
        by_cases hxs : x = s
        · have HR := Lib.hid (pm_some HD.out HN.out hacc (hx.trans hxs))
          have hE3 : (x.toList == s.toList) = true := (congrArg (x.toList == ·) (Lib.toList_data s)).trans ((beq_data x s).trans (decide_eq_true hxs))
          obtain ⟨y, hy⟩ : ∃ y, ofL acc = y := ⟨_, rfl⟩
          rw [hy] at TK hE2
          have HY := Lib.hid hy
          rw [hy]
          clear hacc hxs hx hy
          go_wp2_with (first | (go_at_call 10; (with_reducible refine (TK.out _).mono ?_); rintro e wA ⟨rfl, h1⟩; (try with_reducible replace h1 := undrew h1); have hB : Below w.heap.size w wA := ba (by go_grown) h1; obtain ⟨hcwA, hfwA⟩ := bcell h1; have hqwA := h1.size; (try simp at hqwA); (try have hz0wA : w.heap.size < wA.heap.size := (by omega)); (try have he0wA : w.heap.size ≤ wA.heap.size := (by omega))))
          go_ret2
          exact ⟨ret_pm HR.out rfl HY.out, by go_grown⟩
        · have HR := Lib.hid (pm_no HD.out HN.out (fun h => hxs (hx.symm.trans h)))
          have hE3 : (x.toList == s.toList) = false := (congrArg (x.toList == ·) (Lib.toList_data s)).trans ((beq_data x s).trans (decide_eq_false hxs))
          clear hacc hxs hx
          go_wp2_with (first | (go_at_call 10; (with_reducible refine (TK.out _).mono ?_); rintro e wA ⟨rfl, h1⟩; (try with_reducible replace h1 := undrew h1); have hB : Below w.heap.size w wA := ba (by go_grown) h1; obtain ⟨hcwA, hfwA⟩ := bcell h1; have hqwA := h1.size; (try simp at hqwA); (try have hz0wA : w.heap.size < wA.heap.size := (by omega)); (try have he0wA : w.heap.size ≤ wA.heap.size := (by omega))))
          go_ret2
          exact ⟨ret_pm HR.out rfl rfl, by go_grown⟩

end Go.Proofs.YtamojnbhnbeecabDoor
