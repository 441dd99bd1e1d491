/- The head of the translation: its signs, its words, and what a row's closed facts read of it. -/
import Derived.Test.YtdafomfpchlhpaaDoorKit
import Derived.JoinedOf
namespace Go.Proofs.YtdafomfpchlhpaaDoor

def headN : List Nat := [104, 97, 114, 110, 101, 115, 115, 32, 50, 51, 102, 54, 57, 99, 102, 102, 52, 57, 49, 102, 97, 50, 52, 51, 101, 49, 101, 97, 49, 57, 53, 57, 57, 101, 49, 97, 49, 100, 56, 102, 53, 52, 49, 98, 98, 99, 52, 97, 48, 101, 102, 102, 55, 51, 56, 55, 57, 52, 101, 55, 52, 99, 102, 52, 55, 99, 55, 100, 55, 52, 98, 50, 32, 99, 117, 116, 32, 97, 116, 32, 108, 111, 111, 112, 46, 101, 120, 97, 109, 112, 108, 101, 47, 103, 48, 49, 50, 49, 55, 47, 108, 97, 119, 115, 46, 70, 110, 69, 120, 97, 99, 116, 73, 115, 80, 117, 122, 122, 108, 101, 32, 108, 111, 111, 112, 46, 101, 120, 97, 109, 112, 108, 101, 47, 103, 48, 49, 50, 49, 55, 47, 108, 97, 119, 115, 46, 70, 110, 69, 120, 97, 99, 116, 71, 97, 112, 115, 79, 102, 32, 108, 111, 111, 112, 46, 101, 120, 97, 109, 112, 108, 101, 47, 103, 48, 49, 50, 49, 55, 47, 108, 97, 119, 115, 46, 70, 110, 69, 120, 97, 99, 116, 73, 115, 83, 111, 108, 117, 116, 105, 111, 110, 32, 108, 111, 111, 112, 46, 101, 120, 97, 109, 112, 108, 101, 47, 103, 48, 49, 50, 49, 55, 47, 108, 97, 119, 115, 46, 70, 110, 69, 120, 97, 99, 116, 83, 111, 108, 117, 116, 105, 111, 110, 115, 32, 108, 111, 111, 112, 46, 101, 120, 97, 109, 112, 108, 101, 47, 103, 48, 49, 50, 49, 55, 47, 108, 97, 119, 115, 46, 70, 110, 69, 120, 97, 99, 116, 67, 111, 117, 110, 116, 83, 111, 108, 117, 116, 105, 111, 110, 115, 32, 108, 111, 111, 112, 46, 101, 120, 97, 109, 112, 108, 101, 47, 103, 48, 49, 50, 49, 55, 47, 108, 97, 119, 115, 46, 70, 110, 69, 120, 97, 99, 116, 70, 105, 114, 115, 116, 83, 111, 108, 117, 116, 105, 111, 110, 32, 108, 111, 111, 112, 46, 101, 120, 97, 109, 112, 108, 101, 47, 103, 48, 49, 50, 49, 55, 47, 108, 97, 119, 115, 46, 70, 110, 69, 120, 97, 99, 116, 83, 117, 114, 101, 80, 105, 101, 99, 101, 115, 32, 108, 111, 111, 112, 46, 101, 120, 97, 109, 112, 108, 101, 47, 103, 48, 49, 50, 49, 55, 47, 108, 97, 119, 115, 46, 70, 110, 69, 120, 97, 99, 116, 72, 105, 110, 116, 79, 102, 32, 108, 111, 111, 112, 46, 101, 120, 97, 109, 112, 108, 101, 47, 103, 48, 49, 50, 49, 55, 47, 108, 97, 119, 115, 46, 70, 110, 69, 120, 97, 99, 116, 70, 105, 108, 108, 71, 97, 112, 32, 108, 111, 111, 112, 46, 101, 120, 97, 109, 112, 108, 101, 47, 103, 48, 49, 50, 49, 55, 47, 108, 97, 119, 115, 46, 70, 110, 69, 120, 97, 99, 116, 79, 112, 101, 110, 71, 97, 112, 32, 108, 111, 111, 112, 46, 101, 120, 97, 109, 112, 108, 101, 47, 103, 48, 49, 50, 49, 55, 47, 108, 97, 119, 115, 46, 70, 110, 69, 120, 97, 99, 116, 72, 97, 114, 100, 101, 114, 80, 117, 122, 122, 108, 101, 32, 108, 111, 111, 112, 46, 101, 120, 97, 109, 112, 108, 101, 47, 103, 48, 49, 50, 49, 55, 47, 108, 97, 119, 115, 46, 70, 110, 69, 120, 97, 99, 116, 77, 97, 107, 101, 80, 117, 122, 122, 108, 101, 32, 108, 111, 111, 112, 46, 101, 120, 97, 109, 112, 108, 101, 47, 103, 48, 49, 50, 49, 55, 47, 108, 97, 119, 115, 46, 70, 110, 69, 120, 97, 99, 116, 77, 105, 114, 114, 111, 114, 80, 117, 122, 122, 108, 101, 32, 108, 111, 111, 112, 46, 101, 120, 97, 109, 112, 108, 101, 47, 103, 48, 49, 50, 49, 55, 47, 108, 97, 119, 115, 46, 70, 110, 69, 120, 97, 99, 116, 80, 117, 122, 122, 108, 101, 84, 101, 120, 116, 32, 108, 111, 111, 112, 46, 101, 120, 97, 109, 112, 108, 101, 47, 103, 48, 49, 50, 49, 55, 47, 108, 97, 119, 115, 46, 70, 110, 69, 120, 97, 99, 116, 80, 97, 114, 115, 101, 80, 117, 122, 122, 108, 101]

def sp32 : List Nat → List (List Nat)
  | [] => [[]]
  | n :: r => if n = 32 then [] :: sp32 r else match sp32 r with
    | w :: ws => (n :: w) :: ws
    | [] => [[n]]

theorem sp32_ne (l : List Nat) : sp32 l ≠ [] := by
  cases l with
  | nil => simp [sp32]
  | cons n r =>
    rw [sp32]
    split
    · simp
    · split <;> simp

theorem ofNat_32 : ∀ n : Nat, n < 128 → (Char.ofNat n = Char.ofNat 32 ↔ n = 32) := by
  intro n hn
  have h : ∀ m : Fin 128, Char.ofNat m.val = Char.ofNat 32 ↔ m.val = 32 := by decide
  exact h ⟨n, hn⟩

theorem ws_sp (r : List Char) : wordsSigns (Char.ofNat 32 :: r) = [] :: wordsSigns r := rfl

theorem ws_no (c : Char) (h : c ≠ Char.ofNat 32) (r : List Char) : wordsSigns (c :: r) = match wordsSigns r with | w :: ws => (c :: w) :: ws | [] => [[c]] := by
  rw [wordsSigns]
  · rfl
  · exact h

theorem ws_split : ∀ l : List Nat, (∀ n ∈ l, n < 128) → wordsSigns (l.map Char.ofNat) = (sp32 l).map fun x => x.map Char.ofNat
  | [], _ => rfl
  | n :: r, h => by
    have ih := ws_split r fun m hm => h m (by simp [hm])
    by_cases e : n = 32
    · subst e
      rw [List.map_cons, ws_sp, ih, sp32, if_pos rfl]
      rfl
    · rw [List.map_cons, ws_no _ (fun q => e ((ofNat_32 n (h n (by simp))).1 q)), ih, sp32, if_neg e]
      cases hs : sp32 r with
      | nil => exact absurd hs (sp32_ne r)
      | cons w ws => rfl

set_option maxRecDepth 100000 in
theorem head_is : Tryd.prog.initOrder = String.ofList (headN.map Char.ofNat) := by kernel_rfl

set_option maxRecDepth 100000 in
theorem head_low : headN.all (fun n => decide (n < 128)) = true := by kernel_rfl

def headW : List (List Nat) := (sp32 headN).take 6

theorem head_words : wordsSigns Tryd.prog.initOrder.toList = (sp32 headN).map fun x => x.map Char.ofNat := by
  rw [head_is, String.toList_ofList]
  exact ws_split _ fun n hn => of_decide_eq_true (List.all_eq_true.1 head_low n hn)

set_option maxRecDepth 100000 in
theorem head_cut : ∃ R, behindMainWord (wordsSigns Tryd.prog.initOrder.toList) = "cut".toList :: R := by
  rw [head_words]
  refine ⟨((sp32 headN).drop 3).map (fun x => x.map Char.ofNat), ?_⟩
  kernel_rfl

set_option maxRecDepth 100000 in
theorem head_main : ∃ R, wordsSigns Tryd.prog.initOrder.toList = "harness".toList :: "23f69cff491fa243e1ea19599e1a1d8f541bbc4a0eff738794e74cf47c7d74b2".toList :: R := by
  rw [head_words]
  refine ⟨((sp32 headN).drop 2).map (fun x => x.map Char.ofNat), ?_⟩
  kernel_rfl

theorem main_gen (P : Program) (s : List Char) (R : List (List Char)) (h : wordsSigns P.initOrder.toList = "harness".toList :: s :: R) (hs : isSumSigns s = true) : P.mainIs = some (true, s) := by
  unfold Program.mainIs
  rw [h]
  simp [hs]

set_option maxRecDepth 100000 in
theorem main_ok : Tryd.prog.mainIs = some (true, "23f69cff491fa243e1ea19599e1a1d8f541bbc4a0eff738794e74cf47c7d74b2".toList) := by
  obtain ⟨R, h⟩ := head_main
  exact main_gen _ _ R h (by kernel_rfl)

theorem make_gen (P : Program) (R : List (List Char)) (h : behindMainWord (wordsSigns P.initOrder.toList) = "cut".toList :: R) : P.make = some .cut := by
  unfold Program.make
  rw [h]
  rfl

set_option maxRecDepth 100000 in
theorem enter_gen (P : Program) (R : List (List Char)) (h : behindMainWord (wordsSigns P.initOrder.toList) = "cut".toList :: R) (h1 : P.laysLater = false) (h2 : P.bearsReflect = false) (h3 : P.doorFits [] = true) : P.mayEnter = true := by
  have hs : stripLifts liftWords ("cut".toList :: R) = ([], "cut".toList :: R) := by kernel_rfl
  unfold Program.mayEnter
  rw [h]
  simp only [hs, h1, h2, h3]
  rfl

set_option maxRecDepth 100000 in
theorem lifts_gen (P : Program) (R : List (List Char)) (h : behindMainWord (wordsSigns P.initOrder.toList) = "cut".toList :: R) : P.liftsFinal = false := by
  have hs : stripLifts liftWords ("cut".toList :: R) = ([], "cut".toList :: R) := by kernel_rfl
  unfold Program.liftsFinal Program.headLifts
  rw [h, hs]
  rfl

set_option maxRecDepth 100000 in
theorem enter_ok : Tryd.prog.mayEnter = true := by
  obtain ⟨R, h⟩ := head_cut
  exact enter_gen _ R h (by kernel_rfl) (by kernel_rfl) (by kernel_rfl)

theorem lifts_ok : Tryd.prog.liftsFinal = false := by
  obtain ⟨R, h⟩ := head_cut
  exact lifts_gen _ R h

theorem make_ok : Tryd.prog.make = some .cut := by
  obtain ⟨R, h⟩ := head_cut
  exact make_gen _ R h

end Go.Proofs.YtdafomfpchlhpaaDoor
