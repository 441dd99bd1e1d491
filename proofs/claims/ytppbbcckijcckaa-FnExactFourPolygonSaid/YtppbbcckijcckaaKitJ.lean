/- The head of the translation: its signs, its words, and what a row's closed facts read of it. -/
import Derived.Test.YtppbbcckijcckaaKit
import Derived.JoinedOf
namespace Go.Proofs.Ytppbbcckijcckaa

def headN : List Nat := [104, 97, 114, 110, 101, 115, 115, 32, 49, 56, 56, 99, 53, 53, 56, 99, 49, 49, 100, 49, 50, 57, 51, 48, 100, 101, 53, 53, 56, 57, 55, 98, 53, 55, 57, 48, 99, 53, 48, 99, 53, 51, 100, 101, 49, 101, 50, 55, 101, 50, 99, 100, 56, 101, 98, 56, 51, 53, 56, 54, 54, 51, 57, 52, 48, 54, 51, 99, 98, 55, 100, 48, 32, 99, 117, 116, 32, 97, 116, 32, 108, 111, 111, 112, 46, 101, 120, 97, 109, 112, 108, 101, 47, 103, 48, 49, 50, 49, 55, 47, 108, 97, 119, 115, 46, 70, 110, 69, 120, 97, 99, 116, 83, 105, 100, 101, 79, 102, 32, 108, 111, 111, 112, 46, 101, 120, 97, 109, 112, 108, 101, 47, 103, 48, 49, 50, 49, 55, 47, 108, 97, 119, 115, 46, 70, 110, 69, 120, 97, 99, 116, 73, 115, 66, 101, 116, 119, 101, 101, 110, 32, 108, 111, 111, 112, 46, 101, 120, 97, 109, 112, 108, 101, 47, 103, 48, 49, 50, 49, 55, 47, 108, 97, 119, 115, 46, 70, 110, 69, 120, 97, 99, 116, 83, 104, 97, 114, 101, 67, 104, 111, 114, 100, 115, 32, 108, 111, 111, 112, 46, 101, 120, 97, 109, 112, 108, 101, 47, 103, 48, 49, 50, 49, 55, 47, 108, 97, 119, 115, 46, 70, 110, 69, 120, 97, 99, 116, 70, 111, 117, 114, 80, 111, 108, 121, 103, 111, 110, 32, 108, 111, 111, 112, 46, 101, 120, 97, 109, 112, 108, 101, 47, 103, 48, 49, 50, 49, 55, 47, 108, 97, 119, 115, 46, 70, 110, 69, 120, 97, 99, 116, 70, 111, 117, 114, 65, 114, 101, 97, 32, 108, 111, 111, 112, 46, 101, 120, 97, 109, 112, 108, 101, 47, 103, 48, 49, 50, 49, 55, 47, 108, 97, 119, 115, 46, 70, 110, 69, 120, 97, 99, 116, 87, 105, 100, 116, 104, 79, 102, 32, 108, 111, 111, 112, 46, 101, 120, 97, 109, 112, 108, 101, 47, 103, 48, 49, 50, 49, 55, 47, 108, 97, 119, 115, 46, 70, 110, 69, 120, 97, 99, 116, 72, 101, 105, 103, 104, 116, 79, 102, 32, 108, 111, 111, 112, 46, 101, 120, 97, 109, 112, 108, 101, 47, 103, 48, 49, 50, 49, 55, 47, 108, 97, 119, 115, 46, 70, 110, 69, 120, 97, 99, 116, 67, 111, 117, 110, 116, 67, 114, 111, 115, 115, 105, 110, 103, 115, 32, 108, 111, 111, 112, 46, 101, 120, 97, 109, 112, 108, 101, 47, 103, 48, 49, 50, 49, 55, 47, 108, 97, 119, 115, 46, 70, 110, 69, 120, 97, 99, 116, 73, 115, 83, 105, 109, 112, 108, 101, 32, 108, 111, 111, 112, 46, 101, 120, 97, 109, 112, 108, 101, 47, 103, 48, 49, 50, 49, 55, 47, 108, 97, 119, 115, 46, 70, 110, 69, 120, 97, 99, 116, 87, 105, 110, 100, 105, 110, 103, 65, 114, 111, 117, 110, 100, 32, 108, 111, 111, 112, 46, 101, 120, 97, 109, 112, 108, 101, 47, 103, 48, 49, 50, 49, 55, 47, 108, 97, 119, 115, 46, 70, 110, 69, 120, 97, 99, 116, 72, 117, 108, 108, 79, 102, 32, 108, 111, 111, 112, 46, 101, 120, 97, 109, 112, 108, 101, 47, 103, 48, 49, 50, 49, 55, 47, 108, 97, 119, 115, 46, 70, 110, 69, 120, 97, 99, 116, 70, 97, 114, 116, 104, 101, 115, 116, 80, 97, 105, 114, 32, 108, 111, 111, 112, 46, 101, 120, 97, 109, 112, 108, 101, 47, 103, 48, 49, 50, 49, 55, 47, 108, 97, 119, 115, 46, 70, 110, 69, 120, 97, 99, 116, 70, 111, 117, 114, 72, 117, 108, 108, 32, 108, 111, 111, 112, 46, 101, 120, 97, 109, 112, 108, 101, 47, 103, 48, 49, 50, 49, 55, 47, 108, 97, 119, 115, 46, 70, 110, 69, 120, 97, 99, 116, 73, 115, 67, 111, 110, 118, 101, 120, 84, 114, 97, 99, 107]

def sp32 : List Nat → List (List Nat)
  | [] => [[]]
  | n :: r => if n = 32 then [] :: sp32 r else match sp32 r with
    | w :: ws => (n :: w) :: ws
    | [] => [[n]]

theorem sp32_ne (l : List Nat) : sp32 l ≠ [] := by
  cases l with
  | nil => simp [sp32]
  | cons n r =>
    rw [sp32]
    split
    · simp
    · split <;> simp

theorem ofNat_32 : ∀ n : Nat, n < 128 → (Char.ofNat n = Char.ofNat 32 ↔ n = 32) := by
  intro n hn
  have h : ∀ m : Fin 128, Char.ofNat m.val = Char.ofNat 32 ↔ m.val = 32 := by decide
  exact h ⟨n, hn⟩

theorem ws_sp (r : List Char) : wordsSigns (Char.ofNat 32 :: r) = [] :: wordsSigns r := rfl

theorem ws_no (c : Char) (h : c ≠ Char.ofNat 32) (r : List Char) : wordsSigns (c :: r) = match wordsSigns r with | w :: ws => (c :: w) :: ws | [] => [[c]] := by
  rw [wordsSigns]
  · rfl
  · exact h

theorem ws_split : ∀ l : List Nat, (∀ n ∈ l, n < 128) → wordsSigns (l.map Char.ofNat) = (sp32 l).map fun x => x.map Char.ofNat
  | [], _ => rfl
  | n :: r, h => by
    have ih := ws_split r fun m hm => h m (by simp [hm])
    by_cases e : n = 32
    · subst e
      rw [List.map_cons, ws_sp, ih, sp32, if_pos rfl]
      rfl
    · rw [List.map_cons, ws_no _ (fun q => e ((ofNat_32 n (h n (by simp))).1 q)), ih, sp32, if_neg e]
      cases hs : sp32 r with
      | nil => exact absurd hs (sp32_ne r)
      | cons w ws => rfl

set_option maxRecDepth 100000 in
theorem head_is : Try.prog.initOrder = String.ofList (headN.map Char.ofNat) := by kernel_rfl

set_option maxRecDepth 100000 in
theorem head_low : headN.all (fun n => decide (n < 128)) = true := by kernel_rfl

def headW : List (List Nat) := (sp32 headN).take 6

theorem head_words : wordsSigns Try.prog.initOrder.toList = (sp32 headN).map fun x => x.map Char.ofNat := by
  rw [head_is, String.toList_ofList]
  exact ws_split _ fun n hn => of_decide_eq_true (List.all_eq_true.1 head_low n hn)

set_option maxRecDepth 100000 in
theorem head_cut : ∃ R, behindMainWord (wordsSigns Try.prog.initOrder.toList) = "cut".toList :: R := by
  rw [head_words]
  refine ⟨((sp32 headN).drop 3).map (fun x => x.map Char.ofNat), ?_⟩
  kernel_rfl

set_option maxRecDepth 100000 in
theorem head_main : ∃ R, wordsSigns Try.prog.initOrder.toList = "harness".toList :: "188c558c11d12930de55897b5790c50c53de1e27e2cd8eb835866394063cb7d0".toList :: R := by
  rw [head_words]
  refine ⟨((sp32 headN).drop 2).map (fun x => x.map Char.ofNat), ?_⟩
  kernel_rfl

theorem main_gen (P : Program) (s : List Char) (R : List (List Char)) (h : wordsSigns P.initOrder.toList = "harness".toList :: s :: R) (hs : isSumSigns s = true) : P.mainIs = some (true, s) := by
  unfold Program.mainIs
  rw [h]
  simp [hs]

set_option maxRecDepth 100000 in
theorem main_ok : Try.prog.mainIs = some (true, "188c558c11d12930de55897b5790c50c53de1e27e2cd8eb835866394063cb7d0".toList) := by
  obtain ⟨R, h⟩ := head_main
  exact main_gen _ _ R h (by kernel_rfl)

theorem make_gen (P : Program) (R : List (List Char)) (h : behindMainWord (wordsSigns P.initOrder.toList) = "cut".toList :: R) : P.make = some .cut := by
  unfold Program.make
  rw [h]
  rfl

set_option maxRecDepth 100000 in
theorem enter_gen (P : Program) (R : List (List Char)) (h : behindMainWord (wordsSigns P.initOrder.toList) = "cut".toList :: R) (h1 : P.laysLater = false) (h2 : P.bearsReflect = false) (h3 : P.doorFits [] = true) : P.mayEnter = true := by
  have hs : stripLifts liftWords ("cut".toList :: R) = ([], "cut".toList :: R) := by kernel_rfl
  unfold Program.mayEnter
  rw [h]
  simp only [hs, h1, h2, h3]
  rfl

set_option maxRecDepth 100000 in
theorem lifts_gen (P : Program) (R : List (List Char)) (h : behindMainWord (wordsSigns P.initOrder.toList) = "cut".toList :: R) : P.liftsFinal = false := by
  have hs : stripLifts liftWords ("cut".toList :: R) = ([], "cut".toList :: R) := by kernel_rfl
  unfold Program.liftsFinal Program.headLifts
  rw [h, hs]
  rfl

set_option maxRecDepth 100000 in
theorem enter_ok : Try.prog.mayEnter = true := by
  obtain ⟨R, h⟩ := head_cut
  exact enter_gen _ R h (by kernel_rfl) (by kernel_rfl) (by kernel_rfl)

theorem lifts_ok : Try.prog.liftsFinal = false := by
  obtain ⟨R, h⟩ := head_cut
  exact lifts_gen _ R h

theorem make_ok : Try.prog.make = some .cut := by
  obtain ⟨R, h⟩ := head_cut
  exact make_gen _ R h

end Go.Proofs.Ytppbbcckijcckaa
