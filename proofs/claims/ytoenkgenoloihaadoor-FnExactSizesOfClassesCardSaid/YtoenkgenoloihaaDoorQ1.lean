/- Contracts and facts, put together (part 1). Conditions: each says its own. -/
import Derived.Test.YtoenkgenoloihaaDoorRows
import Derived.WalkKit
import Derived.ProofKit
import Derived.Lib.SmallJoins
import Derived.Lib.Strings
import Derived.Test.YtoenkgenoloihaaDoorProg
import Derived.Handy
import Derived.WalkSpells
import Derived.LoopTactic
import Derived.Lib.Hide
import Derived.Outline
import Derived.Laws.Concat
import Derived.Laws.IdiomStrings
import Derived.Lib.Builder
import Derived.Shelf.SlicesE.Reverse
import Derived.Sort.Walk0
import Derived.Lib.Bytealg
import Derived.Deep.WholeRow
import Derived.Laws.CopyRow
import Derived.Laws.CopyOwn
import Derived.Shelf.GgSortFunc.RowK
import Derived.Shelf.SlicesQ.Load
import Derived.Lib.MinMax
import Derived.Laws.StructEq
import Derived.Deep.QuietTactic
import Derived.BigQuiet
import Derived.WalkLawsBesides
import Derived.StillTailTactics
import Derived.Deep.RegionHeld3

/- What every law's row shares: the arguments read as they did, since below the heap's old size nothing has turned; an argument is opened to its numbers. -/
namespace Go.Proofs.YtoenkgenoloihaaDoor
open Go.ChangeShapes Go.WideShapes Go.ChangeAt Go.RowKit Go.Joins

theorem Tryd.own : ownKnob Tryd.prog.godebug = none := by kernel_rfl

theorem Tryd.laidOut : laidOutB Tryd.prog = true := by kernel_rfl

theorem trodAll_below {H : Type} {enc : TypeId × Value → H} {P : Program} (hl : laidOutB P = true) {W W' : World} (hb : Below W.heap.size W W') :
    ∀ {ts : List TypeId} {vs : List Value} {ds : List (DataW H)} {ps : List MemPlace}, ts.all (fun t => P.readableRec t && decide (t < P.types.size)) = true → (∀ x ∈ ps, x.block < W.heap.size) →
      DataW.TrodAll enc P W 0 (fun _ => true) true ts vs ds ps → DataW.TrodAll enc P W' 0 (fun b => decide (b < W.heap.size)) true ts vs ds ps
  | [], [], [], _, _, _, h => h
  | t :: ts, v :: vs, d :: ds, ps, ht, hp, h => by
    obtain ⟨p, q, h1, h2, rfl⟩ := h
    simp only [List.all_cons, Bool.and_eq_true, decide_eq_true_eq] at ht
    exact ⟨p, q, Below.trod hl ht.1.1 ht.1.2 h1 hb (fun x hx => hp x (by simp [hx])), trodAll_below hl hb ht.2 (fun x hx => hp x (by simp [hx])) h2, rfl⟩
  | [], [], _ :: _, _, _, _, h => h.elim
  | [], _ :: _, _, _, _, _, h => h.elim
  | _ :: _, [], _, _, _, _, h => h.elim
  | _ :: _, _ :: _, [], _, _, _, h => h.elim

/-- The row's last step of a law: it returned true, and nothing that was there has turned. -/
theorem law_post {H : Type} {enc : TypeId × Value → H} {P : Program} {f : Func} {s : ChangeSpec} {apart : Bool} {W W' : World} {args : Array Value} {ds gs : List (DataW H)} {before : List MemPlace} {tb : TypeId}
    (hl : laidOutB P = true) (hts : f.params.toList.all (fun t => P.readableRec t && decide (t < P.types.size)) = true) (hr : f.resultTypes = #[tb]) (htb : P.underlying tb = some .bool)
    (hv : s.vars = []) (hfn : s.fn H ds = { results := [.lit (.bool true)], args := ds })
    (hW : DataW.Whole enc P f.params.toList s.vars apart W args.toList ds gs before) (hB : Below W.heap.size W W') :
    s.post enc P f apart true false false W args (.bool true) W' := by
  have hlt : ∀ x ∈ before, x.block < W.heap.size := fun x hx => hW.lt x hx
  have hW0 := hW
  obtain ⟨p, q, hA, hV, rfl, _, _⟩ := hW
  rw [hv] at hV
  obtain ⟨rfl, rfl⟩ := trodVars_none hV
  refine ⟨ds, [], _, [], p, [], hW0, ?_, ?_, ?_, hB.frame _, fun h => by cases h⟩
  · rw [List.append_nil, hfn, hr]
    exact trodAll_mk1 (shut_bool htb true)
  · rw [List.append_nil, hfn]
    exact trodAll_below hl hB hts (fun x hx => hlt x (by simp [hx])) hA
  · rw [List.append_nil, hfn, hv]
    rfl

end Go.Proofs.YtoenkgenoloihaaDoor

/- Texts of pieces, as lists of bytes: which are tracks; what is counted, mirrored and turned round in them. -/
namespace Go.Proofs.YtoenkgenoloihaaDoor

def pcb (c : UInt8) : Bool := c == 83 || (c == 76 || c == 82)

def tkB (s : ByteArray) : Bool := decide (s.size ≤ 40) && s.data.toList.all pcb

theorem pcb_cases {c : UInt8} (h : pcb c = true) : c = 83 ∨ (c = 76 ∨ c = 82) := by
  simpa [pcb, Bool.or_eq_true, beq_iff_eq] using h

theorem take_snoc (s : ByteArray) (k : Nat) (h : k < s.size) : s.data.toList.take (k + 1) = s.data.toList.take k ++ [s[k]] := by
  rw [List.take_succ_eq_append_getElem (by simpa using h)]; rfl

theorem take_all (s : ByteArray) {k : Nat} (h : ¬ k < s.size) : s.data.toList.take k = s.data.toList := List.take_of_length_le (by simp; omega)

theorem all_snoc {s : ByteArray} {k : Nat} (h : k < s.size) (ha : (s.data.toList.take k).all pcb = true) (hp : pcb s[k] = true) : (s.data.toList.take (k + 1)).all pcb = true := by
  rw [take_snoc s k h, List.all_append, ha]; simp [hp]

theorem tkB_no {s : ByteArray} {k : Nat} (h : k < s.size) (hp : pcb s[k] = false) : tkB s = false := by
  have hm : s[k] ∈ s.data.toList := by
    have := List.getElem_mem (l := s.data.toList) (n := k) (by simpa using h)
    exact this
  have : s.data.toList.all pcb = false := by
    rw [List.all_eq_false]
    exact ⟨s[k], hm, by simp [hp]⟩
  simp [tkB, this]

theorem tkB_yes {s : ByteArray} (h : s.size ≤ 40) {k : Nat} (hk : ¬ k < s.size) (ha : (s.data.toList.take k).all pcb = true) : tkB s = true := by
  rw [take_all s hk] at ha
  simp [tkB, h, ha]

theorem tkB_long {s : ByteArray} (h : ¬ s.size ≤ 40) : tkB s = false := by simp [tkB, h]

theorem tkB_size {s : ByteArray} (h : tkB s = true) : s.size ≤ 40 := by
  simp only [tkB, Bool.and_eq_true, decide_eq_true_eq] at h
  exact h.1

theorem tkB_list {s : ByteArray} (h : tkB s = true) : ∀ c ∈ s.data.toList, pcb c = true := by
  simp only [tkB, Bool.and_eq_true, List.all_eq_true] at h
  exact h.2

theorem tkB_at {s : ByteArray} (h : tkB s = true) {k : Nat} (hk : k < s.size) : pcb s[k] = true := by
  refine tkB_list h _ ?_
  have := List.getElem_mem (l := s.data.toList) (n := k) (by simpa using hk)
  exact this

theorem size_list (s : ByteArray) : s.data.toList.length = s.size := by simp

theorem ext_one (s : ByteArray) (k : Nat) (h : k < s.size) : s.extract k (k + 1) = ⟨#[s[k]]⟩ := by
  apply ByteArray.ext
  rw [ByteArray.data_extract]
  apply Array.ext
  · simp; omega
  · intro i h1 h2
    simp at h2
    subst h2
    simp
    rfl

def mir (c : UInt8) : UInt8 := if c == 76 then 82 else if c == 82 then 76 else c

def ofL (l : List UInt8) : ByteArray := ⟨l.toArray⟩

theorem ofL_snoc (l : List UInt8) (c : UInt8) : ofL l ++ ⟨#[c]⟩ = ofL (l ++ [c]) := by
  apply ByteArray.ext
  rw [ByteArray.data_append]
  simp [ofL]

theorem ofL_append (l m : List UInt8) : ofL l ++ ofL m = ofL (l ++ m) := by
  apply ByteArray.ext
  rw [ByteArray.data_append]
  simp [ofL]

theorem ofL_self (s : ByteArray) : ofL s.data.toList = s := by
  apply ByteArray.ext
  simp [ofL]

theorem ofL_size (l : List UInt8) : (ofL l).size = l.length := by simp [ofL, ByteArray.size]

/-- How often c is in l. -/
def cnt (c : UInt8) (l : List UInt8) : Nat := l.count c

theorem cnt_snoc (c d : UInt8) (l : List UInt8) : cnt c (l ++ [d]) = cnt c l + (if d == c then 1 else 0) := by
  unfold cnt
  rw [List.count_append, List.count_singleton]

theorem cnt_le (c : UInt8) (l : List UInt8) : cnt c l ≤ l.length := List.count_le_length

end Go.Proofs.YtoenkgenoloihaaDoor

/- Contract: which bytes are pieces, in the model. -/
namespace Go.Proofs.YtoenkgenoloihaaDoor
open Go.ChangeShapes Go.WideShapes Go.ChangeAt Go.RowKit

def pcB (c : Int) : Bool := decide (c = 83 ∨ c = 76 ∨ c = 82)

theorem ptPiece_any (c : Int) (w : World) :
    Calls Tryd.prog 88 #[.int .u8 c] w fun e w' => e = .returned (.bool (pcB c)) ∧ w = w' := by
  by_cases h1 : c = 83
  · subst h1
    go_enter Tryd.func88, Tryd.ntmps88
    go_wp2
    go_ret
    exact ⟨rfl, rfl⟩
  by_cases h2 : c = 76
  · subst h2
    go_enter Tryd.func88, Tryd.ntmps88
    go_wp2
    go_ret
    exact ⟨rfl, rfl⟩
  have b1 : (c == 83) = false := by simpa using h1
  have b2 : (c == 76) = false := by simpa using h2
  go_enter Tryd.func88, Tryd.ntmps88
  go_wp2
  all_goals go_ret
  all_goals exact ⟨by by_cases h3 : c = 82 <;> simp [pcB, h1, h2, h3], rfl⟩

end Go.Proofs.YtoenkgenoloihaaDoor

/- Contracts: how a piece is laid: the function that the program picks. -/
namespace Go.Proofs.YtoenkgenoloihaaDoor
open Go.ChangeShapes Go.WideShapes Go.ChangeAt Go.RowKit

@[go_sem high] theorem fneq_L (w : World) : (binOp .eql 110 (.func (Fn.func 125) #[] #[]) .nilFunc).run Tryd.prog w = .ok (.bool false) w := by kernel_rfl

@[go_sem high] theorem fneq_R (w : World) : (binOp .eql 110 (.func (Fn.func 126) #[] #[]) .nilFunc).run Tryd.prog w = .ok (.bool false) w := by kernel_rfl

@[go_sem high] theorem fneq_S (w : World) : (binOp .eql 110 (.func (Fn.func 124) #[] #[]) .nilFunc).run Tryd.prog w = .ok (.bool false) w := by kernel_rfl

@[go_sem high] theorem fneq_no (w : World) : (binOp .eql 110 .nilFunc .nilFunc).run Tryd.prog w = .ok (.bool true) w := by kernel_rfl

theorem lay_L (w : World) :
    Calls Tryd.prog 103 #[.string ⟨#[76]⟩] w fun e w' => e = .returned (.func (Fn.func 125) #[] #[]) ∧ w = w' := by
  go_enter Tryd.func103, Tryd.ntmps103
  go_wp2
  go_ret
  exact ⟨rfl, rfl⟩

theorem lay_R (w : World) :
    Calls Tryd.prog 103 #[.string ⟨#[82]⟩] w fun e w' => e = .returned (.func (Fn.func 126) #[] #[]) ∧ w = w' := by
  go_enter Tryd.func103, Tryd.ntmps103
  go_wp2
  go_ret
  exact ⟨rfl, rfl⟩

theorem lay_S (w : World) :
    Calls Tryd.prog 103 #[.string ⟨#[83]⟩] w fun e w' => e = .returned (.func (Fn.func 124) #[] #[]) ∧ w = w' := by
  go_enter Tryd.func103, Tryd.ntmps103
  go_wp2
  go_ret
  exact ⟨rfl, rfl⟩

theorem lay_no (s : ByteArray) (n1 : (s.toList == [83]) = false) (n2 : (s.toList == [76]) = false) (n3 : (s.toList == [82]) = false) (w : World) :
    Calls Tryd.prog 103 #[.string s] w fun e w' => e = .returned .nilFunc ∧ w = w' := by
  go_enter Tryd.func103, Tryd.ntmps103
  go_wp2
  go_ret
  exact ⟨rfl, rfl⟩

end Go.Proofs.YtoenkgenoloihaaDoor

/- Contracts: which texts are tracks, in the model and in the program. -/
namespace Go.Proofs.YtoenkgenoloihaaDoor
open Go.ChangeShapes Go.WideShapes Go.ChangeAt Go.RowKit

theorem pcB_pcb (c : UInt8) : pcB ((c.toNat : Nat) : Int) = pcb c := by
  rw [Bool.eq_iff_iff]
  simp only [pcB, pcb, decide_eq_true_eq, Bool.or_eq_true, beq_iff_eq, ← UInt8.toNat_inj]
  constructor <;> (intro h; simp at h ⊢; omega)

theorem lay_L' (x : ByteArray) (hx : x = ⟨#[76]⟩) (w : World) :
    Calls Tryd.prog 103 #[.string x] w fun e w' => e = .returned (.func (Fn.func 125) #[] #[]) ∧ w = w' := by subst hx; exact lay_L w

theorem lay_R' (x : ByteArray) (hx : x = ⟨#[82]⟩) (w : World) :
    Calls Tryd.prog 103 #[.string x] w fun e w' => e = .returned (.func (Fn.func 126) #[] #[]) ∧ w = w' := by subst hx; exact lay_R w

theorem lay_S' (x : ByteArray) (hx : x = ⟨#[83]⟩) (w : World) :
    Calls Tryd.prog 103 #[.string x] w fun e w' => e = .returned (.func (Fn.func 124) #[] #[]) ∧ w = w' := by subst hx; exact lay_S w

theorem lay_N' (x : ByteArray) (c : UInt8) (hx : x = ⟨#[c]⟩) (hp : pcb c = false) (w : World) :
    Calls Tryd.prog 103 #[.string x] w fun e w' => e = .returned .nilFunc ∧ w = w' := by
  subst hx
  simp only [pcb, Bool.or_eq_false_iff, beq_eq_false_iff_ne] at hp
  obtain ⟨p1, p2, p3⟩ := hp
  exact lay_no _ (by simp [ByteArray.toList_eq, p1]) (by simp [ByteArray.toList_eq, p2]) (by simp [ByteArray.toList_eq, p3]) w

theorem lay_cases {x : ByteArray} {c : UInt8} (hx : x = ⟨#[c]⟩) (hp : pcb c = true) (w : World) :
    ∃ g : FuncId, (g = 124 ∨ g = 125 ∨ g = 126) ∧ Calls Tryd.prog 103 #[.string x] w fun e w' => e = .returned (.func (Fn.func g) #[] #[]) ∧ w = w' := by
  rcases pcb_cases hp with rfl | rfl | rfl
  · exact ⟨_, .inl rfl, lay_S' x hx w⟩
  · exact ⟨_, .inr (.inl rfl), lay_L' x hx w⟩
  · exact ⟨_, .inr (.inr rfl), lay_R' x hx w⟩

set_option maxRecDepth 100000 in
theorem tkGood_any (s : ByteArray) (hs : s.size ≤ 1048576) (w : World) :
    Calls Tryd.prog 70 #[.string s] w fun e w' => e = .returned (.bool (tkB s)) ∧ w = w' := by
  by_cases h40 : s.size ≤ 40
  · go_enter Tryd.func70, Tryd.ntmps70
    go_wp2_with fail
    go_loop [3] (fun i => ∃ k : Nat, k ≤ s.size ∧ i = .int .i64 k ∧ (s.data.toList.take k).all pcb = true) (fun i => s.size - (intOf i).toNat)
    case atStart => exact ⟨0, Nat.zero_le _, rfl, rfl⟩
    case round =>
      obtain ⟨k, hk, rfl, hall⟩ := hrel
      have HA := Lib.hid hall
      clear hall
      by_cases hlt : k < s.size
      · have he := pcB_pcb s[k]
        cases hp : pcb s[k]
        · have hp2 : pcB ((s[k].toNat : Nat) : Int) = false := he.trans hp
          have HP := Lib.hid hp
          clear he hp
          go_wp2_with (go_at_call 88; refine (ptPiece_any _ _).mono ?_; rintro e w' ⟨rfl, rfl⟩)
          go_ret
          exact ⟨by rw [tkB_no hlt HP.out]; rfl, rfl⟩
        · have hp2 : pcB ((s[k].toNat : Nat) : Int) = true := he.trans hp
          have HP := Lib.hid hp
          clear he hp
          go_wp2_with (go_at_call 88; refine (ptPiece_any _ _).mono ?_; rintro e w' ⟨rfl, rfl⟩)
          go_round
          case rel => exact ⟨k + 1, by omega, by go_num, all_snoc hlt HA.out HP.out⟩
          case measure => simp [intOf]; omega
      · go_wp2_with fail
        go_ret
        exact ⟨by rw [tkB_yes h40 hlt HA.out]; rfl, rfl⟩
  · have hgt : 40 < s.size := by omega
    go_enter Tryd.func70, Tryd.ntmps70
    go_wp2_with fail
    go_ret
    exact ⟨by rw [tkB_long h40]; rfl, rfl⟩

set_option maxRecDepth 100000 in
theorem imIsTrack_any (s : ByteArray) (hs : s.size ≤ 1048576) (w : World) :
    Calls Tryd.prog 98 #[.string s] w fun e w' => e = .returned (.bool (tkB s)) ∧ w = w' := by
  by_cases h40 : s.size ≤ 40
  · go_enter Tryd.func98, Tryd.ntmps98
    go_wp2_with fail
    go_loop [9] (fun i => ∃ k : Nat, k ≤ s.size ∧ i = .int .i64 k ∧ (s.data.toList.take k).all pcb = true) (fun i => s.size - (intOf i).toNat)
    case atStart => exact ⟨0, Nat.zero_le _, rfl, rfl⟩
    case round =>
      obtain ⟨k, hk, rfl, hall⟩ := hrel
      have HA := Lib.hid hall
      clear hall
      by_cases hlt : k < s.size
      · have HX := Lib.hid (ext_one s k hlt)
        cases hp : pcb s[k]
        · have HP := Lib.hid hp
          clear hp
          go_wp2_with (go_at_call 103; refine (lay_N' _ _ HX.out HP.out _).mono ?_; rintro e w' ⟨rfl, rfl⟩)
          go_ret
          exact ⟨by rw [tkB_no hlt HP.out]; rfl, rfl⟩
        · have HP := Lib.hid hp
          clear hp
          obtain ⟨g, hg, hc⟩ := lay_cases HX.out HP.out w
          have HC := Lib.hid hc
          clear hc
          rcases hg with rfl | rfl | rfl
          all_goals
            go_wp2_with (go_at_call 103; refine (HC.out).mono ?_; rintro e w' ⟨rfl, rfl⟩)
            go_round
            case rel => exact ⟨k + 1, by omega, by go_num, all_snoc hlt HA.out HP.out⟩
            case measure => simp [intOf]; omega
      · go_wp2_with fail
        go_ret
        exact ⟨by rw [tkB_yes h40 hlt HA.out]; rfl, rfl⟩
  · have hgt : 40 < s.size := by omega
    go_enter Tryd.func98, Tryd.ntmps98
    go_wp2_with fail
    go_ret
    exact ⟨by rw [tkB_long h40]; rfl, rfl⟩

end Go.Proofs.YtoenkgenoloihaaDoor

/- Small rules on worlds that have grown. -/
namespace Go.Proofs.YtoenkgenoloihaaDoor
open Go.ChangeShapes Go.WideShapes Go.ChangeAt Go.RowKit

theorem bcell {W w1 : World} (hb : Below W.heap.size W w1) : (∀ b o, b < W.heap.size → w1.cell? ⟨b, o, none⟩ = W.cell? ⟨b, o, none⟩) ∧ (∀ b o, b < W.heap.size → w1.frozen? ⟨b, o, none⟩ = W.frozen? ⟨b, o, none⟩) :=
  ⟨fun b o h => hb.cell (p := ⟨b, o, none⟩) h, fun b o h => hb.frozen (p := ⟨b, o, none⟩) h⟩

theorem undrew {W w1 : World} (h : Below W.drew.heap.size W.drew w1) : Below W.heap.size W w1 := ⟨h.os, h.tape, h.output, h.size, h.block⟩

theorem blt {W w1 : World} (hb : Below W.heap.size W w1) : ∀ n, n < W.heap.size → n < w1.heap.size := fun _ h => Nat.lt_of_lt_of_le h hb.size

theorem lt2 : ∀ n : Nat, n < n + 1 + 1 := fun _ => by omega

theorem lt3 : ∀ n : Nat, n < n + 1 + 1 + 1 := fun _ => by omega

/-- One stretch behind another: what was there at the first one's beginning has not turned. -/
theorem ba {a b c : World} (h : Below a.heap.size a b) (k : Below b.heap.size b c) : Below a.heap.size a c := h.trans (k.mono h.size)

/-- A contract that leaves the world alone, turned for a region. -/
theorem turned {P : Program} {f : FuncId} {args : Array Value} {w : World} {v : Value} (h : Calls P f args w fun e w' => e = .returned v ∧ w = w') : Calls P f args w fun e w' => e = .returned v ∧ w' = w :=
  h.mono fun _ _ h => ⟨h.1, h.2.symm⟩

/-- A contract that leaves the world alone, for one that makes memory. -/
theorem grownOf {P : Program} {f : FuncId} {args : Array Value} {w : World} {v : Value} (h : Calls P f args w fun e w' => e = .returned v ∧ w = w') : Calls P f args w fun e w' => e = .returned v ∧ Below w.heap.size w w' :=
  h.mono fun _ _ ⟨h1, h2⟩ => ⟨h1, by subst h2; exact Below.refl _ _⟩

end Go.Proofs.YtoenkgenoloihaaDoor

/- Contracts: IsTrack of the model and of the program, as the laws ask for them. -/
namespace Go.Proofs.YtoenkgenoloihaaDoor
open Go.ChangeShapes Go.WideShapes Go.ChangeAt Go.RowKit

theorem imIsTrack (s : ByteArray) (hs : s.size ≤ 1048576) (w : World) :
    Calls Tryd.prog 98 #[.string s] w fun e w' => e = .returned (.bool (tkB s)) ∧ Below w.heap.size w w' := grownOf (imIsTrack_any s hs w)

end Go.Proofs.YtoenkgenoloihaaDoor

/- Contracts: tracks mirrored and laid backward, in the model. -/
namespace Go.Proofs.YtoenkgenoloihaaDoor
open Go.ChangeShapes Go.WideShapes Go.ChangeAt Go.RowKit

theorem tkOther_any (x : ByteArray) (c : UInt8) (hx : x = ⟨#[c]⟩) (w : World) :
    Calls Tryd.prog 81 #[.string x] w fun e w' => e = .returned (.string ⟨#[mir c]⟩) ∧ w = w' := by
  subst hx
  by_cases h1 : c = 76
  · subst h1
    go_enter Tryd.func81, Tryd.ntmps81
    go_wp2
    go_ret
    exact ⟨rfl, rfl⟩
  by_cases h2 : c = 82
  · subst h2
    go_enter Tryd.func81, Tryd.ntmps81
    go_wp2
    go_ret
    exact ⟨rfl, rfl⟩
  have n1 : ((⟨#[c]⟩ : ByteArray).toList == [76]) = false := by simp [ByteArray.toList_eq, h1]
  have n2 : ((⟨#[c]⟩ : ByteArray).toList == [82]) = false := by simp [ByteArray.toList_eq, h2]
  have b1 : (c == 76) = false := by simpa using h1
  have b2 : (c == 82) = false := by simpa using h2
  have HM := Lib.hid (show mir c = c by simp [mir, h1, h2])
  clear h1 h2
  go_enter Tryd.func81, Tryd.ntmps81
  go_wp2
  go_ret
  exact ⟨by rw [HM.out]; rfl, rfl⟩

def miS (s : ByteArray) : ByteArray := ofL (s.data.toList.map mir)

def baS (s : ByteArray) : ByteArray := ofL (s.data.toList.reverse.map mir)

set_option maxRecDepth 100000 in
theorem tkMirror_any (s : ByteArray) (hs : s.size ≤ 40) (w : World) :
    Calls Tryd.prog 58 #[.string s] w fun e w' => e = .returned (.string (miS s)) ∧ w = w' := by
  go_enter Tryd.func58, Tryd.ntmps58
  go_wp2_with fail
  go_loop [3, 4] (fun t i => ∃ (k : Nat) (o : ByteArray), k ≤ s.size ∧ i = .int .i64 k ∧ t = .string o ∧ o = ofL ((s.data.toList.take k).map mir)) (fun _ i => s.size - (intOf i).toNat)
  case atStart => exact ⟨0, ⟨#[]⟩, Nat.zero_le _, rfl, rfl, rfl⟩
  case round =>
    obtain ⟨k, o, hk, rfl, rfl, ho⟩ := hrel
    have hz : o.size ≤ 40 := by
      have hl : (s.data.toList.take k).length ≤ k := List.length_take_le _ _
      rw [ho, ofL_size, List.length_map]; omega
    have HO := Lib.hid ho
    clear ho
    by_cases hlt : k < s.size
    · have HX := Lib.hid (ext_one s k hlt)
      go_wp2_with (go_at_call 81; refine (tkOther_any _ _ HX.out _).mono ?_; rintro e w' ⟨rfl, rfl⟩)
      go_round
      case rel => exact ⟨k + 1, o ++ ⟨#[mir s[k]]⟩, by omega, by go_num, rfl, by rw [HO.out, ofL_snoc, take_snoc s k hlt, List.map_append]; rfl⟩
      case measure => simp [intOf]; omega
    · go_wp2_with fail
      go_ret
      exact ⟨by rw [HO.out, take_all s hlt]; rfl, rfl⟩

theorem drop_cons (s : ByteArray) (m : Nat) (h : m < s.size) : (s.data.toList.drop m).reverse = (s.data.toList.drop (m + 1)).reverse ++ [s[m]] := by
  rw [List.drop_eq_getElem_cons (by simpa using h), List.reverse_cons]
  rfl

set_option maxRecDepth 100000 in
theorem tkBack_any (s : ByteArray) (hs : s.size ≤ 40) (w : World) :
    Calls Tryd.prog 61 #[.string s] w fun e w' => e = .returned (.string (baS s)) ∧ w = w' := by
  go_enter Tryd.func61, Tryd.ntmps61
  go_wp2_with fail
  go_loop [3, 4] (fun t i => ∃ (z : Int) (k : Nat) (o : ByteArray), k ≤ s.size ∧ z + 1 = k ∧ i = .int .i64 z ∧ t = .string o ∧ o = ofL ((s.data.toList.drop k).reverse.map mir)) (fun _ i => (intOf i + 1).toNat)
  case atStart => exact ⟨_, s.size, ⟨#[]⟩, Nat.le_refl _, by omega, rfl, rfl, by rw [List.drop_of_length_le (by simp)]; rfl⟩
  case round =>
    obtain ⟨z, k, o, hk, hzk, rfl, rfl, ho⟩ := hrel
    have hz : o.size ≤ 40 := by
      have hl : (s.data.toList.drop k).length ≤ s.size := by rw [List.length_drop, size_list]; omega
      rw [ho, ofL_size, List.length_map, List.length_reverse]; omega
    have HO := Lib.hid ho
    clear ho
    by_cases hlt : 0 ≤ z
    · obtain ⟨m, rfl⟩ : ∃ m : Nat, z = m := ⟨z.toNat, by omega⟩
      obtain rfl : k = m + 1 := by omega
      have hm : m < s.size := by omega
      have HX := Lib.hid (ext_one s m hm)
      clear hzk
      go_wp2_with (go_at_call 81; refine (tkOther_any _ _ HX.out _).mono ?_; rintro e w' ⟨rfl, rfl⟩)
      go_round
      case rel => exact ⟨_, m, o ++ ⟨#[mir s[m]]⟩, by omega, by omega, rfl, rfl, by rw [HO.out, ofL_snoc, drop_cons s m hm, List.map_append]; rfl⟩
      case measure => simp [intOf]
    · obtain rfl : k = 0 := by omega
      have hz1 : z < 0 := by omega
      clear hzk
      go_wp2_with fail
      go_ret
      exact ⟨by rw [HO.out]; first | done | rfl, rfl⟩

def miR (s : ByteArray) : ByteArray := cond (tkB s) (miS s) ⟨#[]⟩

def baR (s : ByteArray) : ByteArray := cond (tkB s) (baS s) ⟨#[]⟩

end Go.Proofs.YtoenkgenoloihaaDoor

/- Contracts: tracks mirrored and laid backward, in the program. -/
namespace Go.Proofs.YtoenkgenoloihaaDoor
open Go.ChangeShapes Go.WideShapes Go.ChangeAt Go.RowKit

/-- Block B holds the bytes l, none of them frozen. -/
def Bys (w : World) (B : Nat) (l : List UInt8) : Prop :=
  (∀ j (hj : j < l.length), w.cell? ⟨B, j, none⟩ = some (.int .u8 (l[j].toNat : Int))) ∧ ∀ j, j < l.length → w.frozen? ⟨B, j, none⟩ = false

theorem Bys.new (w : World) (s : ByteArray) (cap : Nat) (e : TypeId) :
    Bys (w.alloc (.cells (bytesRow s cap) e ((bytesRow s cap).size, (bytesRow s cap).size + 1))) w.heap.size s.data.toList := by
  have hsz : s.size ≤ (bytesRow s cap).size := by
    simp only [bytesRow, Array.size_append, Array.size_map]
    exact Nat.le_add_right _ _
  have hat := bytesRow_at s cap
  generalize bytesRow s cap = cs at hsz hat ⊢
  have hb := heap_alloc_new w (.cells cs e (cs.size, cs.size + 1))
  generalize w.alloc (.cells cs e (cs.size, cs.size + 1)) = W at hb ⊢
  refine ⟨fun j hj => ?_, fun j hj => ?_⟩
  · rw [Lib.cell_of_heap hb]
    have hj' : j < s.data.size := by simpa using hj
    rw [hat j hj']
    simp
  · have hj' : j < s.size := by simpa using hj
    have ho : decide (cs.size ≤ j) = false := by simp; omega
    simp [World.frozen?, hb, ho]

theorem Bys.set {w : World} {B : Nat} {l : List UInt8} (h : Bys w B l) {k : Nat} (hk : k < l.length) (c : UInt8) (v : Value) (hv : v = .int .u8 (c.toNat : Int)) : Bys (w.setCell ⟨B, k, none⟩ v) B (l.set k c) := by
  subst hv
  refine ⟨fun j hj => ?_, fun j hj => ?_⟩
  · have hj' : j < l.length := by simpa using hj
    by_cases e : k = j
    · subst e
      rw [World.cell?_setCell_same (h := h.1 k hk)]
      simp
    · rw [World.cell?_setCell_other (h := fun h => e (by injection h)), h.1 j hj']
      simp [e]
  · rw [World.frozen?_setCell]
    exact h.2 j (by simpa using hj)

theorem Bys.below {w w' : World} {B n : Nat} {l : List UInt8} (h : Bys w B l) (hB : B < n) (hb : Below n w w') : Bys w' B l :=
  ⟨fun j hj => by rw [hb.cell (p := ⟨B, j, none⟩) hB]; exact h.1 j hj, fun j hj => by rw [hb.frozen (p := ⟨B, j, none⟩) hB]; exact h.2 j hj⟩

/-- The first k bytes mirrored, the others as they were. -/
def mixL (l : List UInt8) (k : Nat) : List UInt8 := (l.take k).map mir ++ l.drop k

theorem mixL_length (l : List UInt8) (k : Nat) : (mixL l k).length = l.length := by
  simp only [mixL, List.length_append, List.length_map, List.length_take, List.length_drop]; omega

theorem mixL_at (l : List UInt8) (k : Nat) (hk : k < l.length) : (mixL l k)[k]'(by rw [mixL_length]; exact hk) = l[k] := by
  have hl : ((l.take k).map mir).length = k := by rw [List.length_map, List.length_take]; omega
  simp only [mixL]
  rw [List.getElem_append_right (by omega), List.getElem_drop]
  congr 1
  omega

theorem mixL_succ (l : List UInt8) (k : Nat) (hk : k < l.length) : mixL l (k + 1) = (mixL l k).set k (mir l[k]) := by
  have hl : ((l.take k).map mir).length = k := by rw [List.length_map, List.length_take]; omega
  simp only [mixL]
  rw [List.set_append_right _ _ (by omega), hl, Nat.sub_self, List.drop_eq_getElem_cons hk, List.set_cons_zero, List.take_succ_eq_append_getElem hk, List.map_append, List.append_assoc]
  rfl

theorem mixL_same (l : List UInt8) (k : Nat) (hk : k < l.length) (h : mir l[k] = l[k]) : mixL l (k + 1) = mixL l k := by
  rw [mixL_succ l k hk, h]
  have := mixL_at l k hk
  apply List.ext_getElem
  · simp
  · intro i h1 h2
    by_cases e : k = i
    · subst e; simp [this]
    · simp [e]

theorem mixL_all (l : List UInt8) (k : Nat) (hk : ¬ k < l.length) : mixL l k = l.map mir := by
  simp only [mixL]
  rw [List.take_of_length_le (by omega), List.drop_of_length_le (by omega), List.append_nil]

set_option maxRecDepth 100000 in
set_option maxHeartbeats 800000 in
theorem mirrored_any (s : ByteArray) (hs : s.size ≤ 40) (w : World) :
    Calls Tryd.prog 99 #[.string s] w fun e w' => e = .returned (.slice (some ⟨w.heap.size, 0, none⟩) s.size (grownCap w s.size 0 5)) ∧ Bys w' w.heap.size (s.data.toList.map mir) ∧ Below w.heap.size w w' ∧ w.heap.size < w'.heap.size := by
  have q := run_bytes_of_string (P := Tryd.prog) w 9 77 5 s Tryd.underlying9 Tryd.underlying77 Tryd.underlying5
  have h0 := Lib.hid (Bys.new w s (grownCap w s.size 0 5) 5)
  obtain ⟨cap, hcap⟩ : ∃ cap, cap = grownCap w s.size 0 5 := ⟨_, rfl⟩
  rw [← hcap] at q h0 ⊢
  obtain ⟨R, hR⟩ : ∃ R, R = Obj.cells (bytesRow s cap) 5 ((bytesRow s cap).size, (bytesRow s cap).size + 1) := ⟨_, rfl⟩
  rw [← hR] at q h0
  have hls := size_list s
  have HL := Lib.hid hls
  clear hcap hR hls
  go_enter Tryd.func99, Tryd.ntmps99
  go_wp2_with fail
  go_loopw [10] (fun i wr => ∃ k : Nat, k ≤ s.size ∧ i = .int .i64 k ∧ Bys wr w.heap.size (mixL s.data.toList k) ∧ Below w.heap.size w wr ∧ w.heap.size < wr.heap.size) (fun i _ => s.size - (intOf i).toNat)
  case atStart => exact ⟨0, Nat.zero_le _, rfl, h0.out, by go_grown, by simp⟩
  case round =>
    obtain ⟨k, hk, rfl, hM, hb, hz⟩ := hrel
    have HM := Lib.hid hM
    have HB := Lib.hid hb
    by_cases hlt : k < s.size
    · have hk' : k < s.data.toList.length := by rw [HL.out]; exact hlt
      have hk2 : k < (mixL s.data.toList k).length := by rw [mixL_length]; exact hk'
      obtain ⟨c, hc⟩ : ∃ c, c = s.data.toList[k] := ⟨_, rfl⟩
      have hcell : wr.cell? ⟨w.heap.size, k, none⟩ = some (.int .u8 (c.toNat : Int)) := by rw [hM.1 k hk2, mixL_at _ _ hk', hc]
      have hfz : wr.frozen? ⟨w.heap.size, k, none⟩ = false := hM.2 k hk2
      have HC := Lib.hid hc
      clear hM hb hc
      by_cases h1 : c = 76
      · subst h1
        go_wp2_with fail
        go_roundw
        case rel => exact ⟨k + 1, by omega, by go_num, by rw [mixL_succ _ _ hk']; exact HM.out.set hk2 _ _ (by rw [← HC.out]; rfl), HB.out.setCell (Nat.le_refl _) _, by simpa using hz⟩
        case measure => simp [intOf]; omega
      by_cases h2 : c = 82
      · subst h2
        go_wp2_with fail
        go_roundw
        case rel => exact ⟨k + 1, by omega, by go_num, by rw [mixL_succ _ _ hk']; exact HM.out.set hk2 _ _ (by rw [← HC.out]; rfl), HB.out.setCell (Nat.le_refl _) _, by simpa using hz⟩
        case measure => simp [intOf]; omega
      have HS := Lib.hid (mixL_same s.data.toList k hk' (by rw [← HC.out]; simp [mir, h1, h2]))
      have b1 : ((c.toNat : Int) == 76) = false := by
        simp only [beq_eq_false_iff_ne]
        intro h
        exact h1 (UInt8.toNat_inj.1 (by show c.toNat = 76; omega))
      have b2 : ((c.toNat : Int) == 82) = false := by
        simp only [beq_eq_false_iff_ne]
        intro h
        exact h2 (UInt8.toNat_inj.1 (by show c.toNat = 82; omega))
      clear h1 h2
      go_wp2_with fail
      go_roundw
      case rel => exact ⟨k + 1, by omega, by go_num, by rw [HS.out]; exact HM.out, HB.out, hz⟩
      case measure => simp [intOf]; omega
    · have HE := Lib.hid (mixL_all s.data.toList k (by rw [HL.out]; exact hlt))
      clear hM hb
      go_wp2_with fail
      go_ret
      exact ⟨rfl, by rw [← HE.out]; exact HM.out, HB.out, hz⟩

end Go.Proofs.YtoenkgenoloihaaDoor

/- Contract: the library's slices.Reverse at bytes. -/
namespace Go.Proofs.YtoenkgenoloihaaDoor
open Go.ChangeShapes Go.WideShapes Go.ChangeAt Go.RowKit

def rvRen : Go.Shelf.Ren := ⟨fun | 35 => 100 | n => n, fun | 0 => 0 | 3 => 3 | 4 => 4 | 22 => 77 | 23 => 5 | n => n, fun | n => n⟩

theorem rvLays : Go.Proofs.SlLaysE.n35 Tryd.prog rvRen := {
  mixed := by kernel_rfl
  f35 := ⟨Tryd.f100.name, by decide, Tryd.func100.trans (congrArg some (by kernel_rfl))⟩
  t0 := Tryd.underlying0
  a0 := Tryd.isAgg0
  z0 := Tryd.sizeOf0
  v0 := Tryd.zeroValue0
  t3 := Tryd.underlying3
  a3 := Tryd.isAgg3
  z3 := Tryd.sizeOf3
  v3 := Tryd.zeroValue3
  t4 := Tryd.underlying4
  a4 := Tryd.isAgg4
  z4 := Tryd.sizeOf4
  v4 := Tryd.zeroValue4
  t22 := Tryd.underlying77
  a22 := Tryd.isAgg77
  z22 := Tryd.sizeOf77
  v22 := Tryd.zeroValue77
  a23 := Tryd.isAgg5
  z23 := Tryd.sizeOf5
  }

def byV (c : UInt8) : Value := .int .u8 (c.toNat : Int)

theorem Bys.holds {w : World} {B : Nat} {l : List UInt8} (h : Bys w B l) : Sort.Holds byV w B 0 l.toArray := by
  intro j hj
  have hj' : j < l.length := by simpa using hj
  rw [Nat.zero_add]
  refine ⟨?_, h.2 j hj'⟩
  rw [h.1 j hj', getElem!_pos _ j hj]
  simp [byV]

theorem Bys.of {w : World} {B : Nat} {l : List UInt8} (h : Sort.Holds byV w B 0 l.toArray) : Bys w B l := by
  refine ⟨fun j hj => ?_, fun j hj => ?_⟩
  · have := (h j (by simpa using hj)).1
    rw [Nat.zero_add, getElem!_pos _ j (by simpa using hj)] at this
    simpa [byV] using this
  · have := (h j (by simpa using hj)).2
    rwa [Nat.zero_add] at this

theorem belowRow {w : World} {n B off : Nat} {d : Array UInt8} : Below B w (Sort.putRow byV (Sort.ahead w n) B off d) := by
  refine ⟨rfl, rfl, rfl, by simp [Sort.ahead], fun k hk => ?_⟩
  have hne : B ≠ k := by omega
  simp [Sort.putRow, Sort.mapBlock, Sort.ahead, Array.getElem?_modify, hne]

theorem reverse_any (B cap : Nat) (l : List UInt8) (w : World) (h : Bys w B l) (hl : l.length ≤ 1048576) :
    Calls Tryd.prog 100 #[.slice (some ⟨B, 0, none⟩) l.length cap] w fun e w' => e = .returned (.tuple #[]) ∧ Bys w' B l.reverse ∧ Below B w w' := by
  refine (AnyE.slices_Reverse rvLays byV (fun _ => rfl) B 0 cap l w h.holds (by omega)).mono ?_
  rintro e w' ⟨rfl, n, rfl⟩
  refine ⟨rfl, ?_, belowRow⟩
  have h2 := Sort.holds_putRow byV (Sort.ahead w n) B 0 l.toArray l.reverse.toArray (Sort.holds_ahead byV w n B 0 l.toArray h.holds) (by simp)
  exact Bys.of h2

theorem back_any (w : World) (B cap n : Nat) (l : List UInt8) (hn : l.length = n) (h : Bys w B l) :
    (convert 77 9 (.slice (some ⟨B, 0, none⟩) n cap)).run Tryd.prog w = .ok (.string (ofL l)) w := by
  subst hn
  refine run_convert_bytes_back w 77 9 5 ⟨B, 0, none⟩ cap l Tryd.underlying77 Tryd.underlying5 Tryd.underlying9 (fun j hj => ?_)
  rw [← h.1 j hj]
  by_cases e : j = 0 <;> simp [Addr.add, e]

set_option maxRecDepth 100000 in
theorem imMirrorTrack (s : ByteArray) (hs : s.size ≤ 1048576) (w : World) :
    Calls Tryd.prog 83 #[.string s] w fun e w' => e = .returned (.tuple #[.string (miR s), .bool (tkB s)]) ∧ Below w.heap.size w w' := by
  cases hb : tkB s
  · go_enter Tryd.func83, Tryd.ntmps83
    go_wp2_with (go_at_call 98; refine (imIsTrack_any s hs _).mono ?_; rintro e w' ⟨rfl, rfl⟩)
    go_ret2
    exact ⟨by simp [miR, hb], Below.refl _ _⟩
  · have h40 := tkB_size hb
    have hR := Lib.hid (show miR s = ofL (s.data.toList.map mir) by simp [miR, hb, miS])
    go_enter Tryd.func83, Tryd.ntmps83
    go_wp2_with (go_at_call 98; refine (imIsTrack_any s hs _).mono ?_; rintro e w' ⟨rfl, rfl⟩)
    refine (mirrored_any s h40 _).mono ?_
    rintro e w1 ⟨rfl, hM, hb1, _⟩
    have q := back_any w1 w.heap.size (grownCap w s.size 0 5) s.size _ (by simp) hM
    have HB := Lib.hid hb1
    clear hM hb1
    go_wp2_with fail
    go_ret2
    exact ⟨by rw [hR.out]; rfl, HB.out⟩

set_option maxRecDepth 100000 in
theorem imBackTrack (s : ByteArray) (hs : s.size ≤ 1048576) (w : World) :
    Calls Tryd.prog 84 #[.string s] w fun e w' => e = .returned (.tuple #[.string (baR s), .bool (tkB s)]) ∧ Below w.heap.size w w' := by
  cases hb : tkB s
  · go_enter Tryd.func84, Tryd.ntmps84
    go_wp2_with (go_at_call 98; refine (imIsTrack_any s hs _).mono ?_; rintro e w' ⟨rfl, rfl⟩)
    go_ret2
    exact ⟨by simp [baR, hb], Below.refl _ _⟩
  · have h40 := tkB_size hb
    have hR := Lib.hid (show baR s = ofL (s.data.toList.map mir).reverse by simp [baR, hb, baS])
    have hln : (s.data.toList.map mir).length = s.size := by simp
    have HL := Lib.hid hln
    clear hln
    go_enter Tryd.func84, Tryd.ntmps84
    go_wp2_with (go_at_call 98; refine (imIsTrack_any s hs _).mono ?_; rintro e w' ⟨rfl, rfl⟩)
    refine (mirrored_any s h40 _).mono ?_
    rintro e w1 ⟨rfl, hM, hb1, _⟩
    have HB := Lib.hid hb1
    have HM := Lib.hid hM
    clear hM hb1
    go_wp2_with fail
    have hv := reverse_any w.heap.size (grownCap w s.size 0 5) _ w1 HM.out (by rw [HL.out]; omega)
    rw [HL.out] at hv
    refine hv.mono ?_
    rintro e w2 ⟨rfl, hV, hb2⟩
    have q := back_any w2 w.heap.size (grownCap w s.size 0 5) s.size _ (by simp) hV
    have HB2 := Lib.hid (HB.out.trans hb2)
    clear hV hb2 hv
    go_wp2_with fail
    go_ret2
    exact ⟨by rw [hR.out]; rfl, HB2.out⟩

end Go.Proofs.YtoenkgenoloihaaDoor

/- Rings spun: from each beginning, their least ones, their periods. Nothing of the program. -/
namespace Go.Proofs.YtoenkgenoloihaaDoor

set_option linter.unusedSimpArgs false

def spn (l : List UInt8) (k : Nat) : List UInt8 := l.drop k ++ l.take k

theorem spn_len (l : List UInt8) (k : Nat) : (spn l k).length = l.length := by simp [spn]; omega

theorem spn_zero (l : List UInt8) : spn l 0 = l := by simp [spn]

theorem spn_full (l : List UInt8) : spn l l.length = l := by simp [spn]

theorem spn_at (l : List UInt8) (k j : Nat) (hk : k ≤ l.length) (hj : j < l.length) : (spn l k)[j]? = l[(k + j) % l.length]? := by
  unfold spn
  rw [List.getElem?_append, List.length_drop]
  by_cases h : j < l.length - k
  · rw [if_pos h, List.getElem?_drop, Nat.mod_eq_of_lt (by omega)]
  · rw [if_neg h, List.getElem?_take, if_pos (by omega)]
    congr 1
    rw [Nat.mod_eq_sub_mod (by omega), Nat.mod_eq_of_lt (by omega)]
    omega

theorem spn_mod (l : List UInt8) (k : Nat) (hk : k ≤ l.length) : spn l k = spn l (k % l.length) := by
  by_cases h : k = l.length
  · rw [h, Nat.mod_self, spn_full, spn_zero]
  · rw [Nat.mod_eq_of_lt (by omega)]

theorem spn_spn (l : List UInt8) (k j : Nat) (hk : k ≤ l.length) (hj : j ≤ l.length) : spn (spn l k) j = spn l ((k + j) % l.length) := by
  by_cases h0 : l.length = 0
  · have : l = [] := List.eq_nil_of_length_eq_zero h0
    subst this; simp [spn]
  apply List.ext_getElem?
  intro t
  by_cases ht : t < l.length
  · rw [spn_at (spn l k) j t (by rw [spn_len]; exact hj) (by rw [spn_len]; exact ht), spn_len, spn_at l k _ hk (Nat.mod_lt _ (by omega)),
      spn_at l _ t (Nat.le_of_lt (Nat.mod_lt _ (by omega))) ht]
    congr 1
    rw [Nat.add_mod_mod, Nat.mod_add_mod, Nat.add_assoc]
  · rw [List.getElem?_eq_none (by rw [spn_len, spn_len]; omega), List.getElem?_eq_none (by rw [spn_len]; omega)]

/-- One from another beginning. -/
def orb (a b : List UInt8) : Prop := ∃ k, k ≤ a.length ∧ b = spn a k

theorem orb_refl (a : List UInt8) : orb a a := ⟨0, Nat.zero_le _, (spn_zero a).symm⟩

theorem orb_len {a b : List UInt8} (h : orb a b) : b.length = a.length := by obtain ⟨k, _, rfl⟩ := h; exact spn_len a k

theorem orb_trans {a b c : List UInt8} (h : orb a b) (g : orb b c) : orb a c := by
  obtain ⟨k, hk, rfl⟩ := h
  obtain ⟨j, hj, rfl⟩ := g
  rw [spn_len] at hj
  refine ⟨(k + j) % a.length, ?_, spn_spn a k j hk hj⟩
  by_cases h0 : a.length = 0
  · rw [h0] at hk hj ⊢
    have : k = 0 := by omega
    have : j = 0 := by omega
    subst k j; simp
  · exact Nat.le_of_lt (Nat.mod_lt _ (by omega))

theorem orb_symm {a b : List UInt8} (h : orb a b) : orb b a := by
  obtain ⟨k, hk, rfl⟩ := h
  refine ⟨a.length - k, by rw [spn_len]; omega, ?_⟩
  rw [spn_spn a k _ hk (by omega), show k + (a.length - k) = a.length by omega, Nat.mod_self, spn_zero]

/-- The order of texts. -/
theorem lt_irr (a : List UInt8) : ¬ a < a := List.lt_irrefl a

theorem lt_tri (a b : List UInt8) : a < b ∨ a = b ∨ b < a := by
  by_cases h1 : a < b
  · exact .inl h1
  by_cases h2 : b < a
  · exact .inr (.inr h2)
  · exact .inr (.inl (List.le_antisymm (List.not_lt.1 h2) (List.not_lt.1 h1)))

theorem lt_asy {a b : List UInt8} (h : a < b) : ¬ b < a := List.lt_asymm h

theorem lt_trn {a b c : List UInt8} (h : a < b) (g : b < c) : a < c := List.lt_trans h g

/-- The least of some: the first one that none is less than. -/
def mn (x : List UInt8) (ys : List (List UInt8)) : List UInt8 := ys.foldl (fun m y => if y < m then y else m) x

theorem mn_cons (x y : List UInt8) (ys : List (List UInt8)) : mn x (y :: ys) = mn (if y < x then y else x) ys := rfl

theorem mn_mem : ∀ (ys : List (List UInt8)) (x : List UInt8), mn x ys ∈ x :: ys
  | [], x => by simp [mn]
  | y :: ys, x => by
    rw [mn_cons]
    have := mn_mem ys (if y < x then y else x)
    split at this <;> rename_i h
    · rw [if_pos h]
      exact List.mem_cons_of_mem _ this
    · rw [if_neg h]
      rcases List.mem_cons.1 this with h | h
      · rw [h]; exact List.mem_cons_self
      · exact List.mem_cons_of_mem _ (List.mem_cons_of_mem _ h)

theorem mn_le : ∀ (ys : List (List UInt8)) (x : List UInt8), ∀ y ∈ x :: ys, ¬ y < mn x ys
  | [], x, y, hy => by
    have : y = x := by simpa using hy
    subst this
    exact lt_irr y
  | z :: ys, x, y, hy => by
    rw [mn_cons]
    have ih := mn_le ys (if z < x then z else x)
    have h0 := ih _ List.mem_cons_self
    rcases List.mem_cons.1 hy with rfl | hy
    · intro h
      split at h0 <;> rename_i hz
      · rw [if_pos hz] at h
        exact h0 (lt_trn hz h)
      · rw [if_neg hz] at h
        exact h0 h
    rcases List.mem_cons.1 hy with rfl | hy
    · intro h
      split at h0 <;> rename_i hz
      · rw [if_pos hz] at h
        exact h0 h
      · rw [if_neg hz] at h
        rcases lt_tri y x with g | g | g
        · exact hz g
        · subst g; exact h0 h
        · exact h0 (lt_trn g h)
    · exact ih y (List.mem_cons_of_mem _ hy)

/-- What is least is one alone. -/
theorem least_one {S T : List (List UInt8)} (h : ∀ x, x ∈ S ↔ x ∈ T) {m n : List UInt8} (hm : m ∈ S) (hn : n ∈ T) (h1 : ∀ x ∈ S, ¬ x < m) (h2 : ∀ x ∈ T, ¬ x < n) : m = n := by
  rcases lt_tri m n with g | g | g
  · exact absurd g (h2 m ((h m).1 hm))
  · exact g
  · exact absurd g (h1 n ((h n).2 hn))

def rotA (l : List UInt8) : List (List UInt8) := (List.range l.length).map (spn l)

theorem rot_mem {l a : List UInt8} (h0 : 0 < l.length) : a ∈ rotA l ↔ orb l a := by
  simp only [rotA, List.mem_map, List.mem_range, orb]
  constructor
  · rintro ⟨k, hk, rfl⟩; exact ⟨k, by omega, rfl⟩
  · rintro ⟨k, hk, rfl⟩
    exact ⟨k % l.length, Nat.mod_lt _ h0, (spn_mod l k hk).symm⟩

def leastL (l : List UInt8) : List UInt8 := mn l (rotA l)

theorem rot_cons {l a : List UInt8} (h0 : 0 < l.length) : a ∈ l :: rotA l ↔ orb l a := by
  rw [List.mem_cons, rot_mem h0]
  constructor
  · rintro (rfl | h)
    · exact orb_refl a
    · exact h
  · exact .inr

theorem leastL_orb {l : List UInt8} (h0 : 0 < l.length) : orb l (leastL l) := (rot_cons h0).1 (mn_mem (rotA l) l)

theorem leastL_le {l a : List UInt8} (h0 : 0 < l.length) (h : orb l a) : ¬ a < leastL l := mn_le (rotA l) l a ((rot_cons h0).2 h)

theorem leastL_len {l : List UInt8} (h0 : 0 < l.length) : (leastL l).length = l.length := orb_len (leastL_orb h0)

theorem leastL_eq {a b : List UInt8} (h0 : 0 < a.length) (h : orb a b) : leastL a = leastL b := by
  have hb : 0 < b.length := by rw [orb_len h]; exact h0
  refine least_one (S := a :: rotA a) (T := b :: rotA b) (fun x => ?_) (mn_mem _ _) (mn_mem _ _) (mn_le _ _) (mn_le _ _)
  rw [rot_cons h0, rot_cons hb]
  exact ⟨fun g => orb_trans (orb_symm h) g, fun g => orb_trans h g⟩

theorem leastL_iff {a b : List UInt8} (h0 : 0 < a.length) (hb : 0 < b.length) : leastL a = leastL b ↔ orb a b := by
  refine ⟨fun h => ?_, leastL_eq h0⟩
  have h1 := leastL_orb h0
  rw [h] at h1
  exact orb_trans h1 (orb_symm (leastL_orb hb))

/-- The program's order of the spun ones: by 1, 2, .., up to all pieces. -/
def rot1 (l : List UInt8) : List (List UInt8) := (List.range l.length).map fun i => spn l (i + 1)

theorem rot1_mem {l a : List UInt8} (h0 : 0 < l.length) : a ∈ rot1 l ↔ orb l a := by
  simp only [rot1, List.mem_map, List.mem_range, orb]
  constructor
  · rintro ⟨k, hk, rfl⟩; exact ⟨k + 1, by omega, rfl⟩
  · rintro ⟨k, hk, rfl⟩
    by_cases h : k = 0
    · subst h
      exact ⟨l.length - 1, by omega, by rw [show l.length - 1 + 1 = l.length by omega, spn_full, spn_zero]⟩
    · exact ⟨k - 1, by omega, by rw [show k - 1 + 1 = k by omega]⟩

theorem rot1_len (l : List UInt8) : (rot1 l).length = l.length := by simp [rot1]

/-- The order of bytes as the library tells it. -/
theorem cmpB_lt : ∀ (a b : List UInt8), Lib.compareBytes a b < 0 ↔ a < b
  | [], [] => by simp [Lib.compareBytes]
  | [], _ :: _ => by simp [Lib.compareBytes]
  | _ :: _, [] => by simp [Lib.compareBytes]
  | x :: a, y :: b => by
    have ih := cmpB_lt a b
    rw [Lib.compareBytes, List.cons_lt_cons_iff]
    by_cases h1 : x < y
    · simp [h1]
    · by_cases h2 : y < x
      · have : ¬ x = y := fun e => by subst e; exact h1 h2
        simp [h1, h2, this]
      · have : x = y := UInt8.le_antisymm (UInt8.not_lt.1 h2) (UInt8.not_lt.1 h1)
        simp [h1, h2, this, ih]

end Go.Proofs.YtoenkgenoloihaaDoor

/- Arrays of forty bytes: how they lie, and which texts they are. -/
namespace Go.Proofs.YtoenkgenoloihaaDoor
open Go.ChangeShapes Go.WideShapes Go.ChangeAt Go.RowKit

def Lp : Type := { l : List UInt8 // l.length = 40 }

instance : Inhabited Lp := ⟨⟨List.replicate 40 0, by simp⟩⟩

def encLp (x : Lp) : List Value := x.1.map byV

theorem encLp_len (x : Lp) : (encLp x).length = 40 := by simp [encLp, x.2]

def mkLp (l : List UInt8) : Lp := ⟨(l ++ List.replicate 40 0).take 40, by simp⟩

def arr (x : Lp) : Array Value := (encLp x).toArray

theorem arr_size (x : Lp) : (arr x).size = 40 := by simp [arr, encLp_len]

theorem enc_one (x : Lp) : ∀ v ∈ encLp x, v.oneCell' = true := by
  intro v hv
  simp only [encLp, List.mem_map] at hv
  obtain ⟨c, _, rfl⟩ := hv
  rfl

theorem arr_one (x : Lp) : (arr x).all (·.oneCell') = true := by
  simp only [arr, List.size_toArray, List.all_toArray', List.all_eq_true]
  exact enc_one x

def zLp : Lp := ⟨List.replicate 40 0, by simp⟩

theorem lpInfo : (Tryd.prog.info? 45).map (fun i => (i.zero, i.size)) = some (some (.agg (arr zLp)), 40) := by kernel_rfl

theorem lpSize (x : Lp) : (Tryd.prog.info? 45).map (·.size) = some (arr x).size := by rw [arr_size]; exact (zero_of_info lpInfo).2

theorem lpUnder : Tryd.prog.underlying 45 = some (.array 40 5) := by kernel_rfl

/-- Bytes of a text laid into a block of zeros. -/
theorem copy_text (w : World) (l : List UInt8) (hl : l.length ≤ 40) (ty : TypeId) :
    (Builtin.copy_ #[77, 9] ty #[.slice (some ⟨w.heap.size, 0, none⟩) 40 40, .string (ofL l)]).run Tryd.prog (w.alloc (.cells (arr zLp) 45)) = .ok (goInt l.length) (w.alloc (.cells (arr (mkLp l)) 45)) := by
  have hcs : List.take l.length (List.map (fun b => Value.int .u8 (b.toNat : Int)) (ofL l).data.toList) = l.map byV := by
    show List.take l.length (l.map byV) = l.map byV
    exact List.take_of_length_le (by simp)
  have hst := run_storeCells_at Tryd.prog w.heap.size 0 45 (l.map byV) 0 (arr zLp) (w.alloc (.cells (arr zLp) 45)) (heap_alloc_last w _) (by rw [arr_size]; simpa using hl) (by
    intro v hv
    simp only [List.mem_map] at hv
    obtain ⟨c, _, rfl⟩ := hv
    rfl)
  have hrow : ((arr zLp).toList.take (0 + 0) ++ l.map byV ++ (arr zLp).toList.drop (0 + 0 + (l.map byV).length)).toArray = arr (mkLp l) := by
    simp only [arr, encLp, zLp, mkLp, List.take_zero, Nat.add_zero, Nat.zero_add, List.nil_append, List.length_map]
    congr 1
    rw [← List.map_drop, ← List.map_append]
    congr 1
    rw [List.take_append, List.take_of_length_le hl, List.drop_replicate, List.take_replicate]
    congr 2
    omega
  rw [hrow, World.setRow_alloc_new] at hst
  have hmin : Nat.min l.length 40 = l.length := Nat.min_eq_left hl
  have hz : (ofL l).size = l.length := ofL_size l
  cases hq : Tryd.prog.info? 5 with
  | none =>
    have h : (Tryd.prog.info? 5).isSome = true := by kernel_rfl
    rw [hq] at h
    cases h
  | some i =>
    simp [Builtin.copy_, run_underlying Tryd.underlying77, Builtin.lenOf, Builtin.firstCells, sizeOf, typeInfo, hq, hz, hmin, hcs, hst]

/-- An array loaded from where its cells lie. -/
theorem lp_load (W : World) (b o : Nat) (x : Lp) (h : ∀ j v, (encLp x)[j]? = some v → W.cell? ⟨b, o + j, none⟩ = some v) :
    Sem.run Tryd.prog (loadCellsFrom ⟨b, o, none⟩ 0 40 #[]) W = .ok (arr x) W :=
  run_loadCellsFrom_list Tryd.prog _ _ (encLp x) 40 (encLp_len x) (fun j v hj => by
    rw [Addr.add_lit]
    exact h j v hj)

/-- Block b holds an array. -/
def LpAt (W : World) (b : Nat) (x : Lp) : Prop := W.heap[b]? = some (.cells (arr x) 45 (0, 0))

theorem LpAt.lt {W : World} {b : Nat} {x : Lp} (h : LpAt W b x) : b < W.heap.size := (Array.getElem?_eq_some_iff.1 h).1

theorem LpAt.new (W : World) (x : Lp) : LpAt (W.alloc (.cells (arr x) 45)) W.heap.size x := heap_alloc_last W _

theorem LpAt.alloc {W : World} {b : Nat} {x : Lp} (h : LpAt W b x) (o : Obj) : LpAt (W.alloc o) b x := by
  have hl := h.lt
  show (W.heap.push o)[b]? = _
  rw [Array.getElem?_push, if_neg (by omega)]
  exact h

theorem LpAt.below {W W' : World} {b n : Nat} {x : Lp} (h : LpAt W b x) (hb : Below n W W') (hn : b < n) : LpAt W' b x := (hb.block b hn).trans h

theorem LpAt.drewN {W : World} {b : Nat} {x : Lp} (h : LpAt W b x) (q : Nat) : LpAt (W.drewN q) b x := h

theorem LpAt.load {W : World} {b : Nat} {x : Lp} (h : LpAt W b x) : Sem.run Tryd.prog (loadCellsFrom ⟨b, 0, none⟩ 0 40 #[]) W = .ok (arr x) W :=
  lp_load W b 0 x fun j v hj => by
    rw [Nat.zero_add, cell_of_row _ _ j _ _ (0, 0) h]
    simpa [arr] using hj

theorem LpAt.store {W : World} {b : Nat} {x : Lp} (h : LpAt W b x) (y : Lp) : Sem.run Tryd.prog (storeCells ⟨b, 0, none⟩ (arr y).toList) W = .ok () (W.setRow b (arr y)) := by
  have hst := run_storeCells_at Tryd.prog b 0 45 (encLp y) 0 (arr x) W h (by rw [arr_size, encLp_len]; exact Nat.le_refl _) (enc_one y)
  have hrow : ((arr x).toList.take (0 + 0) ++ encLp y ++ (arr x).toList.drop (0 + 0 + (encLp y).length)).toArray = arr y := by
    simp only [arr, List.take_zero, Nat.add_zero, Nat.zero_add, List.nil_append]
    rw [encLp_len, List.drop_of_length_le (by rw [encLp_len]; exact Nat.le_refl _), List.append_nil]
  rw [hrow] at hst
  simpa [arr] using hst

theorem LpAt.set {W : World} {b : Nat} {x : Lp} (h : LpAt W b x) (y : Lp) : LpAt (W.setRow b (arr y)) b y := by
  unfold LpAt at h ⊢
  simp [World.setRow, Array.getElem?_modify, h]

theorem LpAt.set_other {W : World} {b c : Nat} {x : Lp} (h : LpAt W b x) (A : Array Value) (hne : c ≠ b) : LpAt (W.setRow c A) b x := by
  unfold LpAt at h ⊢
  simp [World.setRow, Array.getElem?_modify, h, hne]

theorem fold_many : ∀ (C : List Value) (o : Nat) (I : Array Value), (C.zipIdx o).foldl (fun (cs : Array Value) (x : Value × Nat) => cs.setIfInBounds x.2 x.1) I = Sort.setMany I o C
  | [], _, _ => rfl
  | v :: C, o, I => by
    rw [List.zipIdx_cons, List.foldl_cons, fold_many C (o + 1)]
    rfl

/-- An array's cells laid over as many: what a literal of one element makes. -/
theorem fold_set {K : Nat} (I C : Array Value) (h1 : I.size = K) (h2 : C.size = K) : Array.foldl (fun (cs : Array Value) (x : Value × Nat) => cs.setIfInBounds x.snd x.fst) I C.zipIdx 0 K = C := by
  have hz : C.zipIdx.size = K := by simp [h2]
  rw [← hz, ← Array.foldl_toList]
  have hl : C.zipIdx.toList = C.toList.zipIdx := by simp
  rw [hl, fold_many]
  refine Sort.ext_get! (by rw [Sort.size_setMany]; omega) fun t ht => ?_
  rw [Sort.size_setMany] at ht
  rw [Sort.get_setMany _ _ _ t ht, if_pos (by simp; omega)]
  have htc : t < C.size := by omega
  simp [htc]

theorem fold_K {K : Nat} (hK : K = 40) (y : Lp) : ∀ f : Nat → Value, Array.foldl (fun (cs : Array Value) (x : Value × Nat) => cs.setIfInBounds x.snd x.fst) (Array.map f (Array.range K)) (arr y).zipIdx 0 K = arr y := fun f => fold_set _ _ (by simp) (by rw [hK, arr_size])

end Go.Proofs.YtoenkgenoloihaaDoor

/- Contracts for points: which numbers are a point's, in the model and in the program; a point is handed on and compared. -/
namespace Go.Proofs.YtoenkgenoloihaaDoor
open Go.ChangeShapes Go.WideShapes Go.ChangeAt Go.RowKit

def goodB (a b c d : Int) : Bool := decide (-999999 ≤ a ∧ a ≤ 999999 ∧ -999999 ≤ b ∧ b ≤ 999999 ∧ -999999 ≤ c ∧ c ≤ 999999 ∧ -999999 ≤ d ∧ d ≤ 999999)

/-- '==' on two points, the model's entry reckoned once. -/
@[go_sem high] theorem eqPt (a0 a1 a2 a3 : Int) (b0 b1 b2 b3 : Int) (w : World) : (binOp .eql 67 (.agg #[.int .i64 a0, .int .i64 a1, .int .i64 a2, .int .i64 a3]) (.agg #[.int .i64 b0, .int .i64 b1, .int .i64 b2, .int .i64 b3])).run Tryd.prog w = .ok (.bool (a0 == b0 && (a1 == b1 && (a2 == b2 && a3 == b3)))) w := by
  have hS : Tryd.prog.underlying 67 = some (.struct (Tryd.prog.fieldsOf 67)) := by kernel_rfl
  have hp : Tryd.prog.stoodInHeld 67 = false := by kernel_rfl
  rw [run_eql_struct, show (10000 : Nat) = 9999 + 1 from rfl, run_equalIn_agg w 9999 67 _ _ hS hp]
  simp only [Program.fieldsOf, Tryd.underlying67]
  go_simp
  by_cases h0 : a0 = b0 <;> by_cases h1 : a1 = b1 <;> by_cases h2 : a2 = b2 <;> by_cases h3 : a3 = b3 <;> simp [h0, h1, h2, h3]

end Go.Proofs.YtoenkgenoloihaaDoor

/- Contract: whether a number lies between two. -/
namespace Go.Proofs.YtoenkgenoloihaaDoor
open Go.ChangeShapes Go.WideShapes Go.ChangeAt Go.RowKit

def inB (n lo hi : Int) : Bool := decide (lo ≤ n ∧ n ≤ hi)

set_option maxRecDepth 100000 in
theorem l1In_any (n lo hi : Int) (w : World) :
    Calls Tryd.prog 63 #[.int .i64 n, .int .i64 lo, .int .i64 hi] w fun e w' => e = .returned (.bool (inB n lo hi)) ∧ w = w' := by
  go_enter Tryd.func63, Tryd.ntmps63
  go_wp2
  · go_ret
    exact ⟨by simp [inB, *], rfl⟩
  · go_ret
    exact ⟨by simp [inB]; omega, rfl⟩

end Go.Proofs.YtoenkgenoloihaaDoor

/- Contracts: the program's IsPoint, the model's. -/
namespace Go.Proofs.YtoenkgenoloihaaDoor
open Go.ChangeShapes Go.WideShapes Go.ChangeAt Go.RowKit

theorem good_clip (a0 a1 a2 a3 : Int) : (a0 == max (-999999) (min a0 999999) && (a1 == max (-999999) (min a1 999999) && (a2 == max (-999999) (min a2 999999) && a3 == max (-999999) (min a3 999999)))) = goodB a0 a1 a2 a3 := by
  unfold goodB
  rw [Bool.eq_iff_iff]
  simp only [Bool.and_eq_true, beq_iff_eq, decide_eq_true_eq]
  omega

theorem good_in (a0 a1 a2 a3 : Int) : (inB a0 (-999999) 999999 && (inB a1 (-999999) 999999 && (inB a2 (-999999) 999999 && inB a3 (-999999) 999999))) = goodB a0 a1 a2 a3 := by
  unfold goodB inB
  rw [Bool.eq_iff_iff]
  simp only [Bool.and_eq_true, decide_eq_true_eq]
  omega

end Go.Proofs.YtoenkgenoloihaaDoor

/- What is let out: a number, or 0. -/
namespace Go.Proofs.YtoenkgenoloihaaDoor
def sel (g : Bool) (a : Int) : Int := cond g a 0
end Go.Proofs.YtoenkgenoloihaaDoor

/- Contracts: sums, multiples and differences of points, in the model and in the program; a point is let out or not; two equal points. -/
namespace Go.Proofs.YtoenkgenoloihaaDoor
open Go.ChangeShapes Go.WideShapes Go.ChangeAt Go.RowKit

set_option maxRecDepth 100000 in
theorem spAdd_any (a0 a1 a2 a3 : Int) (b0 b1 b2 b3 : Int) (w : World) :
    Calls Tryd.prog 102 #[.agg #[.int .i64 a0, .int .i64 a1, .int .i64 a2, .int .i64 a3], .agg #[.int .i64 b0, .int .i64 b1, .int .i64 b2, .int .i64 b3]] w fun e w' => e = .returned (.agg #[.int .i64 (wrap64 (a0 + b0)), .int .i64 (wrap64 (a1 + b1)), .int .i64 (wrap64 (a2 + b2)), .int .i64 (wrap64 (a3 + b3))]) ∧ Below w.heap.size w w' := by
  go_enter Tryd.func102, Tryd.ntmps102
  go_wp2
  go_returns
  exact ⟨rfl, by go_grown⟩

set_option maxRecDepth 100000 in
theorem imPlus_any (a0 a1 a2 a3 : Int) (b0 b1 b2 b3 : Int) (w : World) :
    Calls Tryd.prog 138 #[.agg #[.int .i64 a0, .int .i64 a1, .int .i64 a2, .int .i64 a3], .agg #[.int .i64 b0, .int .i64 b1, .int .i64 b2, .int .i64 b3]] w fun e w' => e = .returned (.agg #[.int .i64 (wrap64 (a0 + b0)), .int .i64 (wrap64 (a1 + b1)), .int .i64 (wrap64 (a2 + b2)), .int .i64 (wrap64 (a3 + b3))]) ∧ Below w.heap.size w w' := by
  go_enter Tryd.func138, Tryd.ntmps138
  go_wp2
  go_returns
  exact ⟨rfl, by go_grown⟩

set_option maxRecDepth 100000 in
theorem spScale_any (a0 a1 a2 a3 : Int) (k : Int) (w : World) :
    Calls Tryd.prog 136 #[.agg #[.int .i64 a0, .int .i64 a1, .int .i64 a2, .int .i64 a3], .int .i64 k] w fun e w' => e = .returned (.agg #[.int .i64 (wrap64 (k * a0)), .int .i64 (wrap64 (k * a1)), .int .i64 (wrap64 (k * a2)), .int .i64 (wrap64 (k * a3))]) ∧ Below w.heap.size w w' := by
  go_enter Tryd.func136, Tryd.ntmps136
  go_wp2
  go_returns
  exact ⟨rfl, by go_grown⟩

set_option maxRecDepth 100000 in
theorem imScaled_any (a0 a1 a2 a3 : Int) (k : Int) (w : World) :
    Calls Tryd.prog 105 #[.agg #[.int .i64 a0, .int .i64 a1, .int .i64 a2, .int .i64 a3], .int .i64 k] w fun e w' => e = .returned (.agg #[.int .i64 (wrap64 (k * a0)), .int .i64 (wrap64 (k * a1)), .int .i64 (wrap64 (k * a2)), .int .i64 (wrap64 (k * a3))]) ∧ Below w.heap.size w w' := by
  go_enter Tryd.func105, Tryd.ntmps105
  go_wp2
  go_returns
  exact ⟨rfl, by go_grown⟩

end Go.Proofs.YtoenkgenoloihaaDoor

/- Contracts: turned points and powers, in the model and in the program. -/
namespace Go.Proofs.YtoenkgenoloihaaDoor
open Go.ChangeShapes Go.WideShapes Go.ChangeAt Go.RowKit

def tu0 (k : Int) (a0 a1 a2 a3 : Int) : Int := if k = 0 then a0 else if k = 1 then -a3 else if k = 2 then -a2 else if k = 3 then -a1 else if k = 4 then -a0 else if k = 5 then a3 else if k = 6 then a2 else a1

def tu1 (k : Int) (a0 a1 a2 a3 : Int) : Int := if k = 0 then a1 else if k = 1 then a0 else if k = 2 then -a3 else if k = 3 then -a2 else if k = 4 then -a1 else if k = 5 then -a0 else if k = 6 then a3 else a2

def tu2 (k : Int) (a0 a1 a2 a3 : Int) : Int := if k = 0 then a2 else if k = 1 then a1 else if k = 2 then a0 else if k = 3 then -a3 else if k = 4 then -a2 else if k = 5 then -a1 else if k = 6 then -a0 else a3

def tu3 (k : Int) (a0 a1 a2 a3 : Int) : Int := if k = 0 then a3 else if k = 1 then a2 else if k = 2 then a1 else if k = 3 then a0 else if k = 4 then -a3 else if k = 5 then -a2 else if k = 6 then -a1 else -a0

theorem good_bd (a0 a1 a2 a3 : Int) (h : goodB a0 a1 a2 a3 = true) : -999999 ≤ a0 ∧ a0 ≤ 999999 ∧ -999999 ≤ a1 ∧ a1 ≤ 999999 ∧ -999999 ≤ a2 ∧ a2 ≤ 999999 ∧ -999999 ≤ a3 ∧ a3 ≤ 999999 := by
  simpa [goodB] using h

theorem in_bd {n lo hi : Int} (h : inB n lo hi = true) : lo ≤ n ∧ n ≤ hi := by simpa [inB] using h

theorem eight (k : Int) (h0 : 0 ≤ k) (h7 : k ≤ 7) : k = 0 ∨ k = 1 ∨ k = 2 ∨ k = 3 ∨ k = 4 ∨ k = 5 ∨ k = 6 ∨ k = 7 := by omega

set_option maxRecDepth 100000 in
set_option maxHeartbeats 1600000 in
theorem ptTurn_any (a0 a1 a2 a3 : Int) (k : Int) (p0 : -999999 ≤ a0) (q0 : a0 ≤ 999999) (p1 : -999999 ≤ a1) (q1 : a1 ≤ 999999) (p2 : -999999 ≤ a2) (q2 : a2 ≤ 999999) (p3 : -999999 ≤ a3) (q3 : a3 ≤ 999999) (h0 : 0 ≤ k) (h7 : k ≤ 7) (w : World) :
    Calls Tryd.prog 137 #[.agg #[.int .i64 a0, .int .i64 a1, .int .i64 a2, .int .i64 a3], .int .i64 k] w fun e w' => e = .returned (.agg #[.int .i64 (tu0 k a0 a1 a2 a3), .int .i64 (tu1 k a0 a1 a2 a3), .int .i64 (tu2 k a0 a1 a2 a3), .int .i64 (tu3 k a0 a1 a2 a3)]) ∧ Below w.heap.size w w' := by
  rcases eight k h0 h7 with rfl | rfl | rfl | rfl | rfl | rfl | rfl | rfl
  all_goals
    go_enter Tryd.func137, Tryd.ntmps137
    go_wp2_with fail
    refine wp_loop_rounds 9 ?_
    repeat any_goals (rw [rounds_succ]; go_wp2)
    go_returns
    exact ⟨by simp [tu0, tu1, tu2, tu3], by go_grown⟩

set_option maxRecDepth 100000 in
set_option maxHeartbeats 1600000 in
theorem power_any (k : Int) (h0 : 0 ≤ k) (h7 : k ≤ 7) (w : World) :
    Calls Tryd.prog 107 #[.int .i64 k] w fun e w' => e = .returned (.agg #[.int .i64 (tu0 k 1 0 0 0), .int .i64 (tu1 k 1 0 0 0), .int .i64 (tu2 k 1 0 0 0), .int .i64 (tu3 k 1 0 0 0)]) ∧ Below w.heap.size w w' := by
  rcases eight k h0 h7 with rfl | rfl | rfl | rfl | rfl | rfl | rfl | rfl
  all_goals
    go_enter Tryd.func107, Tryd.ntmps107
    go_wp2
    go_returns
    exact ⟨by simp [tu0, tu1, tu2, tu3], by go_grown⟩

set_option maxRecDepth 100000 in
theorem ptHeading_any (h : Int) (h0 : 0 ≤ h) (h1 : h ≤ 1000) (w : World) :
    Calls Tryd.prog 123 #[.int .i64 h] w fun e w' => e = .returned (.agg #[.int .i64 (tu0 (h % 8) 1 0 0 0), .int .i64 (tu1 (h % 8) 1 0 0 0), .int .i64 (tu2 (h % 8) 1 0 0 0), .int .i64 (tu3 (h % 8) 1 0 0 0)]) ∧ Below w.heap.size w w' := by
  have m0 : 0 ≤ h % 8 := by omega
  have m7 : h % 8 ≤ 7 := by omega
  go_enter Tryd.func123, Tryd.ntmps123
  go_wp2_with fail
  (go_at_call 137; (with_reducible refine (ptTurn_any 1 0 0 0 (h % 8) (by omega) (by omega) (by omega) (by omega) (by omega) (by omega) (by omega) (by omega) m0 m7 _).mono ?_); rintro e wA ⟨rfl, h1⟩; (try with_reducible replace h1 := undrew h1); have hB : Below w.heap.size w wA := ba (by go_grown) h1; obtain ⟨hcwA, hfwA⟩ := bcell h1; have hqwA := h1.size; (try simp at hqwA); )
  go_wp2_with fail
  refine bodyPost_ret (by simp [results, Tryd.results123, go_sem, *]; try rfl) rfl ?_
  exact ⟨rfl, by go_grown⟩

end Go.Proofs.YtoenkgenoloihaaDoor
