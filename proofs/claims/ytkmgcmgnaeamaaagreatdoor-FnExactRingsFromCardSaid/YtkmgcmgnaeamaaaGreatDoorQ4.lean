/- Contracts and facts, put together (part 4). Conditions: each says its own. -/
import Derived.Test.YtkmgcmgnaeamaaaGreatDoorQ3
import Derived.Laws.Concat
import Derived.Laws.IdiomStrings
import Derived.Lib.Builder
import Derived.Shelf.SlicesE.Reverse
import Derived.Deep.WholeRow
import Derived.Laws.CopyRow
import Derived.Laws.CopyOwn
import Derived.Shelf.GgSortFunc.RowK
import Derived.Shelf.SlicesQ.Load
import Derived.Laws.AppendOwn
import Derived.Laws.OwnMore
import Derived.Deep.AppendLies
import Derived.Test.YtkmgcmgnaeamaaaGreatDoorShelf
import Derived.Lib.BytesEntry
import Derived.Deep.QuietTactic
import Derived.BigQuiet
import Derived.Laws.Externs
import Derived.Lib.Bytealg
import Derived.Deep.DrawnRows
import Derived.Deep.RegionHeld3
import Derived.Lib.OthersKept
import Derived.Test.YtkmgcmgnaeamaaaGreatDoorShelfG
import Derived.Shelf.SlSortCmp.QuietGrown
import Derived.ChangeKeysEq
import Derived.Shelf.SlicesE.Kit
import Derived.Lib.SlicesCompact
import Derived.Sort.Statements

/- Contracts: tracks mirrored and laid backward, in the model. -/
namespace Go.Proofs.YtkmgcmgnaeamaaaGreatDoor
open Go.ChangeShapes Go.WideShapes Go.ChangeAt Go.RowKit

theorem tkOther_any (x : ByteArray) (c : UInt8) (hx : x = ⟨#[c]⟩) (w : World) :
    Calls Tryz.prog 74 #[.string x] w fun e w' => e = .returned (.string ⟨#[mir c]⟩) ∧ w = w' := by
  subst hx
  by_cases h1 : c = 76
  · subst h1
    go_enter Tryz.func74, Tryz.ntmps74
    go_wp2
    go_ret
    exact ⟨rfl, rfl⟩
  by_cases h2 : c = 82
  · subst h2
    go_enter Tryz.func74, Tryz.ntmps74
    go_wp2
    go_ret
    exact ⟨rfl, rfl⟩
  have n1 : ((⟨#[c]⟩ : ByteArray).toList == [76]) = false := by simp [ByteArray.toList_eq, h1]
  have n2 : ((⟨#[c]⟩ : ByteArray).toList == [82]) = false := by simp [ByteArray.toList_eq, h2]
  have b1 : (c == 76) = false := by simpa using h1
  have b2 : (c == 82) = false := by simpa using h2
  have HM := Lib.hid (show mir c = c by simp [mir, h1, h2])
  clear h1 h2
  go_enter Tryz.func74, Tryz.ntmps74
  go_wp2
  go_ret
  exact ⟨by rw [HM.out]; rfl, rfl⟩

def miS (s : ByteArray) : ByteArray := ofL (s.data.toList.map mir)

def baS (s : ByteArray) : ByteArray := ofL (s.data.toList.reverse.map mir)

set_option maxRecDepth 100000 in
theorem tkMirror_any (s : ByteArray) (hs : s.size ≤ 40) (w : World) :
    Calls Tryz.prog 51 #[.string s] w fun e w' => e = .returned (.string (miS s)) ∧ w = w' := by
  go_enter Tryz.func51, Tryz.ntmps51
  go_wp2_with fail
  go_loop [3, 4] (fun t i => ∃ (k : Nat) (o : ByteArray), k ≤ s.size ∧ i = .int .i64 k ∧ t = .string o ∧ o = ofL ((s.data.toList.take k).map mir)) (fun _ i => s.size - (intOf i).toNat)
  case atStart => exact ⟨0, ⟨#[]⟩, Nat.zero_le _, rfl, rfl, rfl⟩
  case round =>
    obtain ⟨k, o, hk, rfl, rfl, ho⟩ := hrel
    have hz : o.size ≤ 40 := by
      have hl : (s.data.toList.take k).length ≤ k := List.length_take_le _ _
      rw [ho, ofL_size, List.length_map]; omega
    have HO := Lib.hid ho
    clear ho
    by_cases hlt : k < s.size
    · have HX := Lib.hid (ext_one s k hlt)
      go_wp2_with (go_at_call 74; refine (tkOther_any _ _ HX.out _).mono ?_; rintro e w' ⟨rfl, rfl⟩)
      go_round
      case rel => exact ⟨k + 1, o ++ ⟨#[mir s[k]]⟩, by omega, by go_num, rfl, by rw [HO.out, ofL_snoc, take_snoc s k hlt, List.map_append]; rfl⟩
      case measure => simp [intOf]; omega
    · go_wp2_with fail
      go_ret
      exact ⟨by rw [HO.out, take_all s hlt]; rfl, rfl⟩

theorem drop_cons (s : ByteArray) (m : Nat) (h : m < s.size) : (s.data.toList.drop m).reverse = (s.data.toList.drop (m + 1)).reverse ++ [s[m]] := by
  rw [List.drop_eq_getElem_cons (by simpa using h), List.reverse_cons]
  rfl

set_option maxRecDepth 100000 in
theorem tkBack_any (s : ByteArray) (hs : s.size ≤ 40) (w : World) :
    Calls Tryz.prog 52 #[.string s] w fun e w' => e = .returned (.string (baS s)) ∧ w = w' := by
  go_enter Tryz.func52, Tryz.ntmps52
  go_wp2_with fail
  go_loop [3, 4] (fun t i => ∃ (z : Int) (k : Nat) (o : ByteArray), k ≤ s.size ∧ z + 1 = k ∧ i = .int .i64 z ∧ t = .string o ∧ o = ofL ((s.data.toList.drop k).reverse.map mir)) (fun _ i => (intOf i + 1).toNat)
  case atStart => exact ⟨_, s.size, ⟨#[]⟩, Nat.le_refl _, by omega, rfl, rfl, by rw [List.drop_of_length_le (by simp)]; rfl⟩
  case round =>
    obtain ⟨z, k, o, hk, hzk, rfl, rfl, ho⟩ := hrel
    have hz : o.size ≤ 40 := by
      have hl : (s.data.toList.drop k).length ≤ s.size := by rw [List.length_drop, size_list]; omega
      rw [ho, ofL_size, List.length_map, List.length_reverse]; omega
    have HO := Lib.hid ho
    clear ho
    by_cases hlt : 0 ≤ z
    · obtain ⟨m, rfl⟩ : ∃ m : Nat, z = m := ⟨z.toNat, by omega⟩
      obtain rfl : k = m + 1 := by omega
      have hm : m < s.size := by omega
      have HX := Lib.hid (ext_one s m hm)
      clear hzk
      go_wp2_with (go_at_call 74; refine (tkOther_any _ _ HX.out _).mono ?_; rintro e w' ⟨rfl, rfl⟩)
      go_round
      case rel => exact ⟨_, m, o ++ ⟨#[mir s[m]]⟩, by omega, by omega, rfl, rfl, by rw [HO.out, ofL_snoc, drop_cons s m hm, List.map_append]; rfl⟩
      case measure => simp [intOf]
    · obtain rfl : k = 0 := by omega
      have hz1 : z < 0 := by omega
      clear hzk
      go_wp2_with fail
      go_ret
      exact ⟨by rw [HO.out]; first | done | rfl, rfl⟩

def miR (s : ByteArray) : ByteArray := cond (tkB s) (miS s) ⟨#[]⟩

def baR (s : ByteArray) : ByteArray := cond (tkB s) (baS s) ⟨#[]⟩

end Go.Proofs.YtkmgcmgnaeamaaaGreatDoor

/- Contracts: tracks mirrored and laid backward, in the program. -/
namespace Go.Proofs.YtkmgcmgnaeamaaaGreatDoor
open Go.ChangeShapes Go.WideShapes Go.ChangeAt Go.RowKit

/-- Block B holds the bytes l, none of them frozen. -/
def Bys (w : World) (B : Nat) (l : List UInt8) : Prop :=
  (∀ j (hj : j < l.length), w.cell? ⟨B, j, none⟩ = some (.int .u8 (l[j].toNat : Int))) ∧ ∀ j, j < l.length → w.frozen? ⟨B, j, none⟩ = false

theorem Bys.new (w : World) (s : ByteArray) (cap : Nat) (e : TypeId) :
    Bys (w.alloc (.cells (bytesRow s cap) e ((bytesRow s cap).size, (bytesRow s cap).size + 1))) w.heap.size s.data.toList := by
  have hsz : s.size ≤ (bytesRow s cap).size := by
    simp only [bytesRow, Array.size_append, Array.size_map]
    exact Nat.le_add_right _ _
  have hat := bytesRow_at s cap
  generalize bytesRow s cap = cs at hsz hat ⊢
  have hb := heap_alloc_new w (.cells cs e (cs.size, cs.size + 1))
  generalize w.alloc (.cells cs e (cs.size, cs.size + 1)) = W at hb ⊢
  refine ⟨fun j hj => ?_, fun j hj => ?_⟩
  · rw [Lib.cell_of_heap hb]
    have hj' : j < s.data.size := by simpa using hj
    rw [hat j hj']
    simp
  · have hj' : j < s.size := by simpa using hj
    have ho : decide (cs.size ≤ j) = false := by simp; omega
    simp [World.frozen?, hb, ho]

theorem Bys.set {w : World} {B : Nat} {l : List UInt8} (h : Bys w B l) {k : Nat} (hk : k < l.length) (c : UInt8) (v : Value) (hv : v = .int .u8 (c.toNat : Int)) : Bys (w.setCell ⟨B, k, none⟩ v) B (l.set k c) := by
  subst hv
  refine ⟨fun j hj => ?_, fun j hj => ?_⟩
  · have hj' : j < l.length := by simpa using hj
    by_cases e : k = j
    · subst e
      rw [World.cell?_setCell_same (h := h.1 k hk)]
      simp
    · rw [World.cell?_setCell_other (h := fun h => e (by injection h)), h.1 j hj']
      simp [e]
  · rw [World.frozen?_setCell]
    exact h.2 j (by simpa using hj)

theorem Bys.below {w w' : World} {B n : Nat} {l : List UInt8} (h : Bys w B l) (hB : B < n) (hb : Below n w w') : Bys w' B l :=
  ⟨fun j hj => by rw [hb.cell (p := ⟨B, j, none⟩) hB]; exact h.1 j hj, fun j hj => by rw [hb.frozen (p := ⟨B, j, none⟩) hB]; exact h.2 j hj⟩

/-- The first k bytes mirrored, the others as they were. -/
def mixL (l : List UInt8) (k : Nat) : List UInt8 := (l.take k).map mir ++ l.drop k

theorem mixL_length (l : List UInt8) (k : Nat) : (mixL l k).length = l.length := by
  simp only [mixL, List.length_append, List.length_map, List.length_take, List.length_drop]; omega

theorem mixL_at (l : List UInt8) (k : Nat) (hk : k < l.length) : (mixL l k)[k]'(by rw [mixL_length]; exact hk) = l[k] := by
  have hl : ((l.take k).map mir).length = k := by rw [List.length_map, List.length_take]; omega
  simp only [mixL]
  rw [List.getElem_append_right (by omega), List.getElem_drop]
  congr 1
  omega

theorem mixL_succ (l : List UInt8) (k : Nat) (hk : k < l.length) : mixL l (k + 1) = (mixL l k).set k (mir l[k]) := by
  have hl : ((l.take k).map mir).length = k := by rw [List.length_map, List.length_take]; omega
  simp only [mixL]
  rw [List.set_append_right _ _ (by omega), hl, Nat.sub_self, List.drop_eq_getElem_cons hk, List.set_cons_zero, List.take_succ_eq_append_getElem hk, List.map_append, List.append_assoc]
  rfl

theorem mixL_same (l : List UInt8) (k : Nat) (hk : k < l.length) (h : mir l[k] = l[k]) : mixL l (k + 1) = mixL l k := by
  rw [mixL_succ l k hk, h]
  have := mixL_at l k hk
  apply List.ext_getElem
  · simp
  · intro i h1 h2
    by_cases e : k = i
    · subst e; simp [this]
    · simp [e]

theorem mixL_all (l : List UInt8) (k : Nat) (hk : ¬ k < l.length) : mixL l k = l.map mir := by
  simp only [mixL]
  rw [List.take_of_length_le (by omega), List.drop_of_length_le (by omega), List.append_nil]

set_option maxRecDepth 100000 in
set_option maxHeartbeats 800000 in
theorem mirrored_any (s : ByteArray) (hs : s.size ≤ 40) (w : World) :
    Calls Tryz.prog 59 #[.string s] w fun e w' => e = .returned (.slice (some ⟨w.heap.size, 0, none⟩) s.size (grownCap w s.size 0 5)) ∧ Bys w' w.heap.size (s.data.toList.map mir) ∧ Below w.heap.size w w' ∧ w.heap.size < w'.heap.size := by
  have q := run_bytes_of_string (P := Tryz.prog) w 9 53 5 s Tryz.underlying9 Tryz.underlying53 Tryz.underlying5
  have h0 := Lib.hid (Bys.new w s (grownCap w s.size 0 5) 5)
  obtain ⟨cap, hcap⟩ : ∃ cap, cap = grownCap w s.size 0 5 := ⟨_, rfl⟩
  rw [← hcap] at q h0 ⊢
  obtain ⟨R, hR⟩ : ∃ R, R = Obj.cells (bytesRow s cap) 5 ((bytesRow s cap).size, (bytesRow s cap).size + 1) := ⟨_, rfl⟩
  rw [← hR] at q h0
  have hls := size_list s
  have HL := Lib.hid hls
  clear hcap hR hls
  go_enter Tryz.func59, Tryz.ntmps59
  go_wp2_with fail
  go_loopw [10] (fun i wr => ∃ k : Nat, k ≤ s.size ∧ i = .int .i64 k ∧ Bys wr w.heap.size (mixL s.data.toList k) ∧ Below w.heap.size w wr ∧ w.heap.size < wr.heap.size) (fun i _ => s.size - (intOf i).toNat)
  case atStart => exact ⟨0, Nat.zero_le _, rfl, h0.out, by go_grown, by simp⟩
  case round =>
    obtain ⟨k, hk, rfl, hM, hb, hz⟩ := hrel
    have HM := Lib.hid hM
    have HB := Lib.hid hb
    by_cases hlt : k < s.size
    · have hk' : k < s.data.toList.length := by rw [HL.out]; exact hlt
      have hk2 : k < (mixL s.data.toList k).length := by rw [mixL_length]; exact hk'
      obtain ⟨c, hc⟩ : ∃ c, c = s.data.toList[k] := ⟨_, rfl⟩
      have hcell : wr.cell? ⟨w.heap.size, k, none⟩ = some (.int .u8 (c.toNat : Int)) := by rw [hM.1 k hk2, mixL_at _ _ hk', hc]
      have hfz : wr.frozen? ⟨w.heap.size, k, none⟩ = false := hM.2 k hk2
      have HC := Lib.hid hc
      clear hM hb hc
      by_cases h1 : c = 76
      · subst h1
        go_wp2_with fail
        go_roundw
        case rel => exact ⟨k + 1, by omega, by go_num, by rw [mixL_succ _ _ hk']; exact HM.out.set hk2 _ _ (by rw [← HC.out]; rfl), HB.out.setCell (Nat.le_refl _) _, by simpa using hz⟩
        case measure => simp [intOf]; omega
      by_cases h2 : c = 82
      · subst h2
        go_wp2_with fail
        go_roundw
        case rel => exact ⟨k + 1, by omega, by go_num, by rw [mixL_succ _ _ hk']; exact HM.out.set hk2 _ _ (by rw [← HC.out]; rfl), HB.out.setCell (Nat.le_refl _) _, by simpa using hz⟩
        case measure => simp [intOf]; omega
      have HS := Lib.hid (mixL_same s.data.toList k hk' (by rw [← HC.out]; simp [mir, h1, h2]))
      have b1 : ((c.toNat : Int) == 76) = false := by
        simp only [beq_eq_false_iff_ne]
        intro h
        exact h1 (UInt8.toNat_inj.1 (by show c.toNat = 76; omega))
      have b2 : ((c.toNat : Int) == 82) = false := by
        simp only [beq_eq_false_iff_ne]
        intro h
        exact h2 (UInt8.toNat_inj.1 (by show c.toNat = 82; omega))
      clear h1 h2
      go_wp2_with fail
      go_roundw
      case rel => exact ⟨k + 1, by omega, by go_num, by rw [HS.out]; exact HM.out, HB.out, hz⟩
      case measure => simp [intOf]; omega
    · have HE := Lib.hid (mixL_all s.data.toList k (by rw [HL.out]; exact hlt))
      clear hM hb
      go_wp2_with fail
      go_ret
      exact ⟨rfl, by rw [← HE.out]; exact HM.out, HB.out, hz⟩

end Go.Proofs.YtkmgcmgnaeamaaaGreatDoor

/- Contract: the library's slices.Reverse at bytes. -/
namespace Go.Proofs.YtkmgcmgnaeamaaaGreatDoor
open Go.ChangeShapes Go.WideShapes Go.ChangeAt Go.RowKit

def rvRen : Go.Shelf.Ren := ⟨fun | 35 => 60 | n => n, fun | 0 => 0 | 3 => 3 | 4 => 4 | 22 => 53 | 23 => 5 | n => n, fun | n => n⟩

theorem rvLays : Go.Proofs.SlLaysE.n35 Tryz.prog rvRen := {
  mixed := by kernel_rfl
  f35 := ⟨Tryz.f60.name, by decide, Tryz.func60.trans (congrArg some (by kernel_rfl))⟩
  t0 := Tryz.underlying0
  a0 := Tryz.isAgg0
  z0 := Tryz.sizeOf0
  v0 := Tryz.zeroValue0
  t3 := Tryz.underlying3
  a3 := Tryz.isAgg3
  z3 := Tryz.sizeOf3
  v3 := Tryz.zeroValue3
  t4 := Tryz.underlying4
  a4 := Tryz.isAgg4
  z4 := Tryz.sizeOf4
  v4 := Tryz.zeroValue4
  t22 := Tryz.underlying53
  a22 := Tryz.isAgg53
  z22 := Tryz.sizeOf53
  v22 := Tryz.zeroValue53
  a23 := Tryz.isAgg5
  z23 := Tryz.sizeOf5
  }

def byV (c : UInt8) : Value := .int .u8 (c.toNat : Int)

theorem Bys.holds {w : World} {B : Nat} {l : List UInt8} (h : Bys w B l) : Sort.Holds byV w B 0 l.toArray := by
  intro j hj
  have hj' : j < l.length := by simpa using hj
  rw [Nat.zero_add]
  refine ⟨?_, h.2 j hj'⟩
  rw [h.1 j hj', getElem!_pos _ j hj]
  simp [byV]

theorem Bys.of {w : World} {B : Nat} {l : List UInt8} (h : Sort.Holds byV w B 0 l.toArray) : Bys w B l := by
  refine ⟨fun j hj => ?_, fun j hj => ?_⟩
  · have := (h j (by simpa using hj)).1
    rw [Nat.zero_add, getElem!_pos _ j (by simpa using hj)] at this
    simpa [byV] using this
  · have := (h j (by simpa using hj)).2
    rwa [Nat.zero_add] at this

theorem belowRow {w : World} {n B off : Nat} {d : Array UInt8} : Below B w (Sort.putRow byV (Sort.ahead w n) B off d) := by
  refine ⟨rfl, rfl, rfl, by simp [Sort.ahead], fun k hk => ?_⟩
  have hne : B ≠ k := by omega
  simp [Sort.putRow, Sort.mapBlock, Sort.ahead, Array.getElem?_modify, hne]

theorem reverse_any (B cap : Nat) (l : List UInt8) (w : World) (h : Bys w B l) (hl : l.length ≤ 1048576) :
    Calls Tryz.prog 60 #[.slice (some ⟨B, 0, none⟩) l.length cap] w fun e w' => e = .returned (.tuple #[]) ∧ Bys w' B l.reverse ∧ Below B w w' := by
  refine (AnyE.slices_Reverse rvLays byV (fun _ => rfl) B 0 cap l w h.holds (by omega)).mono ?_
  rintro e w' ⟨rfl, n, rfl⟩
  refine ⟨rfl, ?_, belowRow⟩
  have h2 := Sort.holds_putRow byV (Sort.ahead w n) B 0 l.toArray l.reverse.toArray (Sort.holds_ahead byV w n B 0 l.toArray h.holds) (by simp)
  exact Bys.of h2

theorem back_any (w : World) (B cap n : Nat) (l : List UInt8) (hn : l.length = n) (h : Bys w B l) :
    (convert 53 9 (.slice (some ⟨B, 0, none⟩) n cap)).run Tryz.prog w = .ok (.string (ofL l)) w := by
  subst hn
  refine run_convert_bytes_back w 53 9 5 ⟨B, 0, none⟩ cap l Tryz.underlying53 Tryz.underlying5 Tryz.underlying9 (fun j hj => ?_)
  rw [← h.1 j hj]
  by_cases e : j = 0 <;> simp [Addr.add, e]

set_option maxRecDepth 100000 in
theorem imMirrorTrack (s : ByteArray) (hs : s.size ≤ 1048576) (w : World) :
    Calls Tryz.prog 44 #[.string s] w fun e w' => e = .returned (.tuple #[.string (miR s), .bool (tkB s)]) ∧ Below w.heap.size w w' := by
  cases hb : tkB s
  · go_enter Tryz.func44, Tryz.ntmps44
    go_wp2_with (go_at_call 58; refine (imIsTrack_any s hs _).mono ?_; rintro e w' ⟨rfl, rfl⟩)
    go_ret2
    exact ⟨by simp [miR, hb], Below.refl _ _⟩
  · have h40 := tkB_size hb
    have hR := Lib.hid (show miR s = ofL (s.data.toList.map mir) by simp [miR, hb, miS])
    go_enter Tryz.func44, Tryz.ntmps44
    go_wp2_with (go_at_call 58; refine (imIsTrack_any s hs _).mono ?_; rintro e w' ⟨rfl, rfl⟩)
    refine (mirrored_any s h40 _).mono ?_
    rintro e w1 ⟨rfl, hM, hb1, _⟩
    have q := back_any w1 w.heap.size (grownCap w s.size 0 5) s.size _ (by simp) hM
    have HB := Lib.hid hb1
    clear hM hb1
    go_wp2_with fail
    go_ret2
    exact ⟨by rw [hR.out]; rfl, HB.out⟩

set_option maxRecDepth 100000 in
theorem imBackTrack (s : ByteArray) (hs : s.size ≤ 1048576) (w : World) :
    Calls Tryz.prog 45 #[.string s] w fun e w' => e = .returned (.tuple #[.string (baR s), .bool (tkB s)]) ∧ Below w.heap.size w w' := by
  cases hb : tkB s
  · go_enter Tryz.func45, Tryz.ntmps45
    go_wp2_with (go_at_call 58; refine (imIsTrack_any s hs _).mono ?_; rintro e w' ⟨rfl, rfl⟩)
    go_ret2
    exact ⟨by simp [baR, hb], Below.refl _ _⟩
  · have h40 := tkB_size hb
    have hR := Lib.hid (show baR s = ofL (s.data.toList.map mir).reverse by simp [baR, hb, baS])
    have hln : (s.data.toList.map mir).length = s.size := by simp
    have HL := Lib.hid hln
    clear hln
    go_enter Tryz.func45, Tryz.ntmps45
    go_wp2_with (go_at_call 58; refine (imIsTrack_any s hs _).mono ?_; rintro e w' ⟨rfl, rfl⟩)
    refine (mirrored_any s h40 _).mono ?_
    rintro e w1 ⟨rfl, hM, hb1, _⟩
    have HB := Lib.hid hb1
    have HM := Lib.hid hM
    clear hM hb1
    go_wp2_with fail
    have hv := reverse_any w.heap.size (grownCap w s.size 0 5) _ w1 HM.out (by rw [HL.out]; omega)
    rw [HL.out] at hv
    refine hv.mono ?_
    rintro e w2 ⟨rfl, hV, hb2⟩
    have q := back_any w2 w.heap.size (grownCap w s.size 0 5) s.size _ (by simp) hV
    have HB2 := Lib.hid (HB.out.trans hb2)
    clear hV hb2 hv
    go_wp2_with fail
    go_ret2
    exact ⟨by rw [hR.out]; rfl, HB2.out⟩

end Go.Proofs.YtkmgcmgnaeamaaaGreatDoor

/- Arrays of forty bytes: how they lie, and which texts they are. -/
namespace Go.Proofs.YtkmgcmgnaeamaaaGreatDoor
open Go.ChangeShapes Go.WideShapes Go.ChangeAt Go.RowKit

def Lp : Type := { l : List UInt8 // l.length = 40 }

instance : Inhabited Lp := ⟨⟨List.replicate 40 0, by simp⟩⟩

def encLp (x : Lp) : List Value := x.1.map byV

theorem encLp_len (x : Lp) : (encLp x).length = 40 := by simp [encLp, x.2]

def mkLp (l : List UInt8) : Lp := ⟨(l ++ List.replicate 40 0).take 40, by simp⟩

def arr (x : Lp) : Array Value := (encLp x).toArray

theorem arr_size (x : Lp) : (arr x).size = 40 := by simp [arr, encLp_len]

theorem enc_one (x : Lp) : ∀ v ∈ encLp x, v.oneCell' = true := by
  intro v hv
  simp only [encLp, List.mem_map] at hv
  obtain ⟨c, _, rfl⟩ := hv
  rfl

theorem arr_one (x : Lp) : (arr x).all (·.oneCell') = true := by
  simp only [arr, List.size_toArray, List.all_toArray', List.all_eq_true]
  exact enc_one x

def zLp : Lp := ⟨List.replicate 40 0, by simp⟩

theorem lpInfo : (Tryz.prog.info? 38).map (fun i => (i.zero, i.size)) = some (some (.agg (arr zLp)), 40) := by kernel_rfl

theorem lpSize (x : Lp) : (Tryz.prog.info? 38).map (·.size) = some (arr x).size := by rw [arr_size]; exact (zero_of_info lpInfo).2

theorem lpUnder : Tryz.prog.underlying 38 = some (.array 40 5) := by kernel_rfl

/-- Bytes of a text laid into a block of zeros. -/
theorem copy_text (w : World) (l : List UInt8) (hl : l.length ≤ 40) (ty : TypeId) :
    (Builtin.copy_ #[53, 9] ty #[.slice (some ⟨w.heap.size, 0, none⟩) 40 40, .string (ofL l)]).run Tryz.prog (w.alloc (.cells (arr zLp) 38)) = .ok (goInt l.length) (w.alloc (.cells (arr (mkLp l)) 38)) := by
  have hcs : List.take l.length (List.map (fun b => Value.int .u8 (b.toNat : Int)) (ofL l).data.toList) = l.map byV := by
    show List.take l.length (l.map byV) = l.map byV
    exact List.take_of_length_le (by simp)
  have hst := run_storeCells_at Tryz.prog w.heap.size 0 38 (l.map byV) 0 (arr zLp) (w.alloc (.cells (arr zLp) 38)) (heap_alloc_last w _) (by rw [arr_size]; simpa using hl) (by
    intro v hv
    simp only [List.mem_map] at hv
    obtain ⟨c, _, rfl⟩ := hv
    rfl)
  have hrow : ((arr zLp).toList.take (0 + 0) ++ l.map byV ++ (arr zLp).toList.drop (0 + 0 + (l.map byV).length)).toArray = arr (mkLp l) := by
    simp only [arr, encLp, zLp, mkLp, List.take_zero, Nat.add_zero, Nat.zero_add, List.nil_append, List.length_map]
    congr 1
    rw [← List.map_drop, ← List.map_append]
    congr 1
    rw [List.take_append, List.take_of_length_le hl, List.drop_replicate, List.take_replicate]
    congr 2
    omega
  rw [hrow, World.setRow_alloc_new] at hst
  have hmin : Nat.min l.length 40 = l.length := Nat.min_eq_left hl
  have hz : (ofL l).size = l.length := ofL_size l
  cases hq : Tryz.prog.info? 5 with
  | none =>
    have h : (Tryz.prog.info? 5).isSome = true := by kernel_rfl
    rw [hq] at h
    cases h
  | some i =>
    simp [Builtin.copy_, run_underlying Tryz.underlying53, Builtin.lenOf, Builtin.firstCells, sizeOf, typeInfo, hq, hz, hmin, hcs, hst]

/-- An array loaded from where its cells lie. -/
theorem lp_load (W : World) (b o : Nat) (x : Lp) (h : ∀ j v, (encLp x)[j]? = some v → W.cell? ⟨b, o + j, none⟩ = some v) :
    Sem.run Tryz.prog (loadCellsFrom ⟨b, o, none⟩ 0 40 #[]) W = .ok (arr x) W :=
  run_loadCellsFrom_list Tryz.prog _ _ (encLp x) 40 (encLp_len x) (fun j v hj => by
    rw [Addr.add_lit]
    exact h j v hj)

/-- Block b holds an array. -/
def LpAt (W : World) (b : Nat) (x : Lp) : Prop := W.heap[b]? = some (.cells (arr x) 38 (0, 0))

theorem LpAt.lt {W : World} {b : Nat} {x : Lp} (h : LpAt W b x) : b < W.heap.size := (Array.getElem?_eq_some_iff.1 h).1

theorem LpAt.new (W : World) (x : Lp) : LpAt (W.alloc (.cells (arr x) 38)) W.heap.size x := heap_alloc_last W _

theorem LpAt.alloc {W : World} {b : Nat} {x : Lp} (h : LpAt W b x) (o : Obj) : LpAt (W.alloc o) b x := by
  have hl := h.lt
  show (W.heap.push o)[b]? = _
  rw [Array.getElem?_push, if_neg (by omega)]
  exact h

theorem LpAt.below {W W' : World} {b n : Nat} {x : Lp} (h : LpAt W b x) (hb : Below n W W') (hn : b < n) : LpAt W' b x := (hb.block b hn).trans h

theorem LpAt.drewN {W : World} {b : Nat} {x : Lp} (h : LpAt W b x) (q : Nat) : LpAt (W.drewN q) b x := h

theorem LpAt.load {W : World} {b : Nat} {x : Lp} (h : LpAt W b x) : Sem.run Tryz.prog (loadCellsFrom ⟨b, 0, none⟩ 0 40 #[]) W = .ok (arr x) W :=
  lp_load W b 0 x fun j v hj => by
    rw [Nat.zero_add, cell_of_row _ _ j _ _ (0, 0) h]
    simpa [arr] using hj

theorem LpAt.store {W : World} {b : Nat} {x : Lp} (h : LpAt W b x) (y : Lp) : Sem.run Tryz.prog (storeCells ⟨b, 0, none⟩ (arr y).toList) W = .ok () (W.setRow b (arr y)) := by
  have hst := run_storeCells_at Tryz.prog b 0 38 (encLp y) 0 (arr x) W h (by rw [arr_size, encLp_len]; exact Nat.le_refl _) (enc_one y)
  have hrow : ((arr x).toList.take (0 + 0) ++ encLp y ++ (arr x).toList.drop (0 + 0 + (encLp y).length)).toArray = arr y := by
    simp only [arr, List.take_zero, Nat.add_zero, Nat.zero_add, List.nil_append]
    rw [encLp_len, List.drop_of_length_le (by rw [encLp_len]; exact Nat.le_refl _), List.append_nil]
  rw [hrow] at hst
  simpa [arr] using hst

theorem LpAt.set {W : World} {b : Nat} {x : Lp} (h : LpAt W b x) (y : Lp) : LpAt (W.setRow b (arr y)) b y := by
  unfold LpAt at h ⊢
  simp [World.setRow, Array.getElem?_modify, h]

theorem LpAt.set_other {W : World} {b c : Nat} {x : Lp} (h : LpAt W b x) (A : Array Value) (hne : c ≠ b) : LpAt (W.setRow c A) b x := by
  unfold LpAt at h ⊢
  simp [World.setRow, Array.getElem?_modify, h, hne]

theorem fold_many : ∀ (C : List Value) (o : Nat) (I : Array Value), (C.zipIdx o).foldl (fun (cs : Array Value) (x : Value × Nat) => cs.setIfInBounds x.2 x.1) I = Sort.setMany I o C
  | [], _, _ => rfl
  | v :: C, o, I => by
    rw [List.zipIdx_cons, List.foldl_cons, fold_many C (o + 1)]
    rfl

/-- An array's cells laid over as many: what a literal of one element makes. -/
theorem fold_set {K : Nat} (I C : Array Value) (h1 : I.size = K) (h2 : C.size = K) : Array.foldl (fun (cs : Array Value) (x : Value × Nat) => cs.setIfInBounds x.snd x.fst) I C.zipIdx 0 K = C := by
  have hz : C.zipIdx.size = K := by simp [h2]
  rw [← hz, ← Array.foldl_toList]
  have hl : C.zipIdx.toList = C.toList.zipIdx := by simp
  rw [hl, fold_many]
  refine Sort.ext_get! (by rw [Sort.size_setMany]; omega) fun t ht => ?_
  rw [Sort.size_setMany] at ht
  rw [Sort.get_setMany _ _ _ t ht, if_pos (by simp; omega)]
  have htc : t < C.size := by omega
  simp [htc]

theorem fold_K {K : Nat} (hK : K = 40) (y : Lp) : ∀ f : Nat → Value, Array.foldl (fun (cs : Array Value) (x : Value × Nat) => cs.setIfInBounds x.snd x.fst) (Array.map f (Array.range K)) (arr y).zipIdx 0 K = arr y := fun f => fold_set _ _ (by simp) (by rw [hK, arr_size])

end Go.Proofs.YtkmgcmgnaeamaaaGreatDoor

/- Contracts: the difference of two points, in the model and in the program. -/
namespace Go.Proofs.YtkmgcmgnaeamaaaGreatDoor
open Go.ChangeShapes Go.WideShapes Go.ChangeAt Go.RowKit

def lsd (a b : Int) : Int := wrap64 (a + wrap64 (-1 * b))

set_option maxRecDepth 100000 in
set_option maxHeartbeats 400000 in
theorem spLess_any (a0 a1 a2 a3 : Int) (b0 b1 b2 b3 : Int) (w : World) :
    Calls Tryz.prog 92 #[.agg #[.int .i64 a0, .int .i64 a1, .int .i64 a2, .int .i64 a3], .agg #[.int .i64 b0, .int .i64 b1, .int .i64 b2, .int .i64 b3]] w fun e w' => e = .returned (.agg #[.int .i64 (lsd a0 b0), .int .i64 (lsd a1 b1), .int .i64 (lsd a2 b2), .int .i64 (lsd a3 b3)]) ∧ Below w.heap.size w w' := by
  have hS0 := pp_start a0 a1 a2 a3 b0 b1 b2 b3 w 64 64
  go_enter Tryz.func92, Tryz.ntmps92
  go_wp2_with fail
  go_region_held3 (fun w' => w'.cell? ⟨w.heap.size, 0, none⟩ = some (.int .i64 a0) ∧ w'.cell? ⟨w.heap.size, 1, none⟩ = some (.int .i64 a1) ∧ w'.cell? ⟨w.heap.size, 2, none⟩ = some (.int .i64 a2) ∧ w'.cell? ⟨w.heap.size, 3, none⟩ = some (.int .i64 a3) ∧ w'.cell? ⟨w.heap.size + 1, 0, none⟩ = some (.int .i64 b0) ∧ w'.cell? ⟨w.heap.size + 1, 1, none⟩ = some (.int .i64 b1) ∧ w'.cell? ⟨w.heap.size + 1, 2, none⟩ = some (.int .i64 b2) ∧ w'.cell? ⟨w.heap.size + 1, 3, none⟩ = some (.int .i64 b3))
    (first | (with_reducible assumption) | (with_reducible exact pp_drew hS0) | (with_reducible exact pp_drew (pp_alloc hS0 _)) | (with_reducible exact pp_alloc (pp_drew hS0) _) | (with_reducible refine pp_drew ?_; with_reducible assumption) | (with_reducible refine pp_alloc ?_ _; with_reducible assumption) | (with_reducible refine pp_re (by with_reducible assumption) ?_ ?_ _; (focus first | (with_reducible assumption) | omega | (simp; done) | (simp; omega)); (focus first | (with_reducible assumption) | omega | (simp; done) | (simp; omega))) | (with_reducible refine pp_below ?_ ?_ ?_ h1; (focus first | (with_reducible assumption) | (with_reducible refine pp_undrew ?_; with_reducible assumption)); (focus first | (with_reducible assumption) | omega | (simp; done) | (simp; omega)); (focus first | (with_reducible assumption) | omega | (simp; done) | (simp; omega))) | ((repeat (with_reducible refine pp_set ?_ _ _ ?_ ?_; rotate_left 1; (focus first | (with_reducible assumption) | omega | (simp; done) | (simp; omega)); (focus first | (with_reducible assumption) | omega | (simp; done) | (simp; omega)))); with_reducible assumption))
    (first | (go_at_call 102; (with_reducible refine (spScale_any b0 b1 b2 b3 (-1) _).mono ?_); rintro e wA ⟨rfl, h1⟩; (try with_reducible replace h1 := undrew h1); have hB : Below w.heap.size w wA := ba (by go_grown) h1; obtain ⟨hcwA, hfwA⟩ := bcell h1; have hqwA := h1.size; (try simp at hqwA); (try have hz0wA : w.heap.size < wA.heap.size := (by omega)); (try have he0wA : w.heap.size ≤ wA.heap.size := (by omega)); (try have hz1wA : w.heap.size + 1 < wA.heap.size := (by omega)); (try have he1wA : w.heap.size + 1 ≤ wA.heap.size := (by omega)); (try have hz2wA : w.heap.size + 1 + 1 < wA.heap.size := (by omega)); (try have he2wA : w.heap.size + 1 + 1 ≤ wA.heap.size := (by omega))) | (go_at_call 73; (with_reducible refine (spAdd_any _ _ _ _ _ _ _ _ _).mono ?_); rintro e wB ⟨rfl, h1⟩; (try with_reducible replace h1 := undrew h1); have hB : Below w.heap.size w wB := ba (by go_grown) h1; obtain ⟨hcwB, hfwB⟩ := bcell h1; have hqwB := h1.size; (try simp at hqwB); (try have hz0wB : w.heap.size < wB.heap.size := (by omega)); (try have he0wB : w.heap.size ≤ wB.heap.size := (by omega)); (try have hz1wB : w.heap.size + 1 < wB.heap.size := (by omega)); (try have he1wB : w.heap.size + 1 ≤ wB.heap.size := (by omega)); (try have hz2wB : w.heap.size + 1 + 1 < wB.heap.size := (by omega)); (try have he2wB : w.heap.size + 1 + 1 ≤ wB.heap.size := (by omega))))
  go_wp2_with fail
  refine bodyPost_ret (by simp [results, Tryz.results92, go_sem, *]; try rfl) rfl ?_
  exact ⟨by simp [lsd], by go_grown⟩

def lessG (a0 a1 a2 a3 : Int) (b0 b1 b2 b3 : Int) : Bool := goodB a0 a1 a2 a3 && (goodB b0 b1 b2 b3 && goodB (lsd a0 b0) (lsd a1 b1) (lsd a2 b2) (lsd a3 b3))

end Go.Proofs.YtkmgcmgnaeamaaaGreatDoor

/- Contracts: the steps of pieces, in the model. -/
namespace Go.Proofs.YtkmgcmgnaeamaaaGreatDoor
open Go.ChangeShapes Go.WideShapes Go.ChangeAt Go.RowKit

set_option linter.unusedVariables false
set_option linter.unusedSimpArgs false

theorem lsd_eq (x y : Int) (px : -999999 ≤ x) (qx : x ≤ 999999) (py : -999999 ≤ y) (qy : y ≤ 999999) : lsd x y = x - y := by
  unfold lsd
  rw [w64s (-1 * y) (by omega) (by omega), w64s _ (by omega) (by omega)]
  omega

theorem lsB (x0 x1 x2 x3 y0 y1 y2 y3 : Int) (px0 : -999999 ≤ x0) (qx0 : x0 ≤ 999999) (px1 : -999999 ≤ x1) (qx1 : x1 ≤ 999999) (px2 : -999999 ≤ x2) (qx2 : x2 ≤ 999999) (px3 : -999999 ≤ x3) (qx3 : x3 ≤ 999999) (py0 : -999999 ≤ y0) (qy0 : y0 ≤ 999999) (py1 : -999999 ≤ y1) (qy1 : y1 ≤ 999999) (py2 : -999999 ≤ y2) (qy2 : y2 ≤ 999999) (py3 : -999999 ≤ y3) (qy3 : y3 ≤ 999999) (w : World) :
    Calls Tryz.prog 92 #[.agg #[.int .i64 x0, .int .i64 x1, .int .i64 x2, .int .i64 x3], .agg #[.int .i64 y0, .int .i64 y1, .int .i64 y2, .int .i64 y3]] w fun e w' => e = .returned (.agg #[.int .i64 (x0 - y0), .int .i64 (x1 - y1), .int .i64 (x2 - y2), .int .i64 (x3 - y3)]) ∧ Below w.heap.size w w' :=
  (spLess_any x0 x1 x2 x3 y0 y1 y2 y3 w).mono fun e w' ⟨h, hb⟩ => ⟨by rw [h, lsd_eq x0 y0 px0 qx0 py0 qy0, lsd_eq x1 y1 px1 qx1 py1 qy1, lsd_eq x2 y2 px2 qx2 py2 qy2, lsd_eq x3 y3 px3 qx3 py3 qy3], hb⟩

set_option maxRecDepth 100000 in
set_option maxHeartbeats 1600000 in
theorem ptStep_L (h : Int) (h0 : 0 ≤ h) (h7 : h ≤ 7) (w : World) :
    Calls Tryz.prog 72 #[.int .u8 76, .int .i64 h] w fun e w' => e = .returned (.tuple #[.agg #[.int .i64 ((tu0 ((h + 7) % 8) 1 0 0 0) - (tu0 ((h + 6) % 8) 1 0 0 0)), .int .i64 ((tu1 ((h + 7) % 8) 1 0 0 0) - (tu1 ((h + 6) % 8) 1 0 0 0)), .int .i64 ((tu2 ((h + 7) % 8) 1 0 0 0) - (tu2 ((h + 6) % 8) 1 0 0 0)), .int .i64 ((tu3 ((h + 7) % 8) 1 0 0 0) - (tu3 ((h + 6) % 8) 1 0 0 0))], .int .i64 ((h + 1) % 8)]) ∧ Below w.heap.size w w' := by
  obtain ⟨a0, a0'⟩ := tu_bd0 ((h + 7) % 8) (by omega) (by omega)
  obtain ⟨a1, a1'⟩ := tu_bd1 ((h + 7) % 8) (by omega) (by omega)
  obtain ⟨a2, a2'⟩ := tu_bd2 ((h + 7) % 8) (by omega) (by omega)
  obtain ⟨a3, a3'⟩ := tu_bd3 ((h + 7) % 8) (by omega) (by omega)
  obtain ⟨b0, b0'⟩ := tu_bd0 ((h + 6) % 8) (by omega) (by omega)
  obtain ⟨b1, b1'⟩ := tu_bd1 ((h + 6) % 8) (by omega) (by omega)
  obtain ⟨b2, b2'⟩ := tu_bd2 ((h + 6) % 8) (by omega) (by omega)
  obtain ⟨b3, b3'⟩ := tu_bd3 ((h + 6) % 8) (by omega) (by omega)
  go_enter Tryz.func72, Tryz.ntmps72
  go_wp2_with fail
  (go_at_call 93; (with_reducible refine (ptHeading_any (h + 7) (by omega) (by omega) _).mono ?_); rintro e wA ⟨rfl, h1⟩; (try with_reducible replace h1 := undrew h1); have hB : Below w.heap.size w wA := ba (by go_grown) h1; obtain ⟨hcwA, hfwA⟩ := bcell h1; have hqwA := h1.size; (try simp at hqwA); (try have hz0wA : w.heap.size < wA.heap.size := (by omega)); (try have he0wA : w.heap.size ≤ wA.heap.size := (by omega)))
  go_wp2_with fail
  (go_at_call 93; (with_reducible refine (ptHeading_any (h + 6) (by omega) (by omega) _).mono ?_); rintro e wB ⟨rfl, h1⟩; (try with_reducible replace h1 := undrew h1); have hB : Below w.heap.size w wB := ba (by go_grown) h1; obtain ⟨hcwB, hfwB⟩ := bcell h1; have hqwB := h1.size; (try simp at hqwB); (try have hz0wB : w.heap.size < wB.heap.size := (by omega)); (try have he0wB : w.heap.size ≤ wB.heap.size := (by omega)))
  go_wp2_with fail
  (go_at_call 92; (with_reducible refine (lsB (tu0 ((h + 7) % 8) 1 0 0 0) (tu1 ((h + 7) % 8) 1 0 0 0) (tu2 ((h + 7) % 8) 1 0 0 0) (tu3 ((h + 7) % 8) 1 0 0 0) (tu0 ((h + 6) % 8) 1 0 0 0) (tu1 ((h + 6) % 8) 1 0 0 0) (tu2 ((h + 6) % 8) 1 0 0 0) (tu3 ((h + 6) % 8) 1 0 0 0) a0 a0' a1 a1' a2 a2' a3 a3' b0 b0' b1 b1' b2 b2' b3 b3' _).mono ?_); rintro e wC ⟨rfl, h1⟩; (try with_reducible replace h1 := undrew h1); have hB : Below w.heap.size w wC := ba (by go_grown) h1; obtain ⟨hcwC, hfwC⟩ := bcell h1; have hqwC := h1.size; (try simp at hqwC); (try have hz0wC : w.heap.size < wC.heap.size := (by omega)); (try have he0wC : w.heap.size ≤ wC.heap.size := (by omega)))
  go_wp2_with fail
  refine bodyPost_ret (by simp [results, Tryz.results72, go_sem, *]; try rfl) rfl ?_
  exact ⟨rfl, by go_grown⟩

set_option maxRecDepth 100000 in
set_option maxHeartbeats 1600000 in
theorem ptStep_R (h : Int) (h0 : 0 ≤ h) (h7 : h ≤ 7) (w : World) :
    Calls Tryz.prog 72 #[.int .u8 82, .int .i64 h] w fun e w' => e = .returned (.tuple #[.agg #[.int .i64 ((tu0 ((h + 1) % 8) 1 0 0 0) - (tu0 ((h + 2) % 8) 1 0 0 0)), .int .i64 ((tu1 ((h + 1) % 8) 1 0 0 0) - (tu1 ((h + 2) % 8) 1 0 0 0)), .int .i64 ((tu2 ((h + 1) % 8) 1 0 0 0) - (tu2 ((h + 2) % 8) 1 0 0 0)), .int .i64 ((tu3 ((h + 1) % 8) 1 0 0 0) - (tu3 ((h + 2) % 8) 1 0 0 0))], .int .i64 ((h + 7) % 8)]) ∧ Below w.heap.size w w' := by
  obtain ⟨a0, a0'⟩ := tu_bd0 ((h + 1) % 8) (by omega) (by omega)
  obtain ⟨a1, a1'⟩ := tu_bd1 ((h + 1) % 8) (by omega) (by omega)
  obtain ⟨a2, a2'⟩ := tu_bd2 ((h + 1) % 8) (by omega) (by omega)
  obtain ⟨a3, a3'⟩ := tu_bd3 ((h + 1) % 8) (by omega) (by omega)
  obtain ⟨b0, b0'⟩ := tu_bd0 ((h + 2) % 8) (by omega) (by omega)
  obtain ⟨b1, b1'⟩ := tu_bd1 ((h + 2) % 8) (by omega) (by omega)
  obtain ⟨b2, b2'⟩ := tu_bd2 ((h + 2) % 8) (by omega) (by omega)
  obtain ⟨b3, b3'⟩ := tu_bd3 ((h + 2) % 8) (by omega) (by omega)
  go_enter Tryz.func72, Tryz.ntmps72
  go_wp2_with fail
  (go_at_call 93; (with_reducible refine (ptHeading_any (h + 1) (by omega) (by omega) _).mono ?_); rintro e wA ⟨rfl, h1⟩; (try with_reducible replace h1 := undrew h1); have hB : Below w.heap.size w wA := ba (by go_grown) h1; obtain ⟨hcwA, hfwA⟩ := bcell h1; have hqwA := h1.size; (try simp at hqwA); (try have hz0wA : w.heap.size < wA.heap.size := (by omega)); (try have he0wA : w.heap.size ≤ wA.heap.size := (by omega)))
  go_wp2_with fail
  (go_at_call 93; (with_reducible refine (ptHeading_any (h + 2) (by omega) (by omega) _).mono ?_); rintro e wB ⟨rfl, h1⟩; (try with_reducible replace h1 := undrew h1); have hB : Below w.heap.size w wB := ba (by go_grown) h1; obtain ⟨hcwB, hfwB⟩ := bcell h1; have hqwB := h1.size; (try simp at hqwB); (try have hz0wB : w.heap.size < wB.heap.size := (by omega)); (try have he0wB : w.heap.size ≤ wB.heap.size := (by omega)))
  go_wp2_with fail
  (go_at_call 92; (with_reducible refine (lsB (tu0 ((h + 1) % 8) 1 0 0 0) (tu1 ((h + 1) % 8) 1 0 0 0) (tu2 ((h + 1) % 8) 1 0 0 0) (tu3 ((h + 1) % 8) 1 0 0 0) (tu0 ((h + 2) % 8) 1 0 0 0) (tu1 ((h + 2) % 8) 1 0 0 0) (tu2 ((h + 2) % 8) 1 0 0 0) (tu3 ((h + 2) % 8) 1 0 0 0) a0 a0' a1 a1' a2 a2' a3 a3' b0 b0' b1 b1' b2 b2' b3 b3' _).mono ?_); rintro e wC ⟨rfl, h1⟩; (try with_reducible replace h1 := undrew h1); have hB : Below w.heap.size w wC := ba (by go_grown) h1; obtain ⟨hcwC, hfwC⟩ := bcell h1; have hqwC := h1.size; (try simp at hqwC); (try have hz0wC : w.heap.size < wC.heap.size := (by omega)); (try have he0wC : w.heap.size ≤ wC.heap.size := (by omega)))
  go_wp2_with fail
  refine bodyPost_ret (by simp [results, Tryz.results72, go_sem, *]; try rfl) rfl ?_
  exact ⟨rfl, by go_grown⟩

set_option maxRecDepth 100000 in
set_option maxHeartbeats 1600000 in
theorem ptStep_S (h : Int) (h0 : 0 ≤ h) (h7 : h ≤ 7) (w : World) :
    Calls Tryz.prog 72 #[.int .u8 83, .int .i64 h] w fun e w' => e = .returned (.tuple #[.agg #[.int .i64 ((tu0 h 1 0 0 0)), .int .i64 ((tu1 h 1 0 0 0)), .int .i64 ((tu2 h 1 0 0 0)), .int .i64 ((tu3 h 1 0 0 0))], .int .i64 h]) ∧ Below w.heap.size w w' := by
  have hm : h % 8 = h := by omega
  have HM := Lib.hid hm
  clear hm
  go_enter Tryz.func72, Tryz.ntmps72
  go_wp2_with fail
  (go_at_call 93; (with_reducible refine (ptHeading_any h (by omega) (by omega) _).mono ?_); rintro e wA ⟨rfl, h1⟩; (try with_reducible replace h1 := undrew h1); have hB : Below w.heap.size w wA := ba (by go_grown) h1; obtain ⟨hcwA, hfwA⟩ := bcell h1; have hqwA := h1.size; (try simp at hqwA); (try have hz0wA : w.heap.size < wA.heap.size := (by omega)); (try have he0wA : w.heap.size ≤ wA.heap.size := (by omega)))
  go_wp2_with fail
  refine bodyPost_ret (by simp [results, Tryz.results72, go_sem, *]; try rfl) rfl ?_
  exact ⟨by rw [HM.out], by go_grown⟩

end Go.Proofs.YtkmgcmgnaeamaaaGreatDoor

/- Contract: the model's tkLay. -/
namespace Go.Proofs.YtkmgcmgnaeamaaaGreatDoor
open Go.ChangeShapes Go.WideShapes Go.ChangeAt Go.RowKit

set_option linter.unusedVariables false
set_option linter.unusedSimpArgs false

theorem ptInfo : (Tryz.prog.info? 64).map (fun i => (i.zero, i.size, i.bytes)) = some (some (.agg #[.int .i64 0, .int .i64 0, .int .i64 0, .int .i64 0]), 4, 32) := by kernel_rfl

theorem nmInfo : (Tryz.prog.info? 3).map (fun i => (i.zero, i.size, i.bytes)) = some (some (.int .i64 0), 1, 8) := by kernel_rfl

theorem own_belowL {W w1 : World} {B : Nat} {e : TypeId} {size n : Nat} {v : Value} {xs : List Value} (h : W.ownsRow B e size v n xs) (hb : Below W.heap.size W w1) : w1.ownsRow B e size v n xs :=
  h.kept (row := none) ⟨hb.os, hb.tape, hb.output, hb.size, fun k hk _ => hb.block k hk⟩ (by cases v.ownBlock <;> simp)

theorem own_setL {W : World} {B : Nat} {e : TypeId} {size n : Nat} {v : Value} {xs : List Value} (h : W.ownsRow B e size v n xs) (p : Addr) (u : Value) (hp : p.block < B) : (W.setCell p u).ownsRow B e size v n xs :=
  h.kept (row := some p.block) ⟨rfl, rfl, rfl, by simp [World.setCell], fun k _ hk => Below.heap_setCell _ _ _ _ (fun e => hk (by simp [e]))⟩ (by
    by_cases hv : v.ownBlock = some p.block
    · have := (h.lt _ hv).1; omega
    · exact .inr hv)

theorem own_ne {W : World} {B : Nat} {e e' : TypeId} {size size' n n' : Nat} {v v' : Value} {xs xs' : List Value} (h : W.ownsRow B e size v n xs) (h' : W.ownsRow B e' size' v' n' xs') (hne : e ≠ e') : v.ownBlock = none ∨ v.ownBlock ≠ v'.ownBlock := by
  rcases h.2 with ⟨rfl, _⟩ | ⟨g, cap, cur, rfl, _, hg, _⟩
  · exact .inl rfl
  · refine .inr fun he => ?_
    rcases h'.2 with ⟨rfl, _⟩ | ⟨g', cap', cur', rfl, _, hg', _⟩
    · cases he
    · simp only [Value.ownBlock, Option.some.injEq] at he
      subst he
      rw [hg] at hg'
      simp only [Option.some.injEq, Obj.cells.injEq] at hg'
      exact hne hg'.2.1

theorem blk_set {W : World} {g : Nat} {t : TypeId} {a0 a1 a2 a3 : Value} (h : W.heap[g]? = some (.cells #[a0, a1, a2, a3] t (0, 0))) (b0 b1 b2 b3 : Value) :
    ((((W.setCell ⟨g, 0, none⟩ b0).setCell ⟨g, 1, none⟩ b1).setCell ⟨g, 2, none⟩ b2).setCell ⟨g, 3, none⟩ b3).heap[g]? = some (.cells #[b0, b1, b2, b3] t (0, 0)) := by
  simp [World.setCell, Array.getElem?_modify, h]

theorem blk_cells {W : World} {g : Nat} {t : TypeId} {a0 a1 a2 a3 : Value} (h : W.heap[g]? = some (.cells #[a0, a1, a2, a3] t (0, 0))) :
    W.cell? ⟨g, 0, none⟩ = some a0 ∧ W.cell? ⟨g, 1, none⟩ = some a1 ∧ W.cell? ⟨g, 2, none⟩ = some a2 ∧ W.cell? ⟨g, 3, none⟩ = some a3 := by
  simp [World.cell?, h]

theorem blk_free {W : World} {g : Nat} {t : TypeId} {a0 a1 a2 a3 : Value} (h : W.heap[g]? = some (.cells #[a0, a1, a2, a3] t (0, 0))) :
    W.frozen? ⟨g, 0, none⟩ = false ∧ W.frozen? ⟨g, 1, none⟩ = false ∧ W.frozen? ⟨g, 2, none⟩ = false ∧ W.frozen? ⟨g, 3, none⟩ = false := by
  simp [World.frozen?, h]

theorem blk_lt {W : World} {g : Nat} {o : Obj} (h : W.heap[g]? = some o) : g < W.heap.size := (Array.getElem?_eq_some_iff.1 h).1

theorem spAddP (x0 x1 x2 x3 y0 y1 y2 y3 : Int) (px0 : -9000000 ≤ x0) (qx0 : x0 ≤ 9000000) (px1 : -9000000 ≤ x1) (qx1 : x1 ≤ 9000000) (px2 : -9000000 ≤ x2) (qx2 : x2 ≤ 9000000) (px3 : -9000000 ≤ x3) (qx3 : x3 ≤ 9000000) (py0 : -9000000 ≤ y0) (qy0 : y0 ≤ 9000000) (py1 : -9000000 ≤ y1) (qy1 : y1 ≤ 9000000) (py2 : -9000000 ≤ y2) (qy2 : y2 ≤ 9000000) (py3 : -9000000 ≤ y3) (qy3 : y3 ≤ 9000000) (w : World) :
    Calls Tryz.prog 73 #[.agg #[.int .i64 x0, .int .i64 x1, .int .i64 x2, .int .i64 x3], .agg #[.int .i64 y0, .int .i64 y1, .int .i64 y2, .int .i64 y3]] w fun e w' => e = .returned (.agg #[.int .i64 (x0 + y0), .int .i64 (x1 + y1), .int .i64 (x2 + y2), .int .i64 (x3 + y3)]) ∧ Below w.heap.size w w' :=
  (spAdd_any x0 x1 x2 x3 y0 y1 y2 y3 w).mono fun e w' ⟨h, hb⟩ => ⟨by rw [h, w64s (x0 + y0) (by omega) (by omega), w64s (x1 + y1) (by omega) (by omega), w64s (x2 + y2) (by omega) (by omega), w64s (x3 + y3) (by omega) (by omega)], hb⟩

def hdCells (l : List Sp) : List Value := l.map fun s => .int .i64 s.h

theorem hdCells_append (l m : List Sp) : hdCells (l ++ m) = hdCells l ++ hdCells m := by simp [hdCells]

theorem hdCells_length (l : List Sp) : (hdCells l).length = l.length := by simp [hdCells]

theorem layT (a : Sp) (s : ByteArray) (k : Nat) (hk : k < s.size) (c : UInt8) (hc : s[k] = c) : lays a (s.data.toList.take (k + 1)) = lays a (s.data.toList.take k) ++ [(fin a (s.data.toList.take k)).next c] := by
  rw [take_snoc s k hk, lays_snoc, hc]

theorem finT (a : Sp) (s : ByteArray) (k : Nat) (hk : k < s.size) (c : UInt8) (hc : s[k] = c) : fin a (s.data.toList.take (k + 1)) = (fin a (s.data.toList.take k)).next c := by
  rw [take_snoc s k hk, fin_snoc, hc]

def LayPost (a : Sp) (s : ByteArray) (w : World) (e : Ending) (w' : World) : Prop :=
  ∃ gj cj gh ch, e = .returned (.tuple #[.slice (some ⟨gj, 0, none⟩) (s.size + 1) cj, .slice (some ⟨gh, 0, none⟩) (s.size + 1) ch]) ∧
    w'.ownsRow (w.heap.size + 1) 64 4 (.slice (some ⟨gj, 0, none⟩) (s.size + 1) cj) (s.size + 1) (ptCells (lays a s.data.toList)) ∧
    w'.ownsRow (w.heap.size + 1) 3 1 (.slice (some ⟨gh, 0, none⟩) (s.size + 1) ch) (s.size + 1) (hdCells (lays a s.data.toList)) ∧ Below w.heap.size w w'

def LayRel (a : Sp) (s : ByteArray) (w : World) (h vj vh i : Value) (wr : World) : Prop :=
  ∃ (k gj cj gh ch : Nat), k ≤ s.size ∧ i = .int .i64 k ∧ h = .int .i64 (fin a (s.data.toList.take k)).h ∧ vj = .slice (some ⟨gj, 0, none⟩) (k + 1) cj ∧ vh = .slice (some ⟨gh, 0, none⟩) (k + 1) ch ∧
    wr.ownsRow (w.heap.size + 1) 64 4 (.slice (some ⟨gj, 0, none⟩) (k + 1) cj) (k + 1) (ptCells (lays a (s.data.toList.take k))) ∧
    wr.ownsRow (w.heap.size + 1) 3 1 (.slice (some ⟨gh, 0, none⟩) (k + 1) ch) (k + 1) (hdCells (lays a (s.data.toList.take k))) ∧
    wr.heap[w.heap.size]? = some (.cells #[.int .i64 (fin a (s.data.toList.take k)).x0, .int .i64 (fin a (s.data.toList.take k)).x1, .int .i64 (fin a (s.data.toList.take k)).x2, .int .i64 (fin a (s.data.toList.take k)).x3] 64 (0, 0)) ∧ Below w.heap.size w wr

theorem ptStep_any (c : UInt8) (hp : pcb c = true) (h : Int) (h0 : 0 ≤ h) (h7 : h ≤ 7) (w : World) :
    Calls Tryz.prog 72 #[.int .u8 ((c.toNat : Nat) : Int), .int .i64 h] w fun e w' => e = .returned (.tuple #[.agg #[.int .i64 (dd0 c h), .int .i64 (dd1 c h), .int .i64 (dd2 c h), .int .i64 (dd3 c h)], .int .i64 (nh c h)]) ∧ Below w.heap.size w w' := by
  rcases pcb_cases hp with rfl | rfl | rfl
  · exact ptStep_S h h0 h7 w
  · exact ptStep_L h h0 h7 w
  · exact ptStep_R h h0 h7 w

theorem litCells {W : World} {B n : Nat} {e : TypeId} {size : Nat} {cs : Array Value} {xs : List Value} (hn : W.heap.size = n) (hb : B ≤ n) (hs : cs.size = size) (hx : cs.toList = xs) : (W.alloc (.cells cs e)).ownsRow B e size (.slice (some ⟨n, 0, none⟩) 1 1) 1 xs := by
  subst hn hx
  exact World.ownsRow_lit W cs 1 hb (by decide) (by omega)

theorem newc {W : World} {cs : Array Value} {e : TypeId} {n : Nat} (hn : W.heap.size = n) : ∀ (j : Nat) u, cs.toList[j]? = some u → (W.alloc (.cells cs e)).cell? ((⟨n, 0, none⟩ : Addr).add j) = some u := by
  subst hn
  intro j u hu
  have h := Lib.cell_of_heap (heap_alloc_new W (.cells cs e)) j
  have ha : ((⟨W.heap.size, 0, none⟩ : Addr).add j) = ⟨W.heap.size, j, none⟩ := by by_cases e : j = 0 <;> simp [Addr.add, e]
  rw [ha, h, ← hu]
  simp

set_option maxRecDepth 100000 in
set_option maxHeartbeats 3200000 in
theorem tkLay_any (s : ByteArray) (ht : tkB s = true) (a : Sp) (hn : a.okB 1000000) (w : World) :
    Calls Tryz.prog 50 #[.string s, .agg #[.int .i64 a.x0, .int .i64 a.x1, .int .i64 a.x2, .int .i64 a.x3], .int .i64 a.h] w (LayPost a s w) := by
  have h40 := tkB_size ht
  have hs : s.size ≤ 1048576 := by omega
  have HT := Lib.hid (fun k hk => tkB_at ht (k := k) hk)
  have HK := Lib.hid hn
  obtain ⟨i0, hi, iz0, iz1, iz2⟩ := info_parts ptInfo
  obtain ⟨j0, ji, jz0, jz1, jz2⟩ := info_parts nmInfo
  clear hn
  go_enter Tryz.func50, Tryz.ntmps50
  go_wp2_with fail
  go_loopw [2, 8, 9, 10] (fun h vj vh i wr => LayRel a s w h vj vh i wr) (fun _ _ _ i _ => s.size - (intOf i).toNat)
  case atStart =>
    refine ⟨0, w.heap.size + 1, 1, w.heap.size + 1 + 1, 1, Nat.zero_le _, rfl, rfl, rfl, rfl, ?_, ?_, ?_, by go_grown⟩
    · exact (litCells (by simp) (Nat.le_refl _) rfl rfl).alloc _
    · exact litCells (by simp) (Nat.le_succ _) rfl rfl
    · rw [Below.heap_alloc _ _ _ (by simp; omega), Below.heap_alloc _ _ _ (by simp)]
      exact heap_alloc_new w _
  case round =>
    obtain ⟨k, gj, cj, gh, ch, hk, rfl, rfl, rfl, rfl, hJ, hH, hblk, hb⟩ := hrel
    have hz : w.heap.size ≤ wr.heap.size := hb.size
    by_cases hlt : k < s.size
    · have hp := HT.out k hlt
      have hok := fin_ok HK.out (s.data.toList.take k)
      have hl : (s.data.toList.take k).length ≤ 40 := by rw [List.length_take, size_list]; omega
      have hN := layT a s k hlt _ rfl
      have hF := finT a s k hlt _ rfl
      generalize fin a (s.data.toList.take k) = p at hN hF hok hblk
      obtain ⟨x0, x1, x2, x3, h⟩ := p
      simp only [Sp.okB] at hok
      obtain ⟨⟨b0, b0'⟩, ⟨b1, b1'⟩, ⟨b2, b2'⟩, ⟨b3, b3'⟩, b4, b5⟩ := hok
      have hstep := ptStep_any s[k] hp h b4 b5 wr
      have e0 := dd_bd0 s[k] h
      have e1 := dd_bd1 s[k] h
      have e2 := dd_bd2 s[k] h
      have e3 := dd_bd3 s[k] h
      have hnx : (Sp.mk x0 x1 x2 x3 h).next s[k] = ⟨x0 + dd0 s[k] h, x1 + dd1 s[k] h, x2 + dd2 s[k] h, x3 + dd3 s[k] h, nh s[k] h⟩ := rfl
      rw [hnx] at hN hF
      clear hnx
      generalize dd0 s[k] h = d0 at hN hF hstep e0
      generalize dd1 s[k] h = d1 at hN hF hstep e1
      generalize dd2 s[k] h = d2 at hN hF hstep e2
      generalize dd3 s[k] h = d3 at hN hF hstep e3
      generalize nh s[k] h = t at hN hF hstep
      obtain ⟨e0, e0'⟩ := e0
      obtain ⟨e1, e1'⟩ := e1
      obtain ⟨e2, e2'⟩ := e2
      obtain ⟨e3, e3'⟩ := e3
      have HST := Lib.hid hstep
      have HN := Lib.hid hN
      have HF := Lib.hid hF
      have hzl := blk_lt hblk
      have HJ := Lib.hid hJ
      have HH := Lib.hid hH
      have HB := Lib.hid hb
      have HBK := Lib.hid hblk
      clear hJ hH hb hblk hN hF hstep hp
      go_wp2_with fail
      refine HST.out.mono ?_
      rintro e w1 ⟨rfl, hb1⟩
      have hz1 : wr.heap.size ≤ w1.heap.size := hb1.size
      have hzl1 : w.heap.size < w1.heap.size := by omega
      have HJ1 := Lib.hid (own_belowL HJ.out hb1)
      have HH1 := Lib.hid (own_belowL HH.out hb1)
      have hbk1 := (hb1.block _ hzl).trans HBK.out
      have HB1 := Lib.hid (HB.out.trans (hb1.mono hz))
      obtain ⟨c0, c1, c2, c3⟩ := blk_cells hbk1
      have HBK1 := Lib.hid hbk1
      clear hbk1 hb1
      go_wp2_with fail
      refine (spAddP x0 x1 x2 x3 d0 d1 d2 d3 (by omega) (by omega) (by omega) (by omega) (by omega) (by omega) (by omega) (by omega) (by omega) (by omega) (by omega) (by omega) (by omega) (by omega) (by omega) (by omega) _).mono ?_
      rintro e w2 ⟨rfl, hb2⟩
      have hz2' : w1.heap.size + 1 ≤ w2.heap.size := by have := hb2.size; simpa using this
      have hzl2 : w.heap.size < w2.heap.size := by omega
      have HJ2 := Lib.hid (own_belowL (HJ1.out.alloc _) hb2)
      have HH2 := Lib.hid (own_belowL (HH1.out.alloc _) hb2)
      have hbk2 := (hb2.block w.heap.size (by simp; omega)).trans ((Below.heap_alloc _ _ _ hzl1).trans HBK1.out)
      have HB2 := Lib.hid ((HB1.out.alloc (by omega) _).trans (hb2.mono (by simp; omega)))
      clear c0 c1 c2 c3 hb2
      obtain ⟨c0, c1, c2, c3⟩ := blk_cells hbk2
      obtain ⟨f0, f1, f2, f3⟩ := blk_free hbk2
      have HBK2 := Lib.hid (blk_set hbk2 (.int .i64 (x0 + d0)) (.int .i64 (x1 + d1)) (.int .i64 (x2 + d2)) (.int .i64 (x3 + d3)))
      clear hbk2
      have HJ3 := Lib.hid (own_setL (own_setL (own_setL (own_setL HJ2.out ⟨w.heap.size, 0, none⟩ (.int .i64 (x0 + d0)) (by simp)) ⟨w.heap.size, 1, none⟩ (.int .i64 (x1 + d1)) (by simp)) ⟨w.heap.size, 2, none⟩ (.int .i64 (x2 + d2)) (by simp)) ⟨w.heap.size, 3, none⟩ (.int .i64 (x3 + d3)) (by simp))
      have HH3 := Lib.hid (own_setL (own_setL (own_setL (own_setL HH2.out ⟨w.heap.size, 0, none⟩ (.int .i64 (x0 + d0)) (by simp)) ⟨w.heap.size, 1, none⟩ (.int .i64 (x1 + d1)) (by simp)) ⟨w.heap.size, 2, none⟩ (.int .i64 (x2 + d2)) (by simp)) ⟨w.heap.size, 3, none⟩ (.int .i64 (x3 + d3)) (by simp))
      have HB3 := Lib.hid ((((HB2.out.setCell (p := ⟨w.heap.size, 0, none⟩) (Nat.le_refl _) (.int .i64 (x0 + d0))).setCell (p := ⟨w.heap.size, 1, none⟩) (Nat.le_refl _) (.int .i64 (x1 + d1))).setCell (p := ⟨w.heap.size, 2, none⟩) (Nat.le_refl _) (.int .i64 (x2 + d2))).setCell (p := ⟨w.heap.size, 3, none⟩) (Nat.le_refl _) (.int .i64 (x3 + d3)))
      go_wp2_with (at_builtin; refine wpList_append_own _ rfl _ _ 84 rfl (w.heap.size + 1) 64 i0 (.agg #[.int .i64 0, .int .i64 0, .int .i64 0, .int .i64 0]) 4 32 Tryz.underlying84 hi iz0 iz1 iz2 rfl (by decide) _ _ _ rfl (HJ3.out.alloc _) ⟨w2.heap.size, 0, none⟩ 1 1 [.int .i64 (x0 + d0), .int .i64 (x1 + d1), .int .i64 (x2 + d2), .int .i64 (x3 + d3)] rfl rfl ?c1 ?c2 ?c3 ?c4 ?c5 ?_)
      case c1 => exact newc (by simp [World.setCell])
      case c2 => intro u hu; simp at hu; rcases hu with rfl | rfl | rfl | rfl <;> rfl
      case c3 => unfold maxLen; omega
      case c4 => omega
      case c5 => simp; omega
      intro v' w3 hJ3 hg3 _
      have HJA := Lib.hid (HJ3.out.alloc (.cells #[.int .i64 (x0 + d0), .int .i64 (x1 + d1), .int .i64 (x2 + d2), .int .i64 (x3 + d3)] 64))
      have HHA := Lib.hid (HH3.out.alloc (.cells #[.int .i64 (x0 + d0), .int .i64 (x1 + d1), .int .i64 (x2 + d2), .int .i64 (x3 + d3)] 64))
      have hne : some w.heap.size ≠ (Value.slice (some ⟨gj, 0, none⟩) (k + 1) cj).ownBlock := fun e => by
        have := (HJA.out.lt _ e.symm).1
        omega
      have hz3 : w2.heap.size + 1 ≤ w3.heap.size := by have := hg3.size; simpa [World.setCell] using this
      have HH4 := Lib.hid (HHA.out.kept hg3 (own_ne HHA.out HJA.out (by decide)))
      have hbk3 := (hg3.block w.heap.size (by simp [World.setCell]; omega) hne).trans ((Below.heap_alloc _ _ _ (by simp [World.setCell]; omega)).trans HBK2.out)
      have HBK3 := Lib.hid hbk3
      have HB4 := Lib.hid ((HB3.out.alloc (by simp [World.setCell]; omega) (.cells #[.int .i64 (x0 + d0), .int .i64 (x1 + d1), .int .i64 (x2 + d2), .int .i64 (x3 + d3)] 64)).grown hg3 (by simp [World.setCell]; omega) (fun k hk => by have := (HJA.out.lt k hk).1; omega))
      obtain ⟨gj', cj', rfl, _⟩ := hJ3.form (by omega)
      have HJ4 := Lib.hid hJ3
      clear hJ3 hg3 hne hbk3 c0 c1 c2 c3 f0 f1 f2 f3
      go_wp2_with (at_builtin; refine wpList_append_own _ rfl _ _ 85 rfl (w.heap.size + 1) 3 j0 (.int .i64 0) 1 8 Tryz.underlying85 ji jz0 jz1 jz2 rfl (by decide) _ _ _ rfl (HH4.out.alloc _) ⟨w3.heap.size, 0, none⟩ 1 1 [.int .i64 t] rfl rfl ?c1 ?c2 ?c3 ?c4 ?c5 ?_)
      case c1 => exact newc rfl
      case c2 => intro u hu; simp at hu; subst hu; rfl
      case c3 => unfold maxLen; omega
      case c4 => omega
      case c5 => simp; omega
      intro v'' w4 hH5 hg4 _
      have HJB := Lib.hid (HJ4.out.alloc (.cells #[.int .i64 t] 3))
      have HHB := Lib.hid (HH4.out.alloc (.cells #[.int .i64 t] 3))
      have hne : some w.heap.size ≠ (Value.slice (some ⟨gh, 0, none⟩) (k + 1) ch).ownBlock := fun e => by
        have := (HHB.out.lt _ e.symm).1
        omega
      have HJ6 := Lib.hid (HJB.out.kept hg4 (own_ne HJB.out HHB.out (by decide)))
      have HBK4 := Lib.hid ((hg4.block w.heap.size (by simp; omega) hne).trans ((Below.heap_alloc _ _ _ (by omega)).trans HBK3.out))
      have HB5 := Lib.hid ((HB4.out.alloc (by omega) (.cells #[.int .i64 t] 3)).grown hg4 (by simp; omega) (fun k hk => by have := (HHB.out.lt k hk).1; omega))
      obtain ⟨gh', ch', rfl, _⟩ := hH5.form (by omega)
      have HH6 := Lib.hid hH5
      clear hH5 hg4 hne
      go_wp2_with fail
      go_roundw
      case rel => exact ⟨k + 1, gj', cj', gh', ch', by omega, by go_num, by rw [HF.out], rfl, rfl, by rw [HN.out, ptCells_append]; exact HJ6.out, by rw [HN.out, hdCells_append]; exact HH6.out, by rw [HF.out]; exact HBK4.out, HB5.out⟩
      case measure => simp [intOf]; omega
    · obtain rfl : k = s.size := by omega
      have hE := take_all s hlt
      rw [hE] at hJ hH
      have HJ := Lib.hid hJ
      have HH := Lib.hid hH
      have HB := Lib.hid hb
      clear hJ hH hb hE hblk
      go_wp2_with fail
      go_ret2
      exact ⟨gj, cj, gh, ch, rfl, HJ.out, HH.out, HB.out⟩

end Go.Proofs.YtkmgcmgnaeamaaaGreatDoor

/- Contracts: the program's stepsOf at what is no track, endOf and EndOf. -/
namespace Go.Proofs.YtkmgcmgnaeamaaaGreatDoor
open Go.ChangeShapes Go.WideShapes Go.ChangeAt Go.RowKit

/-- The end of a track, the step at 0 for what is none. -/
def enS (s : ByteArray) : Sp := cond (tkB s) (fin sp0 s.data.toList) sp0

theorem enS_yes {s : ByteArray} (h : tkB s = true) : enS s = fin sp0 s.data.toList := by simp [enS, h]

theorem enS_no {s : ByteArray} (h : tkB s = false) : enS s = sp0 := by simp [enS, h]

end Go.Proofs.YtkmgcmgnaeamaaaGreatDoor

/- Contracts: the ends of tracks in the model, and ends compared. -/
namespace Go.Proofs.YtkmgcmgnaeamaaaGreatDoor
open Go.ChangeShapes Go.WideShapes Go.ChangeAt Go.RowKit

theorem own_pt {W : World} {B n g cap i : Nat} {e : TypeId} {l : List Sp} {s : Sp} (h : W.ownsRow B e 4 (.slice (some ⟨g, 0, none⟩) n cap) n (ptCells l)) (hn : l.length = n) (hs : l[i]? = some s) :
    W.cell? ⟨g, i * 4, none⟩ = some (.int .i64 s.x0) ∧ W.cell? ⟨g, i * 4 + 1, none⟩ = some (.int .i64 s.x1) ∧ W.cell? ⟨g, i * 4 + 2, none⟩ = some (.int .i64 s.x2) ∧ W.cell? ⟨g, i * 4 + 3, none⟩ = some (.int .i64 s.x3) := by
  have hi : i < n := by rw [← hn]; exact (List.getElem?_eq_some_iff.1 hs).1
  have a := fun j (hj : j < 4) => (h.cellAt (i * 4 + j) (by omega)).trans ((by rw [Nat.mul_comm]) : _ = (ptCells l)[4 * i + j]?) |>.trans (ptCells_at l hs j hj)
  exact ⟨a 0 (by omega), a 1 (by omega), a 2 (by omega), a 3 (by omega)⟩

theorem own_hd {W : World} {B n g cap i : Nat} {e : TypeId} {l : List Sp} {s : Sp} (h : W.ownsRow B e 1 (.slice (some ⟨g, 0, none⟩) n cap) n (hdCells l)) (hn : l.length = n) (hs : l[i]? = some s) :
    W.cell? ⟨g, i, none⟩ = some (.int .i64 s.h) := by
  have hi : i < n := by rw [← hn]; exact (List.getElem?_eq_some_iff.1 hs).1
  rw [h.cellAt i (by omega)]
  simp [hdCells, hs]

theorem lays_lenA (a : Sp) (s : ByteArray) : (lays a s.data.toList).length = s.size + 1 := by rw [lays_length, size_list]

theorem lays_atA (a : Sp) (s : ByteArray) : (lays a s.data.toList)[s.size]? = some (fin a s.data.toList) := by
  have h := lays_last a s.data.toList
  rwa [size_list] at h

set_option maxRecDepth 100000 in
set_option maxHeartbeats 800000 in
theorem tkEnd_yes (s : ByteArray) (ht : tkB s = true) (w : World) :
    Calls Tryz.prog 36 #[.string s] w fun e w' => e = .returned (.tuple #[.agg #[.int .i64 (enS s).x0, .int .i64 (enS s).x1, .int .i64 (enS s).x2, .int .i64 (enS s).x3], .int .i64 (enS s).h]) ∧ Below w.heap.size w w' := by
  have h40 := tkB_size ht
  have hL := lays_atA sp0 s
  have HN := Lib.hid (lays_lenA sp0 s)
  have HE := Lib.hid (enS_yes ht)
  generalize hf : fin sp0 s.data.toList = p at HE hL
  have HL := Lib.hid hL
  clear hf hL
  obtain ⟨x0, x1, x2, x3, h⟩ := p
  have hc := tkLay_any s ht sp0 (sp0_ok.mono (by decide))
  have HC := Lib.hid hc
  clear hc
  go_enter Tryz.func36, Tryz.ntmps36
  go_wp2_with fail
  refine (HC.out _).mono ?_
  rintro e w1 ⟨gj, cj, gh, ch, rfl, hJ, hH, hb1⟩
  obtain ⟨c0, c1, c2, c3⟩ := own_pt hJ HN.out HL.out
  have c4 := own_hd hH HN.out HL.out
  have HB := Lib.hid (ba (by go_grown) hb1 : Below w.heap.size w w1)
  obtain ⟨hc1, hf1⟩ := bcell hb1
  have hz := hb1.size
  simp at hz
  have hz0 : w.heap.size < w1.heap.size := by omega
  have g1 := (hJ.lt gj rfl).1
  have g2 := (hH.lt gh rfl).1
  simp at g1 g2
  have n1 : ¬ gj = w.heap.size := by omega
  have n2 : ¬ gh = w.heap.size := by omega
  have n3 : ¬ w.heap.size = gj := by omega
  have n4 : ¬ w.heap.size = gh := by omega
  clear hJ hH hb1
  go_wp2_with fail
  go_region
  all_goals
    go_wp2_with fail
    refine bodyPost_ret (by simp [results, Tryz.results36, go_sem, *]; try rfl) rfl ?_
    have hB := HB.out
    exact ⟨by rw [HE.out], by go_grown⟩

/-- '==' on two steps. -/
@[go_sem high] theorem eqSt (a0 a1 a2 a3 a4 b0 b1 b2 b3 b4 : Int) (w : World) : (binOp .eql 72 (.agg #[.int .i64 a0, .int .i64 a1, .int .i64 a2, .int .i64 a3, .int .i64 a4]) (.agg #[.int .i64 b0, .int .i64 b1, .int .i64 b2, .int .i64 b3, .int .i64 b4])).run Tryz.prog w = .ok (.bool ((a0 == b0 && (a1 == b1 && (a2 == b2 && a3 == b3))) && a4 == b4)) w := by
  have hS : Tryz.prog.underlying 72 = some (.struct (Tryz.prog.fieldsOf 72)) := by kernel_rfl
  have hp : Tryz.prog.stoodInHeld 72 = false := by kernel_rfl
  rw [run_eql_struct, show (10000 : Nat) = 9999 + 1 from rfl, run_equalIn_agg w 9999 72 _ _ hS hp]
  simp only [Program.fieldsOf, Tryz.underlying72]
  go_simp
  by_cases h0 : a0 = b0 <;> by_cases h1 : a1 = b1 <;> by_cases h2 : a2 = b2 <;> by_cases h3 : a3 = b3 <;> by_cases h4 : a4 = b4 <;> simp [h0, h1, h2, h3, h4]

end Go.Proofs.YtkmgcmgnaeamaaaGreatDoor

/- Contracts: whether two tracks have the same end. -/
namespace Go.Proofs.YtkmgcmgnaeamaaaGreatDoor
open Go.ChangeShapes Go.WideShapes Go.ChangeAt Go.RowKit

def saG (a b : ByteArray) : Bool := tkB a && tkB b

def saR (a b : ByteArray) : Bool := saG a b && (((enS a).x0 == (enS b).x0 && ((enS a).x1 == (enS b).x1 && ((enS a).x2 == (enS b).x2 && (enS a).x3 == (enS b).x3))) && (enS a).h == (enS b).h)

theorem ret_sa {a b : ByteArray} {r g : Bool} (hg : saG a b = g) (hr : saR a b = r) : Ending.returned (.tuple #[.bool r, .bool g]) = Ending.returned (.tuple #[.bool (saR a b), .bool (saG a b)]) := by rw [hg, hr]

end Go.Proofs.YtkmgcmgnaeamaaaGreatDoor

/- Contracts: whether a track is closed. -/
namespace Go.Proofs.YtkmgcmgnaeamaaaGreatDoor
open Go.ChangeShapes Go.WideShapes Go.ChangeAt Go.RowKit

def zP (s : ByteArray) : Bool := (enS s).x0 == 0 && ((enS s).x1 == 0 && ((enS s).x2 == 0 && (enS s).x3 == 0))

def zS (s : ByteArray) : Bool := zP s && (enS s).h == 0

def clB (s : ByteArray) : Bool := tkB s && (decide (0 < s.size) && zS s)

theorem clB_tk {s : ByteArray} (h : clB s = true) : tkB s = true := by
  simp only [clB, Bool.and_eq_true] at h
  exact h.1

theorem clB_no {s : ByteArray} (h : tkB s = false) : clB s = false := by simp [clB, h]

theorem clB_yes {s : ByteArray} (h : tkB s = true) : clB s = (decide (0 < s.size) && zS s) := by simp [clB, h]

end Go.Proofs.YtkmgcmgnaeamaaaGreatDoor

/- Contracts: whether a text is a ring. -/
namespace Go.Proofs.YtkmgcmgnaeamaaaGreatDoor
open Go.ChangeShapes Go.WideShapes Go.ChangeAt Go.RowKit

set_option maxRecDepth 100000 in
set_option maxHeartbeats 800000 in
theorem csRing_any (s : ByteArray) (hs : s.size ≤ 1048576) (w : World) :
    Calls Tryz.prog 18 #[.string s] w fun e w' => e = .returned (.bool (clB s)) ∧ Below w.heap.size w w' := by
  cases ht : tkB s
  · have R := Lib.hid (clB_no ht)
    go_enter Tryz.func18, Tryz.ntmps18
    go_wp2_with (go_at_call 35; refine (tkGood_any s hs _).mono ?_; rintro e w' ⟨rfl, rfl⟩)
    go_ret
    exact ⟨by rw [R.out]; rfl, by go_grown⟩
  · have hc := tkEnd_yes s ht
    have hR := clB_yes ht
    unfold zS zP at hR
    generalize enS s = p at hR hc
    obtain ⟨x0, x1, x2, x3, x4⟩ := p
    simp only at hR
    have HC := Lib.hid hc
    clear hc
    by_cases h0 : s.size = 0
    · have R := Lib.hid hR
      have he : s.toList = [] := by rw [ByteArray.toList_eq]; exact List.eq_nil_of_length_eq_zero (by rw [size_list]; exact h0)
      clear hR
      go_enter Tryz.func18, Tryz.ntmps18
      go_wp2_with (go_at_call 35; refine (tkGood_any s hs _).mono ?_; rintro e w' ⟨rfl, rfl⟩)
      go_ret
      exact ⟨by rw [R.out]; simp [h0], by go_grown⟩
    · have hp : 0 < s.size := by omega
      have he : ¬ s.toList = [] := fun h => h0 (by rw [ByteArray.toList_eq] at h; rw [← size_list, h]; rfl)
      have hi : s.toList.isEmpty = false := by cases hl : s.toList with
        | nil => exact absurd hl he
        | cons a l => rfl
      cases hq : (x0 == 0 && (x1 == 0 && (x2 == 0 && x3 == 0)))
      all_goals
        rw [hq] at hR
        have R := Lib.hid hR
        clear hR
        go_enter Tryz.func18, Tryz.ntmps18
        go_wp2_with (first | (go_at_call 35; refine (tkGood_any s hs _).mono ?_; rintro e w' ⟨rfl, rfl⟩) | (go_at_call 36; (with_reducible refine (HC.out _).mono ?_); rintro e wA ⟨rfl, h1⟩; (try with_reducible replace h1 := undrew h1); have hB : Below w.heap.size w wA := ba (by go_grown) h1; obtain ⟨hcwA, hfwA⟩ := bcell h1; have hqwA := h1.size; (try simp at hqwA); ))
        go_ret
        exact ⟨by rw [R.out]; simp [hp], by go_grown⟩

end Go.Proofs.YtkmgcmgnaeamaaaGreatDoor

/- Contracts: arrays out of texts, and texts out of them. -/
namespace Go.Proofs.YtkmgcmgnaeamaaaGreatDoor
open Go.ChangeShapes Go.WideShapes Go.ChangeAt Go.RowKit

theorem LpAt.loadK {W : World} {b K : Nat} {x : Lp} (hK : K = 40) (h : LpAt W b x) : Sem.run Tryz.prog (loadCellsFrom ⟨b, 0, none⟩ 0 K #[]) W = .ok (arr x) W := by subst hK; exact h.load

theorem zK {K : Nat} (hK : K = 40) : ∀ w, Sem.run Tryz.prog (Go.sizeOf 38) w = .ok K w := by subst hK; exact Tryz.sizeOf38

theorem aK {K : Nat} (hK : K = 40) (x : Lp) : (arr x).size = K := by rw [hK, arr_size]

set_option maxRecDepth 100000 in
set_option maxHeartbeats 800000 in
theorem loopFrom_any (l : List UInt8) (hl : l.length ≤ 40) (w : World) :
    Calls Tryz.prog 15 #[.string (ofL l)] w fun e w' => e = .returned (.agg (arr (mkLp l))) ∧ Below w.heap.size w w' := by
  have hz := (zero_of_info (P := Tryz.prog) lpInfo).1
  have hcp := fun ty => copy_text (w.alloc (.cells (arr zLp) 38)) l hl ty
  have hsz : (w.alloc (.cells (arr zLp) 38)).heap.size = w.heap.size + 1 := by simp
  simp only [hsz] at hcp
  have a1 := LpAt.new (w.alloc (.cells (arr zLp) 38)) (mkLp l)
  rw [hsz] at a1
  have a0 := (LpAt.new w zLp).alloc (.cells (arr (mkLp l)) 38)
  obtain ⟨K, hK⟩ : ∃ K, K = 40 := ⟨_, rfl⟩
  have hld := a1.loadK hK
  have hst := a0.store (mkLp l)
  have hl2 := (a0.set (mkLp l)).loadK hK
  have zE := zK hK
  have hA := aK hK (mkLp l)
  have HB := Lib.hid (((((Below.refl w.heap.size w).alloc (Nat.le_refl _) (.cells (arr zLp) 38)).alloc (by simp) (.cells (arr (mkLp l)) 38)).trans (below_setRow (Below.refl _ _) (Nat.le_refl _) (arr (mkLp l)))) : Below w.heap.size w _)
  clear hK hsz a1 a0
  generalize arr (mkLp l) = A at *
  generalize arr zLp = Z at *
  generalize ofL l = s at *
  go_enter Tryz.func15, Tryz.ntmps15
  go_wp2_with fail
  refine bodyPost_ret (by simp [results, Tryz.results15, go_sem, *]; try rfl) rfl ?_
  exact ⟨rfl, HB.out⟩

/-- The text of an array: without the zeros at its end. -/
def txt (x : Lp) : List UInt8 := Lib.trimRightB x.1 0

theorem txt_mk {l : List UInt8} (hl : l.length ≤ 40) (h0 : ∀ c ∈ l, c ≠ 0) : txt (mkLp l) = l := by
  have h1 : (mkLp l).1 = l ++ List.replicate (40 - l.length) 0 := by
    simp only [mkLp]
    rw [List.take_append, List.take_of_length_le hl, List.take_replicate]
    congr 2
    omega
  rw [txt, Lib.trimRightB, h1, List.reverse_append, List.reverse_replicate]
  have h2 : ∀ n : Nat, (List.replicate n (0 : UInt8) ++ l.reverse).dropWhile (· == 0) = l.reverse := by
    intro n
    induction n with
    | zero =>
      simp only [List.replicate_zero, List.nil_append]
      cases hr : l.reverse with
      | nil => rfl
      | cons a r =>
        have : a ∈ l := by rw [← List.mem_reverse, hr]; exact List.mem_cons_self
        rw [List.dropWhile_cons, if_neg (by simpa using h0 a this)]
    | succ n ih => rw [List.replicate_succ, List.cons_append, List.dropWhile_cons, if_pos (by decide)]; exact ih
  rw [h2, List.reverse_reverse]

theorem txt_le (x : Lp) : (txt x).length ≤ 40 := by
  have := x.2
  rw [txt, Lib.trimRightB, List.length_reverse]
  have h := (List.dropWhile_sublist (· == (0 : UInt8)) (l := x.1.reverse)).length_le
  rw [List.length_reverse] at h
  omega

theorem conv_arr {W : World} {b : Nat} {x : Lp} (h : LpAt W b x) : (convert 53 9 (.slice (some ⟨b, 0, none⟩) 40 40)).run Tryz.prog W = .ok (.string (ofL x.1)) W := by
  have := run_convert_bytes_back W 53 9 5 ⟨b, 0, none⟩ 40 x.1 Tryz.underlying53 Tryz.underlying5 Tryz.underlying9 (fun j hj => by
    rw [Addr.add_lit, Nat.zero_add, cell_of_row _ _ j _ _ (0, 0) h]
    simp [arr, encLp, byV, hj])
  rw [x.2] at this
  exact this

set_option maxRecDepth 100000 in
set_option maxHeartbeats 800000 in
theorem text_any (x : Lp) (w : World) :
    Calls Tryz.prog 43 #[.agg (arr x)] w fun e w' => e = .returned (.string (ofL (txt x))) ∧ Below w.heap.size w w' := by
  have hc := conv_arr (LpAt.new w x)
  have hT := fun W => Tryz.strings_TrimRight_one (ofL x.1) 0 (by decide) W (by rw [ofL_size, x.2]; decide)
  have hR : (⟨(Lib.trimRightB (ofL x.1).data.toList 0).toArray⟩ : ByteArray) = ofL (txt x) := rfl
  rw [hR] at hT
  have HT := Lib.hid hT
  clear hT hR
  obtain ⟨K, hK⟩ : ∃ K, K = 40 := ⟨_, rfl⟩
  have zE := zK hK
  have hA := aK hK x
  clear hK
  generalize arr x = A at *
  generalize ofL x.1 = s at *
  generalize ofL (txt x) = t at *
  go_enter Tryz.func43, Tryz.ntmps43
  go_wp2_with (go_at_call 57; refine (HT.out _).mono ?_; rintro e w' ⟨rfl, rfl⟩)
  go_ret
  exact ⟨rfl, by go_grown⟩

theorem loadB {W : World} {b : Nat} {x : Lp} (h : LpAt W b x) : (Extern.Bytes.bytesOf (.slice (some ⟨b, 0, none⟩) 40 40)).run Tryz.prog W = .ok (ofL x.1) W := by
  have hb : Lib.bytesOf (x.1.map fun c => (c.toNat : Int)) = x.1 := by
    simp only [Lib.bytesOf, List.map_map]
    conv => rhs; rw [← List.map_id x.1]
    exact List.map_congr_left fun c _ => by simp
  have := Lib.run_loadBytesX (P := Tryz.prog) W (x.1.map fun c => (c.toNat : Int)) ⟨b, 0, none⟩ ByteArray.empty (fun j y hy => by
    rw [Addr.add_lit, Nat.zero_add, cell_of_row _ _ j _ _ (0, 0) h]
    simp only [List.getElem?_map, Option.map_eq_some_iff] at hy
    obtain ⟨c, hc, rfl⟩ := hy
    simp [arr, encLp, byV, hc])
  rw [hb, List.length_map, x.2] at this
  refine this.trans ?_
  congr 1
  apply ByteArray.ext
  show (#[] : Array UInt8) ++ x.1.toArray = x.1.toArray
  simp

theorem cmp_def (a b : Value) : Extern.BytealgCompare.compare #[a, b] = (do pure (goInt (Extern.BytealgCompare.cmp (← Extern.Bytes.bytesOf a) (← Extern.Bytes.bytesOf b)))) := rfl

set_option maxRecDepth 100000 in
theorem run_cmpLp {W : World} {b c : Nat} {x y : Lp} (hx : LpAt W b x) (hy : LpAt W c y) :
    (Extern.BytealgCompare.compare #[.slice (some ⟨b, 0, none⟩) 40 40, .slice (some ⟨c, 0, none⟩) 40 40]).run Tryz.prog W = .ok (.int .i64 (Lib.compareBytes x.1 y.1)) W := by
  have h := Lib.cmp_eq (ofL x.1) (ofL y.1)
  rw [cmp_def, Sem.run_bind, loadB hx, Result.andThen_ok, Sem.run_bind, loadB hy, Result.andThen_ok, Sem.run_pure]
  have ex : (ofL x.1).data.toList = x.1 := rfl
  have ey : (ofL y.1).data.toList = y.1 := rfl
  rw [ex, ey] at h
  rw [h, goInt]

set_option maxRecDepth 100000 in
theorem bytesCompare_any (b c : Nat) (x y : Lp) (w : World) (hx : LpAt w b x) (hy : LpAt w c y) :
    Calls Tryz.prog 48 #[.slice (some ⟨b, 0, none⟩) 40 40, .slice (some ⟨c, 0, none⟩) 40 40] w fun e w' => e = .returned (.int .i64 (Lib.compareBytes x.1 y.1)) ∧ w' = w := by
  have hr := run_cmpLp hx hy
  clear hx hy
  generalize Lib.compareBytes x.1 y.1 = r at *
  go_enter Tryz.func48, Tryz.ntmps48
  go_wp2
  rw [run_callFunc_extern Tryz.func71 (by kernel_rfl) (by kernel_rfl) (by kernel_rfl) (e := Extern.BytealgCompare.compare) (by kernel_rfl), hr]
  simp only [Result.andThen]
  rw [Oper.upon_value]
  go_wp2
  go_ret
  exact ⟨rfl, rfl⟩

set_option maxRecDepth 100000 in
set_option maxHeartbeats 800000 in
theorem compare_any (x y : Lp) (w : World) :
    Calls Tryz.prog 32 #[.agg (arr x), .agg (arr y)] w fun e w' => e = .returned (.int .i64 (Lib.compareBytes x.1 y.1)) ∧ ∃ q, w' = ((w.alloc (.cells (arr x) 38)).alloc (.cells (arr y) 38)).drewN q := by
  have hsz : (w.alloc (.cells (arr x) 38)).heap.size = w.heap.size + 1 := by simp
  have a1 := LpAt.new (w.alloc (.cells (arr x) 38)) y
  rw [hsz] at a1
  have HC := Lib.hid (fun q => bytesCompare_any w.heap.size (w.heap.size + 1) x y (((w.alloc (.cells (arr x) 38)).alloc (.cells (arr y) 38)).drewN q) (((LpAt.new w x).alloc _).drewN q) (a1.drewN q))
  obtain ⟨K, hK⟩ : ∃ K, K = 40 := ⟨_, rfl⟩
  have zE := zK hK
  have hA := aK hK x
  have hB := aK hK y
  clear hK a1 hsz
  generalize Lib.compareBytes x.1 y.1 = r at *
  generalize arr x = A at *
  generalize arr y = B at *
  go_enter Tryz.func32, Tryz.ntmps32
  go_wp2_with fail
  go_quiet (exact Calls.quiet_of_same (HC.out _))
  go_wp2_with fail
  go_ret
  exact ⟨rfl, _, rfl⟩

end Go.Proofs.YtkmgcmgnaeamaaaGreatDoor

/- Contract: the arrays of a ring spun. -/
namespace Go.Proofs.YtkmgcmgnaeamaaaGreatDoor
open Go.ChangeShapes Go.WideShapes Go.ChangeAt Go.RowKit

set_option linter.unusedVariables false

def lpCells (L : List Lp) : List Value := L.flatMap encLp

theorem lpCells_append (L M : List Lp) : lpCells (L ++ M) = lpCells L ++ lpCells M := by simp [lpCells]

theorem lpCells_one (x : Lp) : lpCells [x] = encLp x := by simp [lpCells]

theorem lpCells_len (L : List Lp) : (lpCells L).length = L.length * 40 := by
  induction L with
  | nil => rfl
  | cons x L ih => simp only [lpCells, List.flatMap_cons, List.length_append, encLp_len, List.length_cons] at ih ⊢; omega

theorem lpCells_at : ∀ (L : List Lp) (j : Nat) (x : Lp), L[j]? = some x → ∀ (i : Nat) (v : Value), (encLp x)[i]? = some v → (lpCells L)[j * 40 + i]? = some v
  | [], _, _, h, _, _, _ => by simp at h
  | y :: L, 0, x, h, i, v, hv => by
    simp only [List.getElem?_cons_zero, Option.some.injEq] at h
    subst h
    have hi : i < (encLp y).length := (List.getElem?_eq_some_iff.1 hv).1
    simp only [lpCells, List.flatMap_cons, Nat.zero_mul, Nat.zero_add]
    rw [List.getElem?_append_left hi]
    exact hv
  | y :: L, j + 1, x, h, i, v, hv => by
    have ih := lpCells_at L j x (by simpa using h) i v hv
    simp only [lpCells, List.flatMap_cons] at ih ⊢
    rw [List.getElem?_append_right (by rw [encLp_len]; omega), encLp_len, show (j + 1) * 40 + i - 40 = j * 40 + i by omega]
    exact ih

theorem own_lessL {W : World} {B B' : Nat} {e : TypeId} {size n : Nat} {v : Value} {xs : List Value} (h : W.ownsRow B e size v n xs) (hB : B' ≤ B) : W.ownsRow B' e size v n xs := by
  refine ⟨h.1, ?_⟩
  rcases h.2 with h2 | ⟨g, cap, cur, h1, h2, h3⟩
  · exact .inl h2
  · exact .inr ⟨g, cap, cur, h1, by omega, h3⟩

theorem lpInfo3 : (Tryz.prog.info? 38).map (fun i => (i.zero, i.size, i.bytes)) = some (some (.agg (arr zLp)), 40, 40) := by kernel_rfl

theorem concat_runL {a b t : ByteArray} (ht : a ++ b = t) (h : a.size + b.size ≤ 1000000) (w : World) : (Op.stringOp .add a b).run Tryz.prog w = .ok (.string t) w := by
  rw [← ht]
  exact run_string_add_sum w a b (by omega)

theorem rot1_take {l : List UInt8} {k : Nat} (hk : k < l.length) : (rot1 l).take (k + 1) = (rot1 l).take k ++ [spn l (k + 1)] := by
  have h : (rot1 l)[k]? = some (spn l (k + 1)) := by simp [rot1, hk]
  obtain ⟨h1, h2⟩ := List.getElem?_eq_some_iff.1 h
  rw [List.take_succ_eq_append_getElem h1, h2]

theorem spn_text (l : List UInt8) (k : Nat) : (ofL l).extract k l.length ++ (ofL l).extract 0 k = ofL (spn l k) := by
  apply ByteArray.ext
  have h1 : ((ofL l).extract k l.length).data.toList = l.drop k := by
    rw [Lib.extract_data]
    show List.take (l.length - k) (List.drop k l) = l.drop k
    exact List.take_of_length_le (by simp)
  have h2 : ((ofL l).extract 0 k).data.toList = l.take k := by
    rw [Lib.extract_data]
    simp [ofL]
  rw [ByteArray.data_append]
  apply Array.toList_inj.1
  rw [Array.toList_append, h1, h2]
  rfl

set_option maxRecDepth 100000 in
set_option maxHeartbeats 1600000 in
theorem spins_any (l : List UInt8) (hl : l.length ≤ 40) (h0 : ∀ c ∈ l, c ≠ 0) (w : World) :
    Calls Tryz.prog 27 #[.agg (arr (mkLp l))] w fun e w' => ∃ v, e = .returned v ∧ w'.ownsRow w.heap.size 38 40 v l.length (lpCells ((rot1 l).map mkLp)) ∧ Below w.heap.size w w' := by
  obtain ⟨i0, hi, iz0, iz1, iz2⟩ := info_parts lpInfo3
  have hT := fun W => text_any (mkLp l) W
  rw [txt_mk hl h0] at hT
  have HT := Lib.hid hT
  have HF := Lib.hid (fun (k : Nat) (W : World) => loopFrom_any (spn l k) (by rw [spn_len]; exact hl) W)
  obtain ⟨n, hn⟩ : ∃ n, l.length = n := ⟨_, rfl⟩
  have HN := Lib.hid hn
  have hz : (ofL l).size = n := by rw [ofL_size, hn]
  have HX := Lib.hid (fun k => spn_text l k)
  have a0 := LpAt.new w (mkLp l)
  obtain ⟨K, hK⟩ : ∃ K, K = 40 := ⟨_, rfl⟩
  have hld := a0.loadK hK
  have zE := zK hK
  have hA := aK hK (mkLp l)
  have HK := Lib.hid hK
  have hzv := (zero_of_info (P := Tryz.prog) lpInfo).1
  generalize arr zLp = Z at hzv
  rw [hn] at hl ⊢
  generalize hs : ofL l = s at *
  generalize arr (mkLp l) = A at *
  clear hT hK a0 hn h0 hs
  go_enter Tryz.func27, Tryz.ntmps27
  go_wp2_with fail
  refine (HT.out _).mono ?_
  rintro e w1 ⟨rfl, hb1⟩
  have HB := Lib.hid (ba (by go_grown) hb1 : Below w.heap.size w w1)
  clear hb1 hld
  go_wp2_with fail
  go_loopw [3, 10] (fun t i wr => ∃ (k : Nat) (v : Value), k ≤ n ∧ i = .int .i64 k ∧ v = t ∧ wr.ownsRow w.heap.size 38 40 v k (lpCells (((rot1 l).take k).map mkLp)) ∧ Below w.heap.size w wr) (fun _ i _ => n - (intOf i).toNat)
  case atStart => exact ⟨0, _, Nat.zero_le _, rfl, rfl, World.ownsRow_nil _ _ _ _, HB.out⟩
  case round =>
    obtain ⟨k, v, hk, rfl, rfl, hO, hb⟩ := hrel
    have HO := Lib.hid hO
    have HB2 := Lib.hid hb
    have hzb := hb.size
    by_cases hlt : k < n
    · have i1 : (0 : Int) ≤ (k : Int) := by omega
      have i2 : (k : Int) + 1 ≤ (n : Int) := by omega
      have i3 : (0 : Int) ≤ (k : Int) + 1 := by omega
      have i4 : k + 1 ≤ n := by omega
      have i5 : ((k + 1 : Nat) : Int) ≤ (n : Int) := by omega
      have hw : IntKind.i64.wrap ((k : Int) + 1) = (k : Int) + 1 := by rw [IntKind.wrap_i64]; omega
      have hx := HX.out (k + 1)
      rw [HN.out] at hx
      have F := Lib.hid (HF.out (k + 1))
      have HV := Lib.hid (show lpCells (((rot1 l).take (k + 1)).map mkLp) = lpCells (((rot1 l).take k).map mkLp) ++ encLp (mkLp (spn l (k + 1))) by
        rw [rot1_take (by rw [HN.out]; exact hlt), List.map_append, lpCells_append]
        simp [lpCells])
      obtain ⟨T, hTt⟩ : ∃ T, ofL (spn l (k + 1)) = T := ⟨_, rfl⟩
      rw [hTt] at hx F
      have k1 : ∀ w : World, (Op.stringOp .add (s.extract (k + 1) n) (s.extract 0 (k + 1))).run Tryz.prog w = .ok (.string T) w := fun w => concat_runL hx (by rw [ByteArray.size_extract, ByteArray.size_extract]; omega) w
      obtain ⟨y, hy⟩ : ∃ y, mkLp (spn l (k + 1)) = y := ⟨_, rfl⟩
      rw [hy] at F HV
      have hAy := aK HK.out y
      have hfy := fold_K HK.out y
      have kb : ¬ 16777216 < K := by rw [HK.out]; decide
      have kz : ¬ K = 0 := by rw [HK.out]; decide
      clear hx hTt hy hO hb
      go_wp2_with fail
      go_region_held3 (fun _ => True) (trivial)
        (first | ((with_reducible refine (F.out _).mono ?_); rintro e wA ⟨rfl, h1⟩; (try with_reducible replace h1 := undrew h1); have HOA := Lib.hid (own_below HO.out h1); have hqA := h1.size; (try simp at hqA)) | ((refine step_append_lies _ (by rfl) _ _ _ (by rfl) w.heap.size 38 i0 (.agg (arr zLp)) 40 40 Tryz.underlying36 hi iz0 iz1 iz2 (arr_size _) (by decide) v k _ (by rfl) (HOA.out.alloc _) ⟨wA.heap.size, 0, none⟩ 1 1 (encLp y) (by rfl) (by rw [encLp_len]) (World.news_of_block (cs := arr y) (heap_alloc_new _ _)) (enc_one y) (by decide) (by unfold maxLen; omega) (by omega) (by simp; omega) (wA.heap.size + 1) (by simp) ?_); intro g2 cap2 w3 hown3 hgrow hat hlt3))
      have hBA := HB2.out.trans (h1.mono hzb)
      have hlt' := (HOA.out.alloc (.cells (arr y) 38)).lt
      have HB4 := Lib.hid ((hBA.alloc (by omega) (.cells (arr y) 38)).grown hgrow (by simp; omega) (fun k hk => (hlt' k hk).1))
      have HN4 := Lib.hid hown3
      clear hBA hlt' hown3 hgrow hat h1
      go_wp2_with fail
      go_roundw
      case rel => exact ⟨k + 1, _, by omega, by go_num, rfl, by rw [HV.out]; exact HN4.out, HB4.out⟩
      case measure => simp [intOf]; omega
    · obtain rfl : k = n := by omega
      have HTA := Lib.hid (show (rot1 l).take k = rot1 l from List.take_of_length_le (by rw [rot1_len, HN.out]; exact Nat.le_refl _))
      clear hO hb
      go_wp2_with fail
      go_ret
      exact ⟨v, rfl, by have := HO.out; rw [HTA.out] at this; exact this, HB2.out⟩

end Go.Proofs.YtkmgcmgnaeamaaaGreatDoor

/- Contracts: the array of a ring, mirrored, laid backward, and both. -/
namespace Go.Proofs.YtkmgcmgnaeamaaaGreatDoor
open Go.ChangeShapes Go.WideShapes Go.ChangeAt Go.RowKit

set_option linter.unusedVariables false

theorem pcb_nz {c : UInt8} (h : pcb c = true) : c ≠ 0 := by rintro rfl; exact absurd h (by decide)

theorem tk_nz {l : List UInt8} (h : tkB (ofL l) = true) : ∀ c ∈ l, c ≠ 0 := fun c hc => pcb_nz (tkB_list h c hc)

theorem tk_le {l : List UInt8} (h : tkB (ofL l) = true) : l.length ≤ 40 := by have := tkB_size h; rwa [ofL_size] at this

theorem pcb_mir {c : UInt8} (h : pcb c = true) : pcb (mir c) = true := by
  rcases pcb_cases h with rfl | rfl | rfl <;> decide

theorem tk_of {l : List UInt8} (h1 : l.length ≤ 40) (h2 : ∀ c ∈ l, pcb c = true) : tkB (ofL l) = true := by
  simp only [tkB, ofL_size, Bool.and_eq_true, decide_eq_true_eq]
  exact ⟨h1, List.all_eq_true.2 h2⟩

theorem tk_all {l : List UInt8} (h : tkB (ofL l) = true) : ∀ c ∈ l, pcb c = true := fun c hc => tkB_list h c hc

theorem tk_mir {l : List UInt8} (h : tkB (ofL l) = true) : tkB (ofL (l.map mir)) = true :=
  tk_of (by rw [List.length_map]; exact tk_le h) (fun c hc => by
    obtain ⟨d, hd, rfl⟩ := List.mem_map.1 hc
    exact pcb_mir (tk_all h d hd))

def bak (l : List UInt8) : List UInt8 := (l.map mir).reverse

theorem bak_len (l : List UInt8) : (bak l).length = l.length := by simp [bak]

theorem tk_bak {l : List UInt8} (h : tkB (ofL l) = true) : tkB (ofL (bak l)) = true :=
  tk_of (by rw [bak_len]; exact tk_le h) (fun c hc => by
    simp only [bak, List.mem_reverse, List.mem_map] at hc
    obtain ⟨d, hd, rfl⟩ := hc
    exact pcb_mir (tk_all h d hd))

set_option maxRecDepth 100000 in
set_option maxHeartbeats 800000 in
theorem mirror_any (l : List UInt8) (ht : tkB (ofL l) = true) (w : World) :
    Calls Tryz.prog 28 #[.agg (arr (mkLp l))] w fun e w' => e = .returned (.agg (arr (mkLp (l.map mir)))) ∧ Below w.heap.size w w' := by
  have hT := fun W => text_any (mkLp l) W
  rw [txt_mk (tk_le ht) (tk_nz ht)] at hT
  have hM := fun W => imMirrorTrack (ofL l) (by have := tkB_size ht; omega) W
  rw [show miR (ofL l) = ofL (l.map mir) by rw [miR, ht]; rfl, ht] at hM
  have HT := Lib.hid hT
  have HM := Lib.hid hM
  have HF := Lib.hid (fun W => loopFrom_any (l.map mir) (by rw [List.length_map]; exact tk_le ht) W)
  have hz := (zero_of_info (P := Tryz.prog) lpInfo).1
  have a0 := (LpAt.new w (mkLp l)).alloc (.cells (arr zLp) 38)
  have a1 := LpAt.new (w.alloc (.cells (arr (mkLp l)) 38)) zLp
  rw [show (w.alloc (.cells (arr (mkLp l)) 38)).heap.size = w.heap.size + 1 by simp] at a1
  obtain ⟨K, hK⟩ : ∃ K, K = 40 := ⟨_, rfl⟩
  have hld := a0.loadK hK
  have zE := zK hK
  have hA := aK hK (mkLp l)
  have HK := Lib.hid hK
  have HA1 := Lib.hid a1
  obtain ⟨y, hy⟩ : ∃ y, mkLp (l.map mir) = y := ⟨_, rfl⟩
  rw [hy] at HF ⊢
  have hAy := aK hK y
  clear hT hM hK a0 a1 hy
  generalize ofL l = s at *
  generalize ofL (l.map mir) = t at *
  go_enter Tryz.func28, Tryz.ntmps28
  go_wp2_with fail
  refine (HT.out _).mono ?_
  rintro e w1 ⟨rfl, hb1⟩
  have HA2 := Lib.hid (HA1.out.below hb1 (by simp))
  have HB1 := Lib.hid (ba (by go_grown) hb1 : Below w.heap.size w w1)
  clear hb1 hld
  go_wp2_with fail
  refine (HM.out _).mono ?_
  rintro e w2 ⟨rfl, hb2⟩
  have HA3 := Lib.hid (HA2.out.below hb2 HA2.out.lt)
  have HB2 := Lib.hid (HB1.out.trans (hb2.mono HB1.out.size))
  clear hb2
  go_wp2_with fail
  refine (HF.out _).mono ?_
  rintro e w3 ⟨rfl, hb3⟩
  have a3 := HA3.out.below hb3 HA3.out.lt
  have hst := a3.store y
  have hl3 := (a3.set y).loadK HK.out
  have HB3 := Lib.hid (below_setRow (HB2.out.trans (hb3.mono HB2.out.size)) (Nat.le_succ _) (arr y))
  clear hb3 a3
  go_wp2_with fail
  refine bodyPost_ret (by simp [results, Tryz.results28, go_sem, *]; try rfl) rfl ?_
  exact ⟨rfl, HB3.out⟩

set_option maxRecDepth 100000 in
set_option maxHeartbeats 800000 in
theorem back_anyL (l : List UInt8) (ht : tkB (ofL l) = true) (w : World) :
    Calls Tryz.prog 29 #[.agg (arr (mkLp l))] w fun e w' => e = .returned (.agg (arr (mkLp (bak l)))) ∧ Below w.heap.size w w' := by
  have hT := fun W => text_any (mkLp l) W
  rw [txt_mk (tk_le ht) (tk_nz ht)] at hT
  have hM := fun W => imBackTrack (ofL l) (by have := tkB_size ht; omega) W
  rw [show baR (ofL l) = ofL (bak l) by rw [baR, ht]; show baS (ofL l) = ofL (bak l); rw [baS, bak, ← List.map_reverse]; rfl, ht] at hM
  have HT := Lib.hid hT
  have HM := Lib.hid hM
  have HF := Lib.hid (fun W => loopFrom_any (bak l) (by rw [bak_len]; exact tk_le ht) W)
  have hz := (zero_of_info (P := Tryz.prog) lpInfo).1
  have a0 := (LpAt.new w (mkLp l)).alloc (.cells (arr zLp) 38)
  have a1 := LpAt.new (w.alloc (.cells (arr (mkLp l)) 38)) zLp
  rw [show (w.alloc (.cells (arr (mkLp l)) 38)).heap.size = w.heap.size + 1 by simp] at a1
  obtain ⟨K, hK⟩ : ∃ K, K = 40 := ⟨_, rfl⟩
  have hld := a0.loadK hK
  have zE := zK hK
  have hA := aK hK (mkLp l)
  have HK := Lib.hid hK
  have HA1 := Lib.hid a1
  obtain ⟨y, hy⟩ : ∃ y, mkLp (bak l) = y := ⟨_, rfl⟩
  rw [hy] at HF ⊢
  have hAy := aK hK y
  clear hT hM hK a0 a1 hy
  generalize ofL l = s at *
  generalize ofL (bak l) = t at *
  go_enter Tryz.func29, Tryz.ntmps29
  go_wp2_with fail
  refine (HT.out _).mono ?_
  rintro e w1 ⟨rfl, hb1⟩
  have HA2 := Lib.hid (HA1.out.below hb1 (by simp))
  have HB1 := Lib.hid (ba (by go_grown) hb1 : Below w.heap.size w w1)
  clear hb1 hld
  go_wp2_with fail
  refine (HM.out _).mono ?_
  rintro e w2 ⟨rfl, hb2⟩
  have HA3 := Lib.hid (HA2.out.below hb2 HA2.out.lt)
  have HB2 := Lib.hid (HB1.out.trans (hb2.mono HB1.out.size))
  clear hb2
  go_wp2_with fail
  refine (HF.out _).mono ?_
  rintro e w3 ⟨rfl, hb3⟩
  have a3 := HA3.out.below hb3 HA3.out.lt
  have hst := a3.store y
  have hl3 := (a3.set y).loadK HK.out
  have HB3 := Lib.hid (below_setRow (HB2.out.trans (hb3.mono HB2.out.size)) (Nat.le_succ _) (arr y))
  clear hb3 a3
  go_wp2_with fail
  refine bodyPost_ret (by simp [results, Tryz.results29, go_sem, *]; try rfl) rfl ?_
  exact ⟨rfl, HB3.out⟩

set_option maxRecDepth 100000 in
set_option maxHeartbeats 800000 in
theorem mirrorBack_any (l : List UInt8) (ht : tkB (ofL l) = true) (w : World) :
    Calls Tryz.prog 30 #[.agg (arr (mkLp l))] w fun e w' => e = .returned (.agg (arr (mkLp ((bak l).map mir)))) ∧ Below w.heap.size w w' := by
  have HT := Lib.hid (back_anyL l ht)
  have HF := Lib.hid (mirror_any (bak l) (tk_bak ht))
  have hz := (zero_of_info (P := Tryz.prog) lpInfo).1
  have a0 := (LpAt.new w (mkLp l)).alloc (.cells (arr zLp) 38)
  have a1 := LpAt.new (w.alloc (.cells (arr (mkLp l)) 38)) zLp
  rw [show (w.alloc (.cells (arr (mkLp l)) 38)).heap.size = w.heap.size + 1 by simp] at a1
  obtain ⟨K, hK⟩ : ∃ K, K = 40 := ⟨_, rfl⟩
  have hld := a0.loadK hK
  have zE := zK hK
  have hA := aK hK (mkLp l)
  have HK := Lib.hid hK
  have HA1 := Lib.hid a1
  have hAb := aK hK (mkLp (bak l))
  obtain ⟨y, hy⟩ : ∃ y, mkLp ((bak l).map mir) = y := ⟨_, rfl⟩
  rw [hy] at HF ⊢
  have hAy := aK hK y
  clear hK a0 a1 hy
  go_enter Tryz.func30, Tryz.ntmps30
  go_wp2_with fail
  refine (HT.out _).mono ?_
  rintro e w1 ⟨rfl, hb1⟩
  have HA2 := Lib.hid (HA1.out.below hb1 (by simp))
  have HB1 := Lib.hid (ba (by go_grown) hb1 : Below w.heap.size w w1)
  clear hb1 hld
  go_wp2_with fail
  refine (HF.out _).mono ?_
  rintro e w3 ⟨rfl, hb3⟩
  have a3 := HA2.out.below hb3 HA2.out.lt
  have hst := a3.store y
  have hl3 := (a3.set y).loadK HK.out
  have HB3 := Lib.hid (below_setRow (HB1.out.trans (hb3.mono HB1.out.size)) (Nat.le_succ _) (arr y))
  clear hb3 a3
  go_wp2_with fail
  refine bodyPost_ret (by simp [results, Tryz.results30, go_sem, *]; try rfl) rfl ?_
  exact ⟨rfl, HB3.out⟩

end Go.Proofs.YtkmgcmgnaeamaaaGreatDoor

/- Contracts of the model: rings spun, least ones, periods, the four that a class is of, first ones. -/
namespace Go.Proofs.YtkmgcmgnaeamaaaGreatDoor
open Go.ChangeShapes Go.WideShapes Go.ChangeAt Go.RowKit

set_option linter.unusedVariables false

theorem concat_runC {a b t : ByteArray} (ht : a ++ b = t) (h : a.size + b.size ≤ 1000000) (w : World) : (Op.stringOp .add a b).run Tryz.prog w = .ok (.string t) w := by
  rw [← ht]
  exact run_string_add_sum w a b (by omega)

theorem spn_textC (l : List UInt8) (k : Nat) : (ofL l).extract k l.length ++ (ofL l).extract 0 k = ofL (spn l k) := by
  have h1 : ((ofL l).extract k l.length).data.toList = l.drop k := by
    rw [Lib.extract_data]
    show List.take (l.length - k) (List.drop k l) = l.drop k
    exact List.take_of_length_le (by simp)
  have h2 : ((ofL l).extract 0 k).data.toList = l.take k := by
    rw [Lib.extract_data]
    simp [ofL]
  apply ByteArray.ext
  rw [ByteArray.data_append]
  apply Array.toList_inj.1
  rw [Array.toList_append, h1, h2]
  rfl

theorem below_drewC {B : Nat} {a w : World} (h : Below B a w) (q : Nat) : Below B a (w.drewN q) := ⟨h.os, h.tape, h.output, h.size, h.block⟩

set_option maxRecDepth 100000 in
theorem csSpin_any (l : List UInt8) (hl : l.length ≤ 40) (k : Nat) (hk : k ≤ l.length) (w : World) :
    Calls Tryz.prog 53 #[.string (ofL l), .int .i64 k] w fun e w' => e = .returned (.string (ofL (spn l k))) ∧ ∃ q, w' = w.drewN q := by
  obtain ⟨n, hn⟩ : ∃ n, l.length = n := ⟨_, rfl⟩
  have hz : (ofL l).size = n := by rw [ofL_size, hn]
  have hx := spn_textC l k
  rw [hn] at hx hl hk
  obtain ⟨T, hT⟩ : ∃ T, ofL (spn l k) = T := ⟨_, rfl⟩
  rw [hT] at hx ⊢
  generalize ofL l = s at *
  have i1 : (0 : Int) ≤ (k : Int) := by omega
  have i2 : (k : Int) ≤ (n : Int) := by omega
  have k1 : ∀ w : World, (Op.stringOp .add (s.extract k n) (s.extract 0 k)).run Tryz.prog w = .ok (.string T) w := fun w => concat_runC hx (by rw [ByteArray.size_extract, ByteArray.size_extract]; omega) w
  clear hx hT hn
  go_enter Tryz.func53, Tryz.ntmps53
  go_wp2_with fail
  go_quiet (fail)
  go_wp2_with fail
  go_ret
  exact ⟨rfl, _, rfl⟩

theorem mn_snoc (x y : List UInt8) (ys : List (List UInt8)) : mn x (ys ++ [y]) = if y < mn x ys then y else mn x ys := by
  unfold mn
  rw [List.foldl_append]
  rfl

theorem less_run (a b : List UInt8) : Op.bytesLess (ofL a).toList (ofL b).toList = decide (a < b) := by
  rw [bytesLess_eq, ByteArray.toList_eq, ByteArray.toList_eq]
  rfl

theorem rot_take {l : List UInt8} {k : Nat} (hk : k < l.length) : (rotA l).take (k + 1) = (rotA l).take k ++ [spn l k] := by
  have h : (rotA l)[k]? = some (spn l k) := by simp [rotA, hk]
  obtain ⟨h1, h2⟩ := List.getElem?_eq_some_iff.1 h
  rw [List.take_succ_eq_append_getElem h1, h2]

set_option maxRecDepth 100000 in
set_option maxHeartbeats 800000 in
theorem csLeast_any (l : List UInt8) (ht : tkB (ofL l) = true) (w : World) :
    Calls Tryz.prog 38 #[.string (ofL l)] w fun e w' => e = .returned (.string (ofL (leastL l))) ∧ Below w.heap.size w w' := by
  have hl := tk_le ht
  obtain ⟨n, hn⟩ : ∃ n, l.length = n := ⟨_, rfl⟩
  have hz : (ofL l).size = n := by rw [ofL_size, hn]
  have hasc : ∀ pos (h : pos < (ofL l).size), ((ofL l)[pos]'h).toNat < 128 := fun pos h => by
    have hm : (ofL l)[pos]'h ∈ l := by
      have : (ofL l)[pos]'h = l[pos]'(by rw [← ofL_size l]; exact h) := rfl
      rw [this]
      exact List.getElem_mem _
    rcases pcb_cases (tk_all ht _ hm) with e | e | e <;> rw [e] <;> decide
  have HS := Lib.hid (fun (k : Nat) (hk : k ≤ l.length) (W : World) => csSpin_any l hl k hk W)
  have HN := Lib.hid hn
  have HR := Lib.hid (show ofL (leastL l) = ofL (mn l (rotA l)) from rfl)
  have hk0 := World.iter_heap w (ofL l) 0
  have hb0 : Below w.heap.size w (w.iter (ofL l) 0) := (Below.refl _ w).alloc (Nat.le_refl _) _
  have HASC := Lib.hid hasc
  have HST := Lib.hid (show ofL l = ofL (mn l ((rotA l).take 0)) from rfl)
  clear hasc
  generalize hs : ofL l = s at *
  clear hs hn
  go_enter Tryz.func38, Tryz.ntmps38
  go_wp2_with fail
  go_loopw [3] (fun t wr => ∃ (pos : Nat), pos ≤ n ∧ t = .string (ofL (mn l ((rotA l).take pos))) ∧ wr.heap[w.heap.size]? = some (.stringIter s pos) ∧ Below w.heap.size w wr) (fun _ wr => n - wr.iterPos w.heap.size)
  case atStart => exact ⟨0, Nat.zero_le _, by rw [HST.out], hk0, hb0⟩
  case round =>
    obtain ⟨pos, hps, rfl, hk, hb⟩ := hrel
    by_cases hp : pos < n
    · have hnext : ∀ ty, (Instr.next (.pointer (some ⟨w.heap.size, 0, none⟩)) true ty).run Tryz.prog wr = _ := fun ty => Lib.run_next_ascii_at wr w.heap.size s pos ty hk (by rw [hz]; exact hp) (HASC.out pos (by rw [hz]; exact hp))
      have hk1 := Lib.iterAt_heap wr w.heap.size s pos (pos + 1) hk
      have hb1 : Below w.heap.size w (wr.iterAt w.heap.size s (pos + 1)) := Lib.below_iterAt hb (Nat.le_refl _) s (pos + 1)
      have hmu : wr.iterPos w.heap.size = pos := by simp [World.iterPos, hk]
      have SP := Lib.hid (HS.out pos (by rw [HN.out]; omega))
      have hsn := mn_snoc l (spn l pos) ((rotA l).take pos)
      rw [← rot_take (by rw [HN.out]; exact hp)] at hsn
      obtain ⟨y, hy⟩ : ∃ y, spn l pos = y := ⟨_, rfl⟩
      rw [hy] at SP hsn
      generalize mn l ((rotA l).take pos) = m at *
      have hless := less_run y m
      have HK1 := Lib.hid hk1
      have HB1 := Lib.hid hb1
      have HMU := Lib.hid hmu
      clear hk hb hk1 hb1 hy hmu
      generalize wr.iterAt w.heap.size s (pos + 1) = W1 at *
      by_cases hyx : y < m
      · rw [decide_eq_true hyx] at hless
        rw [if_pos hyx] at hsn
        have HSN := Lib.hid hsn
        clear hsn hyx
        generalize ofL m = M at *
        go_wp2_with fail
        refine (SP.out _).mono ?_
        rintro e W2 ⟨rfl, q, rfl⟩
        go_wp2_with fail
        go_roundw
        case rel => exact ⟨pos + 1, by omega, by rw [HSN.out], HK1.out, below_drewC HB1.out q⟩
        case measure =>
          have h2 : (W1.drewN q).iterPos w.heap.size = pos + 1 := by simp [World.iterPos, HK1.out]
          rw [HMU.out, h2]; omega
      · rw [decide_eq_false hyx] at hless
        rw [if_neg hyx] at hsn
        have HSN := Lib.hid hsn
        clear hsn hyx
        go_wp2_with fail
        refine (SP.out _).mono ?_
        rintro e W2 ⟨rfl, q, rfl⟩
        go_wp2_with fail
        go_roundw
        case rel => exact ⟨pos + 1, by omega, by rw [HSN.out], HK1.out, below_drewC HB1.out q⟩
        case measure =>
          have h2 : (W1.drewN q).iterPos w.heap.size = pos + 1 := by simp [World.iterPos, HK1.out]
          rw [HMU.out, h2]; omega
    · obtain rfl : pos = n := by omega
      have hnext : ∀ ty, (Instr.next (.pointer (some ⟨w.heap.size, 0, none⟩)) true ty).run Tryz.prog wr = _ := fun ty => Lib.run_next_end_at wr w.heap.size s pos ty hk (by rw [hz]; exact hp)
      have HT := Lib.hid (show (rotA l).take pos = rotA l from List.take_of_length_le (by simp [rotA, HN.out]))
      have HB := Lib.hid hb
      clear hk hb
      go_wp2_with fail
      go_ret
      exact ⟨by rw [HR.out, HT.out]; rfl, HB.out⟩

/-- The least number of pieces that come again. -/
def perN (l : List UInt8) : Nat := (rot1 l).findIdx (· == l) + 1

theorem per_hit {l : List UInt8} {k : Nat} (hk : k < l.length) (h : spn l (k + 1) = l) (hno : ∀ j, j < k → spn l (j + 1) ≠ l) : perN l = k + 1 := by
  have hk' : k < (rot1 l).length := by rw [rot1_len]; exact hk
  have := (List.findIdx_eq (p := (· == l)) hk').2 ⟨by simp [rot1, h], fun j hj => by
    have hj' : j < l.length := by omega
    simp only [rot1, List.getElem_map, List.getElem_range]
    simpa using hno j hj⟩
  rw [perN, this]

theorem per_le {l : List UInt8} (h0 : 0 < l.length) : perN l ≤ l.length := by
  have h1 : l.length - 1 < (rot1 l).length := by rw [rot1_len]; omega
  have h2 : (rot1 l)[l.length - 1]'h1 = l := by
    simp only [rot1, List.getElem_map, List.getElem_range]
    rw [show l.length - 1 + 1 = l.length by omega, spn_full]
  have : (rot1 l).findIdx (· == l) ≤ l.length - 1 := by
    refine Nat.le_of_not_lt fun hlt => ?_
    have := List.not_of_lt_findIdx hlt
    simp [h2] at this
  unfold perN
  omega

def four (l : List UInt8) : List (List UInt8) := [l, l.map mir, bak l, (bak l).map mir]

def classL (l : List UInt8) : List UInt8 := mn l ((four l).map leastL)

theorem miS_of (l : List UInt8) : miS (ofL l) = ofL (l.map mir) := rfl

theorem baS_of (l : List UInt8) : baS (ofL l) = ofL (bak l) := by
  rw [baS, bak, ← List.map_reverse]; rfl

theorem four_tk {l : List UInt8} (h : tkB (ofL l) = true) : ∀ x ∈ four l, tkB (ofL x) = true := by
  intro x hx
  simp only [four, List.mem_cons, List.not_mem_nil, or_false] at hx
  rcases hx with rfl | rfl | rfl | rfl
  · exact h
  · exact tk_mir h
  · exact tk_bak h
  · exact tk_mir (tk_bak h)

theorem four_len {l x : List UInt8} (hx : x ∈ four l) : x.length = l.length := by
  simp only [four, List.mem_cons, List.not_mem_nil, or_false] at hx
  rcases hx with rfl | rfl | rfl | rfl <;> simp [bak]

set_option maxRecDepth 100000 in
theorem csFour_any (l : List UInt8) (hl : l.length ≤ 40) (w : World) :
    Calls Tryz.prog 37 #[.string (ofL l)] w fun e w' => e = .returned (.slice (some ⟨w.heap.size, 0, none⟩) 4 4) ∧ w' = w.alloc (.cells #[.string (ofL l), .string (ofL (l.map mir)), .string (ofL (bak l)), .string (ofL ((bak l).map mir))] 9) := by
  have M1 := Lib.hid (fun W => tkMirror_any (ofL l) (by rw [ofL_size]; exact hl) W)
  have B1 := Lib.hid (fun W => tkBack_any (ofL l) (by rw [ofL_size]; exact hl) W)
  have M2 := Lib.hid (fun W => tkMirror_any (ofL (bak l)) (by rw [ofL_size, bak_len]; exact hl) W)
  rw [miS_of] at M1 M2
  rw [baS_of] at B1
  go_enter Tryz.func37, Tryz.ntmps37
  go_wp2_with (first | ((with_reducible refine (M1.out _).mono ?_); rintro e w' ⟨rfl, rfl⟩) | ((with_reducible refine (M2.out _).mono ?_); rintro e w' ⟨rfl, rfl⟩) | ((with_reducible refine (B1.out _).mono ?_); rintro e w' ⟨rfl, rfl⟩))
  go_ret
  exact ⟨rfl, rfl⟩

theorem four_at {W : World} {g : Nat} {a b c d : Value} {t : TypeId} (h : W.heap[g]? = some (.cells #[a, b, c, d] t (0, 0))) (i : Nat) (x : Value) (hx : [a, b, c, d][i]? = some x) : W.cell? ⟨g, i, none⟩ = some x := by
  rw [cell_of_row _ _ i _ _ (0, 0) h]
  simpa using hx

set_option maxRecDepth 100000 in
set_option maxHeartbeats 800000 in
theorem csClass_any (l : List UInt8) (ht : tkB (ofL l) = true) (w : World) :
    Calls Tryz.prog 19 #[.string (ofL l)] w fun e w' => e = .returned (.string (ofL (classL l))) ∧ Below w.heap.size w w' := by
  have FR := Lib.hid (csFour_any l (tk_le ht))
  have LS := Lib.hid (fun x (hx : x ∈ four l) (W : World) => csLeast_any x (four_tk ht x hx) W)
  go_enter Tryz.func19, Tryz.ntmps19
  go_wp2_with fail
  refine (FR.out _).mono ?_
  rintro e w1 ⟨rfl, rfl⟩
  go_wp2_with fail
  go_loopw [3, 11] (fun t i wr => ∃ (k : Nat), k ≤ 4 ∧ i = .int .i64 k ∧ t = .string (ofL (mn l (((four l).take k).map leastL))) ∧ wr.heap[w.heap.size]? = some (.cells #[.string (ofL l), .string (ofL (l.map mir)), .string (ofL (bak l)), .string (ofL ((bak l).map mir))] 9 (0, 0)) ∧ Below w.heap.size w wr) (fun _ i _ => 4 - (intOf i).toNat)
  case atStart => exact ⟨0, by omega, rfl, rfl, heap_alloc_last w _, by go_grown⟩
  case round =>
    obtain ⟨k, hk, rfl, rfl, hblk, hb⟩ := hrel
    have hzl : w.heap.size < wr.heap.size := (Array.getElem?_eq_some_iff.1 hblk).1
    by_cases hlt : k < 4
    · obtain ⟨x, hx⟩ : ∃ x, (four l)[k]? = some x := ⟨_, List.getElem?_eq_getElem (by simpa [four] using hlt)⟩
      have c0 : wr.cell? ⟨w.heap.size, k, none⟩ = some (.string (ofL x)) := four_at hblk k _ (by
        rw [show [Value.string (ofL l), Value.string (ofL (l.map mir)), Value.string (ofL (bak l)), Value.string (ofL ((bak l).map mir))] = (four l).map (fun y => Value.string (ofL y)) from rfl, List.getElem?_map, hx]
        rfl)
      have SP := Lib.hid (LS.out x (List.mem_of_getElem? hx))
      have hsn := mn_snoc l (leastL x) (((four l).take k).map leastL)
      rw [show ((four l).take k).map leastL ++ [leastL x] = ((four l).take (k + 1)).map leastL by rw [List.take_add_one, hx, List.map_append]; rfl] at hsn
      generalize leastL x = y at *
      generalize mn l (((four l).take k).map leastL) = m at *
      have hless := less_run y m
      have HBK := Lib.hid hblk
      have HB := Lib.hid hb
      have i1 : (0 : Int) ≤ (k : Int) := by omega
      have i2 : (k : Int) < 4 := by omega
      clear hx hblk hb
      by_cases hyx : y < m
      · rw [decide_eq_true hyx] at hless
        rw [if_pos hyx] at hsn
        have HSN := Lib.hid hsn
        clear hsn hyx
        generalize ofL x = X at *
        go_wp2_with fail
        refine (SP.out _).mono ?_
        rintro e w2 ⟨rfl, hb2⟩
        have HBK2 := Lib.hid ((hb2.block w.heap.size hzl).trans HBK.out)
        have HB2 := Lib.hid (HB.out.trans (hb2.mono HB.out.size))
        clear hb2
        go_wp2_with fail
        go_roundw
        case rel => exact ⟨k + 1, by omega, by go_num, by rw [HSN.out], HBK2.out, HB2.out⟩
        case measure => simp [intOf]; omega
      · rw [decide_eq_false hyx] at hless
        rw [if_neg hyx] at hsn
        have HSN := Lib.hid hsn
        clear hsn hyx
        generalize ofL x = X at *
        go_wp2_with fail
        refine (SP.out _).mono ?_
        rintro e w2 ⟨rfl, hb2⟩
        have HBK2 := Lib.hid ((hb2.block w.heap.size hzl).trans HBK.out)
        have HB2 := Lib.hid (HB.out.trans (hb2.mono HB.out.size))
        clear hb2
        go_wp2_with fail
        go_roundw
        case rel => exact ⟨k + 1, by omega, by go_num, by rw [HSN.out], HBK2.out, HB2.out⟩
        case measure => simp [intOf]; omega
    · obtain rfl : k = 4 := by omega
      have HB := Lib.hid hb
      clear hb
      go_wp2_with fail
      go_ret
      exact ⟨rfl, HB.out⟩

end Go.Proofs.YtkmgcmgnaeamaaaGreatDoor

/- Contract: the library's slices.MinFunc at arrays of forty bytes. -/
namespace Go.Proofs.YtkmgcmgnaeamaaaGreatDoor
open Go.ChangeShapes Go.WideShapes Go.ChangeAt Go.RowKit

set_option linter.unusedVariables false

theorem compare_gr (x y : Lp) (w : World) :
    Calls Tryz.prog 32 #[.agg (arr x), .agg (arr y)] w fun e w' => e = .returned (.int .i64 (Lib.compareBytes x.1 y.1)) ∧ ∃ q os, w' = Sort.grow (w.drewN q) os :=
  (compare_any x y w).mono fun _ _ ⟨h1, q, h2⟩ => ⟨h1, q, #[.cells (arr x) 38, .cells (arr y) 38], by
    rw [h2, Sort.alloc_eq_grow, Sort.alloc_eq_grow, Sort.grow_grow]
    rfl⟩

def RowLp (w : World) (g : Nat) (L : List Lp) : Prop := ∀ j x, L[j]? = some x → ∀ i v, (encLp x)[i]? = some v → w.cell? ⟨g, j * 40 + i, none⟩ = some v

theorem RowLp.of {W : World} {B n g cap : Nat} {e : TypeId} {L : List Lp} (h : W.ownsRow B e 40 (.slice (some ⟨g, 0, none⟩) n cap) n (lpCells L)) (hn : L.length = n) : RowLp W g L := fun j x hx i v hv => by
  have h1 := lpCells_at L j x hx i v hv
  have h2 : j * 40 + i < n * 40 := by
    have a := (List.getElem?_eq_some_iff.1 hx).1
    have b := (List.getElem?_eq_some_iff.1 hv).1
    rw [encLp_len] at b
    omega
  rw [h.cellAt (j * 40 + i) h2]
  exact h1

theorem RowLp.below {W W' : World} {g m : Nat} {L : List Lp} (h : RowLp W g L) (hg : g < m) (hb : Below m W W') : RowLp W' g L := fun j x hx i v hv => by
  rw [hb.cell (p := ⟨g, j * 40 + i, none⟩) hg]
  exact h j x hx i v hv

theorem RowLp.load {W : World} {g : Nat} {L : List Lp} (h : RowLp W g L) {j : Nat} {x : Lp} (hx : L[j]? = some x) {K : Nat} (hK : K = 40) : Sem.run Tryz.prog (loadCellsFrom ⟨g, j * K, none⟩ 0 K #[]) W = .ok (arr x) W := by
  subst hK
  exact lp_load W g (j * 40) x fun i v hv => h j x hx i v hv

theorem RowLp.set {W : World} {g b : Nat} {L : List Lp} (h : RowLp W g L) (A : Array Value) (hne : b ≠ g) : RowLp (W.setRow b A) g L := fun j x hx i v hv => by
  rw [show (W.setRow b A).cell? ⟨g, j * 40 + i, none⟩ = W.cell? ⟨g, j * 40 + i, none⟩ by simp [World.cell?, World.setRow, Array.getElem?_modify, hne]]
  exact h j x hx i v hv

theorem below_gr {W : World} {m : Nat} (hm : m ≤ W.heap.size) (q : Nat) (os : Array Obj) : Below m W (Sort.grow (W.drewN q) os) :=
  ⟨rfl, rfl, rfl, by rw [Sort.size_grow]; exact Nat.le_add_right _ _, fun k hk => Sort.heap_grow_old (W.drewN q) os (show k < (W.drewN q).heap.size from Nat.lt_of_lt_of_le hk hm)⟩

/-- The first one of those that none comes before. -/
def mnL (m : Lp) (xs : List Lp) : Lp := xs.foldl (fun m y => if y.1 < m.1 then y else m) m

theorem mnL_snoc (m y : Lp) (xs : List Lp) : mnL m (xs ++ [y]) = if y.1 < (mnL m xs).1 then y else mnL m xs := by
  unfold mnL
  rw [List.foldl_append]
  rfl

theorem cmp_neg (x y : Lp) : (decide (Lib.compareBytes x.1 y.1 < 0)) = decide (x.1 < y.1) := by
  by_cases h : x.1 < y.1
  · rw [decide_eq_true h, decide_eq_true ((cmpB_lt _ _).2 h)]
  · rw [decide_eq_false h, decide_eq_false (fun h2 => h ((cmpB_lt _ _).1 h2))]

end Go.Proofs.YtkmgcmgnaeamaaaGreatDoor

/- Arrays of forty bytes compared: '==' of the model. -/
namespace Go.Proofs.YtkmgcmgnaeamaaaGreatDoor
open Go.ChangeShapes Go.WideShapes Go.ChangeAt Go.RowKit

def eqL (x y : Lp) : Bool := x.1 == y.1

theorem eqL_iff (x y : Lp) : eqL x y = true ↔ x = y := by
  simp only [eqL, beq_iff_eq]
  exact ⟨fun h => Subtype.ext h, fun h => by rw [h]⟩

theorem u8Plain : Tryz.prog.plainKey 5 = true := by kernel_rfl

theorem u8One : Tryz.prog.cellsOf 5 = 1 := by kernel_rfl

theorem byV_eq (a b : UInt8) : ((a.toNat : Int) == (b.toNat : Int)) = (a == b) := by
  by_cases h : a = b
  · subst h; simp
  · have h2 : ¬ (a.toNat : Int) = (b.toNat : Int) := fun e => h (UInt8.toNat_inj.1 (by omega))
    rw [beq_eq_false_iff_ne.2 h, beq_eq_false_iff_ne.2 h2]

theorem arr_at (x : Lp) (i : Nat) (hi : i < 40) : (arr x)[i]? = some (.int .u8 ((x.1.getD i 0).toNat : Int)) := by
  have h : i < x.1.length := by rw [x.2]; exact hi
  simp [arr, encLp, byV, List.getD, h]

theorem run_items (W : World) (d : Nat) (x y : Lp) : ∀ is : List Nat, (∀ i ∈ is, i < 40) → (Op.eqItems (d + 1) 5 1 (arr x) (arr y) is).run Tryz.prog W = .ok (is.all fun i => x.1.getD i 0 == y.1.getD i 0) W
  | [], _ => rfl
  | i :: is, h => by
    have hi := h i (by simp)
    have p1 := run_part_plain W u8Plain (arr_at x i hi)
    have p2 := run_part_plain W u8Plain (arr_at y i hi)
    have p3 := run_equalIn_int (P := Tryz.prog) W d 5 .u8 .u8 ((x.1.getD i 0).toNat : Int) ((y.1.getD i 0).toNat : Int) Tryz.underlying5
    have ih := run_items W d x y is (fun j hj => h j (by simp [hj]))
    rw [byV_eq] at p3
    simp only [Op.eqItems, Sem.run_bind, Nat.mul_one, p1, p2, p3, Result.andThen_ok, List.all_cons]
    cases hq : (x.1.getD i 0 == y.1.getD i 0)
    · rfl
    · rw [Bool.true_and]; exact ih

theorem all_eq (x y : Lp) : ((List.range 40).all fun i => x.1.getD i 0 == y.1.getD i 0) = eqL x y := by
  rw [Bool.eq_iff_iff, eqL_iff]
  simp only [List.all_eq_true, List.mem_range, beq_iff_eq]
  constructor
  · intro h
    apply Subtype.ext
    apply List.ext_getElem (by rw [x.2, y.2])
    intro i h1 h2
    have := h i (by rw [← x.2]; exact h1)
    simpa [List.getD, h1, h2] using this
  · rintro rfl i _; rfl

theorem eqlLp : EqlAt Tryz.prog 38 (fun x => .agg (encLp x).toArray) eqL := by
  refine ⟨fun x y w => ?_, GuardAt.agg _ (by kernel_rfl)⟩
  have hu : Tryz.prog.underlying 38 = some (.array 40 5) := lpUnder
  have h := run_items w 9998 x y (List.range 40) (fun i hi => by simpa using hi)
  rw [all_eq] at h
  cases hq : Tryz.prog.info? 5 with
  | none =>
    have h : (Tryz.prog.info? 5).isSome = true := by kernel_rfl
    rw [hq] at h
    cases h
  | some i =>
    have hr := run_equalIn_array w 9999 (arr x) (arr y) hu hq
    rw [u8One, h] at hr
    show (binOp .eql 38 (.agg (arr x)) (.agg (arr y))).run Tryz.prog w = _
    rw [run_eql_struct, show (10000 : Nat) = 9999 + 1 from rfl, hr]
    rfl

theorem eql_run (x y : Lp) (w : World) : (binOp .eql 38 (.agg (arr x)) (.agg (arr y))).run Tryz.prog w = .ok (.bool (eqL x y)) w := eqlLp.1 x y w

theorem neq_run (x y : Lp) (w : World) : (binOp .neq 38 (.agg (arr x)) (.agg (arr y))).run Tryz.prog w = .ok (.bool (!eqL x y)) w := by
  have h : (binOp .eql 38 (.agg (arr x)) (.agg (arr y))).run Tryz.prog w = .ok (.bool (eqL x y)) w := eqlLp.1 x y w
  rw [run_eql_struct] at h
  rw [run_neq_struct]
  obtain ⟨r, hr⟩ : ∃ r, (Op.equalIn 10000 38 (.agg (arr x)) (.agg (arr y))).run Tryz.prog w = r := ⟨_, rfl⟩
  rw [hr] at h ⊢
  cases r with
  | ok b w' =>
    simp only [Result.andThen_ok, Result.ok.injEq, Value.bool.injEq] at h ⊢
    obtain ⟨rfl, rfl⟩ := h
    exact ⟨rfl, rfl⟩
  | _ => simp [Result.andThen] at h

end Go.Proofs.YtkmgcmgnaeamaaaGreatDoor

/- Contracts of the program: the array of a ring; least rings, periods. -/
namespace Go.Proofs.YtkmgcmgnaeamaaaGreatDoor
open Go.ChangeShapes Go.WideShapes Go.ChangeAt Go.RowKit

set_option linter.unusedVariables false

def loL (s : ByteArray) : Lp := cond (clB s) (mkLp s.data.toList) zLp

theorem ofL_data (s : ByteArray) : ofL s.data.toList = s := by cases s; rfl

/-- The array of a text without zeros is that of no other. -/
theorem mk_val {l : List UInt8} (hl : l.length ≤ 40) : (mkLp l).1 = l ++ List.replicate (40 - l.length) 0 := by
  simp only [mkLp]
  rw [List.take_append, List.take_of_length_le hl, List.take_replicate]
  congr 2
  omega

theorem mk_inj {a b : List UInt8} (ha : a.length ≤ 40) (hl : a.length = b.length) (h : mkLp a = mkLp b) : a = b := by
  have h1 := congrArg Subtype.val h
  rw [mk_val ha, mk_val (by omega), hl] at h1
  exact List.append_cancel_right h1

theorem mk_lt {a b : List UInt8} (ha : a.length ≤ 40) (hl : a.length = b.length) : (mkLp a).1 < (mkLp b).1 ↔ a < b := by
  rw [mk_val ha, mk_val (by omega), hl]
  generalize List.replicate (40 - b.length) (0 : UInt8) = z
  clear ha
  induction a generalizing b with
  | nil =>
    have : b = [] := List.eq_nil_of_length_eq_zero (by simpa using hl.symm)
    subst this
    simp [lt_irr]
  | cons x a ih =>
    cases b with
    | nil => simp at hl
    | cons y b =>
      simp only [List.cons_append, List.cons_lt_cons_iff, ih (by simpa using hl)]

theorem mnL_mk (m : List UInt8) (xs : List (List UInt8)) (hm : m.length ≤ 40) (hx : ∀ x ∈ xs, x.length = m.length) : mnL (mkLp m) (xs.map mkLp) = mkLp (mn m xs) := by
  induction xs generalizing m with
  | nil => rfl
  | cons y ys ih =>
    have hy := hx y (by simp)
    rw [List.map_cons, mn_cons]
    show mnL (if (mkLp y).1 < (mkLp m).1 then mkLp y else mkLp m) (ys.map mkLp) = _
    by_cases h : y < m
    · rw [if_pos h, if_pos ((mk_lt (by omega) hy).2 h), ih y (by omega) (fun x hx' => by rw [hy]; exact hx x (by simp [hx']))]
    · rw [if_neg h, if_neg (fun h2 => h ((mk_lt (by omega) hy).1 h2)), ih m hm (fun x hx' => hx x (by simp [hx']))]

/-- The least one of the spun rings, in the program's order. -/
theorem least_rot1 {l : List UInt8} (h0 : 0 < l.length) : ∃ x xs, rot1 l = x :: xs ∧ mn x xs = leastL l := by
  cases hr : rot1 l with
  | nil => have := rot1_len l; rw [hr] at this; simp at this; omega
  | cons x xs =>
    refine ⟨x, xs, rfl, ?_⟩
    have hm : ∀ y, y ∈ x :: xs ↔ y ∈ l :: rotA l := fun y => by rw [← hr, rot1_mem h0, rot_cons h0]
    exact least_one hm (mn_mem _ _) (mn_mem _ _) (mn_le _ _) (mn_le _ _)

end Go.Proofs.YtkmgcmgnaeamaaaGreatDoor

/- The variants of a ring: how many, and which is the first. Nothing of the program. -/
namespace Go.Proofs.YtkmgcmgnaeamaaaGreatDoor
open Go.Lib

theorem bgr {w w' : World} (h : Go.RowKit.Below w.heap.size w w') : w.grownBy w' none := ⟨h.os, h.tape, h.output, h.size, fun k hk _ => h.block k hk⟩

instance : DecidableEq Lp := fun x y => decidable_of_iff (x.1 = y.1) ⟨fun h => Subtype.ext h, fun h => by rw [h]⟩

/-- As many pieces as come again: each spun one once. -/
def onceL (x : List UInt8) : List (List UInt8) := (rot1 x).take (perN x)

theorem spn_add {x : List UInt8} {i j : Nat} (h : i + j ≤ x.length) : spn (spn x i) j = spn x (i + j) := by
  rw [spn_spn x i j (by omega) (by omega), ← spn_mod x (i + j) h]

theorem spn_inj {x : List UInt8} {i j : Nat} (hi : i ≤ j) (hj : j ≤ x.length) (h : spn x i = spn x j) : spn x (j - i) = x := by
  -- turned back by what is left from i on
  have h1 : spn (spn x i) (x.length - i) = x := by rw [spn_add (by omega), show i + (x.length - i) = x.length by omega, spn_full]
  have h2 : spn (spn x j) (x.length - i) = spn x (j - i) := by
    rw [spn_spn x j _ hj (by omega), show j + (x.length - i) = x.length + (j - i) by omega, Nat.add_mod_left, ← spn_mod x (j - i) (by omega)]
  rw [← h2, ← h, h1]

theorem per_spec {x : List UInt8} (h0 : 0 < x.length) : spn x (perN x) = x ∧ ∀ j, 0 < j → j < perN x → spn x j ≠ x := by
  have hp := per_le h0
  have hl : (rot1 x).findIdx (· == x) < (rot1 x).length := by rw [rot1_len]; unfold perN at hp; omega
  have h1 := List.findIdx_getElem (p := (· == x)) (xs := rot1 x) (w := hl)
  refine ⟨?_, fun j hj hjp e => ?_⟩
  · simp only [rot1, List.getElem_map, List.getElem_range, beq_iff_eq] at h1
    exact h1
  · unfold perN at hjp
    have hlt : j - 1 < (rot1 x).findIdx (· == x) := by omega
    have := List.not_of_lt_findIdx hlt
    simp only [rot1, List.getElem_map, List.getElem_range, beq_eq_false_iff_ne, ne_eq] at this
    rw [show j - 1 + 1 = j by omega] at this
    exact this e

theorem once_len {x : List UInt8} (h0 : 0 < x.length) : (onceL x).length = perN x := by
  rw [onceL, List.length_take, rot1_len]
  exact Nat.min_eq_left (per_le h0)

theorem rot1_at {x : List UInt8} {i : Nat} {a : List UInt8} : (rot1 x)[i]? = some a ↔ i < x.length ∧ a = spn x (i + 1) := by
  by_cases hi : i < x.length
  · simp [rot1, hi, eq_comm]
  · simp [rot1, hi]

theorem once_at {x : List UInt8} {i : Nat} {a : List UInt8} (h : (onceL x)[i]? = some a) : i < perN x ∧ i < x.length ∧ a = spn x (i + 1) := by
  unfold onceL at h
  rw [List.getElem?_take] at h
  split at h <;> rename_i hi
  · exact ⟨hi, rot1_at.1 h⟩
  · cases h

theorem once_nodup {x : List UInt8} (h0 : 0 < x.length) : (onceL x).Nodup := by
  refine List.pairwise_iff_getElem.2 fun i j hi hj hij e => ?_
  obtain ⟨a1, a2, a3⟩ := once_at (List.getElem?_eq_getElem hi)
  obtain ⟨b1, b2, b3⟩ := once_at (List.getElem?_eq_getElem hj)
  rw [a3, b3] at e
  have := spn_inj (by omega) (by omega) e
  exact (per_spec h0).2 _ (by omega) (by omega) this

theorem spn_once {x : List UInt8} (h0 : 0 < x.length) : ∀ k, k ≤ x.length → ∃ j, 0 < j ∧ j ≤ perN x ∧ spn x k = spn x j := by
  intro k
  induction k using Nat.strongRecOn with
  | ind k ih =>
    intro hk
    have hp0 : 0 < perN x := by unfold perN; omega
    by_cases hz : k = 0
    · subst hz
      exact ⟨perN x, hp0, Nat.le_refl _, by rw [spn_zero, (per_spec h0).1]⟩
    by_cases hkp : k ≤ perN x
    · exact ⟨k, by omega, hkp, rfl⟩
    · obtain ⟨j, h1, h2, h3⟩ := ih (k - perN x) (by omega) (by omega)
      refine ⟨j, h1, h2, ?_⟩
      rw [← h3]
      have := spn_add (x := x) (i := perN x) (j := k - perN x) (by omega)
      rw [(per_spec h0).1, show perN x + (k - perN x) = k by omega] at this
      exact this.symm

theorem once_mem {x a : List UInt8} (h0 : 0 < x.length) : a ∈ onceL x ↔ orb x a := by
  constructor
  · intro h
    obtain ⟨i, hi⟩ := List.mem_iff_getElem?.1 h
    obtain ⟨_, h2, rfl⟩ := once_at hi
    exact ⟨i + 1, by omega, rfl⟩
  · rintro ⟨k, hk, rfl⟩
    obtain ⟨j, h1, h2, h3⟩ := spn_once h0 k hk
    have hj := per_le h0
    rw [h3, List.mem_iff_getElem?]
    refine ⟨j - 1, ?_⟩
    rw [onceL, List.getElem?_take, if_pos (by omega)]
    exact rot1_at.2 ⟨by omega, by rw [show j - 1 + 1 = j by omega]⟩

/-- One word more: told, and counted if its least one is new. -/
def vstep (s : List (List UInt8) × Nat) (x : List UInt8) : List (List UInt8) × Nat := if leastL x ∈ s.1 then s else (s.1 ++ [leastL x], s.2 + perN x)

def vfold (X : List (List UInt8)) : List (List UInt8) × Nat := X.foldl vstep ([], 0)

theorem vfold_snoc (X : List (List UInt8)) (x : List UInt8) : vfold (X ++ [x]) = vstep (vfold X) x := by simp [vfold]

def varN (l : List UInt8) : Nat := (vfold (four l)).2

structure Told (X : List (List UInt8)) (s : List (List UInt8) × Nat) (V : List (List UInt8)) : Prop where
  nodup : V.Nodup
  mem : ∀ a, a ∈ V ↔ ∃ x ∈ X, orb x a
  len : V.length = s.2
  firsts : ∀ f, f ∈ s.1 ↔ ∃ x ∈ X, leastL x = f

theorem told_step {X : List (List UInt8)} {s : List (List UInt8) × Nat} {V : List (List UInt8)} (h : Told X s V) {x : List UInt8} (h0 : 0 < x.length) (hX : ∀ y ∈ X, 0 < y.length) : ∃ V', Told (X ++ [x]) (vstep s x) V' := by
  unfold vstep
  by_cases hx : leastL x ∈ s.1
  · rw [if_pos hx]
    obtain ⟨y, hy, he⟩ := (h.firsts _).1 hx
    have hyx : orb y x := (leastL_iff (hX y hy) h0).1 he
    refine ⟨V, h.nodup, fun a => ?_, h.len, fun f => ?_⟩
    · rw [h.mem]
      constructor
      · rintro ⟨z, hz, ha⟩; exact ⟨z, by simp [hz], ha⟩
      · rintro ⟨z, hz, ha⟩
        rcases List.mem_append.1 hz with hz | hz
        · exact ⟨z, hz, ha⟩
        · have : z = x := by simpa using hz
          subst this
          exact ⟨y, hy, orb_trans hyx ha⟩
    · rw [h.firsts]
      constructor
      · rintro ⟨z, hz, ha⟩; exact ⟨z, by simp [hz], ha⟩
      · rintro ⟨z, hz, ha⟩
        rcases List.mem_append.1 hz with hz | hz
        · exact ⟨z, hz, ha⟩
        · have : z = x := by simpa using hz
          subst this
          exact ⟨y, hy, by rw [← ha, he]⟩
  · rw [if_neg hx]
    refine ⟨V ++ onceL x, ?_, fun a => ?_, ?_, fun f => ?_⟩
    · rw [List.nodup_append]
      refine ⟨h.nodup, once_nodup h0, fun a ha b hb e => ?_⟩
      subst e
      obtain ⟨y, hy, hya⟩ := (h.mem _).1 ha
      have hxa := (once_mem h0).1 hb
      exact hx ((h.firsts _).2 ⟨y, hy, leastL_eq (hX y hy) (orb_trans hya (orb_symm hxa))⟩)
    · rw [List.mem_append, h.mem, once_mem h0]
      constructor
      · rintro (⟨z, hz, ha⟩ | ha)
        · exact ⟨z, by simp [hz], ha⟩
        · exact ⟨x, by simp, ha⟩
      · rintro ⟨z, hz, ha⟩
        rcases List.mem_append.1 hz with hz | hz
        · exact .inl ⟨z, hz, ha⟩
        · have : z = x := by simpa using hz
          subst this
          exact .inr ha
    · rw [List.length_append, h.len, once_len h0]
    · show f ∈ s.1 ++ [leastL x] ↔ _
      rw [List.mem_append, h.firsts]
      constructor
      · rintro (⟨z, hz, ha⟩ | ha)
        · exact ⟨z, by simp [hz], ha⟩
        · exact ⟨x, by simp, (by simpa using ha : f = leastL x).symm⟩
      · rintro ⟨z, hz, ha⟩
        rcases List.mem_append.1 hz with hz | hz
        · exact .inl ⟨z, hz, ha⟩
        · have : z = x := by simpa using hz
          subst this
          exact .inr (by simp [ha])

theorem told_all : ∀ (Y X : List (List UInt8)) (s : List (List UInt8) × Nat) (V : List (List UInt8)), Told X s V → (∀ y ∈ X ++ Y, 0 < y.length) → ∃ V', Told (X ++ Y) (Y.foldl vstep s) V'
  | [], X, s, V, h, _ => ⟨V, by simpa using h⟩
  | y :: Y, X, s, V, h, hl => by
    obtain ⟨V', h'⟩ := told_step h (hl y (by simp)) (fun z hz => hl z (by simp [hz]))
    have := told_all Y (X ++ [y]) (vstep s y) V' h' (fun z hz => hl z (by simpa using hz))
    simpa using this

theorem told_fold (X : List (List UInt8)) (hl : ∀ y ∈ X, 0 < y.length) : ∃ V, Told X (vfold X) V := by
  have := told_all X [] ([], 0) [] ⟨List.nodup_nil, fun a => by simp, rfl, fun f => by simp⟩ (by simpa using hl)
  simpa [vfold] using this

/-- The variants of a ring, as arrays, in order. -/
structure IsVar (l : List UInt8) (V : List Lp) : Prop where
  sorted : V.Pairwise fun x y => x.1 < y.1
  mem : ∀ y, y ∈ V ↔ ∃ x ∈ four l, ∃ a, orb x a ∧ y = mkLp a

theorem IsVar.len {l : List UInt8} {V : List Lp} (h : IsVar l V) (h0 : 0 < l.length) (h40 : l.length ≤ 40) : V.length = varN l := by
  obtain ⟨W, hW⟩ := told_fold (four l) (fun y hy => by rw [four_len hy]; exact h0)
  have hlm : W.length = (W.map mkLp).length := by simp
  rw [varN, ← hW.len, hlm]
  refine List.Perm.length_eq ((List.perm_ext_iff_of_nodup ?_ ?_).2 fun y => ?_)
  · exact h.sorted.imp (fun {a b} hab e => by subst e; exact lt_irr _ hab)
  · refine List.Pairwise.map mkLp (fun a b h => h) (List.Pairwise.imp_of_mem (fun {a b} ha hb hne e => hne ?_) hW.nodup)
    obtain ⟨x, hx, hxa⟩ := (hW.mem a).1 ha
    obtain ⟨y, hy, hyb⟩ := (hW.mem b).1 hb
    exact mk_inj (by rw [orb_len hxa, four_len hx]; exact h40) (by rw [orb_len hxa, orb_len hyb, four_len hx, four_len hy]) e
  · rw [h.mem, List.mem_map]
    constructor
    · rintro ⟨x, hx, a, ha, rfl⟩; exact ⟨a, (hW.mem a).2 ⟨x, hx, ha⟩, rfl⟩
    · rintro ⟨a, ha, rfl⟩
      obtain ⟨x, hx, hxa⟩ := (hW.mem a).1 ha
      exact ⟨x, hx, a, hxa, rfl⟩

theorem class_spec {l : List UInt8} (h0 : 0 < l.length) : (∃ x ∈ four l, orb x (classL l)) ∧ ∀ x ∈ four l, ∀ a, orb x a → ¬ a < classL l := by
  have hp : ∀ x ∈ four l, 0 < x.length := fun x hx => by rw [four_len hx]; exact h0
  constructor
  · have hm := mn_mem ((four l).map leastL) l
    rcases List.mem_cons.1 hm with e | e
    · exact ⟨l, by simp [four], by rw [classL, e]; exact orb_refl l⟩
    · obtain ⟨x, hx, e⟩ := List.mem_map.1 e
      exact ⟨x, hx, by rw [classL, ← e]; exact leastL_orb (hp x hx)⟩
  · intro x hx a ha hlt
    have h1 := leastL_le (hp x hx) ha
    have h2 := mn_le ((four l).map leastL) l (leastL x) (List.mem_cons_of_mem _ (List.mem_map_of_mem hx))
    rcases lt_tri (leastL x) a with g | g | g
    · exact h2 (lt_trn g hlt)
    · subst g; exact h2 hlt
    · exact h1 g

theorem class_len {l : List UInt8} (h0 : 0 < l.length) : (classL l).length = l.length := by
  obtain ⟨x, hx, h⟩ := (class_spec h0).1
  rw [orb_len h, four_len hx]

theorem IsVar.first {l : List UInt8} {V : List Lp} (h : IsVar l V) (h0 : 0 < l.length) (h40 : l.length ≤ 40) : V[0]? = some (mkLp (classL l)) := by
  obtain ⟨⟨x, hx, hc⟩, hle⟩ := class_spec h0
  have hmem := (h.mem _).2 ⟨x, hx, _, hc, rfl⟩
  cases V with
  | nil => simp at hmem
  | cons v V =>
    rw [List.getElem?_cons_zero]
    rcases List.mem_cons.1 hmem with e | e
    · rw [e]
    · exfalso
      have hlt := List.rel_of_pairwise_cons h.sorted e
      obtain ⟨y, hy, a, ha, rfl⟩ := (h.mem v).1 (by simp)
      have hla : a.length = l.length := by rw [orb_len ha, four_len hy]
      have hlc := class_len h0
      exact hle y hy a ha ((mk_lt (by omega) (by omega)).1 hlt)

/-- A sorted row, compacted: each of its elements once, in order. -/
theorem compact_mem {α : Type} [Inhabited α] [DecidableEq α] (d : Array α) (x : α) : ∀ m, x ∈ compactUpTo d m ↔ ∃ j, j < m ∧ d[j]! = x
  | 0 => by simp [compactUpTo]
  | m + 1 => by
    have ih := compact_mem d x m
    rw [compactUpTo_succ, List.mem_append, ih]
    constructor
    · rintro (⟨j, hj, e⟩ | h)
      · exact ⟨j, by omega, e⟩
      · split at h
        · exact ⟨m, by omega, (by simpa using h : x = d[m]!).symm⟩
        · simp at h
    · rintro ⟨j, hj, e⟩
      by_cases hjm : j = m
      · subst hjm
        by_cases hk : keeps d j = true
        · right; rw [if_pos hk]; simp [e]
        · left
          simp only [keeps, decide_eq_true_eq, not_or, ne_eq, Decidable.not_not] at hk
          exact ⟨j - 1, by omega, by rw [← hk.2, e]⟩
      · exact .inl ⟨j, by omega, e⟩

theorem compact_sorted (d : Array Lp) (hd : ∀ i j, i < j → j < d.size → ¬ d[j]!.1 < d[i]!.1) : ∀ m, m ≤ d.size → (compactUpTo d m).Pairwise fun x y => x.1 < y.1
  | 0, _ => by simp [compactUpTo]
  | m + 1, hm => by
    rw [compactUpTo_succ]
    by_cases hk : keeps d m = true
    · rw [if_pos hk, List.pairwise_append]
      refine ⟨compact_sorted d hd m (by omega), by simp, fun x hx y hy => ?_⟩
      have hy : y = d[m]! := by simpa using hy
      subst hy
      obtain ⟨j, hj, rfl⟩ := (compact_mem d x m).1 hx
      simp only [keeps, decide_eq_true_eq] at hk
      have hne : d[m]! ≠ d[m - 1]! := by rcases hk with h | h; omega; exact h
      have h1 := hd (m - 1) m (by omega) (by omega)
      have h2 : d[m - 1]!.1 < d[m]!.1 := by
        rcases lt_tri d[m - 1]!.1 d[m]!.1 with g | g | g
        · exact g
        · exact absurd (Subtype.ext g).symm hne
        · exact absurd g h1
      by_cases hjm : j = m - 1
      · rw [hjm]; exact h2
      · have h3 := hd j (m - 1) (by omega) (by omega)
        rcases lt_tri d[j]!.1 d[m - 1]!.1 with g | g | g
        · exact lt_trn g h2
        · rw [g]; exact h2
        · exact absurd g h3
    · rw [if_neg hk, List.append_nil]
      exact compact_sorted d hd m (by omega)

end Go.Proofs.YtkmgcmgnaeamaaaGreatDoor

/- Rings spun, mirrored and laid backward are rings; classes; the first ones of all classes. Nothing of the program. -/
namespace Go.Proofs.YtkmgcmgnaeamaaaGreatDoor

set_option linter.unusedSimpArgs false
set_option linter.unusedVariables false

theorem mir_ltrA {c : UInt8} (h : c ∈ ltr) : mir c ∈ ltr := by
  simp only [ltr, List.mem_cons, List.not_mem_nil, or_false] at h
  rcases h with rfl | rfl | rfl <;> decide

theorem mir_mirA {c : UInt8} (h : c ∈ ltr) : mir (mir c) = c := by
  simp only [ltr, List.mem_cons, List.not_mem_nil, or_false] at h
  rcases h with rfl | rfl | rfl <;> decide

theorem words_iffA : ∀ (n : Nat) (w : List UInt8), w ∈ words n ↔ w.length = n ∧ ∀ c ∈ w, c ∈ ltr
  | 0, w => by
    simp only [words, List.mem_cons, List.not_mem_nil, or_false, List.length_eq_zero_iff]
    constructor
    · rintro rfl; simp
    · exact fun h => h.1
  | n + 1, [] => by simp [words_cons]
  | n + 1, c :: w => by
    rw [words_cons]
    simp only [List.mem_flatMap, List.mem_map, List.cons.injEq, List.length_cons, Nat.add_right_cancel_iff, List.mem_cons, forall_eq_or_imp]
    constructor
    · rintro ⟨d, hd, u, hu, rfl, rfl⟩
      have := (words_iffA n u).1 hu
      exact ⟨this.1, hd, this.2⟩
    · rintro ⟨h1, h2, h3⟩
      exact ⟨c, h2, w, (words_iffA n w).2 ⟨h1, h3⟩, rfl, rfl⟩

theorem cls_iffA {n : Nat} {w : List UInt8} : w ∈ clsL sp0 n ↔ (w.length = n ∧ ∀ c ∈ w, c ∈ ltr) ∧ fin sp0 w = sp0 := by
  rw [clsL, List.mem_filter, words_iffA, spE_iff]

theorem fin_hd (l : List UInt8) : 0 ≤ (fin sp0 l).h ∧ (fin sp0 l).h ≤ 7 := by
  have h := fin_ok sp0_ok l
  simp only [Sp.okB] at h
  exact ⟨h.2.2.2.2.1, h.2.2.2.2.2⟩

theorem wayB_hd (a : Sp) (k0 : 0 ≤ a.h) (k7 : a.h ≤ 7) : 0 ≤ (wayB a).h ∧ (wayB a).h ≤ 7 := by
  simp only [wayB]; omega

theorem wayB_wayB (a : Sp) (k0 : 0 ≤ a.h) (k7 : a.h ≤ 7) : wayB (wayB a) = a := by
  obtain ⟨a0, a1, a2, a3, a4⟩ := a
  simp only at k0 k7
  have e8 : a4 = 0 ∨ a4 = 1 ∨ a4 = 2 ∨ a4 = 3 ∨ a4 = 4 ∨ a4 = 5 ∨ a4 = 6 ∨ a4 = 7 := by omega
  rcases e8 with rfl | rfl | rfl | rfl | rfl | rfl | rfl | rfl <;> simp [wayB, tu0, tu1, tu2, tu3]

theorem spn_letters {w : List UInt8} (h : ∀ c ∈ w, c ∈ ltr) (k : Nat) : ∀ c ∈ spn w k, c ∈ ltr := fun c hc => by
  simp only [spn, List.mem_append] at hc
  rcases hc with hc | hc
  · exact h c (List.mem_of_mem_drop hc)
  · exact h c (List.mem_of_mem_take hc)

theorem cls_spn {n : Nat} {w : List UInt8} (h : w ∈ clsL sp0 n) (k : Nat) : spn w k ∈ clsL sp0 n := by
  rw [cls_iffA] at h ⊢
  refine ⟨⟨by rw [spn_len, h.1.1], spn_letters h.1.2 k⟩, ?_⟩
  have h1 := h.2
  rw [← List.take_append_drop k w, fin_append] at h1
  obtain ⟨b0, b7⟩ := fin_hd (w.take k)
  have h2 := (fin_back _ b0 b7 _).1 h1
  obtain ⟨c0, c7⟩ := wayB_hd _ b0 b7
  rw [spn, fin_append, h2]
  exact (fin_back _ c0 c7 _).2 (wayB_wayB _ b0 b7).symm

def aroundA (s : Sp) : Sp := ⟨s.x0, s.x1, s.x2, s.x3, (s.h + 4) % 8⟩

def hdsA : List Int := [0, 1, 2, 3, 4, 5, 6, 7]

theorem hdsA_mem {h : Int} (h0 : 0 ≤ h) (h7 : h ≤ 7) : h ∈ hdsA := by
  have e : h = 0 ∨ h = 1 ∨ h = 2 ∨ h = 3 ∨ h = 4 ∨ h = 5 ∨ h = 6 ∨ h = 7 := by omega
  rcases e with rfl | rfl | rfl | rfl | rfl | rfl | rfl | rfl <;> simp [hdsA]

theorem step_backA8 : ∀ c ∈ ltr, ∀ h ∈ hdsA, dd0 c h + dd0 (mir c) ((nh c h + 4) % 8) = 0 ∧ dd1 c h + dd1 (mir c) ((nh c h + 4) % 8) = 0 ∧ dd2 c h + dd2 (mir c) ((nh c h + 4) % 8) = 0 ∧ dd3 c h + dd3 (mir c) ((nh c h + 4) % 8) = 0 ∧ nh (mir c) ((nh c h + 4) % 8) = (h + 4) % 8 := by decide +kernel

theorem fin_backA : ∀ (l : List UInt8) (s : Sp), (∀ c ∈ l, c ∈ ltr) → 0 ≤ s.h → s.h ≤ 7 → fin (aroundA (fin s l)) (bak l) = aroundA s
  | [], s, _, _, _ => rfl
  | c :: l, s, hl, h0, h7 => by
    have hc := hl c (by simp)
    have hb := nh_bd c s.h h0 h7
    have ih := fin_backA l (s.next c) (fun d hd => hl d (by simp [hd])) hb.1 hb.2
    have e : bak (c :: l) = bak l ++ [mir c] := by simp [bak]
    rw [e, fin_cons, fin_snoc, ih]
    obtain ⟨e0, e1, e2, e3, e4⟩ := step_backA8 c hc s.h (hdsA_mem h0 h7)
    simp only [aroundA, Sp.next, Sp.mk.injEq]
    exact ⟨by omega, by omega, by omega, by omega, e4⟩

theorem cls_bak {n : Nat} {w : List UInt8} (h : w ∈ clsL sp0 n) : bak w ∈ clsL sp0 n := by
  rw [cls_iffA] at h ⊢
  refine ⟨⟨by rw [bak_len, h.1.1], fun c hc => ?_⟩, ?_⟩
  · simp only [bak, List.mem_reverse, List.mem_map] at hc
    obtain ⟨d, hd, rfl⟩ := hc
    exact mir_ltrA (h.1.2 d hd)
  · have e := fin_backA w sp0 h.1.2 (by decide) (by decide)
    rw [h.2, fin_rot (aroundA sp0) (by decide) (by decide)] at e
    obtain ⟨c0, c7⟩ := fin_hd (bak w)
    generalize fin sp0 (bak w) = v at *
    obtain ⟨v0, v1, v2, v3, v4⟩ := v
    simp only at c0 c7
    simp [rot, aroundA, sp0, tu0, tu1, tu2, tu3] at e ⊢
    omega

def cj (s : Sp) : Sp := ⟨s.x0, -s.x3, -s.x2, -s.x1, (8 - s.h) % 8⟩

theorem step_cj8 : ∀ c ∈ ltr, ∀ h ∈ hdsA, dd0 (mir c) ((8 - h) % 8) = dd0 c h ∧ dd1 (mir c) ((8 - h) % 8) = -dd3 c h ∧ dd2 (mir c) ((8 - h) % 8) = -dd2 c h ∧ dd3 (mir c) ((8 - h) % 8) = -dd1 c h ∧ nh (mir c) ((8 - h) % 8) = (8 - nh c h) % 8 := by decide +kernel

theorem fin_cj : ∀ (l : List UInt8) (s : Sp), (∀ c ∈ l, c ∈ ltr) → 0 ≤ s.h → s.h ≤ 7 → fin (cj s) (l.map mir) = cj (fin s l)
  | [], s, _, _, _ => rfl
  | c :: l, s, hl, h0, h7 => by
    have hb := nh_bd c s.h h0 h7
    have ih := fin_cj l (s.next c) (fun d hd => hl d (by simp [hd])) hb.1 hb.2
    rw [List.map_cons, fin_cons, fin_cons, ← ih]
    congr 1
    obtain ⟨e0, e1, e2, e3, e4⟩ := step_cj8 c (hl c (by simp)) s.h (hdsA_mem h0 h7)
    simp only [cj, Sp.next, Sp.mk.injEq]
    exact ⟨by omega, by omega, by omega, by omega, e4⟩

theorem cls_mir {n : Nat} {w : List UInt8} (h : w ∈ clsL sp0 n) : w.map mir ∈ clsL sp0 n := by
  rw [cls_iffA] at h ⊢
  refine ⟨⟨by rw [List.length_map, h.1.1], fun c hc => ?_⟩, ?_⟩
  · obtain ⟨d, hd, rfl⟩ := List.mem_map.1 hc
    exact mir_ltrA (h.1.2 d hd)
  · have e := fin_cj w sp0 h.1.2 (by decide) (by decide)
    rw [h.2] at e
    exact e

theorem cls_four {n : Nat} {w : List UInt8} (h : w ∈ clsL sp0 n) : ∀ x ∈ four w, x ∈ clsL sp0 n := fun x hx => by
  simp only [four, List.mem_cons, List.not_mem_nil, or_false] at hx
  rcases hx with rfl | rfl | rfl | rfl
  · exact h
  · exact cls_mir h
  · exact cls_bak h
  · exact cls_mir (cls_bak h)

/-- Of one class: spun, mirrored, laid backward. -/
def kin (a y : List UInt8) : Prop := ∃ x ∈ four a, orb x y

theorem cls_kin {n : Nat} {a y : List UInt8} (h : a ∈ clsL sp0 n) (hk : kin a y) : y ∈ clsL sp0 n := by
  obtain ⟨x, hx, k, _, rfl⟩ := hk
  exact cls_spn (cls_four h x hx) k

def ac (p q : Bool) (l : List UInt8) : List UInt8 := cond q (cond p (l.map mir) l).reverse (cond p (l.map mir) l)

def lett (l : List UInt8) : Prop := ∀ c ∈ l, c ∈ ltr

theorem lett_mm {l : List UInt8} (h : lett l) : (l.map mir).map mir = l := by
  rw [List.map_map]
  conv => rhs; rw [← List.map_id l]
  exact List.map_congr_left fun c hc => mir_mirA (h c hc)

theorem ac_ac {l : List UInt8} (h : lett l) (p q p' q' : Bool) : ac p' q' (ac p q l) = ac (p != p') (q != q') l := by
  have hm := lett_mm h
  cases p <;> cases q <;> cases p' <;> cases q' <;> simp [ac, hm]

theorem kin_ac {a y : List UInt8} (h : lett a) : kin a y ↔ ∃ p q, orb (ac p q a) y := by
  have hr : (bak a).map mir = a.reverse := by rw [bak, List.map_reverse, lett_mm h]
  constructor
  · rintro ⟨x, hx, ho⟩
    simp only [four, List.mem_cons, List.not_mem_nil, or_false] at hx
    rcases hx with rfl | rfl | rfl | rfl
    · exact ⟨false, false, ho⟩
    · exact ⟨true, false, ho⟩
    · exact ⟨true, true, ho⟩
    · rw [hr] at ho; exact ⟨false, true, ho⟩
  · rintro ⟨p, q, ho⟩
    cases p <;> cases q
    · exact ⟨a, by simp [four], ho⟩
    · exact ⟨(bak a).map mir, by simp [four], by rw [hr]; exact ho⟩
    · exact ⟨a.map mir, by simp [four], ho⟩
    · exact ⟨bak a, by simp [four], ho⟩

theorem orb_map {a x : List UInt8} (h : orb a x) : orb (a.map mir) (x.map mir) := by
  obtain ⟨k, hk, rfl⟩ := h
  exact ⟨k, by rw [List.length_map]; exact hk, by simp [spn, List.map_drop, List.map_take]⟩

theorem orb_rev {a x : List UInt8} (h : orb a x) : orb a.reverse x.reverse := by
  obtain ⟨k, hk, rfl⟩ := h
  refine ⟨a.length - k, by rw [List.length_reverse]; omega, ?_⟩
  simp only [spn, List.reverse_append]
  rw [List.drop_reverse, List.take_reverse]
  rw [show a.length - (a.length - k) = k by omega]

theorem orb_ac {a x : List UInt8} (h : orb a x) (p q : Bool) : orb (ac p q a) (ac p q x) := by
  cases p <;> cases q
  · exact h
  · exact orb_rev h
  · exact orb_map h
  · exact orb_rev (orb_map h)

theorem lett_ac {a : List UInt8} (h : lett a) (p q : Bool) : lett (ac p q a) := fun c hc => by
  have hm : ∀ c ∈ a.map mir, c ∈ ltr := fun c hc => by obtain ⟨d, hd, rfl⟩ := List.mem_map.1 hc; exact mir_ltrA (h d hd)
  cases p <;> cases q
  · exact h c hc
  · exact h c (List.mem_reverse.1 hc)
  · exact hm c hc
  · exact hm c (List.mem_reverse.1 hc)

theorem lett_orb {a x : List UInt8} (h : lett a) (ho : orb a x) : lett x := by obtain ⟨k, _, rfl⟩ := ho; exact spn_letters h k

theorem kin_lett {a y : List UInt8} (h : lett a) (hk : kin a y) : lett y := by
  obtain ⟨p, q, ho⟩ := (kin_ac h).1 hk
  exact lett_orb (lett_ac h p q) ho

theorem kin_refl (a : List UInt8) : kin a a := ⟨a, by simp [four], orb_refl a⟩

theorem kin_sym {a y : List UInt8} (h : lett a) (hk : kin a y) : kin y a := by
  obtain ⟨p, q, ho⟩ := (kin_ac h).1 hk
  have h2 := orb_ac ho p q
  rw [ac_ac h] at h2
  have e : ac (p != p) (q != q) a = a := by cases p <;> cases q <;> rfl
  rw [e] at h2
  exact (kin_ac (kin_lett h hk)).2 ⟨p, q, orb_symm h2⟩

theorem kin_trans {a x y : List UInt8} (h : lett a) (h1 : kin a x) (h2 : kin x y) : kin a y := by
  obtain ⟨p, q, ho⟩ := (kin_ac h).1 h1
  obtain ⟨p', q', ho'⟩ := (kin_ac (kin_lett h h1)).1 h2
  have h3 := orb_ac ho p' q'
  rw [ac_ac h] at h3
  exact (kin_ac h).2 ⟨_, _, orb_trans h3 ho'⟩

theorem class_kin {l : List UInt8} (h0 : 0 < l.length) : kin l (classL l) ∧ ∀ a, kin l a → ¬ a < classL l := by
  obtain ⟨h1, h2⟩ := class_spec h0
  exact ⟨h1, fun a ⟨x, hx, ho⟩ => h2 x hx a ho⟩

/-- The texts of n pieces come in order. -/
theorem words_lt : ∀ n, (words n).Pairwise fun a b => a < b
  | 0 => by simp [words]
  | n + 1 => by
    rw [words_cons, List.pairwise_flatMap]
    constructor
    · intro c _
      exact List.Pairwise.map _ (fun a b h => List.cons_lt_cons_iff.2 (.inr ⟨rfl, h⟩)) (words_lt n)
    · have hl : ltr.Pairwise fun a b => a < b := by decide
      refine hl.imp fun {a b} hab x hx y hy => ?_
      obtain ⟨u, _, rfl⟩ := List.mem_map.1 hx
      obtain ⟨v, _, rfl⟩ := List.mem_map.1 hy
      exact List.cons_lt_cons_iff.2 (.inl hab)

theorem cls_lt (a : Sp) (n : Nat) : (clsL a n).Pairwise fun a b => a < b := (words_lt n).filter _

def isFst (r : List UInt8) : Bool := decide (classL r = r)

/-- The first ones of all classes of rings of n pieces, in order. -/
def acL (n : Nat) : List (List UInt8) := (clsL sp0 n).filter isFst

/-- A ring is of a class that has been told if and only if it is not its class's first one. -/
theorem told_iff {n j : Nat} (hn : 0 < n) {r : List UInt8} (hr : (clsL sp0 n)[j]? = some r) : (∃ i x, i < j ∧ (clsL sp0 n)[i]? = some x ∧ kin x r) ↔ isFst r = false := by
  have hm := List.mem_of_getElem? hr
  have hi := cls_iffA.1 hm
  have h0 : 0 < r.length := by rw [hi.1.1]; exact hn
  obtain ⟨c1, c2⟩ := class_kin h0
  have hp := List.pairwise_iff_getElem.1 (cls_lt sp0 n)
  obtain ⟨hj, ej⟩ := List.getElem?_eq_some_iff.1 hr
  simp only [isFst, decide_eq_false_iff_not]
  constructor
  · rintro ⟨i, x, hij, hx, hk⟩ e
    obtain ⟨hi', ei⟩ := List.getElem?_eq_some_iff.1 hx
    have hlt := hp i j hi' hj hij
    rw [ei, ej] at hlt
    have hxm := cls_iffA.1 (List.mem_of_getElem? hx)
    refine c2 x (kin_sym hxm.1.2 hk) ?_
    rw [e]
    exact hlt
  · intro hne
    have hcm := cls_kin hm c1
    obtain ⟨i, hi2⟩ := List.mem_iff_getElem?.1 hcm
    obtain ⟨hi', ei⟩ := List.getElem?_eq_some_iff.1 hi2
    refine ⟨i, classL r, ?_, hi2, kin_sym hi.1.2 c1⟩
    rcases Nat.lt_trichotomy i j with h | h | h
    · exact h
    · subst h
      rw [hr] at hi2
      simp only [Option.some.injEq] at hi2
      exact absurd hi2.symm hne
    · have hlt := hp j i hj hi' h
      rw [ei, ej] at hlt
      exact absurd hlt (c2 r (kin_refl r))

end Go.Proofs.YtkmgcmgnaeamaaaGreatDoor
