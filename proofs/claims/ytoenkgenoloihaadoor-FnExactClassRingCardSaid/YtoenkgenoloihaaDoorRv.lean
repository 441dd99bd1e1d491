/- Contract: the library's slices.Reverse at bytes. -/
import Derived.Test.YtoenkgenoloihaaDoorTkMj
import Derived.Shelf.SlicesE.Reverse
namespace Go.Proofs.YtoenkgenoloihaaDoor
open Go.ChangeShapes Go.WideShapes Go.ChangeAt Go.RowKit

def rvRen : Go.Shelf.Ren := ⟨fun | 35 => 100 | n => n, fun | 0 => 0 | 3 => 3 | 4 => 4 | 22 => 77 | 23 => 5 | n => n, fun | n => n⟩

theorem rvLays : Go.Proofs.SlLaysE.n35 Tryd.prog rvRen := {
  mixed := by kernel_rfl
  f35 := ⟨Tryd.f100.name, by decide, Tryd.func100.trans (congrArg some (by kernel_rfl))⟩
  t0 := Tryd.underlying0
  a0 := Tryd.isAgg0
  z0 := Tryd.sizeOf0
  v0 := Tryd.zeroValue0
  t3 := Tryd.underlying3
  a3 := Tryd.isAgg3
  z3 := Tryd.sizeOf3
  v3 := Tryd.zeroValue3
  t4 := Tryd.underlying4
  a4 := Tryd.isAgg4
  z4 := Tryd.sizeOf4
  v4 := Tryd.zeroValue4
  t22 := Tryd.underlying77
  a22 := Tryd.isAgg77
  z22 := Tryd.sizeOf77
  v22 := Tryd.zeroValue77
  a23 := Tryd.isAgg5
  z23 := Tryd.sizeOf5
  }

def byV (c : UInt8) : Value := .int .u8 (c.toNat : Int)

theorem Bys.holds {w : World} {B : Nat} {l : List UInt8} (h : Bys w B l) : Sort.Holds byV w B 0 l.toArray := by
  intro j hj
  have hj' : j < l.length := by simpa using hj
  rw [Nat.zero_add]
  refine ⟨?_, h.2 j hj'⟩
  rw [h.1 j hj', getElem!_pos _ j hj]
  simp [byV]

theorem Bys.of {w : World} {B : Nat} {l : List UInt8} (h : Sort.Holds byV w B 0 l.toArray) : Bys w B l := by
  refine ⟨fun j hj => ?_, fun j hj => ?_⟩
  · have := (h j (by simpa using hj)).1
    rw [Nat.zero_add, getElem!_pos _ j (by simpa using hj)] at this
    simpa [byV] using this
  · have := (h j (by simpa using hj)).2
    rwa [Nat.zero_add] at this

theorem belowRow {w : World} {n B off : Nat} {d : Array UInt8} : Below B w (Sort.putRow byV (Sort.ahead w n) B off d) := by
  refine ⟨rfl, rfl, rfl, by simp [Sort.ahead], fun k hk => ?_⟩
  have hne : B ≠ k := by omega
  simp [Sort.putRow, Sort.mapBlock, Sort.ahead, Array.getElem?_modify, hne]

theorem reverse_any (B cap : Nat) (l : List UInt8) (w : World) (h : Bys w B l) (hl : l.length ≤ 1048576) :
    Calls Tryd.prog 100 #[.slice (some ⟨B, 0, none⟩) l.length cap] w fun e w' => e = .returned (.tuple #[]) ∧ Bys w' B l.reverse ∧ Below B w w' := by
  refine (AnyE.slices_Reverse rvLays byV (fun _ => rfl) B 0 cap l w h.holds (by omega)).mono ?_
  rintro e w' ⟨rfl, n, rfl⟩
  refine ⟨rfl, ?_, belowRow⟩
  have h2 := Sort.holds_putRow byV (Sort.ahead w n) B 0 l.toArray l.reverse.toArray (Sort.holds_ahead byV w n B 0 l.toArray h.holds) (by simp)
  exact Bys.of h2

theorem back_any (w : World) (B cap n : Nat) (l : List UInt8) (hn : l.length = n) (h : Bys w B l) :
    (convert 77 9 (.slice (some ⟨B, 0, none⟩) n cap)).run Tryd.prog w = .ok (.string (ofL l)) w := by
  subst hn
  refine run_convert_bytes_back w 77 9 5 ⟨B, 0, none⟩ cap l Tryd.underlying77 Tryd.underlying5 Tryd.underlying9 (fun j hj => ?_)
  rw [← h.1 j hj]
  by_cases e : j = 0 <;> simp [Addr.add, e]

set_option maxRecDepth 100000 in
theorem imMirrorTrack (s : ByteArray) (hs : s.size ≤ 1048576) (w : World) :
    Calls Tryd.prog 83 #[.string s] w fun e w' => e = .returned (.tuple #[.string (miR s), .bool (tkB s)]) ∧ Below w.heap.size w w' := by
  cases hb : tkB s
  · go_enter Tryd.func83, Tryd.ntmps83
    go_wp2_with (go_at_call 98; refine (imIsTrack_any s hs _).mono ?_; rintro e w' ⟨rfl, rfl⟩)
    go_ret2
    exact ⟨by simp [miR, hb], Below.refl _ _⟩
  · have h40 := tkB_size hb
    have hR := Lib.hid (show miR s = ofL (s.data.toList.map mir) by simp [miR, hb, miS])
    go_enter Tryd.func83, Tryd.ntmps83
    go_wp2_with (go_at_call 98; refine (imIsTrack_any s hs _).mono ?_; rintro e w' ⟨rfl, rfl⟩)
    refine (mirrored_any s h40 _).mono ?_
    rintro e w1 ⟨rfl, hM, hb1, _⟩
    have q := back_any w1 w.heap.size (grownCap w s.size 0 5) s.size _ (by simp) hM
    have HB := Lib.hid hb1
    clear hM hb1
    go_wp2_with fail
    go_ret2
    exact ⟨by rw [hR.out]; rfl, HB.out⟩

set_option maxRecDepth 100000 in
theorem imBackTrack (s : ByteArray) (hs : s.size ≤ 1048576) (w : World) :
    Calls Tryd.prog 84 #[.string s] w fun e w' => e = .returned (.tuple #[.string (baR s), .bool (tkB s)]) ∧ Below w.heap.size w w' := by
  cases hb : tkB s
  · go_enter Tryd.func84, Tryd.ntmps84
    go_wp2_with (go_at_call 98; refine (imIsTrack_any s hs _).mono ?_; rintro e w' ⟨rfl, rfl⟩)
    go_ret2
    exact ⟨by simp [baR, hb], Below.refl _ _⟩
  · have h40 := tkB_size hb
    have hR := Lib.hid (show baR s = ofL (s.data.toList.map mir).reverse by simp [baR, hb, baS])
    have hln : (s.data.toList.map mir).length = s.size := by simp
    have HL := Lib.hid hln
    clear hln
    go_enter Tryd.func84, Tryd.ntmps84
    go_wp2_with (go_at_call 98; refine (imIsTrack_any s hs _).mono ?_; rintro e w' ⟨rfl, rfl⟩)
    refine (mirrored_any s h40 _).mono ?_
    rintro e w1 ⟨rfl, hM, hb1, _⟩
    have HB := Lib.hid hb1
    have HM := Lib.hid hM
    clear hM hb1
    go_wp2_with fail
    have hv := reverse_any w.heap.size (grownCap w s.size 0 5) _ w1 HM.out (by rw [HL.out]; omega)
    rw [HL.out] at hv
    refine hv.mono ?_
    rintro e w2 ⟨rfl, hV, hb2⟩
    have q := back_any w2 w.heap.size (grownCap w s.size 0 5) s.size _ (by simp) hV
    have HB2 := Lib.hid (HB.out.trans hb2)
    clear hV hb2 hv
    go_wp2_with fail
    go_ret2
    exact ⟨by rw [hR.out]; rfl, HB2.out⟩

end Go.Proofs.YtoenkgenoloihaaDoor
