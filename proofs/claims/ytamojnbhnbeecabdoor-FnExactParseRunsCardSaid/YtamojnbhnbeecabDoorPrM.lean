/- Texts of runs, read back. -/
import Derived.Test.YtamojnbhnbeecabDoorRuM
import Derived.Test.YtamojnbhnbeecabDoorRpM
import Derived.Lib.AtoiAll
import Derived.Lib.AtoiTie
namespace Go.Proofs.YtamojnbhnbeecabDoor

def isD (c : UInt8) : Bool := decide (48 ≤ c.toNat ∧ c.toNat ≤ 57)
/-- The length that is told by digits, 1 if there are none. -/
def rlen (ds : List UInt8) : Option Int := if ds = [] then some 1 else match Lib.atoiAll ds with | .ok v => some v | _ => none
def urB (c : UInt8) (ds : List UInt8) : Bool := match rlen ds with | some v => rpB (ofL [c]) v | none => false
def urS (c : UInt8) (ds : List UInt8) : ByteArray := match rlen ds with | some v => rpS (ofL [c]) v | none => ⟨#[]⟩

/-- As the program reads it. -/
def unr : List UInt8 → List UInt8 → Option (List UInt8)
  | acc, [] => some acc
  | acc, c :: t => if urB c (t.takeWhile isD) = true ∧ acc.length + (urS c (t.takeWhile isD)).size ≤ 40 then unr (acc ++ (urS c (t.takeWhile isD)).data.toList) (t.dropWhile isD) else none
termination_by _ l => l.length
decreasing_by
  have h := congrArg List.length (List.takeWhile_append_dropWhile (p := isD) (l := t))
  rw [List.length_append] at h
  simp only [List.length_cons]
  omega
theorem unr_nil (acc : List UInt8) : unr acc [] = some acc := by rw [unr]
theorem unr_cons (acc : List UInt8) (c : UInt8) (t : List UInt8) : unr acc (c :: t) = if urB c (t.takeWhile isD) = true ∧ acc.length + (urS c (t.takeWhile isD)).size ≤ 40 then unr (acc ++ (urS c (t.takeWhile isD)).data.toList) (t.dropWhile isD) else none := by rw [unr]

/-- The number that digits spell, as the model reckons it. -/
def dval (ds : List UInt8) : Nat := ds.foldl (fun a d => 10 * a + (d.toNat - 48)) 0
def dlen (ds : List UInt8) : Nat := if ds = [] then 1 else dval ds
/-- As the model reads it: three digits at the most. -/
def mdl : List UInt8 → List UInt8 → Option (List UInt8)
  | acc, [] => some acc
  | acc, c :: t => if pcb c = true ∧ acc.length + dlen ((t.takeWhile isD).take 3) ≤ 40 then mdl (acc ++ List.replicate (dlen ((t.takeWhile isD).take 3)) c) (t.drop ((t.takeWhile isD).take 3).length) else none
termination_by _ l => l.length
decreasing_by
  simp only [List.length_drop, List.length_cons]
  omega
theorem mdl_nil (acc : List UInt8) : mdl acc [] = some acc := by rw [mdl]
theorem mdl_cons (acc : List UInt8) (c : UInt8) (t : List UInt8) : mdl acc (c :: t) = if pcb c = true ∧ acc.length + dlen ((t.takeWhile isD).take 3) ≤ 40 then mdl (acc ++ List.replicate (dlen ((t.takeWhile isD).take 3)) c) (t.drop ((t.takeWhile isD).take 3).length) else none := by rw [mdl]

theorem isD_digit {d : Nat} (h : d < 10) : isD (UInt8.ofNat (48 + d)) = true := by
  unfold isD
  rw [UInt8.toNat_ofNat']
  simp only [decide_eq_true_eq]
  omega
theorem isD_pcb {c : UInt8} (h : pcb c = true) : isD c = false := by
  rcases pcb_cases h with rfl | rfl | rfl <;> decide
theorem digs_isD {n : Nat} (h : n < 100) : ∀ c ∈ digs n, isD c = true := by
  intro c hc
  unfold digs at hc
  split at hc
  · cases hc
  · by_cases h1 : n < 10
    · rw [dd_small h1] at hc
      rw [List.mem_singleton.1 hc]
      exact isD_digit h1
    · rw [dd_two h1 h] at hc
      simp only [List.mem_cons, List.mem_nil_iff, or_false] at hc
      rcases hc with rfl | rfl
      · exact isD_digit (by omega)
      · exact isD_digit (by omega)
theorem runs_head {l : List UInt8} (hp : ∀ c ∈ l, pcb c = true) : ∀ c, (runs l).head? = some c → isD c = false := by
  intro c hc
  cases l with
  | nil => rw [runs_nil] at hc; cases hc
  | cons d t =>
    rw [runs_cons] at hc
    obtain rfl : d = c := by simpa using hc
    exact isD_pcb (hp _ List.mem_cons_self)
theorem tw_all (p : UInt8 → Bool) : ∀ (a b : List UInt8), (∀ c ∈ a, p c = true) → (∀ c, b.head? = some c → p c = false) → (a ++ b).takeWhile p = a ∧ (a ++ b).dropWhile p = b
  | [], b, _, hb => by
    cases b with
    | nil => simp
    | cons d r => simp [hb d rfl]
  | x :: a, b, ha, hb => by
    have ih := tw_all p a b (fun c hc => ha c (List.mem_cons_of_mem _ hc)) hb
    simp [ha x List.mem_cons_self, ih.1, ih.2]
theorem u8n (d : Nat) (h : d < 10) : (UInt8.ofNat (48 + d)).toNat = 48 + d := by
  rw [UInt8.toNat_ofNat']
  omega
theorem dval_digs {n : Nat} (h1 : 1 < n) (h : n < 100) : dval (digs n) = n := by
  rw [digs_many (by omega)]
  by_cases h2 : n < 10
  · rw [dd_small h2]
    simp only [dval, List.foldl_cons, List.foldl_nil, u8n n h2]
    omega
  · rw [dd_two h2 h]
    simp only [dval, List.foldl_cons, List.foldl_nil, u8n (n / 10) (by omega), u8n (n % 10) (by omega)]
    omega
theorem dlen_digs {n : Nat} (h1 : 1 ≤ n) (h : n < 100) : dlen (digs n) = n := by
  by_cases h2 : n = 1
  · subst h2; rfl
  · have h3 : digs n ≠ [] := by
      rw [digs_many (by omega)]
      by_cases h2 : n < 10
      · rw [dd_small h2]; simp
      · rw [dd_two h2 h]; simp
    rw [dlen, if_neg h3, dval_digs (by omega) h]
theorem digitV (d : Nat) (h : d < 10) : Lib.digitVal (UInt8.ofNat (48 + d)) = some d := by
  unfold Lib.digitVal
  rw [u8n d h]
  rw [if_pos (by omega)]
  congr 1
  omega
theorem n45 (d : Nat) (h : d < 10) : (UInt8.ofNat (48 + d) == 45) = false ∧ (UInt8.ofNat (48 + d) == 43) = false := by
  constructor
  · rw [beq_eq_false_iff_ne]; intro e
    have := congrArg UInt8.toNat e
    rw [u8n d h] at this
    have h2 : (45 : UInt8).toNat = 45 := rfl
    omega
  · rw [beq_eq_false_iff_ne]; intro e
    have := congrArg UInt8.toNat e
    rw [u8n d h] at this
    have h2 : (43 : UInt8).toNat = 43 := rfl
    omega
theorem atoi1 {b : UInt8} {d : Nat} (h1 : (b == 45) = false) (h2 : (b == 43) = false) (h : Lib.digitVal b = some d) : Lib.atoi [b] = some (d : Int) := by
  simp [Lib.atoi, Lib.decNat, Lib.decFrom, h1, h2, h]
theorem atoi2 {b c : UInt8} {d e : Nat} (h1 : (b == 45) = false) (h2 : (b == 43) = false) (h : Lib.digitVal b = some d) (g : Lib.digitVal c = some e) : Lib.atoi [b, c] = some ((d * 10 + e : Nat) : Int) := by
  simp [Lib.atoi, Lib.decNat, Lib.decFrom, h1, h2, h, g]
theorem rlen_digs {n : Nat} (h1 : 1 ≤ n) (h : n < 100) : rlen (digs n) = some (n : Int) := by
  by_cases h2 : n = 1
  · subst h2; rfl
  · rw [digs_many (by omega)]
    have hs : Lib.atoi (Lib.decDigits n) = some (n : Int) ∧ Lib.decDigits n ≠ [] := by
      by_cases h3 : n < 10
      · rw [dd_small h3]
        exact ⟨atoi1 (n45 n h3).1 (n45 n h3).2 (digitV n h3), by simp⟩
      · rw [dd_two h3 h]
        refine ⟨(atoi2 (n45 (n / 10) (by omega)).1 (n45 (n / 10) (by omega)).2 (digitV (n / 10) (by omega)) (digitV (n % 10) (by omega))).trans ?_, by simp⟩
        congr 2
        omega
    rw [rlen, if_neg hs.2, Lib.atoiAll_short _ (by have := dd_len h; omega), hs.1]
    rfl

theorem tk_one (c : UInt8) : tkB (ofL [c]) = pcb c := by
  simp [tkB, ofL, ByteArray.size]
theorem rpL_one (c : UInt8) : ∀ t, rpL (ofL [c]) t = List.replicate t c
  | 0 => rfl
  | t + 1 => by
    rw [rpL_succ, rpL_one c t]
    rfl
theorem rp_one {c : UInt8} (hp : pcb c = true) {n : Nat} (h : n ≤ 40) : rpB (ofL [c]) (n : Int) = true ∧ rpS (ofL [c]) (n : Int) = ofL (List.replicate n c) := by
  have hb : rpB (ofL [c]) (n : Int) = true := by
    simp [rpB, tk_one, hp, ofL_size]
    omega
  refine ⟨hb, ?_⟩
  simp [rpS, hb, ofL_size, rpL_one]
theorem ur_yes {c : UInt8} (hp : pcb c = true) {n : Nat} (h1 : 1 ≤ n) (h : n ≤ 40) : urB c (digs n) = true ∧ urS c (digs n) = ofL (List.replicate n c) := by
  have h2 := rlen_digs h1 (by omega : n < 100)
  have h3 := rp_one hp h
  simp only [urB, urS, h2]
  exact h3

/-- What the texts of runs are read to. -/
theorem unr_runs : ∀ (k : Nat) (l acc : List UInt8), l.length ≤ k → (∀ c ∈ l, pcb c = true) → acc.length + l.length ≤ 40 → unr acc (runs l) = some (acc ++ l)
  | _, [], acc, _, _, _ => by rw [runs_nil, unr_nil, List.append_nil]
  | 0, c :: t, acc, h, _, _ => by simp at h
  | k + 1, c :: t, acc, h, hp, hl => by
    have hc := hp c List.mem_cons_self
    have e := List.takeWhile_append_dropWhile (p := (· == c)) (l := t)
    have e2 := congrArg List.length e
    rw [List.length_append] at e2
    simp only [List.length_cons] at h hl
    obtain ⟨m, hm⟩ : ∃ m, (t.takeWhile (· == c)).length = m := ⟨_, rfl⟩
    obtain ⟨r, hr⟩ : ∃ r, t.dropWhile (· == c) = r := ⟨_, rfl⟩
    have et : t.takeWhile (· == c) = List.replicate m c := by
      rw [List.eq_replicate_iff]
      exact ⟨hm, fun b hb => by simpa using List.all_eq_true.1 List.all_takeWhile b hb⟩
    have hpr : ∀ d ∈ r, pcb d = true := fun d hd => hp d (List.mem_cons_of_mem _ ((List.dropWhile_sublist (p := (· == c))).subset (by rw [hr]; exact hd)))
    rw [hm, hr] at e2
    rw [runs_cons, hm, hr, unr_cons]
    obtain ⟨w1, w2⟩ := tw_all isD (digs (1 + m)) (runs r) (digs_isD (by omega)) (runs_head hpr)
    obtain ⟨u1, u2⟩ := ur_yes hc (n := 1 + m) (by omega) (by omega)
    rw [w1, w2, u1, u2, if_pos ⟨rfl, by rw [ofL_size, List.length_replicate]; omega⟩]
    rw [unr_runs k r _ (by omega) hpr (by simp [ofL]; omega)]
    congr 1
    rw [show (c :: t) = c :: (List.replicate m c ++ r) by rw [← et, ← hr, e]]
    rw [Nat.add_comm 1 m]
    simp [ofL, List.replicate_succ]
theorem mdl_runs : ∀ (k : Nat) (l acc : List UInt8), l.length ≤ k → (∀ c ∈ l, pcb c = true) → acc.length + l.length ≤ 40 → mdl acc (runs l) = some (acc ++ l)
  | _, [], acc, _, _, _ => by rw [runs_nil, mdl_nil, List.append_nil]
  | 0, c :: t, acc, h, _, _ => by simp at h
  | k + 1, c :: t, acc, h, hp, hl => by
    have hc := hp c List.mem_cons_self
    have e := List.takeWhile_append_dropWhile (p := (· == c)) (l := t)
    have e2 := congrArg List.length e
    rw [List.length_append] at e2
    simp only [List.length_cons] at h hl
    obtain ⟨m, hm⟩ : ∃ m, (t.takeWhile (· == c)).length = m := ⟨_, rfl⟩
    obtain ⟨r, hr⟩ : ∃ r, t.dropWhile (· == c) = r := ⟨_, rfl⟩
    have et : t.takeWhile (· == c) = List.replicate m c := by
      rw [List.eq_replicate_iff]
      exact ⟨hm, fun b hb => by simpa using List.all_eq_true.1 List.all_takeWhile b hb⟩
    have hpr : ∀ d ∈ r, pcb d = true := fun d hd => hp d (List.mem_cons_of_mem _ ((List.dropWhile_sublist (p := (· == c))).subset (by rw [hr]; exact hd)))
    rw [hm, hr] at e2
    rw [runs_cons, hm, hr, mdl_cons]
    obtain ⟨w1, w2⟩ := tw_all isD (digs (1 + m)) (runs r) (digs_isD (by omega)) (runs_head hpr)
    have w3 : (digs (1 + m)).take 3 = digs (1 + m) := List.take_of_length_le (by have := digs_len (show 1 + m < 100 by omega); omega)
    have u := dlen_digs (n := 1 + m) (by omega) (by omega)
    rw [w1, w3, u, if_pos ⟨hc, by omega⟩]
    have w4 : (digs (1 + m) ++ runs r).drop (digs (1 + m)).length = runs r := List.drop_left
    rw [w4, mdl_runs k r _ (by omega) hpr (by simp; omega)]
    congr 1
    rw [show (c :: t) = c :: (List.replicate m c ++ r) by rw [← et, ← hr, e]]
    rw [Nat.add_comm 1 m]
    simp [List.replicate_succ]

theorem urS_pcb {c : UInt8} {ds : List UInt8} (h : urB c ds = true) : ∃ n, urS c ds = ofL (List.replicate n c) ∧ pcb c = true ∧ n ≤ 40 := by
  unfold urB urS at *
  split at h
  · rename_i v hv
    have h0 := h
    simp only [rpB, Bool.and_eq_true, tk_one, decide_eq_true_eq, ofL_size, List.length_singleton] at h0
    refine ⟨v.toNat, ?_, h0.1, by omega⟩
    simp [rpS, h, ofL_size, rpL_one]
  · cases h
theorem unr_good : ∀ (k : Nat) (l acc out : List UInt8), l.length ≤ k → (∀ c ∈ acc, pcb c = true) → acc.length ≤ 40 → unr acc l = some out → (∀ c ∈ out, pcb c = true) ∧ out.length ≤ 40
  | _, [], acc, out, _, ha, hl, h => by rw [unr_nil] at h; obtain rfl := Option.some.inj h; exact ⟨ha, hl⟩
  | 0, c :: t, acc, _, h, _, _, _ => by simp at h
  | k + 1, c :: t, acc, out, hk, ha, hl, h => by
    rw [unr_cons] at h
    split at h
    · rename_i hx
      obtain ⟨n, e, hp, _⟩ := urS_pcb hx.1
      rw [e] at h hx
      have e3 := congrArg List.length (List.takeWhile_append_dropWhile (p := isD) (l := t))
      rw [List.length_append] at e3
      simp only [List.length_cons] at hk
      refine unr_good k _ _ out (by omega) ?_ ?_ h
      · intro d hd
        rcases List.mem_append.1 hd with hd | hd
        · exact ha d hd
        · have : d = c := (List.mem_replicate.1 (by simpa [ofL] using hd)).2
          rw [this]; exact hp
      · rw [List.length_append]
        have := hx.2
        rw [ofL_size] at this
        simpa [ofL] using this
    · cases h
theorem mdl_good : ∀ (k : Nat) (l acc out : List UInt8), l.length ≤ k → (∀ c ∈ acc, pcb c = true) → acc.length ≤ 40 → mdl acc l = some out → (∀ c ∈ out, pcb c = true) ∧ out.length ≤ 40
  | _, [], acc, out, _, ha, hl, h => by rw [mdl_nil] at h; obtain rfl := Option.some.inj h; exact ⟨ha, hl⟩
  | 0, c :: t, acc, _, h, _, _, _ => by simp at h
  | k + 1, c :: t, acc, out, hk, ha, hl, h => by
    rw [mdl_cons] at h
    split at h
    · rename_i hx
      simp only [List.length_cons] at hk
      refine mdl_good k _ _ out (by rw [List.length_drop]; omega) ?_ ?_ h
      · intro d hd
        rcases List.mem_append.1 hd with hd | hd
        · exact ha d hd
        · rw [(List.mem_replicate.1 hd).2]; exact hx.1
      · rw [List.length_append, List.length_replicate]
        exact hx.2
    · cases h

def prP (s : ByteArray) : Option (List UInt8) := if s = ⟨#[45]⟩ then some [] else match unr [] s.data.toList with | some l => if ruS (ofL l) = s then some l else none | none => none
def prM (s : ByteArray) : Option (List UInt8) := if s = ⟨#[45]⟩ then some [] else match mdl [] s.data.toList with | some l => if l ≠ [] ∧ ruS (ofL l) = s then some l else none | none => none
theorem ru_list {l : List UInt8} {s : ByteArray} (h : ruS (ofL l) = s) (hs : s ≠ ⟨#[45]⟩) : l ≠ [] ∧ s.data.toList = runs l := by
  have hz : (ofL l).size ≠ 0 := fun h0 => hs (by rw [← h]; simp [ruS, h0])
  rw [ofL_size] at hz
  refine ⟨fun e => hz (by rw [e]; rfl), ?_⟩
  rw [← h, ruS, if_neg (by rw [ofL_size]; exact hz)]
  simp [ofL]
theorem pr_eq (s : ByteArray) : prP s = prM s := by
  by_cases hs : s = ⟨#[45]⟩
  · simp [prP, prM, hs]
  · have h1 : ∀ l, prP s = some l → prM s = some l := by
      intro l h
      simp only [prP, if_neg hs] at h
      split at h
      · rename_i l' hu
        split at h
        · rename_i hr
          obtain rfl := Option.some.inj h
          obtain ⟨g1, g2⟩ := unr_good _ _ [] _ (Nat.le_refl _) (by simp) (by simp) hu
          obtain ⟨r1, r2⟩ := ru_list hr hs
          have := mdl_runs _ l' [] (Nat.le_refl _) g1 (by simpa using g2)
          rw [List.nil_append] at this
          simp [prM, hs, r2, this, r1, hr]
        · cases h
      · cases h
    have h2 : ∀ l, prM s = some l → prP s = some l := by
      intro l h
      simp only [prM, if_neg hs] at h
      split at h
      · rename_i l' hu
        split at h
        · rename_i hr
          obtain rfl := Option.some.inj h
          obtain ⟨g1, g2⟩ := mdl_good _ _ [] _ (Nat.le_refl _) (by simp) (by simp) hu
          obtain ⟨r1, r2⟩ := ru_list hr.2 hs
          have := unr_runs _ l' [] (Nat.le_refl _) g1 (by simpa using g2)
          rw [List.nil_append] at this
          simp [prP, hs, r2, this, hr.2]
        · cases h
      · cases h
    cases hp : prP s with
    | some l => exact (h1 l hp).symm
    | none =>
      cases hm : prM s with
      | none => rfl
      | some l => rw [h2 l hm] at hp; cases hp

end Go.Proofs.YtamojnbhnbeecabDoor
