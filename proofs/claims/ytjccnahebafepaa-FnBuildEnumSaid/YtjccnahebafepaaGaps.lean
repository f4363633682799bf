import Derived.Test.YtjccnahebafepaaRank
import Derived.Test.YtjccnahebafepaaMarkD
namespace Go.Proofs.Ytjccnahebafepaa
open Go.RowKit Go.Maps
set_option linter.unusedVariables false

/-! ### the least and the greatest value -/
def valAt (ds : List D) (k : Nat) : Int := match ds[k]? with | some d => d.val | none => 0
theorem valAt_get (ds : List D) (k : Nat) (h : k < ds.length) : valAt ds k = ds[k].val := by unfold valAt; rw [List.getElem?_eq_getElem h]
def loTo (ds : List D) : Nat → Int
  | 0 => valAt ds 0
  | k + 1 => min (loTo ds k) (valAt ds k)
def hiTo (ds : List D) : Nat → Int
  | 0 => valAt ds 0
  | k + 1 => max (hiTo ds k) (valAt ds k)
def lo (ds : List D) : Int := loTo ds ds.length
def hi (ds : List D) : Int := hiTo ds ds.length
theorem loTo_in (ds : List D) (h : ds ≠ []) (k : Nat) (hk : k ≤ ds.length) : ∃ d ∈ ds, d.val = loTo ds k := by
  have h0 : 0 < ds.length := List.length_pos_iff.2 h
  induction k with
  | zero => exact ⟨ds[0], List.getElem_mem h0, (valAt_get ds 0 h0).symm⟩
  | succ k ih =>
    obtain ⟨d, hd, e⟩ := ih (by omega)
    show ∃ d ∈ ds, d.val = min (loTo ds k) (valAt ds k)
    rcases Int.le_total (loTo ds k) (valAt ds k) with h1 | h1
    · rw [Int.min_eq_left h1]; exact ⟨d, hd, e⟩
    · rw [Int.min_eq_right h1]; exact ⟨ds[k], List.getElem_mem _, (valAt_get ds k (by omega)).symm⟩
theorem hiTo_in (ds : List D) (h : ds ≠ []) (k : Nat) (hk : k ≤ ds.length) : ∃ d ∈ ds, d.val = hiTo ds k := by
  have h0 : 0 < ds.length := List.length_pos_iff.2 h
  induction k with
  | zero => exact ⟨ds[0], List.getElem_mem h0, (valAt_get ds 0 h0).symm⟩
  | succ k ih =>
    obtain ⟨d, hd, e⟩ := ih (by omega)
    show ∃ d ∈ ds, d.val = max (hiTo ds k) (valAt ds k)
    rcases Int.le_total (hiTo ds k) (valAt ds k) with h1 | h1
    · rw [Int.max_eq_right h1]; exact ⟨ds[k], List.getElem_mem _, (valAt_get ds k (by omega)).symm⟩
    · rw [Int.max_eq_left h1]; exact ⟨d, hd, e⟩
theorem lo_le_hi (ds : List D) (k : Nat) : loTo ds k ≤ hiTo ds k := by
  induction k with
  | zero => exact Int.le_refl _
  | succ k ih =>
    show min (loTo ds k) (valAt ds k) ≤ max (hiTo ds k) (valAt ds k)
    omega
theorem fidx_of_mem {ds : List D} {d : D} (h : d ∈ ds) : ¬ fidx (isVal d.val) ds < 0 := by
  rcases fidx_cases (isVal d.val) ds with ⟨h1, hn⟩ | ⟨j, hj, h1, _⟩
  · obtain ⟨i, hi, rfl⟩ := List.mem_iff_getElem.1 h
    have := hn i hi hi
    unfold isVal at this; simp at this
  · omega

/-- The values from l on, k of them, that no definition has. -/
def gapsTo (ds : List D) (l : Int) : Nat → List Int
  | 0 => []
  | k + 1 => gapsTo ds l k ++ if fidx (isVal (l + k)) ds < 0 then [l + (k : Int)] else []
theorem gapsTo_mono (ds : List D) (l : Int) (k m : Nat) (h : k ≤ m) : (gapsTo ds l k).length ≤ (gapsTo ds l m).length := by
  induction m with
  | zero =>
    obtain rfl : k = 0 := by omega
    exact Nat.le_refl _
  | succ m ih =>
    by_cases e : k = m + 1
    · subst e; exact Nat.le_refl _
    · have := ih (by omega)
      show _ ≤ (gapsTo ds l m ++ _).length
      rw [List.length_append]
      omega
theorem gapsTo_in (ds : List D) (l : Int) (k : Nat) : ∀ t ∈ gapsTo ds l k, l ≤ t ∧ t < l + k := by
  induction k with
  | zero => intro t h; cases h
  | succ k ih =>
    intro t h
    unfold gapsTo at h
    rcases List.mem_append.1 h with h | h
    · have := ih t h; omega
    · split at h
      · simp at h; omega
      · cases h
def mGaps (ds : List D) : List Int :=
  if vEnum ds = true ∧ ds ≠ [] then (if 30 < (gapsTo ds (lo ds) (hi ds - lo ds).toNat).length then [] else gapsTo ds (lo ds) (hi ds - lo ds).toNat) else []
theorem mGaps_no {ds : List D} (h : vEnum ds = false ∨ ds = []) : mGaps ds = [] := by
  unfold mGaps
  rw [if_neg]
  intro ⟨h1, h2⟩
  rcases h with h | h
  · rw [h1] at h; cases h
  · exact h2 h
theorem mGaps_many {ds : List D} (h1 : vEnum ds = true) (h2 : ds ≠ []) (k : Nat) (hk : k ≤ (hi ds - lo ds).toNat) (h : 30 < (gapsTo ds (lo ds) k).length) : mGaps ds = [] := by
  unfold mGaps
  rw [if_pos ⟨h1, h2⟩, if_pos (Nat.lt_of_lt_of_le h (gapsTo_mono _ _ _ _ hk))]
theorem mGaps_few {ds : List D} (h1 : vEnum ds = true) (h2 : ds ≠ []) (h : ¬ 30 < (gapsTo ds (lo ds) (hi ds - lo ds).toNat).length) : mGaps ds = gapsTo ds (lo ds) (hi ds - lo ds).toNat := by
  unfold mGaps
  rw [if_pos ⟨h1, h2⟩, if_neg h]
theorem range_in {ds : List D} (h1 : vEnum ds = true) (h2 : ds ≠ []) : -1000 ≤ lo ds ∧ lo ds ≤ hi ds ∧ hi ds ≤ 1000 := by
  obtain ⟨d, hd, e⟩ := loTo_in ds h2 ds.length (Nat.le_refl _)
  obtain ⟨d', hd', e'⟩ := hiTo_in ds h2 ds.length (Nat.le_refl _)
  have := vEnum_val h1 d hd
  have := vEnum_val h1 d' hd'
  have := lo_le_hi ds ds.length
  unfold lo hi
  omega
theorem mGaps_ok (ds : List D) : ∀ t ∈ mGaps ds, -9223372036854775808 ≤ t ∧ t ≤ 9223372036854775807 := by
  unfold mGaps
  split
  · rename_i h
    have := range_in h.1 h.2
    split
    · intro t ht; cases ht
    · intro t ht
      have := gapsTo_in _ _ _ t ht
      omega
  · intro t ht; cases ht
theorem mGaps_len (ds : List D) : (mGaps ds).length ≤ 30 := by
  unfold mGaps
  split
  · split
    · simp
    · omega
  · simp

set_option maxHeartbeats 1000000 in
theorem lowest_any (ds : List D) (A : Option Addr) (c n : Nat) (w : World) (hr : SD w w.heap.size A n c ds) (hne : ds ≠ []) :
    Calls Try.prog 73 #[.slice A n c] w fun e w' => e = .returned (.int .i64 (lo ds)) ∧ w = w' := by
  obtain rfl := hr.len
  have hl := hr.max
  have hl2 := hr.cap
  unfold maxLen at hl
  have hpos : 0 < ds.length := List.length_pos_iff.2 hne
  have HR := Lib.hid hr
  obtain ⟨b, o, rfl, hb, c1, c2⟩ := hr.at_ hpos
  have H0 : Hid (ds[0].val = loTo ds 0) := Lib.hid (valAt_get ds 0 hpos).symm
  have hz : ((ds.length : Int) == 0) = false := by rw [beq_eq_false_iff_ne]; omega
  have hi0 : (0 : Int) < (ds.length : Int) := by omega
  clear hr hne
  simp only [Nat.zero_mul, Nat.add_zero] at c1 c2
  go_enter Try.func73, Try.ntmps73
  go_wp2
  rw [H0.out]
  clear c1 c2
  go_loop [3, 4] (fun v i => ∃ k : Nat, k ≤ ds.length ∧ i = .int .i64 k ∧ v = .int .i64 (loTo ds k)) (fun _ i => ds.length - (intOf i).toNat)
  case atStart => exact ⟨0, Nat.zero_le _, rfl, rfl⟩
  case round =>
    obtain ⟨k, hk, rfl, rfl⟩ := hrel
    by_cases hlt : k < ds.length
    · obtain ⟨b', o', hA, hb', x1, x2⟩ := HR.out.at_ hlt
      injection hA with hA
      injection hA with q1 q2
      subst q1 q2
      have HS : Hid (loTo ds (k + 1) = min (loTo ds k) ds[k].val) := Lib.hid (by rw [← valAt_get ds k hlt]; rfl)
      have hi1 : (k : Int) < (ds.length : Int) := by omega
      go_wp2
      go_round
      case rel => exact ⟨k + 1, by omega, by go_num, by congr 1; rw [HS.out]; split <;> omega⟩
      case measure => simp [intOf]; omega
    · obtain rfl : k = ds.length := by omega
      go_wp2
      go_ret
      exact ⟨rfl, rfl⟩

set_option maxHeartbeats 1000000 in
theorem highest_any (ds : List D) (A : Option Addr) (c n : Nat) (w : World) (hr : SD w w.heap.size A n c ds) (hne : ds ≠ []) (hb1 : ∀ k, hiTo ds k ≤ 1000000) (hb2 : ∀ k, -1000000 ≤ hiTo ds k) :
    Calls Try.prog 63 #[.slice A n c] w fun e w' => e = .returned (.int .i64 (hi ds + 1)) ∧ w = w' := by
  obtain rfl := hr.len
  have hl := hr.max
  have hl2 := hr.cap
  unfold maxLen at hl
  have hpos : 0 < ds.length := List.length_pos_iff.2 hne
  have HR := Lib.hid hr
  obtain ⟨b, o, rfl, hb, c1, c2⟩ := hr.at_ hpos
  have H0 : Hid (ds[0].val = hiTo ds 0) := Lib.hid (valAt_get ds 0 hpos).symm
  have hz : ((ds.length : Int) == 0) = false := by rw [beq_eq_false_iff_ne]; omega
  have hi0 : (0 : Int) < (ds.length : Int) := by omega
  have HB := Lib.hid hb1
  have HB2 := Lib.hid hb2
  clear hr hne hb1 hb2
  simp only [Nat.zero_mul, Nat.add_zero] at c1 c2
  go_enter Try.func63, Try.ntmps63
  go_wp2
  rw [H0.out]
  clear c1 c2
  go_loop [3, 4] (fun v i => ∃ k : Nat, k ≤ ds.length ∧ i = .int .i64 k ∧ v = .int .i64 (hiTo ds k)) (fun _ i => ds.length - (intOf i).toNat)
  case atStart => exact ⟨0, Nat.zero_le _, rfl, rfl⟩
  case round =>
    obtain ⟨k, hk, rfl, rfl⟩ := hrel
    by_cases hlt : k < ds.length
    · obtain ⟨b', o', hA, hb', x1, x2⟩ := HR.out.at_ hlt
      injection hA with hA
      injection hA with q1 q2
      subst q1 q2
      have HS : Hid (hiTo ds (k + 1) = max (hiTo ds k) ds[k].val) := Lib.hid (by rw [← valAt_get ds k hlt]; rfl)
      have hi1 : (k : Int) < (ds.length : Int) := by omega
      go_wp2
      go_round
      case rel => exact ⟨k + 1, by omega, by go_num, by congr 1; rw [HS.out]; split <;> omega⟩
      case measure => simp [intOf]; omega
    · obtain rfl : k = ds.length := by omega
      have hb1 := HB.out ds.length
      have hb2 := HB2.out ds.length
      go_wp2
      go_ret
      exact ⟨rfl, rfl⟩

set_option maxHeartbeats 2000000 in
theorem valueRange_any (ds : List D) (A : Option Addr) (c n : Nat) (w : World) (hr : SD w w.heap.size A n c ds) (hne : ds ≠ []) :
    Calls Try.prog 72 #[.slice A n c] w fun e w' => e = .returned (.tuple #[.int .i64 (lo ds), .int .i64 (hi ds)]) ∧ Below w.heap.size w w' := by
  obtain rfl := hr.len
  have hl := hr.max
  have hl2 := hr.cap
  unfold maxLen at hl
  have hpos : 0 < ds.length := List.length_pos_iff.2 hne
  have HR := Lib.hid hr
  obtain ⟨b, o, rfl, hb, c1, c2⟩ := hr.at_ hpos
  have H0 : Hid (ds[0].val = loTo ds 0) := Lib.hid (valAt_get ds 0 hpos).symm
  have H1 : Hid (loTo ds 0 = hiTo ds 0) := Lib.hid rfl
  have hi0 : (0 : Int) < (ds.length : Int) := by omega
  clear hr hne
  simp only [Nat.zero_mul, Nat.add_zero] at c1 c2
  rw [H0.out] at c2
  go_enter Try.func72, Try.ntmps72
  go_wp2
  go_quiet (fail)
  have HB0 : Hid (Below w.heap.size w (w.drewN nq)) := Lib.hid (below_drewN (Below.refl _ _) _)
  clear c1 c2
  generalize w.drewN nq = W1 at *
  go_wp2
  go_loopw [4, 5, 18] (fun v u i wr => ∃ k : Nat, k ≤ ds.length ∧ i = .int .i64 k ∧ v = .int .i64 (loTo ds k) ∧ u = .int .i64 (hiTo ds k) ∧ Hid (Below w.heap.size w wr)) (fun _ _ i _ => ds.length - (intOf i).toNat)
  case atStart => exact ⟨0, Nat.zero_le _, rfl, rfl, by rw [H1.out], HB0⟩
  case round =>
    obtain ⟨k, hk, rfl, rfl, rfl, hbel⟩ := hrel
    by_cases hlt : k < ds.length
    · obtain ⟨b', o', hA, hb', x1, x2⟩ := (HR.out.below hbel.out).at_ hlt
      injection hA with hA
      injection hA with q1 q2
      subst q1 q2
      have HS : Hid (loTo ds (k + 1) = min (loTo ds k) ds[k].val) := Lib.hid (by rw [← valAt_get ds k hlt]; rfl)
      have HS2 : Hid (hiTo ds (k + 1) = max (hiTo ds k) ds[k].val) := Lib.hid (by rw [← valAt_get ds k hlt]; rfl)
      have hi1 : (k : Int) < (ds.length : Int) := by omega
      go_wp2
      have HB1 : Hid (Below w.heap.size w (wr.alloc (.cells #[.string ds[k].name, .int .i64 ds[k].val] 43))) := Lib.hid (hbel.out.alloc hbel.out.size _)
      go_quiet (fail)
      have HB2 := Lib.hid (below_drewN HB1.out nq)
      go_wp2
      go_roundw
      case rel => exact ⟨k + 1, by omega, by go_num, by congr 1; rw [HS.out]; split <;> omega, by congr 1; rw [HS2.out]; split <;> omega, HB2⟩
      case measure => simp [intOf]; omega
    · obtain rfl : k = ds.length := by omega
      go_wp2
      go_ret2
      exact ⟨rfl, hbel.out⟩

theorem hiTo_bd {ds : List D} (hv : vEnum ds = true) (hne : ds ≠ []) (k : Nat) : hiTo ds k ≤ 1000000 ∧ -1000000 ≤ hiTo ds k := by
  have key : ∀ k, -1000 ≤ valAt ds k ∧ valAt ds k ≤ 1000 := by
    intro k
    unfold valAt
    split
    · rename_i d e; exact vEnum_val hv d (List.mem_of_getElem? e)
    · omega
  induction k with
  | zero => have := key 0; show valAt ds 0 ≤ _ ∧ _ ≤ valAt ds 0; omega
  | succ k ih => have := key k; show max (hiTo ds k) (valAt ds k) ≤ _ ∧ _ ≤ max (hiTo ds k) (valAt ds k); omega
theorem gapsTo_succ (ds : List D) (l : Int) (k : Nat) : gapsTo ds l (k + 1) = gapsTo ds l k ++ if fidx (isVal (l + k)) ds < 0 then [l + (k : Int)] else [] := rfl
theorem gapsTo_len (ds : List D) (l : Int) (k : Nat) : (gapsTo ds l k).length ≤ k := by
  induction k with
  | zero => exact Nat.le_refl _
  | succ k ih =>
    rw [gapsTo_succ, List.length_append]
    split <;> simp <;> omega

set_option maxHeartbeats 1000000 in
theorem specGaps_inv (ds : List D) (A : Option Addr) (c n : Nat) (w : World) (hr : SD w w.heap.size A n c ds) (hv : vEnum ds = false) :
    Calls Try.prog 45 #[.agg #[.slice A n c]] w (IntsP [] w) := by
  have HR := Lib.hid hr
  clear hr
  have h0 : Below w.heap.size w (w.alloc (.cells #[.slice A n c] 28)) := (Below.refl _ _).alloc (Nat.le_refl _) _
  have H0 := Lib.hid h0
  have HS := Lib.hid ((HR.out.below h0).call h0.size)
  have HV := Lib.hid hv
  clear h0 hv
  go_enter Try.func45, Try.ntmps45
  go_wp2_with (go_at_call 57; refine (specVE_v ds _ _ _ _ HS.out HV.out).mono ?_; rintro e w' ⟨rfl, hb⟩)
  go_ret
  exact ⟨none, 0, rfl, World.ownsRow_nil _ _ _ _, H0.out.trans (hb.mono H0.out.size)⟩

set_option maxHeartbeats 1000000 in
theorem implGaps_inv (ds : List D) (A : Option Addr) (c n : Nat) (w : World) (hr : SD w w.heap.size A n c ds) (hv : vEnum ds = false) :
    Calls Try.prog 43 #[.agg #[.slice A n c]] w (IntsP [] w) := by
  have HR := Lib.hid hr
  clear hr
  have h0 : Below w.heap.size w (w.alloc (.cells #[.slice A n c] 28)) := (Below.refl _ _).alloc (Nat.le_refl _) _
  have H0 := Lib.hid h0
  have HS := Lib.hid ((HR.out.below h0).call h0.size)
  have HV := Lib.hid hv
  clear h0 hv
  go_enter Try.func43, Try.ntmps43
  go_wp2_with (go_at_call 19; refine (implVE_v ds _ _ _ _ HS.out HV.out).mono ?_; rintro e w' ⟨rfl, hb⟩)
  go_ret
  exact ⟨none, 0, rfl, World.ownsRow_nil _ _ _ _, H0.out.trans (hb.mono H0.out.size)⟩

set_option maxHeartbeats 1000000 in
theorem implGaps_empty (A : Option Addr) (c n : Nat) (w : World) (hr : SD w w.heap.size A n c []) :
    Calls Try.prog 43 #[.agg #[.slice A n c]] w (IntsP [] w) := by
  obtain rfl : 0 = n := hr.len
  have HR := Lib.hid hr
  clear hr
  have h0 : Below w.heap.size w (w.alloc (.cells #[.slice A 0 c] 28)) := (Below.refl _ _).alloc (Nat.le_refl _) _
  have H0 := Lib.hid h0
  have HS := Lib.hid ((HR.out.below h0).call h0.size)
  have HV : Hid (vEnum [] = true) := Lib.hid (by decide)
  clear h0
  go_enter Try.func43, Try.ntmps43
  go_wp2_with (go_at_call 19; refine (implVE_v [] _ _ _ _ HS.out HV.out).mono ?_; rintro e w1 ⟨rfl, hb⟩; have c1 := keep1 hb (show (w.alloc (.cells #[.slice A 0 c] 28)).cell? ⟨w.heap.size, 0, none⟩ = some (.slice A 0 c) by simp [go_sem]); have HB := Lib.hid hb; clear hb)
  go_ret
  exact ⟨none, 0, rfl, World.ownsRow_nil _ _ _ _, H0.out.trans (HB.out.mono H0.out.size)⟩

set_option maxHeartbeats 2000000 in
theorem specGaps_yes (ds : List D) (A : Option Addr) (c n : Nat) (w : World) (hr : SD w w.heap.size A n c ds) (hv : vEnum ds = true) (hne : ds ≠ []) :
    Calls Try.prog 45 #[.agg #[.slice A n c]] w (IntsP (mGaps ds) w) := by
  obtain rfl := hr.len
  have hl := hr.max
  have hl2 := hr.cap
  unfold maxLen at hl
  have HR := Lib.hid hr
  clear hr
  have h0 : Below w.heap.size w (w.alloc (.cells #[.slice A ds.length c] 28)) := (Below.refl _ _).alloc (Nat.le_refl _) _
  have H0 := Lib.hid h0
  have HS := Lib.hid ((HR.out.below h0).call h0.size)
  clear h0
  have HV := Lib.hid hv
  have HMM := Lib.hid (fun k => mGaps_many hv hne (k := k))
  have HMF := Lib.hid (mGaps_few hv hne)
  have HLO := Lib.hid (fun (W : World) (A : Option Addr) (c n : Nat) (h : SD W W.heap.size A n c ds) => lowest_any ds A c n W h hne)
  have HHI := Lib.hid (fun (W : World) (A : Option Addr) (c n : Nat) (h : SD W W.heap.size A n c ds) => highest_any ds A c n W h hne (fun k => (hiTo_bd hv hne k).1) (fun k => (hiTo_bd hv hne k).2))
  obtain ⟨r1, r2, r3⟩ := range_in hv hne
  clear hv hne
  generalize lo ds = l at *
  generalize hi ds = u at *
  go_enter Try.func45, Try.ntmps45
  go_wp2_with fail
  refine (specVE_v ds _ _ _ _ HS.out HV.out).mono ?_
  rintro e w1 ⟨rfl, hb⟩
  have c1 := keep1 hb (show (w.alloc (.cells #[.slice A ds.length c] 28)).cell? ⟨w.heap.size, 0, none⟩ = some (.slice A ds.length c) by simp [go_sem])
  have HS1 := Lib.hid ((HS.out.below hb).call hb.size)
  have HB1 : Hid (Below w.heap.size w w1) := Lib.hid (H0.out.trans (hb.mono H0.out.size))
  clear hb
  have b2 : Below w1.heap.size w1 (w1.alloc (.cells #[] 3)) := (Below.refl _ _).alloc (Nat.le_refl _) _
  have HO2 : Hid ((w1.alloc (.cells #[] 3)).ownsRow w1.heap.size 3 1 (.slice (some ⟨w1.heap.size, 0, none⟩) 0 0) (gapsTo ds l 0).length (flatI (gapsTo ds l 0))) := Lib.hid (World.ownsRow_made w1 #[] 0 (Nat.le_refl _) (by unfold maxLen; omega) rfl)
  have HS2 := Lib.hid ((HS1.out.below b2).call b2.size)
  have HB2 := Lib.hid b2
  have C1 := Lib.hid c1
  have hz1 : w.heap.size < w1.heap.size := World.block_lt_of_cell? _ _ c1
  clear b2
  go_wp2_with (go_at_call 73; refine (HLO.out _ _ _ _ HS2.out).mono ?_; rintro e w' ⟨rfl, rfl⟩)
  clear c1 hz1
  go_loopw [3, 4] (fun vv i wr => ∃ k : Nat, (k : Int) ≤ u - l ∧ i = .int .i64 (l + k) ∧ (gapsTo ds l k).length ≤ 30 ∧ Hid (wr.ownsRow w1.heap.size 3 1 vv (gapsTo ds l k).length (flatI (gapsTo ds l k))) ∧ Hid (Below w1.heap.size w1 wr)) (fun _ i _ => (u - intOf i).toNat)
  case atStart => exact ⟨0, by omega, by simp, Nat.zero_le _, HO2, HB2⟩
  case round =>
    obtain ⟨k, hk, rfl, hg30, hown, hbel⟩ := hrel
    have c4 := keep1 hbel.out C1.out
    have HS4 := Lib.hid ((HS1.out.below hbel.out).call hbel.out.size)
    obtain ⟨A', c', hvv⟩ := own_form hown.out
    subst hvv
    by_cases hlt : (k : Int) < u - l
    · have HT := Lib.hid (gapsTo_succ ds l k)
      rcases fidx_cases (isVal (l + k)) ds with ⟨hx, _⟩ | ⟨j, hj, hx, _⟩
      · have HE : Hid (gapsTo ds l (k + 1) = gapsTo ds l k ++ [l + (k : Int)]) := Lib.hid (by rw [HT.out, if_pos (by omega)])
        have HX := Lib.hid hx
        clear hx
        by_cases hmany : (gapsTo ds l k).length = 30
        · have HN : Hid (mGaps ds = []) := Lib.hid (HMM.out (k + 1) (by omega) (by rw [HE.out, List.length_append]; simp; omega))
          have hq : (30 : Int) < (((gapsTo ds l k).length + 1 : Nat) : Int) := by omega
          clear hmany
          generalize (gapsTo ds l k).length = gl at *
          go_wp2_with (first | (go_at_call 63; refine (HHI.out _ _ _ _ HS4.out).mono ?_; rintro e w' ⟨rfl, rfl⟩) | (go_at_call 69; refine (valueAt_v ds _ _ _ _ _ HS4.out HX.out).mono ?_; rintro e w' ⟨rfl, rfl⟩) | (at_builtin; refine wpList_app_I rfl _ _ rfl w1.heap.size _ _ _ rfl hown.out _ _ _ rfl (by first | rfl | simp) (by omega) hbel.out.size ?_; intro v' w3 ho1 hb1; obtain ⟨A3, c3, hv3⟩ := own_form ho1; subst hv3; have HO1 := Lib.hid ho1; have HB3 := Lib.hid hb1; clear ho1 hb1))
          go_ret
          exact ⟨none, 0, by rw [HN.out]; rfl, by rw [HN.out]; exact World.ownsRow_nil _ _ _ _, HB1.out.trans ((hbel.out.trans HB3.out).mono HB1.out.size)⟩
        · have HL2 : Hid ((gapsTo ds l (k + 1)).length = (gapsTo ds l k).length + 1) := Lib.hid (by rw [HE.out, List.length_append]; rfl)
          have hq : ¬ (30 : Int) < (((gapsTo ds l k).length + 1 : Nat) : Int) := by omega
          have HG30 : Hid ((gapsTo ds l (k + 1)).length ≤ 30) := Lib.hid (by rw [HL2.out]; omega)
          have HO0 : Hid (wr.ownsRow w1.heap.size 3 1 (.slice A' (gapsTo ds l k).length c') (gapsTo ds l k).length (flatI (gapsTo ds l k))) := hown
          clear hmany hown
          generalize hgl : (gapsTo ds l k).length = gl at hq hg30 HO0
          have HGL := Lib.hid hgl
          clear hgl
          go_wp2_with (first | (go_at_call 63; refine (HHI.out _ _ _ _ HS4.out).mono ?_; rintro e w' ⟨rfl, rfl⟩) | (go_at_call 69; refine (valueAt_v ds _ _ _ _ _ HS4.out HX.out).mono ?_; rintro e w' ⟨rfl, rfl⟩) | (at_builtin; refine wpList_app_I rfl _ _ rfl w1.heap.size _ _ _ rfl HO0.out _ _ _ rfl (by first | rfl | simp) (by omega) hbel.out.size ?_; intro v' w3 ho1 hb1; obtain ⟨A3, c3, hv3⟩ := own_form ho1; subst hv3; have HO1 := Lib.hid ho1; have HB3 := Lib.hid hb1; clear ho1 hb1))
          go_roundw
          case rel => exact ⟨k + 1, by omega, by congr 1; push_cast; omega, HG30.out, Lib.hid (by rw [HL2.out, HGL.out, HE.out]; simpa [flatI] using HO1.out), Lib.hid (hbel.out.trans HB3.out)⟩
          case measure => simp [intOf]; omega
      · have HE : Hid (gapsTo ds l (k + 1) = gapsTo ds l k) := Lib.hid (by rw [HT.out, if_neg (by omega)]; simp)
        have HX := Lib.hid hx
        clear hx
        have hq : ¬ (30 : Int) < (((gapsTo ds l k).length : Nat) : Int) := by omega
        go_wp2_with (first | (go_at_call 63; refine (HHI.out _ _ _ _ HS4.out).mono ?_; rintro e w' ⟨rfl, rfl⟩) | (go_at_call 69; refine (valueAt_v ds _ _ _ _ _ HS4.out HX.out).mono ?_; rintro e w' ⟨rfl, rfl⟩))
        go_roundw
        case rel => exact ⟨k + 1, by omega, by congr 1; push_cast; omega, by rw [HE.out]; exact hg30, Lib.hid (by rw [HE.out]; exact hown.out), hbel⟩
        case measure => simp [intOf]; omega
    · have hkk : (u - l).toNat = k := by omega
      have HN : Hid (mGaps ds = gapsTo ds l k) := Lib.hid (by rw [← hkk]; exact HMF.out (by rw [hkk]; omega))
      clear hkk
      go_wp2_with (go_at_call 63; refine (HHI.out _ _ _ _ HS4.out).mono ?_; rintro e w' ⟨rfl, rfl⟩)
      go_ret
      exact ⟨A', c', by rw [HN.out]; rfl, by rw [HN.out]; exact own_base hown.out HB1.out.size, HB1.out.trans (hbel.out.mono HB1.out.size)⟩

set_option maxHeartbeats 2000000 in
theorem implGaps_yes (ds : List D) (A : Option Addr) (c n : Nat) (w : World) (hr : SD w w.heap.size A n c ds) (hv : vEnum ds = true) (hne : ds ≠ []) :
    Calls Try.prog 43 #[.agg #[.slice A n c]] w (IntsP (mGaps ds) w) := by
  obtain rfl := hr.len
  have hl := hr.max
  have hl2 := hr.cap
  unfold maxLen at hl
  have hpos : 0 < ds.length := List.length_pos_iff.2 hne
  have hz : ((ds.length : Int) == 0) = false := by rw [beq_eq_false_iff_ne]; omega
  have HR := Lib.hid hr
  clear hr
  have h0 : Below w.heap.size w (w.alloc (.cells #[.slice A ds.length c] 28)) := (Below.refl _ _).alloc (Nat.le_refl _) _
  have H0 := Lib.hid h0
  have HS := Lib.hid ((HR.out.below h0).call h0.size)
  clear h0
  have HV := Lib.hid hv
  have HMM := Lib.hid (fun k => mGaps_many hv hne (k := k))
  have HMF := Lib.hid (mGaps_few hv hne)
  have HVR := Lib.hid (fun (W : World) (A : Option Addr) (c n : Nat) (h : SD W W.heap.size A n c ds) => valueRange_any ds A c n W h hne)
  have HLAST : Hid (∀ k : Nat, (k : Int) = hi ds - lo ds → gapsTo ds (lo ds) (k + 1) = gapsTo ds (lo ds) k) := Lib.hid (fun k hk => by
    obtain ⟨d, hd, e⟩ := hiTo_in ds hne ds.length (Nat.le_refl _)
    have := fidx_of_mem hd
    rw [gapsTo_succ, if_neg (by rw [show lo ds + (k : Int) = d.val from by rw [e]; unfold hi at hk; omega]; exact this)]
    simp)
  obtain ⟨r1, r2, r3⟩ := range_in hv hne
  clear hv hne
  generalize lo ds = l at *
  generalize hi ds = u at *
  go_enter Try.func43, Try.ntmps43
  go_wp2_with fail
  refine (implVE_v ds _ _ _ _ HS.out HV.out).mono ?_
  rintro e w1 ⟨rfl, hb⟩
  have c1 := keep1 hb (show (w.alloc (.cells #[.slice A ds.length c] 28)).cell? ⟨w.heap.size, 0, none⟩ = some (.slice A ds.length c) by simp [go_sem])
  have HS1 := Lib.hid ((HS.out.below hb).call hb.size)
  have HB1 : Hid (Below w.heap.size w w1) := Lib.hid (H0.out.trans (hb.mono H0.out.size))
  clear hb
  go_wp2_with fail
  refine (memberIndexes_any ds _ _ _ _ HS1.out).mono ?_
  rintro e w2 ⟨rfl, hi2, hb2⟩
  have c2 := keep1 hb2 c1
  have HI2 := Lib.hid hi2
  have HS2 := Lib.hid ((HS1.out.below hb2).call hb2.size)
  have HB2 : Hid (Below w.heap.size w w2) := Lib.hid (HB1.out.trans (hb2.mono HB1.out.size))
  clear hb2 hi2 c1
  generalize w1.heap.size = g at HI2 ⊢
  go_wp2_with fail
  refine (HVR.out _ _ _ _ HS2.out).mono ?_
  rintro e w3 ⟨rfl, hb3⟩
  have HI3 := Lib.hid (HI2.out.below hb3)
  have HB3 : Hid (Below w.heap.size w w3) := Lib.hid (HB2.out.trans (hb3.mono HB2.out.size))
  clear hb3 c2 HI2
  go_wp2
  go_loopw [6, 7] (fun vv i wr => ∃ k : Nat, (k : Int) ≤ u - l + 1 ∧ i = .int .i64 (l + k) ∧ (gapsTo ds l k).length ≤ 30 ∧ Hid (wr.ownsRow w3.heap.size 3 1 vv (gapsTo ds l k).length (flatI (gapsTo ds l k))) ∧ Hid (Below w3.heap.size w3 wr)) (fun _ i _ => (u + 1 - intOf i).toNat)
  case atStart => exact ⟨0, by omega, by simp, Nat.zero_le _, Lib.hid (World.ownsRow_nil _ _ _ _), Lib.hid (Below.refl _ _)⟩
  case round =>
    obtain ⟨k, hk, rfl, hg30, hown, hbel⟩ := hrel
    obtain ⟨A', c', hvv⟩ := own_form hown.out
    subst hvv
    by_cases hlt : l + (k : Int) ≤ u
    · have HT := Lib.hid (gapsTo_succ ds l k)
      have hw64 : -9223372036854775808 ≤ l + (k : Int) ∧ l + (k : Int) ≤ 9223372036854775807 := by omega
      rcases fidx_cases (isVal (l + k)) ds with ⟨hx, _⟩ | ⟨j, hj, hx, _⟩
      · have HE : Hid (gapsTo ds l (k + 1) = gapsTo ds l k ++ [l + (k : Int)]) := Lib.hid (by rw [HT.out, if_pos (by omega)])
        have hlk := (HI3.out.below hbel.out).look_no (l + k) hw64 (by omega)
        have hku : Hid ((k + 1 : Nat) ≤ (u - l).toNat) := Lib.hid (by
          by_cases e : (k : Int) = u - l
          · have := HLAST.out k e
            rw [HE.out] at this
            have := congrArg List.length this
            simp at this
          · omega)
        clear hx hw64
        by_cases hmany : (gapsTo ds l k).length = 30
        · have HN : Hid (mGaps ds = []) := Lib.hid (HMM.out (k + 1) (by have := hku.out; omega) (by rw [HE.out, List.length_append]; simp; omega))
          have hq : (((gapsTo ds l k).length : Int) == 30) = true := by rw [hmany]; rfl
          clear hmany
          generalize (gapsTo ds l k).length = gl at *
          go_wp2
          go_ret
          exact ⟨none, 0, by rw [HN.out]; rfl, by rw [HN.out]; exact World.ownsRow_nil _ _ _ _, HB3.out.trans (hbel.out.mono HB3.out.size)⟩
        · have HL2 : Hid ((gapsTo ds l (k + 1)).length = (gapsTo ds l k).length + 1) := Lib.hid (by rw [HE.out, List.length_append]; rfl)
          have hq : (((gapsTo ds l k).length : Int) == 30) = false := by rw [beq_eq_false_iff_ne]; omega
          have HG30 : Hid ((gapsTo ds l (k + 1)).length ≤ 30) := Lib.hid (by rw [HL2.out]; omega)
          have HO0 : Hid (wr.ownsRow w3.heap.size 3 1 (.slice A' (gapsTo ds l k).length c') (gapsTo ds l k).length (flatI (gapsTo ds l k))) := hown
          clear hmany hown
          generalize hgl : (gapsTo ds l k).length = gl at hq hg30 HO0
          have HGL := Lib.hid hgl
          clear hgl
          go_wp2_with (at_builtin; refine wpList_app_I rfl _ _ rfl w3.heap.size _ _ _ rfl HO0.out _ _ _ rfl (by first | rfl | simp) (by omega) hbel.out.size ?_; intro v' w4 ho1 hb1; obtain ⟨A3, c3, hv3⟩ := own_form ho1; subst hv3; have HO1 := Lib.hid ho1; have HB4 := Lib.hid hb1; clear ho1 hb1)
          go_roundw
          case rel => exact ⟨k + 1, by omega, by congr 1; push_cast; omega, HG30.out, Lib.hid (by rw [HL2.out, HGL.out, HE.out]; simpa [flatI] using HO1.out), Lib.hid (hbel.out.trans HB4.out)⟩
          case measure => simp [intOf]; omega
      · have HE : Hid (gapsTo ds l (k + 1) = gapsTo ds l k) := Lib.hid (by rw [HT.out, if_neg (by omega)]; simp)
        have hlk := (HI3.out.below hbel.out).look_yes (l + k) hw64 (by simp only [hx]; omega)
        simp only [hx] at hlk
        clear hx hw64
        go_wp2
        go_roundw
        case rel => exact ⟨k + 1, by omega, by congr 1; push_cast; omega, by rw [HE.out]; exact hg30, Lib.hid (by rw [HE.out]; exact hown.out), hbel⟩
        case measure => simp [intOf]; omega
    · have HN : Hid (mGaps ds = gapsTo ds l k) := Lib.hid (by
        obtain ⟨m, rfl⟩ : ∃ m, k = m + 1 := ⟨k - 1, by omega⟩
        have e1 := HLAST.out m (by push_cast at hk hlt; omega)
        have e2 : (u - l).toNat = m := by push_cast at hk hlt; omega
        rw [e1] at hg30 ⊢
        rw [← e2]
        exact HMF.out (by rw [e2]; omega))
      go_wp2
      go_ret
      exact ⟨A', c', by rw [HN.out]; rfl, by rw [HN.out]; exact own_base hown.out HB3.out.size, HB3.out.trans (hbel.out.mono HB3.out.size)⟩

theorem lowest_none (A : Option Addr) (c n : Nat) (w : World) (hn : n = 0) :
    Calls Try.prog 73 #[.slice A n c] w fun e w' => e = .returned (.int .i64 0) ∧ w = w' := by
  subst hn
  go_enter Try.func73, Try.ntmps73
  go_wp2
  go_ret
  exact ⟨rfl, rfl⟩
theorem highest_none (A : Option Addr) (c n : Nat) (w : World) (hn : n = 0) :
    Calls Try.prog 63 #[.slice A n c] w fun e w' => e = .returned (.int .i64 1) ∧ w = w' := by
  subst hn
  go_enter Try.func63, Try.ntmps63
  go_wp2
  go_ret
  exact ⟨rfl, rfl⟩
set_option maxHeartbeats 1000000 in
theorem specGaps_empty (A : Option Addr) (c n : Nat) (w : World) (hr : SD w w.heap.size A n c []) :
    Calls Try.prog 45 #[.agg #[.slice A n c]] w (IntsP [] w) := by
  obtain rfl : 0 = n := hr.len
  have HR := Lib.hid hr
  clear hr
  have h0 : Below w.heap.size w (w.alloc (.cells #[.slice A 0 c] 28)) := (Below.refl _ _).alloc (Nat.le_refl _) _
  have H0 := Lib.hid h0
  have HS := Lib.hid ((HR.out.below h0).call h0.size)
  have HV : Hid (vEnum [] = true) := Lib.hid (by decide)
  clear h0
  go_enter Try.func45, Try.ntmps45
  go_wp2_with fail
  refine (specVE_v [] _ _ _ _ HS.out HV.out).mono ?_
  rintro e w1 ⟨rfl, hb⟩
  have c1 := keep1 hb (show (w.alloc (.cells #[.slice A 0 c] 28)).cell? ⟨w.heap.size, 0, none⟩ = some (.slice A 0 c) by simp [go_sem])
  have HB1 : Hid (Below w.heap.size w w1) := Lib.hid (H0.out.trans (hb.mono H0.out.size))
  clear hb
  have b2 : Below w1.heap.size w1 (w1.alloc (.cells #[] 3)) := (Below.refl _ _).alloc (Nat.le_refl _) _
  have HO2 : Hid ((w1.alloc (.cells #[] 3)).ownsRow w1.heap.size 3 1 (.slice (some ⟨w1.heap.size, 0, none⟩) 0 0) 0 (flatI [])) := Lib.hid (World.ownsRow_made w1 #[] 0 (Nat.le_refl _) (by unfold maxLen; omega) rfl)
  have HB2 := Lib.hid b2
  have C1 := Lib.hid c1
  have hz1 : w.heap.size < w1.heap.size := World.block_lt_of_cell? _ _ c1
  clear b2
  go_wp2_with (go_at_call 73; refine (lowest_none _ _ _ _ rfl).mono ?_; rintro e w' ⟨rfl, rfl⟩)
  clear c1 hz1
  go_loopw [3, 4] (fun vv i wr => i = .int .i64 0 ∧ Hid (wr.ownsRow w1.heap.size 3 1 vv 0 (flatI [])) ∧ Hid (Below w1.heap.size w1 wr)) (fun _ i _ => 0)
  case atStart => exact ⟨rfl, HO2, HB2⟩
  case round =>
    obtain ⟨rfl, hown, hbel⟩ := hrel
    have c4 := keep1 hbel.out C1.out
    obtain ⟨A', c', hvv⟩ := own_form hown.out
    subst hvv
    go_wp2_with (go_at_call 63; refine (highest_none _ _ _ _ rfl).mono ?_; rintro e w' ⟨rfl, rfl⟩)
    go_ret
    exact ⟨A', c', rfl, own_base hown.out HB1.out.size, HB1.out.trans (hbel.out.mono HB1.out.size)⟩

theorem specGapsOf_any (ds : List D) (A : Option Addr) (c n : Nat) (w : World) (hr : SD w w.heap.size A n c ds) :
    Calls Try.prog 45 #[.agg #[.slice A n c]] w (IntsP (mGaps ds) w) := by
  cases hv : vEnum ds
  · rw [mGaps_no (.inl hv)]; exact specGaps_inv ds A c n w hr hv
  · by_cases hne : ds = []
    · subst hne; exact specGaps_empty A c n w hr
    · exact specGaps_yes ds A c n w hr hv hne
theorem implGapsOf_any (ds : List D) (A : Option Addr) (c n : Nat) (w : World) (hr : SD w w.heap.size A n c ds) :
    Calls Try.prog 43 #[.agg #[.slice A n c]] w (IntsP (mGaps ds) w) := by
  cases hv : vEnum ds
  · rw [mGaps_no (.inl hv)]; exact implGaps_inv ds A c n w hr hv
  · by_cases hne : ds = []
    · subst hne; exact implGaps_empty A c n w hr
    · exact implGaps_yes ds A c n w hr hv hne
end Go.Proofs.Ytjccnahebafepaa
