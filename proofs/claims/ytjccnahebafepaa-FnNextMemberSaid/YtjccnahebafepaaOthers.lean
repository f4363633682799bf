import Derived.Test.YtjccnahebafepaaRank
namespace Go.Proofs.Ytjccnahebafepaa
open Go.RowKit Go.Maps
set_option linter.unusedVariables false

/-- The names among the first k definitions that have the value v, the one at j left out. -/
def othTo (ds : List D) (v : Int) (j : Nat) : Nat → List ByteArray
  | 0 => []
  | k + 1 => othTo ds v j k ++ (match ds[k]? with | some d => if isVal v d && k != j then [d.name] else [] | none => [])
theorem othTo_succ (ds : List D) (v : Int) (j k : Nat) (h : k < ds.length) : othTo ds v j (k + 1) = othTo ds v j k ++ if isVal v ds[k] && k != j then [ds[k].name] else [] := by
  show othTo ds v j k ++ _ = _
  rw [List.getElem?_eq_getElem h]
theorem othTo_len (ds : List D) (v : Int) (j k : Nat) : (othTo ds v j k).length ≤ k := by
  induction k with
  | zero => exact Nat.le_refl _
  | succ k ih =>
    unfold othTo
    rw [List.length_append]
    have : (match ds[k]? with | some d => if isVal v d && k != j then [d.name] else [] | none => ([] : List ByteArray)).length ≤ 1 := by
      split
      · split <;> simp
      · simp
    omega
theorem othTo_in (ds : List D) (v : Int) (j k : Nat) : ∀ t ∈ othTo ds v j k, ∃ d ∈ ds, d.name = t := by
  induction k with
  | zero => intro t h; cases h
  | succ k ih =>
    intro t h
    unfold othTo at h
    rcases List.mem_append.1 h with h | h
    · exact ih t h
    · split at h
      · rename_i d e
        split at h
        · simp at h; exact ⟨d, List.mem_of_getElem? e, h.symm⟩
        · cases h
      · cases h
theorem othTo_first (ds : List D) (v : Int) (j : Nat) (hj : j < ds.length) (hn : noTo (isVal v) ds j) : othTo ds v j (j + 1) = [] := by
  have h0 : ∀ k, k ≤ j → othTo ds v j k = [] := by
    intro k
    induction k with
    | zero => intro _; rfl
    | succ k ih =>
      intro hk
      rw [othTo_succ ds v j k (by omega), ih (by omega), hn k (by omega) (by omega)]
      rfl
  rw [othTo_succ ds v j j hj, h0 j (Nat.le_refl _)]
  simp
/-- OtherNames of s. -/
def mOthers (ds : List D) (s : ByteArray) : List ByteArray :=
  if vEnum ds then (match ds[(fidx (isNm s) ds).toNat]? with | some d => if 0 ≤ fidx (isNm s) ds then othTo ds d.val (fidx (isVal d.val) ds).toNat ds.length else [] | none => []) else []
theorem mOthers_no {ds : List D} {s : ByteArray} (h : vEnum ds = false ∨ fidx (isNm s) ds < 0) : mOthers ds s = [] := by
  unfold mOthers
  rcases h with h | h
  · rw [h]; rfl
  · split
    · split
      · rw [if_neg (by omega)]
      · rfl
    · rfl
theorem mOthers_yes {ds : List D} {s : ByteArray} (hv : vEnum ds = true) (k : Nat) (hk : k < ds.length) (hx : fidx (isNm s) ds = k) (j : Nat) (hj : fidx (isVal ds[k].val) ds = j) : mOthers ds s = othTo ds ds[k].val j ds.length := by
  unfold mOthers
  rw [if_pos hv, hx]
  simp only [Int.toNat_natCast]
  rw [List.getElem?_eq_getElem hk]
  simp only []
  rw [if_pos (by omega), hj]
  rfl
theorem mOthers_ok {ds : List D} {s : ByteArray} (h : ∀ d ∈ ds, d.ok) : ∀ t ∈ mOthers ds s, t.size ≤ maxLen := by
  unfold mOthers
  split
  · split
    · split
      · intro t ht
        obtain ⟨d, hd, rfl⟩ := othTo_in _ _ _ _ t ht
        exact (h d hd).1
      · intro t ht; cases ht
    · intro t ht; cases ht
  · intro t ht; cases ht
theorem mOthers_len (ds : List D) (s : ByteArray) : (mOthers ds s).length ≤ 12 := by
  unfold mOthers
  split
  · rename_i hv
    have := vEnum_len hv
    split
    · split
      · exact Nat.le_trans (othTo_len _ _ _ _) (by omega)
      · simp
    · simp
  · simp

set_option maxHeartbeats 1000000 in
theorem specOther_no (ds : List D) (s : ByteArray) (A : Option Addr) (c n : Nat) (w : World) (hr : SD w w.heap.size A n c ds) {v : Bool} {x : Int} (hv : vEnum ds = v) (hx : fidx (isNm s) ds = x) (h : v = false ∨ x < 0) :
    Calls Try.prog 38 #[.agg #[.slice A n c], .string s] w (StrsP [] w) := by
  have HR := Lib.hid hr
  clear hr
  have h0 : Below w.heap.size w (w.alloc (.cells #[.slice A n c] 28)) := (Below.refl _ _).alloc (Nat.le_refl _) _
  have H0 := Lib.hid h0
  have HS := Lib.hid ((HR.out.below h0).call h0.size)
  clear h0
  have HV := Lib.hid hv
  have HX := Lib.hid hx
  clear hv hx
  rcases (show (v = false ∧ x < 0) ∨ (v = false ∧ ¬ x < 0) ∨ (v = true ∧ x < 0) by cases v <;> simp at h ⊢ <;> omega) with ⟨rfl, hx0⟩ | ⟨rfl, hx0⟩ | ⟨rfl, hx0⟩
  all_goals
    clear h
    go_enter Try.func38, Try.ntmps38
    go_wp2_with (first | (go_at_call 66; refine (indexOf_v ds s _ _ _ _ HS.out HX.out).mono ?_; rintro e w' ⟨rfl, rfl⟩) | (go_at_call 57; refine (specVE_v ds _ _ _ _ HS.out HV.out).mono ?_; rintro e w' ⟨rfl, hb⟩))
    go_ret
    exact ⟨none, 0, rfl, World.ownsRow_nil _ _ _ _, H0.out.trans (hb.mono H0.out.size)⟩

set_option maxHeartbeats 1000000 in
theorem implOther_no (ds : List D) (s : ByteArray) (A : Option Addr) (c n : Nat) (w : World) (hr : SD w w.heap.size A n c ds) {v : Bool} {x : Int} (hv : vEnum ds = v) (hx : fidx (isNm s) ds = x) (h : v = false ∨ x < 0) :
    Calls Try.prog 36 #[.agg #[.slice A n c], .string s] w (StrsP [] w) := by
  have HR := Lib.hid hr
  clear hr
  have h0 : Below w.heap.size w (w.alloc (.cells #[.slice A n c] 28)) := (Below.refl _ _).alloc (Nat.le_refl _) _
  have H0 := Lib.hid h0
  have HS := Lib.hid ((HR.out.below h0).call h0.size)
  clear h0
  have HC := Lib.hid (fun (W : World) (hS : SD W W.heap.size A n c ds) => implValueOf_no ds s A c n W hS hv hx h)
  clear hv hx h
  go_enter Try.func36, Try.ntmps36
  go_wp2_with (go_at_call 22; refine (HC.out _ HS.out).mono ?_; rintro e w' ⟨rfl, hb⟩)
  go_ret
  exact ⟨none, 0, rfl, World.ownsRow_nil _ _ _ _, H0.out.trans (hb.mono H0.out.size)⟩

set_option maxHeartbeats 2000000 in
theorem implOther_yes (ds : List D) (s : ByteArray) (A : Option Addr) (c n : Nat) (w : World) (hr : SD w w.heap.size A n c ds) (hv : vEnum ds = true) (k0 : Nat) (hk0 : k0 < ds.length) (hx : fidx (isNm s) ds = k0) (j : Nat) (hj : j < ds.length) (hf : fidx (isVal ds[k0].val) ds = j) :
    Calls Try.prog 36 #[.agg #[.slice A n c], .string s] w (StrsP (othTo ds ds[k0].val j ds.length) w) := by
  obtain rfl := hr.len
  have hl := hr.max
  have hl2 := hr.cap
  unfold maxLen at hl
  have HR := Lib.hid hr
  clear hr
  have h0 : Below w.heap.size w (w.alloc (.cells #[.slice A ds.length c] 28)) := (Below.refl _ _).alloc (Nat.le_refl _) _
  have H0 := Lib.hid h0
  have HS := Lib.hid ((HR.out.below h0).call h0.size)
  clear h0
  have HC := Lib.hid (fun (W : World) (c n : Nat) (A : Option Addr) (hS : SD W W.heap.size A n c ds) => implValueOf_yes ds s A c n W hS hv k0 hk0 hx)
  have HV2 := Lib.hid (HR.out.ok _ (List.getElem_mem hk0)).2
  have HL := Lib.hid (vEnum_len hv)
  have HF := Lib.hid hf
  clear hv hx hf
  generalize ds[k0].val = v at HC HV2 HF ⊢
  have hj1 : (j : Int) < (ds.length : Int) := by omega
  go_enter Try.func36, Try.ntmps36
  go_wp2_with (first | (go_at_call 22; refine (HC.out _ _ _ _ HS.out).mono ?_; rintro e w1 ⟨rfl, hb⟩; have c1 := keep1 hb (show (w.alloc (.cells #[.slice A ds.length c] 28)).cell? ⟨w.heap.size, 0, none⟩ = some (.slice A ds.length c) by simp [go_sem]); have HS1 := Lib.hid ((HS.out.below hb).call hb.size); have HB1 : Hid (Below w.heap.size w w1) := Lib.hid (H0.out.trans (hb.mono H0.out.size)); clear hb) | (go_at_call 58; refine (memberIndexes_any ds _ _ _ _ HS1.out).mono ?_; rintro e w2 ⟨rfl, hi2, hb2⟩; have c2 := keep1 hb2 c1; have hlk : (Instr.lookup 64 (.map (some w1.heap.size)) (.int .i64 v) false).run Try.prog w2 = .ok (.int .i64 (j : Int)) w2 := (hi2.look1 v HV2.out (by simp only [HF.out]; omega)).trans (by simp only [HF.out]); have HS2 := Lib.hid ((HS1.out.below hb2).call hb2.size); have HB2 : Hid (Below w.heap.size w w2) := Lib.hid (HB1.out.trans (hb2.mono HB1.out.size)); clear hb2 hi2))
  clear c1 c2 hlk
  go_loopw [8, 27] (fun vv i wr => ∃ k : Nat, k ≤ ds.length ∧ i = .int .i64 k ∧ Hid (wr.ownsRow w2.heap.size 9 1 vv (othTo ds v j k).length (flatS (othTo ds v j k))) ∧ Hid (Below w2.heap.size w2 wr)) (fun _ i _ => ds.length - (intOf i).toNat)
  case atStart => exact ⟨0, Nat.zero_le _, rfl, Lib.hid (World.ownsRow_nil _ _ _ _), Lib.hid (Below.refl _ _)⟩
  case round =>
    obtain ⟨k, hk, rfl, hown, hbel⟩ := hrel
    by_cases hlt : k < ds.length
    · obtain ⟨b, o, rfl, hb, c1, c2⟩ := (HS2.out.below hbel.out).at_ hlt
      have HT := Lib.hid (othTo_succ ds v j k hlt)
      have HLo := Lib.hid (othTo_len ds v j k)
      have hi1 : (k : Int) < (ds.length : Int) := by omega
      by_cases hval : ds[k].val = v
      · have hq1 : (ds[k].val == v) = true := by rw [beq_iff_eq]; exact hval
        have HV := Lib.hid hval
        clear hval
        by_cases hkj : k = j
        · have HE : Hid (othTo ds v j (k + 1) = othTo ds v j k) := Lib.hid (by rw [HT.out, if_neg (by intro h; simp at h; omega)]; simp)
          have hq2 : ((k : Int) != (j : Int)) = false := by rw [hkj]; simp
          clear hkj
          go_wp2
          go_roundw
          case rel => exact ⟨k + 1, by omega, by go_num, Lib.hid (by rw [HE.out]; exact hown.out.alloc _), Lib.hid (hbel.out.alloc hbel.out.size _)⟩
          case measure => simp [intOf]; omega
        · have HE : Hid (othTo ds v j (k + 1) = othTo ds v j k ++ [ds[k].name]) := Lib.hid (by rw [HT.out, if_pos (by unfold isVal; rw [HV.out]; simp; exact hkj)])
          have hq2 : ((k : Int) != (j : Int)) = true := by rw [bne_iff_ne]; omega
          clear hkj
          go_wp2_with (at_builtin; refine wpList_app_S rfl _ _ rfl w2.heap.size _ _ _ rfl (hown.out.alloc _) _ _ _ rfl (by first | rfl | simp) (by have := HLo.out; have := HL.out; omega) (by have := hbel.out.size; simp; omega) ?_; intro v' w3 ho1 hb1; have HO1 := Lib.hid ho1; have HB3 := Lib.hid hb1; clear ho1 hb1)
          go_roundw
          case rel => exact ⟨k + 1, by omega, by go_num, Lib.hid (by rw [HE.out]; simpa [flatS] using HO1.out), Lib.hid ((hbel.out.alloc hbel.out.size _).trans HB3.out)⟩
          case measure => simp [intOf]; omega
      · have hq1 : (ds[k].val == v) = false := by rw [beq_eq_false_iff_ne]; exact hval
        have HE : Hid (othTo ds v j (k + 1) = othTo ds v j k) := Lib.hid (by rw [HT.out, if_neg (by unfold isVal; rw [hq1]; simp)]; simp)
        clear hval
        go_wp2
        go_roundw
        case rel => exact ⟨k + 1, by omega, by go_num, Lib.hid (by rw [HE.out]; exact hown.out.alloc _), Lib.hid (hbel.out.alloc hbel.out.size _)⟩
        case measure => simp [intOf]; omega
    · obtain rfl : k = ds.length := by omega
      go_wp2
      go_ret
      obtain ⟨A', c', hv⟩ := own_form hown.out
      subst hv
      exact ⟨A', c', rfl, own_base hown.out HB2.out.size, HB2.out.trans (hbel.out.mono HB2.out.size)⟩

set_option maxHeartbeats 2000000 in
theorem specOther_yes (ds : List D) (s : ByteArray) (A : Option Addr) (c n : Nat) (w : World) (hr : SD w w.heap.size A n c ds) (hv : vEnum ds = true) (k0 : Nat) (hk0 : k0 < ds.length) (hx : fidx (isNm s) ds = k0) (j : Nat) (hj : j < ds.length) (hf : fidx (isVal ds[k0].val) ds = j) (hfirst : othTo ds ds[k0].val j (j + 1) = []) :
    Calls Try.prog 38 #[.agg #[.slice A n c], .string s] w (StrsP (othTo ds ds[k0].val j ds.length) w) := by
  obtain rfl := hr.len
  have hl := hr.max
  have hl2 := hr.cap
  unfold maxLen at hl
  have HR := Lib.hid hr
  clear hr
  have h0 : Below w.heap.size w (w.alloc (.cells #[.slice A ds.length c] 28)) := (Below.refl _ _).alloc (Nat.le_refl _) _
  have H0 := Lib.hid h0
  have HS := Lib.hid ((HR.out.below h0).call h0.size)
  clear h0
  have HL := Lib.hid (vEnum_len hv)
  have HV := Lib.hid hv
  have HX := Lib.hid hx
  have HF := Lib.hid hf
  have HFI := Lib.hid hfirst
  clear hv hx hf hfirst
  have hj1 : (j : Int) < (ds.length : Int) := by omega
  have hk1 : (k0 : Int) < (ds.length : Int) := by omega
  have hk00 : (0 : Int) ≤ (k0 : Int) := by omega
  go_enter Try.func38, Try.ntmps38
  go_wp2_with (first | (go_at_call 66; refine (indexOf_v ds s _ _ _ _ HS.out HX.out).mono ?_; rintro e w' ⟨rfl, rfl⟩) | (go_at_call 57; refine (specVE_v ds _ _ _ _ HS.out HV.out).mono ?_; rintro e w1 ⟨rfl, hb⟩; have c1 := keep1 hb (show (w.alloc (.cells #[.slice A ds.length c] 28)).cell? ⟨w.heap.size, 0, none⟩ = some (.slice A ds.length c) by simp [go_sem]); have HS1 := Lib.hid ((HS.out.below hb).call hb.size); obtain ⟨b, o, rfl, hbb, d1, d2⟩ := HS1.out.at_ hk0; have HB1 : Hid (Below w.heap.size w w1) := Lib.hid (H0.out.trans (hb.mono H0.out.size)); clear hb))
  have b2 : Below w1.heap.size w1 (w1.alloc (.cells #[] 9)) := (Below.refl _ _).alloc (Nat.le_refl _) _
  have HO2 : Hid ((w1.alloc (.cells #[] 9)).ownsRow w1.heap.size 9 1 (.slice (some ⟨w1.heap.size, 0, none⟩) 0 0) (othTo ds ds[k0].val j (j + 1)).length (flatS (othTo ds ds[k0].val j (j + 1)))) := Lib.hid (by rw [HFI.out]; exact World.ownsRow_made w1 #[] 0 (Nat.le_refl _) (by unfold maxLen; omega) rfl)
  have HS2 : Hid (∀ m, SD ((w1.alloc (.cells #[] 9)).drewN m) ((w1.alloc (.cells #[] 9)).drewN m).heap.size (some ⟨b, o, none⟩) ds.length c ds) := Lib.hid (fun m => by rw [World.heap_drewN]; exact (((HS1.out.below b2).call b2.size).drewN m))
  have HB2 := Lib.hid b2
  have c2 := keep1 b2 c1
  have e2 := keep1 b2 d2
  have C1 := Lib.hid c1
  have D2 := Lib.hid d2
  clear b2 c1 d1 d2
  generalize w1.alloc (.cells #[] 9) = W2 at *
  go_quiet ((first | (go_at_call 69; exact quiet_eq (valueAt_v ds _ _ _ _ _ (HS2.out _) HF.out))))
  have HB3 : Hid (Below w1.heap.size w1 (W2.drewN nq)) := Lib.hid (below_drewN HB2.out _)
  have HO3 : Hid ((W2.drewN nq).ownsRow w1.heap.size 9 1 (.slice (some ⟨w1.heap.size, 0, none⟩) 0 0) (othTo ds ds[k0].val j (j + 1)).length (flatS (othTo ds ds[k0].val j (j + 1)))) := Lib.hid HO2.out
  have c3 : (W2.drewN nq).cell? ⟨w.heap.size, 0, none⟩ = some (.slice (some ⟨b, o, none⟩) ds.length c) := c2
  have HS3 := Lib.hid (HS2.out nq)
  clear HB2 HO2 c2 e2 HS2
  generalize W2.drewN nq = W3 at *
  go_wp2
  go_loopw [6, 7] (fun vv i wr => ∃ k : Nat, j + 1 ≤ k ∧ k ≤ ds.length ∧ i = .int .i64 k ∧ Hid (wr.ownsRow w1.heap.size 9 1 vv (othTo ds ds[k0].val j k).length (flatS (othTo ds ds[k0].val j k))) ∧ Hid (Below w1.heap.size w1 wr)) (fun _ i _ => ds.length - (intOf i).toNat)
  case atStart => exact ⟨j + 1, Nat.le_refl _, hj, by go_num, HO3, HB3⟩
  case round =>
    obtain ⟨k, hjk, hk, rfl, hown, hbel⟩ := hrel
    have c4 := keep1 hbel.out C1.out
    have e4 := keep1 hbel.out D2.out
    by_cases hlt : k < ds.length
    · obtain ⟨b', o', hA, hb', x1, x2⟩ := (HS1.out.below hbel.out).at_ hlt
      injection hA with hA
      injection hA with q1 q2
      subst q1 q2
      have HT := Lib.hid (othTo_succ ds ds[k0].val j k hlt)
      have HLo := Lib.hid (othTo_len ds ds[k0].val j k)
      have hi1 : (k : Int) < (ds.length : Int) := by omega
      have hi0 : (0 : Int) ≤ (k : Int) := by omega
      by_cases hval : ds[k].val = ds[k0].val
      · have hq1 : (ds[k].val == ds[k0].val) = true := by rw [beq_iff_eq]; exact hval
        have HE : Hid (othTo ds ds[k0].val j (k + 1) = othTo ds ds[k0].val j k ++ [ds[k].name]) := Lib.hid (by rw [HT.out, if_pos (by unfold isVal; rw [hq1]; simp; omega)])
        clear hval
        go_wp2
        go_quiet (fail)
        have c5 : (wr.drewN nq).cell? ⟨w.heap.size, 0, none⟩ = some (.slice (some ⟨b, o, none⟩) ds.length c) := c4
        have x5 : (wr.drewN nq).cell? ⟨b, o + k * 2, none⟩ = some (.string ds[k].name) := x1
        have HO5 : Hid ((wr.drewN nq).ownsRow w1.heap.size 9 1 u6 (othTo ds ds[k0].val j k).length (flatS (othTo ds ds[k0].val j k))) := Lib.hid hown.out
        have HB5 : Hid (Below w1.heap.size w1 (wr.drewN nq)) := Lib.hid (below_drewN hbel.out _)
        clear c4 e4 x1 x2 hown hbel
        generalize wr.drewN nq = W5 at *
        go_wp2_with (at_builtin; refine wpList_app_S rfl _ _ rfl w1.heap.size _ _ _ rfl HO5.out _ _ _ rfl (by first | rfl | simp) (by have := HLo.out; have := HL.out; omega) HB5.out.size ?_; intro v' w6 ho1 hb1; have HO1 := Lib.hid ho1; have HB6 := Lib.hid hb1; clear ho1 hb1)
        go_roundw
        case rel => exact ⟨k + 1, by omega, by omega, by go_num, Lib.hid (by rw [HE.out]; simpa [flatS] using HO1.out), Lib.hid (HB5.out.trans HB6.out)⟩
        case measure => simp [intOf]; omega
      · have hq1 : (ds[k].val == ds[k0].val) = false := by rw [beq_eq_false_iff_ne]; exact hval
        have HE : Hid (othTo ds ds[k0].val j (k + 1) = othTo ds ds[k0].val j k) := Lib.hid (by rw [HT.out, if_neg (by unfold isVal; rw [hq1]; simp)]; simp)
        clear hval
        go_wp2
        go_quiet (fail)
        go_wp2
        go_roundw
        case rel => exact ⟨k + 1, by omega, by omega, by go_num, Lib.hid (by rw [HE.out]; exact hown.out), Lib.hid (below_drewN hbel.out _)⟩
        case measure => simp [intOf]; omega
    · obtain rfl : k = ds.length := by omega
      go_wp2
      go_ret
      obtain ⟨A', c', hv⟩ := own_form hown.out
      subst hv
      exact ⟨A', c', rfl, own_base hown.out HB1.out.size, HB1.out.trans (hbel.out.mono HB1.out.size)⟩

theorem specOtherNames_any (ds : List D) (s : ByteArray) (A : Option Addr) (c n : Nat) (w : World) (hr : SD w w.heap.size A n c ds) :
    Calls Try.prog 38 #[.agg #[.slice A n c], .string s] w (StrsP (mOthers ds s) w) := by
  cases hv : vEnum ds
  · rw [mOthers_no (.inl hv)]; exact specOther_no ds s A c n w hr hv rfl (.inl rfl)
  · rcases fidx_cases (isNm s) ds with ⟨hx, _⟩ | ⟨k, hk, hx, _, _⟩
    · rw [mOthers_no (.inr (by omega))]; exact specOther_no ds s A c n w hr hv hx (.inr (by omega))
    · obtain ⟨j, hj, hf, he, _, _⟩ := first_of k hk
      rw [mOthers_yes hv k hk hx j hf]
      refine specOther_yes ds s A c n w hr hv k hk hx j hj hf (othTo_first ds _ j hj ?_)
      rcases fidx_cases (isVal ds[k].val) ds with ⟨h1, _⟩ | ⟨j', hj', h1, _, hn⟩
      · omega
      · obtain rfl : j' = j := by omega
        exact hn
theorem implOtherNames_any (ds : List D) (s : ByteArray) (A : Option Addr) (c n : Nat) (w : World) (hr : SD w w.heap.size A n c ds) :
    Calls Try.prog 36 #[.agg #[.slice A n c], .string s] w (StrsP (mOthers ds s) w) := by
  cases hv : vEnum ds
  · rw [mOthers_no (.inl hv)]; exact implOther_no ds s A c n w hr hv rfl (.inl rfl)
  · rcases fidx_cases (isNm s) ds with ⟨hx, _⟩ | ⟨k, hk, hx, _, _⟩
    · rw [mOthers_no (.inr (by omega))]; exact implOther_no ds s A c n w hr hv hx (.inr (by omega))
    · obtain ⟨j, hj, hf, he, _, _⟩ := first_of k hk
      rw [mOthers_yes hv k hk hx j hf]
      exact implOther_yes ds s A c n w hr hv k hk hx j hj hf
end Go.Proofs.Ytjccnahebafepaa
