import Derived.Test.YtiklgghbkkmnaaaEdit2
namespace Go.Proofs.Ytiklgghbkkmnaaa
open Go.RowKit
set_option linter.unusedVariables false
set_option maxRecDepth 100000

theorem SD.none_ (w : World) (B : Nat) : SD w B none 0 0 [] := ⟨Rd.nil_, rfl, Nat.le_refl _, by unfold maxLen; omega, by simp⟩
/-- ds without the definition of s, or none. -/
def mDrop (ds : List D) (s : ByteArray) : Option (List D) := if vEnum ds then (if fidx (isNm s) ds < 0 then none else some (ers ds (fidx (isNm s) ds).toNat)) else none
theorem mDrop_no {ds : List D} {s : ByteArray} (h : vEnum ds = false ∨ fidx (isNm s) ds < 0) : mDrop ds s = none := by
  unfold mDrop
  rcases h with h | h
  · rw [h]; rfl
  · rw [if_pos h]; split <;> rfl
theorem mDrop_yes {ds : List D} {s : ByteArray} {k : Nat} (h : vEnum ds = true) (hx : fidx (isNm s) ds = (k : Int)) : mDrop ds s = some (ers ds k) := by
  unfold mDrop
  rw [if_pos h, hx, if_neg (show ¬ ((k : Int) < 0) by omega)]
  simp
theorem mDrop_mem {ds : List D} {s : ByteArray} {x : D} (h : x ∈ (mDrop ds s).getD []) : x ∈ ds := by
  unfold mDrop at h
  split at h
  · split at h
    · cases h
    · exact ers_mem h
  · cases h
theorem mDrop_len (ds : List D) (s : ByteArray) : ((mDrop ds s).getD []).length ≤ 12 := by
  unfold mDrop
  split
  · rename_i hv
    split
    · exact Nat.zero_le _
    · exact vEnum_len (vEnum_ers hv _)
  · exact Nat.zero_le _
theorem enumP_some {ds : List D} {w w' : World} {A : Option Addr} {n c : Nat} (hl : ds.length = n) (ho : w'.ownsRow w.heap.size 27 2 (.slice A n c) n (flat ds)) (hb : Below w.heap.size w w') : EnumP (some ds) w (.returned (.tuple #[.agg #[.slice A n c], .bool true])) w' := by
  subst hl
  exact ⟨A, c, rfl, ho, hb⟩
theorem chkO_yes {ds : List D} (h : vEnum ds = true) : chkO ds = some ds := by unfold chkO; rw [h]; rfl

set_option maxHeartbeats 4000000 in
theorem implDrop_no (ds : List D) (s : ByteArray) (A : Option Addr) (n c : Nat) (w : World) (hr : SD w w.heap.size A n c ds) (hno : vEnum ds = false ∨ fidx (isNm s) ds < 0) :
    Calls Try.prog 20 #[.agg #[.slice A n c], .string s] w (EnumP none w) := by
  obtain ⟨W0, hW0⟩ : ∃ W0 : World, W0 = (w.alloc (.cells #[.slice A n c] 25)).alloc (.cells #[.slice none 0 0] 25) := ⟨_, rfl⟩
  have hb0 : Below w.heap.size w W0 := by rw [hW0]; exact ((Below.refl _ _).alloc (Nat.le_refl _) _).alloc (by simp) _
  have HC0 : Hid (Cl W0 w.heap.size (.slice A n c)) := Lib.hid (by rw [hW0]; exact ⟨by simp [go_sem], by simp [go_sem]⟩)
  have HC2 : Hid (Cl W0 (w.heap.size + 1) (.slice none 0 0)) := Lib.hid (by rw [hW0]; exact ⟨by simp [go_sem], by simp [go_sem]⟩)
  have HB0 := Lib.hid hb0
  have HR := Lib.hid ((hr.below hb0).call hb0.size)
  have HW0 := Lib.hid hW0.symm
  have hl := hr.len
  clear hr hb0 hW0
  cases hv : vEnum ds
  · have HV := Lib.hid hv
    clear hv hno hl
    go_enter Try.func20, Try.ntmps20
    go_wp2_with fail
    rw [HW0.out]
    refine (implVE_v ds _ _ _ _ HR.out HV.out).mono ?_
    rintro e w1 ⟨rfl, hb⟩
    obtain ⟨x2, y2⟩ := HC2.out.below hb
    have HB := Lib.hid (HB0.out.trans (hb.mono HB0.out.size))
    clear hb
    go_wp2
    exact bodyPost_ret (v := .tuple #[.agg #[.slice none 0 0], .bool false]) (by simp [results, Try.results20, go_sem, x2]) rfl (enumP_none (HB.out.setCell (by show w.heap.size ≤ w.heap.size + 1; omega) _))
  · have hx : fidx (isNm s) ds < 0 := by rcases hno with h | h; rw [hv] at h; cases h; exact h
    have HV := Lib.hid hv
    generalize hxx : fidx (isNm s) ds = x at *
    have HX := Lib.hid hxx
    clear hv hno hl hxx
    go_enter Try.func20, Try.ntmps20
    go_wp2_with fail
    rw [HW0.out]
    refine (implVE_v ds _ _ _ _ HR.out HV.out).mono ?_
    rintro e w1 ⟨rfl, hb⟩
    have x0 := (HC0.out.below hb).1
    have HX2 := Lib.hid (HC2.out.below hb)
    have HB := Lib.hid (HB0.out.trans (hb.mono HB0.out.size))
    have HS1 := Lib.hid ((HR.out.below hb).call hb.size)
    clear hb HC0 HC2 HB0 HW0 HR
    go_wp2_with fail
    go_region_held3 (fun w' => w'.cell? ⟨w.heap.size, 0, none⟩ = some (.slice A n c)) (first | exact x0 | (with_reducible exact z0) | (with_reducible exact t0) | exact keepS t0 (by omega))
      (first
        | (go_at_call 68; refine (indexOfName_v ds s _ _ _ _ HS1.out.drew HX.out).mono ?_; rintro e w2 ⟨rfl, hb⟩; have hb2 : Below w1.heap.size w1 w2 := undrew hb; have z0 := keep1 hb2 x0)
        | (go_at_call 67; refine (replaced_no x _ _ _ _ _ _ _ hx).mono ?_; rintro e w3 ⟨A3, c3, rfl, ho3, hb3⟩; have hb4 : Below w1.heap.size w1 w3 := hb2.trans (hb3.mono hb2.size); have t0 := keep1 hb4 x0; obtain ⟨x2, y2⟩ := HX2.out.below hb4))
    all_goals
      have HB5 := Lib.hid (HB.out.trans (hb4.mono HB.out.size))
      have HO5 := Lib.hid (own_base (base' := w.heap.size + 1 + 1) ho3 (by have := HX2.out.lt; have := hb2.size; omega))
      clear hb2 hb3 hb4 ho3 hb
      go_wp2
      refine bodyPost_ret (v := .tuple #[.agg #[.slice A3 0 c3], .bool false]) (by simp [results, Try.results20, go_sem, x2]) rfl ?_
      exact ⟨A3, c3, rfl, own_base (own_setCell HO5.out (fun e => by have := (HO5.out.lt _ e).1; simp at this; omega) _) (by omega), HB5.out.setCell (by show w.heap.size ≤ w.heap.size + 1; omega) _⟩

set_option maxHeartbeats 4000000 in
theorem implDrop_yes (ds : List D) (s : ByteArray) (A : Option Addr) (n c : Nat) (w : World) (hr : SD w w.heap.size A n c ds) (hv : vEnum ds = true) (k : Nat) (hk : k < ds.length) (hx : fidx (isNm s) ds = k) :
    Calls Try.prog 20 #[.agg #[.slice A n c], .string s] w (EnumP (some (ers ds k)) w) := by
  obtain ⟨W0, hW0⟩ : ∃ W0 : World, W0 = (w.alloc (.cells #[.slice A n c] 25)).alloc (.cells #[.slice none 0 0] 25) := ⟨_, rfl⟩
  have hb0 : Below w.heap.size w W0 := by rw [hW0]; exact ((Below.refl _ _).alloc (Nat.le_refl _) _).alloc (by simp) _
  have HC0 : Hid (Cl W0 w.heap.size (.slice A n c)) := Lib.hid (by rw [hW0]; exact ⟨by simp [go_sem], by simp [go_sem]⟩)
  have HC2 : Hid (Cl W0 (w.heap.size + 1) (.slice none 0 0)) := Lib.hid (by rw [hW0]; exact ⟨by simp [go_sem], by simp [go_sem]⟩)
  have HB0 := Lib.hid hb0
  have HR := Lib.hid ((hr.below hb0).call hb0.size)
  have HW0 := Lib.hid hW0.symm
  have hl := hr.len
  have h12 := vEnum_len hv
  clear hr hb0 hW0
  have HV := Lib.hid hv
  have HX := Lib.hid hx
  have HK := Lib.hid hk
  have HE : Hid (rep ds k [] = ers ds k) := Lib.hid rfl
  have HCE := Lib.hid (chkO_yes (vEnum_ers hv k))
  have HN : Hid (n ≤ 12) := Lib.hid (by omega)
  generalize hms : ers ds k = ms at *
  clear hv hx hk hms hl
  go_enter Try.func20, Try.ntmps20
  go_wp2_with fail
  rw [HW0.out]
  refine (implVE_v ds _ _ _ _ HR.out HV.out).mono ?_
  rintro e w1 ⟨rfl, hb⟩
  have x0 := (HC0.out.below hb).1
  have HX2 := Lib.hid (HC2.out.below hb)
  have HB := Lib.hid (HB0.out.trans (hb.mono HB0.out.size))
  have HS1 := Lib.hid ((HR.out.below hb).call hb.size)
  clear hb HC0 HC2 HB0 HW0 HR
  go_wp2_with fail
  go_region_held3 (fun w' => w'.cell? ⟨w.heap.size, 0, none⟩ = some (.slice A n c)) (first | exact x0 | (with_reducible exact z0) | (with_reducible exact t0) | exact keepS t0 (by omega))
    (first
      | (go_at_call 68; refine (indexOfName_v ds s _ _ _ _ HS1.out.drew HX.out).mono ?_; rintro e w2 ⟨rfl, hb⟩; have hb2 : Below w1.heap.size w1 w2 := undrew hb; have z0 := keep1 hb2 x0)
      | (go_at_call 67; refine (replaced_yes ds [] k _ _ _ _ _ _ _ ((HS1.out.below hb2).call hb2.size) (SD.none_ _ _) HK.out (by have := HN.out; omega) (by omega) HE.out).mono ?_; rw [HCE.out]; rintro e w3 ⟨A3, c3, rfl, ho3, hb3⟩; have hb4 : Below w1.heap.size w1 w3 := hb2.trans (hb3.mono hb2.size); have t0 := keep1 hb4 x0; obtain ⟨x2, y2⟩ := HX2.out.below hb4))
  all_goals
    have HB5 := Lib.hid (HB.out.trans (hb4.mono HB.out.size))
    have HO5 := Lib.hid (own_base (base' := w.heap.size + 1 + 1) ho3 (by have := HX2.out.lt; have := hb2.size; omega))
    clear hb2 hb3 hb4 ho3 hb
    go_wp2
    refine bodyPost_ret (v := .tuple #[.agg #[.slice A3 ms.length c3], .bool true]) (by simp [results, Try.results20, go_sem, x2]) rfl ?_
    exact ⟨A3, c3, rfl, own_base (own_setCell HO5.out (fun e => by have := (HO5.out.lt _ e).1; simp at this; omega) _) (by omega), HB5.out.setCell (by show w.heap.size ≤ w.heap.size + 1; omega) _⟩

set_option maxHeartbeats 4000000 in
theorem specDrop_no (ds : List D) (s : ByteArray) (A : Option Addr) (n c : Nat) (w : World) (hr : SD w w.heap.size A n c ds) (hno : vEnum ds = false ∨ fidx (isNm s) ds < 0) :
    Calls Try.prog 22 #[.agg #[.slice A n c], .string s] w (EnumP none w) := by
  obtain ⟨W0, hW0⟩ : ∃ W0 : World, W0 = (w.alloc (.cells #[.slice A n c] 25)).alloc (.cells #[.slice none 0 0] 25) := ⟨_, rfl⟩
  have hb0 : Below w.heap.size w W0 := by rw [hW0]; exact ((Below.refl _ _).alloc (Nat.le_refl _) _).alloc (by simp) _
  have HC0 : Hid (Cl W0 w.heap.size (.slice A n c)) := Lib.hid (by rw [hW0]; exact ⟨by simp [go_sem], by simp [go_sem]⟩)
  have HC2 : Hid (Cl W0 (w.heap.size + 1) (.slice none 0 0)) := Lib.hid (by rw [hW0]; exact ⟨by simp [go_sem], by simp [go_sem]⟩)
  have HB0 := Lib.hid hb0
  have HR := Lib.hid ((hr.below hb0).call hb0.size)
  have HW0 := Lib.hid hW0.symm
  clear hr hb0 hW0
  generalize hv : vEnum ds = v at hno
  generalize hx : fidx (isNm s) ds = x at hno
  have HV := Lib.hid hv
  have HX := Lib.hid hx
  clear hv hx
  rcases (show (v = false ∧ x < 0) ∨ (v = false ∧ ¬ x < 0) ∨ (v = true ∧ x < 0) by cases v <;> simp at hno ⊢ <;> omega) with ⟨rfl, hx0⟩ | ⟨rfl, hx0⟩ | ⟨rfl, hx0⟩
  all_goals
    clear hno
    go_enter Try.func22, Try.ntmps22
    go_wp2_with fail
    rw [HW0.out]
    refine (indexOf_v ds s _ _ _ _ HR.out HX.out).mono ?_
    rintro e w' ⟨rfl, rfl⟩
    have x00 := HC0.out.1
    go_wp2_with fail
    refine (specVE_v ds _ _ _ _ HR.out HV.out).mono ?_
    rintro e w1 ⟨rfl, hb⟩
    obtain ⟨x2, y2⟩ := HC2.out.below hb
    have HB := Lib.hid (HB0.out.trans (hb.mono HB0.out.size))
    clear hb
    go_wp2
    exact bodyPost_ret (v := .tuple #[.agg #[.slice none 0 0], .bool false]) (by simp [results, Try.results22, go_sem, x2]) rfl (enumP_none (HB.out.setCell (by show w.heap.size ≤ w.heap.size + 1; omega) _))

set_option maxHeartbeats 4000000 in
theorem specDrop_yes (ds : List D) (s : ByteArray) (A : Option Addr) (n c : Nat) (w : World) (hr : SD w w.heap.size A n c ds) (hv : vEnum ds = true) (k : Nat) (hk : k < ds.length) (hx : fidx (isNm s) ds = k) :
    Calls Try.prog 22 #[.agg #[.slice A n c], .string s] w (EnumP (some (ers ds k)) w) := by
  obtain ⟨W0, hW0⟩ : ∃ W0 : World, W0 = (w.alloc (.cells #[.slice A n c] 25)).alloc (.cells #[.slice none 0 0] 25) := ⟨_, rfl⟩
  have hb0 : Below w.heap.size w W0 := by rw [hW0]; exact ((Below.refl _ _).alloc (Nat.le_refl _) _).alloc (by simp) _
  have HC0 : Hid (Cl W0 w.heap.size (.slice A n c)) := Lib.hid (by rw [hW0]; exact ⟨by simp [go_sem], by simp [go_sem]⟩)
  have HC2 : Hid (Cl W0 (w.heap.size + 1) (.slice none 0 0)) := Lib.hid (by rw [hW0]; exact ⟨by simp [go_sem], by simp [go_sem]⟩)
  have HB0 := Lib.hid hb0
  have HR := Lib.hid ((hr.below hb0).call hb0.size)
  have HW0 := Lib.hid hW0.symm
  have h12 := vEnum_len hv
  have HN : Hid (n ≤ 12) := Lib.hid (by have := hr.len; omega)
  clear hr hb0 hW0
  have HV := Lib.hid hv
  have HX := Lib.hid hx
  have HK := Lib.hid hk
  clear hv hx hk
  go_enter Try.func22, Try.ntmps22
  go_wp2_with fail
  rw [HW0.out]
  refine (indexOf_v ds s _ _ _ _ HR.out HX.out).mono ?_
  rintro e w' ⟨rfl, rfl⟩
  have x00 := HC0.out.1
  go_wp2_with fail
  refine (specVE_v ds _ _ _ _ HR.out HV.out).mono ?_
  rintro e w1 ⟨rfl, hb⟩
  have x0 := (HC0.out.below hb).1
  have HX2 := Lib.hid (HC2.out.below hb)
  have HB := Lib.hid (HB0.out.trans (hb.mono HB0.out.size))
  have HS1 := Lib.hid ((HR.out.below hb).call hb.size)
  clear x00
  have HF : Hid (∀ (A : Option Addr) (n c : Nat) (w : World), SD w w.heap.size A n c ds → n ≤ 1000 → Calls Try.prog 71 #[.slice A n c, .int .i64 k] w (FreshD (ers ds k) w)) := Lib.hid fun A n c w h hn => dropped_any ds k A n c w h HK.out hn
  clear hb HC0 HC2 HB0 HW0 HR
  generalize hms : ers ds k = ms at *
  clear hms
  go_wp2_with fail
  refine (HF.out _ _ _ _ HS1.out (by have := HN.out; omega)).mono ?_
  rintro e w3 ⟨A3, c3, rfl, ho3, hb⟩
  obtain ⟨x2, y2⟩ := HX2.out.below hb
  have HB5 := Lib.hid (HB.out.trans (hb.mono HB.out.size))
  have HO5 := Lib.hid (own_base (base' := w.heap.size + 1 + 1) ho3 (by have := HX2.out.lt; omega))
  clear ho3 hb
  go_wp2
  refine bodyPost_ret (v := .tuple #[.agg #[.slice A3 ms.length c3], .bool true]) (by simp [results, Try.results22, go_sem, x2]) rfl ?_
  exact ⟨A3, c3, rfl, own_base (own_setCell HO5.out (fun e => by have := (HO5.out.lt _ e).1; simp at this; omega) _) (by omega), HB5.out.setCell (by show w.heap.size ≤ w.heap.size + 1; omega) _⟩

theorem implDrop_v (ds : List D) (s : ByteArray) (A : Option Addr) (n c : Nat) (w : World) (hr : SD w w.heap.size A n c ds) : Calls Try.prog 20 #[.agg #[.slice A n c], .string s] w (EnumP (mDrop ds s) w) := by
  cases hv : vEnum ds
  · rw [mDrop_no (.inl hv)]; exact implDrop_no ds s A n c w hr (.inl hv)
  · rcases fidx_cases (isNm s) ds with ⟨hx, _⟩ | ⟨k, hk, hx, _⟩
    · rw [mDrop_no (.inr (by omega))]; exact implDrop_no ds s A n c w hr (.inr (by omega))
    · rw [mDrop_yes hv hx]; exact implDrop_yes ds s A n c w hr hv k hk hx
theorem specDrop_v (ds : List D) (s : ByteArray) (A : Option Addr) (n c : Nat) (w : World) (hr : SD w w.heap.size A n c ds) : Calls Try.prog 22 #[.agg #[.slice A n c], .string s] w (EnumP (mDrop ds s) w) := by
  cases hv : vEnum ds
  · rw [mDrop_no (.inl hv)]; exact specDrop_no ds s A n c w hr (.inl hv)
  · rcases fidx_cases (isNm s) ds with ⟨hx, _⟩ | ⟨k, hk, hx, _⟩
    · rw [mDrop_no (.inr (by omega))]; exact specDrop_no ds s A n c w hr (.inr (by omega))
    · rw [mDrop_yes hv hx]; exact specDrop_yes ds s A n c w hr hv k hk hx
end Go.Proofs.Ytiklgghbkkmnaaa
