import Derived.Test.YtiklgghbkkmnaaaDrop
import Derived.Test.YtiklgghbkkmnaaaMarkS
namespace Go.Proofs.Ytiklgghbkkmnaaa
open Go.RowKit
set_option linter.unusedVariables false
set_option maxRecDepth 100000

/-- ds with another name for s, or none. -/
def mRename (ds : List D) (s to : ByteArray) : Option (List D) :=
  if vEnum ds then (match ds[(fidx (isNm s) ds).toNat]? with | some d => if fidx (isNm s) ds < 0 then none else chkO (rep ds (fidx (isNm s) ds).toNat [⟨to, d.val⟩]) | none => none) else none
theorem mRename_no {ds : List D} {s to : ByteArray} (h : vEnum ds = false ∨ fidx (isNm s) ds < 0) : mRename ds s to = none := by
  unfold mRename
  rcases h with h | h
  · rw [h]; rfl
  · split
    · split
      · first | rw [if_pos h] | rfl
      · rfl
    · rfl
theorem mRename_yes {ds : List D} {s to : ByteArray} {k : Nat} (h : vEnum ds = true) (hk : k < ds.length) (hx : fidx (isNm s) ds = (k : Int)) : mRename ds s to = chkO (rep ds k [⟨to, ds[k].val⟩]) := by
  unfold mRename
  rw [if_pos h, hx]
  have : ds[(k : Int).toNat]? = some ds[k] := by simp [hk]
  rw [this]
  simp only
  rw [if_neg (show ¬ ((k : Int) < 0) by omega)]
  simp
theorem rep_mem {ds os : List D} {k : Nat} {x : D} (h : x ∈ rep ds k os) : x ∈ ds ∨ x ∈ os := by
  unfold rep at h
  simp only [List.mem_append] at h
  rcases h with h | h | h
  · exact .inl (List.mem_of_mem_take h)
  · exact .inr h
  · exact .inl (List.mem_of_mem_drop h)
theorem mRename_mem {ds : List D} {s to : ByteArray} {x : D} (h : x ∈ (mRename ds s to).getD []) : x ∈ ds ∨ (x.name = to ∧ ∃ y ∈ ds, x.val = y.val) := by
  unfold mRename at h
  split at h
  · split at h
    · rename_i d hd
      split at h
      · cases h
      · rcases rep_mem (chkO_mem h) with h | h
        · exact .inl h
        · simp at h
          subst h
          exact .inr ⟨rfl, d, List.mem_of_getElem? hd, rfl⟩
    · cases h
  · cases h
theorem mRename_len (ds : List D) (s to : ByteArray) : ((mRename ds s to).getD []).length ≤ 12 := by
  unfold mRename
  split
  · split
    · split
      · exact Nat.zero_le _
      · exact chkO_len _
    · exact Nat.zero_le _
  · exact Nat.zero_le _
theorem rep_set (ds : List D) (k : Nat) (h : k < ds.length) (d : D) : ds.set k d = rep ds k [d] := by
  unfold rep
  rw [List.set_eq_take_append_cons_drop, if_pos h]
  rfl

set_option maxHeartbeats 4000000 in
theorem implRename_no (ds : List D) (s to : ByteArray) (A : Option Addr) (n c : Nat) (w : World) (hr : SD w w.heap.size A n c ds) (hno : vEnum ds = false ∨ fidx (isNm s) ds < 0) :
    Calls Try.prog 25 #[.agg #[.slice A n c], .string s, .string to] w (EnumP none w) := by
  obtain ⟨W0, hW0⟩ : ∃ W0 : World, W0 = (w.alloc (.cells #[.slice A n c] 25)).alloc (.cells #[.slice none 0 0] 25) := ⟨_, rfl⟩
  have hb0 : Below w.heap.size w W0 := by rw [hW0]; exact ((Below.refl _ _).alloc (Nat.le_refl _) _).alloc (by simp) _
  have HC2 : Hid (Cl W0 (w.heap.size + 1) (.slice none 0 0)) := Lib.hid (by rw [hW0]; exact ⟨by simp [go_sem], by simp [go_sem]⟩)
  have HB0 := Lib.hid hb0
  have HV := Lib.hid (implValueOf_no ds s A c n W0 ((hr.below hb0).call hb0.size) rfl rfl hno)
  have HW0 := Lib.hid hW0.symm
  clear hr hb0 hW0 hno
  go_enter Try.func25, Try.ntmps25
  go_wp2_with fail
  rw [HW0.out]
  refine HV.out.mono ?_
  rintro e w1 ⟨rfl, hb⟩
  obtain ⟨x2, y2⟩ := HC2.out.below hb
  have HB := Lib.hid (HB0.out.trans (hb.mono HB0.out.size))
  clear hb
  go_wp2
  exact bodyPost_ret (v := .tuple #[.agg #[.slice none 0 0], .bool false]) (by simp [results, Try.results25, go_sem, x2]) rfl (enumP_none (HB.out.setCell (by show w.heap.size ≤ w.heap.size + 1; omega) _))

set_option maxHeartbeats 8000000 in
theorem implRename_yes (ds : List D) (s to : ByteArray) (A : Option Addr) (n c : Nat) (w : World) (hr : SD w w.heap.size A n c ds) (hto : to.size ≤ maxLen) (hv : vEnum ds = true) (k : Nat) (hk : k < ds.length) (hx : fidx (isNm s) ds = k) {es : List D} (hes : rep ds k [⟨to, ds[k].val⟩] = es) :
    Calls Try.prog 25 #[.agg #[.slice A n c], .string s, .string to] w (EnumP (chkO es) w) := by
  obtain ⟨W0, hW0⟩ : ∃ W0 : World, W0 = (w.alloc (.cells #[.slice A n c] 25)).alloc (.cells #[.slice none 0 0] 25) := ⟨_, rfl⟩
  have hb0 : Below w.heap.size w W0 := by rw [hW0]; exact ((Below.refl _ _).alloc (Nat.le_refl _) _).alloc (by simp) _
  have HC0 : Hid (Cl W0 w.heap.size (.slice A n c)) := Lib.hid (by rw [hW0]; exact ⟨by simp [go_sem], by simp [go_sem]⟩)
  have HC2 : Hid (Cl W0 (w.heap.size + 1) (.slice none 0 0)) := Lib.hid (by rw [hW0]; exact ⟨by simp [go_sem], by simp [go_sem]⟩)
  have HB0 := Lib.hid hb0
  have HR := Lib.hid ((hr.below hb0).call hb0.size)
  have HVO := Lib.hid (implValueOf_yes ds s A c n W0 ((hr.below hb0).call hb0.size) hv k hk hx)
  have HW0 := Lib.hid hW0.symm
  have h12 := vEnum_len hv
  have HN : Hid (n ≤ 12) := Lib.hid (by have := hr.len; omega)
  have HDO : Hid (D.ok ⟨to, ds[k].val⟩) := Lib.hid ⟨hto, (hr.ok _ (List.getElem_mem hk)).2⟩
  clear hr hb0 hW0
  have HX := Lib.hid hx
  have HK := Lib.hid hk
  have HES := Lib.hid hes
  generalize ds[k].val = vl at *
  clear hv hx hk hes
  generalize hq : chkO es = q at *
  have HQ := Lib.hid hq
  clear hq
  go_enter Try.func25, Try.ntmps25
  go_wp2_with fail
  rw [HW0.out]
  refine HVO.out.mono ?_
  rintro e w1 ⟨rfl, hb⟩
  have x0 := (HC0.out.below hb).1
  have HX2 := Lib.hid (HC2.out.below hb)
  have HB := Lib.hid (HB0.out.trans (hb.mono HB0.out.size))
  have HS1 := Lib.hid ((HR.out.below hb).call hb.size)
  clear hb HC0 HC2 HB0 HW0 HR HVO
  go_wp2_with fail
  have hb0 : Below w1.heap.size w1 w1 := Below.refl _ _
  go_region_held3 (fun w' => w'.cell? ⟨w.heap.size, 0, none⟩ = some (.slice A n c))
    (first | exact x0 | (with_reducible exact z0) | (with_reducible exact t0) | exact keepA x0 | exact keepA z0 | exact keepS t0 (by omega))
    (first
      | (go_at_call 68; refine (indexOfName_v ds s _ _ _ _ (by first | exact HS1.out.drew | exact (HS1.out.drew.alloc (Nat.le_refl _) _).call (by simp)) HX.out).mono ?_; rintro e w2 ⟨rfl, hb⟩; have hbN : Below w1.heap.size w1 w2 := (by first | exact undrew hb | exact ((hb0.alloc hb0.size _).drew).trans (hb.mono (by simp))); have z0 := keep1 hbN x0; (try (have q0 : w2.cell? ⟨w1.heap.size, 0, none⟩ = some (.string to) := keep1 (W := (w1.alloc (.cells #[.string to, .int .i64 vl] 27)).drew) hb (by simp [go_sem]); have q1 : w2.cell? ⟨w1.heap.size, 1, none⟩ = some (.int .i64 vl) := keep1 (W := (w1.alloc (.cells #[.string to, .int .i64 vl] 27)).drew) hb (by simp [go_sem]); have q2 := World.block_lt_of_cell? _ _ q0)); clear hb)
      | (go_at_call 67; refine (replaced_yes ds [⟨to, vl⟩] k _ _ _ _ _ _ _ (by first | exact (HS1.out.below hbN).call hbN.size | exact ((HS1.out.below hbN).alloc hbN.size _).call (hbN.alloc hbN.size _).size) (by first | exact sd_one q0 q1 q2 HDO.out | exact sd_one (by simp [go_sem]) (by simp [go_sem]) (by simp) HDO.out) HK.out (by have := HN.out; omega) (by omega) HES.out).mono ?_; rw [HQ.out]; rintro e w3 ⟨A3, c3, rfl, ho3, hb3⟩; have hbM : Below w1.heap.size w1 w3 := (by first | exact hbN.trans (hb3.mono hbN.size) | exact (hbN.alloc hbN.size _).trans (hb3.mono (hbN.alloc hbN.size _).size)); have t0 := keep1 hbM x0; have ho4 := own_base ho3 (base' := w1.heap.size) (by first | exact hbN.size | exact (hbN.alloc hbN.size _).size); obtain ⟨x2, y2⟩ := HX2.out.below hbM))
  all_goals
    have HB5 := Lib.hid (HB.out.trans (hbM.mono HB.out.size))
    have HO5 := Lib.hid (own_base (base' := w.heap.size + 1 + 1) ho4 (by have := HX2.out.lt; omega))
    clear hbM hb3 ho3 ho4
    go_wp2
    refine bodyPost_ret (v := .tuple #[.agg #[.slice A3 (q.getD []).length c3], .bool q.isSome]) (by simp [results, Try.results25, go_sem, x2]) rfl ?_
    exact ⟨A3, c3, rfl, own_base (own_setCell HO5.out (fun e => by have := (HO5.out.lt _ e).1; simp at this; omega) _) (by omega), HB5.out.setCell (by show w.heap.size ≤ w.heap.size + 1; omega) _⟩

set_option maxHeartbeats 4000000 in
theorem specRename_no (ds : List D) (s to : ByteArray) (A : Option Addr) (n c : Nat) (w : World) (hr : SD w w.heap.size A n c ds) (hno : vEnum ds = false ∨ fidx (isNm s) ds < 0) :
    Calls Try.prog 26 #[.agg #[.slice A n c], .string s, .string to] w (EnumP none w) := by
  obtain ⟨W0, hW0⟩ : ∃ W0 : World, W0 = (w.alloc (.cells #[.slice A n c] 25)).alloc (.cells #[.slice none 0 0] 25) := ⟨_, rfl⟩
  have hb0 : Below w.heap.size w W0 := by rw [hW0]; exact ((Below.refl _ _).alloc (Nat.le_refl _) _).alloc (by simp) _
  have HC0 : Hid (Cl W0 w.heap.size (.slice A n c)) := Lib.hid (by rw [hW0]; exact ⟨by simp [go_sem], by simp [go_sem]⟩)
  have HC2 : Hid (Cl W0 (w.heap.size + 1) (.slice none 0 0)) := Lib.hid (by rw [hW0]; exact ⟨by simp [go_sem], by simp [go_sem]⟩)
  have HB0 := Lib.hid hb0
  have HR := Lib.hid ((hr.below hb0).call hb0.size)
  have HW0 := Lib.hid hW0.symm
  clear hr hb0 hW0
  generalize hv : vEnum ds = v at hno
  generalize hx : fidx (isNm s) ds = x at hno
  have HV := Lib.hid hv
  have HX := Lib.hid hx
  clear hv hx
  rcases (show (v = false ∧ x < 0) ∨ (v = false ∧ ¬ x < 0) ∨ (v = true ∧ x < 0) by cases v <;> simp at hno ⊢ <;> omega) with ⟨rfl, hx0⟩ | ⟨rfl, hx0⟩ | ⟨rfl, hx0⟩
  all_goals
    clear hno
    go_enter Try.func26, Try.ntmps26
    go_wp2_with fail
    rw [HW0.out]
    refine (indexOf_v ds s _ _ _ _ HR.out HX.out).mono ?_
    rintro e w' ⟨rfl, rfl⟩
    have x00 := HC0.out.1
    go_wp2_with fail
    refine (specVE_v ds _ _ _ _ HR.out HV.out).mono ?_
    rintro e w1 ⟨rfl, hb⟩
    obtain ⟨x2, y2⟩ := HC2.out.below hb
    have HB := Lib.hid (HB0.out.trans (hb.mono HB0.out.size))
    clear hb
    go_wp2
    exact bodyPost_ret (v := .tuple #[.agg #[.slice none 0 0], .bool false]) (by simp [results, Try.results26, go_sem, x2]) rfl (enumP_none (HB.out.setCell (by show w.heap.size ≤ w.heap.size + 1; omega) _))

set_option maxHeartbeats 8000000 in
theorem specRename_yes (ds : List D) (s to : ByteArray) (A : Option Addr) (n c : Nat) (w : World) (hr : SD w w.heap.size A n c ds) (hto : to.size ≤ maxLen) (hv : vEnum ds = true) (k : Nat) (hk : k < ds.length) (hx : fidx (isNm s) ds = k) {es : List D} (hes : rep ds k [⟨to, ds[k].val⟩] = es) :
    Calls Try.prog 26 #[.agg #[.slice A n c], .string s, .string to] w (EnumP (chkO es) w) := by
  obtain ⟨W0, hW0⟩ : ∃ W0 : World, W0 = (w.alloc (.cells #[.slice A n c] 25)).alloc (.cells #[.slice none 0 0] 25) := ⟨_, rfl⟩
  have hb0 : Below w.heap.size w W0 := by rw [hW0]; exact ((Below.refl _ _).alloc (Nat.le_refl _) _).alloc (by simp) _
  have HC0 : Hid (Cl W0 w.heap.size (.slice A n c)) := Lib.hid (by rw [hW0]; exact ⟨by simp [go_sem], by simp [go_sem]⟩)
  have HC2 : Hid (Cl W0 (w.heap.size + 1) (.slice none 0 0)) := Lib.hid (by rw [hW0]; exact ⟨by simp [go_sem], by simp [go_sem]⟩)
  have HB0 := Lib.hid hb0
  have HR := Lib.hid ((hr.below hb0).call hb0.size)
  have HW0 := Lib.hid hW0.symm
  have h12 := vEnum_len hv
  obtain rfl := hr.len
  have HOK : Hid (∀ x ∈ es, x.ok) := Lib.hid (by
    subst hes
    intro x hx
    rcases rep_mem hx with h | h
    · exact hr.ok _ h
    · simp at h; subst h; exact ⟨hto, (hr.ok _ (List.getElem_mem hk)).2⟩)
  have HFL : Hid ((flat ds).set (k * 2) (.string to) = flat es) := Lib.hid (by rw [flat_set_name ds k hk, rep_set ds k hk, hes])
  have HLE : Hid (ds.length = es.length) := Lib.hid (by rw [← hes, ← rep_set ds k hk, List.length_set])
  clear hr hb0 hW0
  have HV := Lib.hid hv
  have HX := Lib.hid hx
  clear hv hx hes
  go_enter Try.func26, Try.ntmps26
  go_wp2_with fail
  rw [HW0.out]
  refine (indexOf_v ds s _ _ _ _ HR.out HX.out).mono ?_
  rintro e w' ⟨rfl, rfl⟩
  have x00 := HC0.out.1
  go_wp2_with fail
  refine (specVE_v ds _ _ _ _ HR.out HV.out).mono ?_
  rintro e w1 ⟨rfl, hb⟩
  have x0 := (HC0.out.below hb).1
  have HX2 := Lib.hid (HC2.out.below hb)
  have HB := Lib.hid (HB0.out.trans (hb.mono HB0.out.size))
  have HS1 := Lib.hid ((HR.out.below hb).call hb.size)
  clear hb HC0 HC2 HB0 HW0 HR x00
  go_wp2_with fail
  refine (copyDefs_n ds _ _ _ _ HS1.out (by omega)).mono ?_
  rintro e w2 ⟨A2, c2, rfl, ho, hb⟩
  obtain ⟨g, rfl, hg1, hg2⟩ := own_addr ho (by omega)
  have HX3 := Lib.hid (HX2.out.below hb)
  have HB3 := Lib.hid (HB.out.trans (hb.mono HB.out.size))
  have HO := Lib.hid (show w2.ownsRow w1.heap.size 27 2 (.slice (some ⟨g, 0, none⟩) ds.length c2) ds.length (flat ds) from ho)
  have hf1 := HO.out.frozenAt (k * 2)
  obtain ⟨y1, hx1⟩ := own_cell HO.out (k * 2) (by omega)
  have HSW := Lib.hid (HO.out.stored (k * 2) (.string to)).1
  have HLT := Lib.hid HX2.out.lt
  clear ho hb
  generalize hv2 : vEnum es = v2 at *
  have HV2 := Lib.hid hv2
  clear hv2
  have hki : (k : Int) < (ds.length : Int) := by omega
  have hk0 : (0 : Int) ≤ (k : Int) := by omega
  have hlt := HLT.out
  have HO3 : Hid ((w2.setCell ⟨g, k * 2, none⟩ (.string to)).ownsRow w1.heap.size 27 2 (.slice (some ⟨g, 0, none⟩) ds.length c2) ds.length (flat es)) := Lib.hid (by rw [← HFL.out]; exact HSW.out)
  have HB4 : Hid (Below w.heap.size w (w2.setCell ⟨g, k * 2, none⟩ (.string to))) := Lib.hid (HB3.out.setCell (by show w.heap.size ≤ g; omega) _)
  have HX4 : Hid (Cl (w2.setCell ⟨g, k * 2, none⟩ (.string to)) (w.heap.size + 1) (.slice none 0 0)) := Lib.hid ⟨by rw [World.cell?_setCell_other _ _ _ _ (fun e => by injection e with e1; omega)]; exact HX3.out.1, by rw [World.frozen?_setCell]; exact HX3.out.2⟩
  go_wp2_with fail
  refine (checkedEnum_any es _ _ _ _ (sd_of_own HO3.out HOK.out) HV2.out).mono ?_
  rintro e w5 ⟨A5, n5, c5, rfl, hq, hb⟩
  obtain ⟨x2, y2⟩ := HX4.out.below hb
  have HB5 := Lib.hid (HB4.out.trans (hb.mono HB4.out.size))
  have HO5 := Lib.hid (own_base (base' := w.heap.size + 1 + 1) (own_below HO3.out hb) (by omega))
  have HQ := Lib.hid hq
  clear hb hq HX4 HB4 HO3 hx1 hf1
  go_wp2
  refine bodyPost_ret (v := .tuple #[.agg #[.slice A5 n5 c5], .bool v2]) (by simp [results, Try.results26, go_sem, x2]) rfl ?_
  rw [← HV2.out]
  exact enumP_chk (own_base (own_setCell HO5.out (fun e => by have := (HO5.out.lt _ e).1; simp at this; omega) _) (by omega)) (by rw [HV2.out]; exact HQ.out) (HB5.out.setCell (by show w.heap.size ≤ w.heap.size + 1; omega) _)

theorem implRename_v (ds : List D) (s to : ByteArray) (A : Option Addr) (n c : Nat) (w : World) (hr : SD w w.heap.size A n c ds) (hto : to.size ≤ maxLen) : Calls Try.prog 25 #[.agg #[.slice A n c], .string s, .string to] w (EnumP (mRename ds s to) w) := by
  cases hv : vEnum ds
  · rw [mRename_no (.inl hv)]; exact implRename_no ds s to A n c w hr (.inl hv)
  · rcases fidx_cases (isNm s) ds with ⟨hx, _⟩ | ⟨k, hk, hx, _⟩
    · rw [mRename_no (.inr (by omega))]; exact implRename_no ds s to A n c w hr (.inr (by omega))
    · rw [mRename_yes hv hk hx]; exact implRename_yes ds s to A n c w hr hto hv k hk hx rfl
theorem specRename_v (ds : List D) (s to : ByteArray) (A : Option Addr) (n c : Nat) (w : World) (hr : SD w w.heap.size A n c ds) (hto : to.size ≤ maxLen) : Calls Try.prog 26 #[.agg #[.slice A n c], .string s, .string to] w (EnumP (mRename ds s to) w) := by
  cases hv : vEnum ds
  · rw [mRename_no (.inl hv)]; exact specRename_no ds s to A n c w hr (.inl hv)
  · rcases fidx_cases (isNm s) ds with ⟨hx, _⟩ | ⟨k, hk, hx, _⟩
    · rw [mRename_no (.inr (by omega))]; exact specRename_no ds s to A n c w hr (.inr (by omega))
    · rw [mRename_yes hv hk hx]; exact specRename_yes ds s to A n c w hr hto hv k hk hx rfl
end Go.Proofs.Ytiklgghbkkmnaaa
