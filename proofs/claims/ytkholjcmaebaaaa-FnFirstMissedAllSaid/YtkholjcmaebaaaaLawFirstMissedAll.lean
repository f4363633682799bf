/-
For every code the law that with an arm for all nothing is missed returns true.
Conditions: none.
-/
import Derived.Test.YtkholjcmaebaaaaGenAd
import Derived.Test.YtkholjcmaebaaaaOpenC
import Derived.Test.YtkholjcmaebaaaaLArs
import Derived.Test.YtkholjcmaebaaaaArmV
import Derived.Test.YtkholjcmaebaaaaArmY
import Derived.Test.YtkholjcmaebaaaaBaseE
import Derived.Test.YtkholjcmaebaaaaEdit2
namespace Go.Proofs.Ytkholjcmaebaaaa.fnFirstMissedAll
open Go.ChangeShapes Go.WideShapes Go.ChangeAt Go.RowKit
open Go.ChangeMaps (open_string shut_string)
set_option linter.unusedVariables false
set_option linter.unusedSimpArgs false
set_option maxRecDepth 100000

theorem src_one {W : World} {g : Nat} {x y : Value} (h0 : W.cell? ⟨g, 0, none⟩ = some x) (h1 : W.cell? ⟨g, 1, none⟩ = some y) : Src W 2 (some ⟨g, 0, none⟩) 1 [x, y] := by
  refine ⟨rfl, .inr ⟨_, rfl, fun j u hj => ?_⟩⟩
  match j, hj with
  | 0, hj => simp at hj; subst hj; simpa [Addr.add] using h0
  | 1, hj => simp at hj; subst hj; simpa [Addr.add] using h1
  | j + 2, hj => simp at hj
theorem slA {w : World} {B n c : Nat} {A : Option Addr} {rs : List Ar} (h : SA w B A n c rs) : SL encA 2 w B A n c rs := ⟨h.rd, h.len, h.cap, h.max⟩
theorem one_A (xs : List Ar) : ∀ u ∈ xs.flatMap encA, u.oneCell' = true := by
  intro u hu
  obtain ⟨s, _, h⟩ := List.mem_flatMap.1 hu
  unfold encA at h
  rcases List.mem_cons.1 h with h | h
  · rw [h]; rfl
  · rw [List.mem_singleton.1 h]; rfl

theorem nilA (w : World) : SA w w.heap.size none 0 0 [] := ⟨.inl rfl, rfl, Nat.le_refl _, by unfold maxLen; omega, by intro d hd; cases hd⟩

set_option maxHeartbeats 16000000 in
theorem walk (A : Option Addr) (n c : Nat) (zs : List Int) (w : World) (h : SB w w.heap.size A n c zs) :
    Calls Try.prog 6 #[.slice A n c] w fun e w' => e = .returned (.bool true) ∧ Below w.heap.size w w' := by
  have hm := h.max
  have hcap := h.cap
  unfold maxLen at hm
  have HS0 := Lib.hid h
  clear h
  by_cases hbig : 1048576 < (n : Int)
  · go_enter Try.func6, Try.ntmps6
    go_wp2
    go_ret
    exact ⟨rfl, Below.refl _ _⟩
  go_enter Try.func6, Try.ntmps6
  go_wp2_with fail
  refine (drawFirstMissed_s A n c zs _ HS0.out).mono ?_
  rintro e w1 ⟨Aa, ca, dsa, ba, As, cs, rs, rfl, hna, hsma, hbda, hrl, hrs, hsa, hss, hb⟩
  have HB_1 := Lib.hid hb
  have Sa_1 := Lib.hid hsa
  have HSMa := Lib.hid hsma
  have HOKa : Hid (∀ d ∈ dsa, d.ok) := Lib.hid (fun d hd => small_ok (hsma d hd))
  have HBDa := Lib.hid hbda
  have Ss_1 := Lib.hid hss
  clear hb hsa hsma hbda hss
  obtain ⟨w2, hw⟩ : ∃ W : World, W = (w1.alloc (.cells #[.slice Aa dsa.length ca, .int .i64 ba] 25)) := ⟨_, rfl⟩
  have hb : Below w1.heap.size w1 w2 := by rw [hw]; exact ((Below.refl _ _).alloc (by first | exact Nat.le_refl _ | (simp; done) | (simp; omega)) _)
  have Sa_2 := Lib.hid ((Sa_1.out.below hb).call hb.size)
  have Ss_2 := Lib.hid ((Ss_1.out.below hb).call hb.size)
  have HB_2 : Hid (Below w.heap.size w w2) := Lib.hid (HB_1.out.trans (hb.mono HB_1.out.size))
  have ba_2 : w2.cell? ⟨w1.heap.size, 0, none⟩ = some (.slice Aa dsa.length ca) := by rw [hw]; simp [go_sem]
  have va_2 : w2.cell? ⟨w1.heap.size, 1, none⟩ = some (.int .i64 ba) := by rw [hw]; simp [go_sem]
  have lf_ba : (w1.alloc (.cells #[.slice Aa dsa.length ca, .int .i64 ba] 25)).cell? ⟨w1.heap.size, 0, none⟩ = some (.slice Aa dsa.length ca) := by rw [← hw]; exact ba_2
  have lf_va : (w1.alloc (.cells #[.slice Aa dsa.length ca, .int .i64 ba] 25)).cell? ⟨w1.heap.size, 1, none⟩ = some (.int .i64 ba) := by rw [← hw]; exact va_2
  have HW2 : Hid ((w1.alloc (.cells #[.slice Aa dsa.length ca, .int .i64 ba] 25)) = w2) := Lib.hid hw.symm
  clear hb hw Sa_1 Ss_1 HB_1
  obtain ⟨r, hr⟩ : ∃ r, mMissed dsa ba rs = r := ⟨_, rfl⟩
  have HR := Lib.hid hr
  have OKR : Hid (∀ a ∈ rs, a.ok) := Lib.hid (fun a ha => Ar.small_ok (hrs a ha))
  clear hr hrs
  go_wp2_with fail
  rw [HW2.out]
  clear lf_ba lf_va
  refine (implMissed_v dsa ba rs _ _ _ _ Sa_2.out _ _ _ Ss_2.out (by omega) HR.out).mono ?_
  rintro e w3 ⟨rfl, hb⟩
  have ba_3 := keep1 hb ba_2
  have va_3 := keep1 hb va_2
  have Sa_3 := Lib.hid ((Sa_2.out.below hb).call hb.size)
  have Ss_3 := Lib.hid ((Ss_2.out.below hb).call hb.size)
  have HB_3 : Hid (Below w.heap.size w w3) := Lib.hid (HB_2.out.trans (hb.mono HB_2.out.size))
  clear hb  ba_2 va_2 Sa_2 Ss_2 HB_2
  go_wp2_with fail
  refine (specMissed_v dsa ba rs _ _ _ _ Sa_3.out _ _ _ Ss_3.out HR.out).mono ?_
  rintro e w4 ⟨rfl, hb⟩
  have ba_4 := keep1 hb ba_3
  have va_4 := keep1 hb va_3
  have Sa_4 := Lib.hid ((Sa_3.out.below hb).call hb.size)
  have Ss_4 := Lib.hid ((Ss_3.out.below hb).call hb.size)
  have HB_4 : Hid (Below w.heap.size w w4) := Lib.hid (HB_3.out.trans (hb.mono HB_3.out.size))
  clear hb  ba_3 va_3 Sa_3 Ss_3 HB_3
  by_cases h2 : r = -2
  · subst h2
    go_wp2_with fail
    refine (specMissed_v dsa ba rs _ _ _ _ Sa_4.out _ _ _ Ss_4.out HR.out).mono ?_
    rintro e w5 ⟨rfl, hb⟩
    have ba_5 := keep1 hb ba_4
    have va_5 := keep1 hb va_4
    have Sa_5 := Lib.hid ((Sa_4.out.below hb).call hb.size)
    have Ss_5 := Lib.hid ((Ss_4.out.below hb).call hb.size)
    have HB_5 : Hid (Below w.heap.size w w5) := Lib.hid (HB_4.out.trans (hb.mono HB_4.out.size))
    clear hb  ba_4 va_4 Sa_4 Ss_4 HB_4
    go_wp2
    go_ret
    exact ⟨by first | rfl | kernel_rfl | (go_simp; done), HB_5.out⟩
  have e0 : (r == -2) = false := by rw [beq_eq_false_iff_ne]; exact h2
  by_cases h10 : (10 : Int) ≤ (rs.length : Int)
  · skip
    go_wp2_with fail
    refine (specMissed_v dsa ba rs _ _ _ _ Sa_4.out _ _ _ Ss_4.out HR.out).mono ?_
    rintro e w5 ⟨rfl, hb⟩
    have ba_5 := keep1 hb ba_4
    have va_5 := keep1 hb va_4
    have Sa_5 := Lib.hid ((Sa_4.out.below hb).call hb.size)
    have Ss_5 := Lib.hid ((Ss_4.out.below hb).call hb.size)
    have HB_5 : Hid (Below w.heap.size w w5) := Lib.hid (HB_4.out.trans (hb.mono HB_4.out.size))
    clear hb  ba_4 va_4 Sa_4 Ss_4 HB_4
    go_wp2
    go_ret
    exact ⟨by first | rfl | kernel_rfl | (go_simp; done), HB_5.out⟩
  obtain ⟨m, hmk, hall, hnil, hle⟩ := all_law (by rw [HR.out]; exact h2) (by omega : rs.length < 10)
  rw [HR.out] at hle
  have HMK := Lib.hid hmk
  have HALL := Lib.hid hall
  have HNIL := Lib.hid hnil
  have HLE := Lib.hid hle
  have OKL : Hid (∀ a ∈ rs ++ [(⟨0, 0⟩ : Ar)], a.ok) := Lib.hid (by
    intro a ha
    rcases List.mem_append.1 ha with h | h
    · exact OKR.out a h
    · rw [List.mem_singleton.1 h]; exact ⟨by show I64 0; unfold I64; omega, by show I64 0; unfold I64; omega⟩)
  clear hmk hall hnil hle
  go_wp2_with fail
  obtain ⟨i0, hi, hz0, hz1, hz2⟩ := info_parts info_A
  have HI := Lib.hid (And.intro hi (And.intro hz0 (And.intro hz1 hz2)))
  clear hi hz0 hz1 hz2
  refine wp_region_held_drew (S := (fun w' => w'.cell? ⟨w1.heap.size, 0, none⟩ = some (.slice Aa dsa.length ca) ∧ w'.cell? ⟨w1.heap.size, 1, none⟩ = some (.int .i64 ba))) (by kernel_rfl) ⟨ba_4, va_4⟩ (fun hHeld => ?_)
  generalize hwd : w4.drew = w5 at hHeld ⊢
  have hb : Below w4.heap.size w4 w5 := by rw [← hwd]; exact (Below.refl _ _).drew
  have ba_5 := keep1 hb ba_4
  have va_5 := keep1 hb va_4
  have Sa_5 := Lib.hid ((Sa_4.out.below hb).call hb.size)
  have Ss_5 := Lib.hid ((Ss_4.out.below hb).call hb.size)
  have HB_5 : Hid (Below w.heap.size w w5) := Lib.hid (HB_4.out.trans (hb.mono HB_4.out.size))
  have HXD := Lib.hid hb
  clear hb hwd ba_4 va_4 Sa_4 Ss_4 HB_4
  have hb_w5 : Below w5.heap.size w5 w5 := Below.refl _ _
  refine wpAnyH_take (i := 0) (v := ?_) rfl (by kernel_rfl) (by kernel_rfl) (by kernel_rfl) (fun _ _ _ h => h) (Or.inl ⟨by kernel_rfl, ?_⟩) hHeld ?_
  rotate_left
  · intro wz hSw
    try dsimp only at hSw
    first
    | (go_simp; done)
    | (go_simp; with_reducible rfl)
  try simp only [Act.put, List.setIfInBounds_toArray, List.set_cons_zero, List.set_cons_succ]
  refine wpAnyH_take (i := 2) (v := ?_) rfl (by kernel_rfl) (by kernel_rfl) (by kernel_rfl) (fun _ _ _ h => h) (Or.inl ⟨by kernel_rfl, ?_⟩) hHeld ?_
  rotate_left
  · intro wz hSw
    try dsimp only at hSw
    first
    | (go_simp; done)
    | (go_simp; with_reducible rfl)
  try simp only [Act.put, List.setIfInBounds_toArray, List.set_cons_zero, List.set_cons_succ]
  refine wpAnyH_take (i := 4) (v := ?_) rfl (by kernel_rfl) (by kernel_rfl) (by kernel_rfl) (fun _ _ _ h => h) (Or.inl ⟨by kernel_rfl, ?_⟩) hHeld ?_
  rotate_left
  · intro wz hSw
    try dsimp only at hSw
    first
    | (go_simp; done)
    | (go_simp; with_reducible rfl)
  try simp only [Act.put, List.setIfInBounds_toArray, List.set_cons_zero, List.set_cons_succ]
  refine wpAnyH_ready (rs := [1, 5]) (by kernel_rfl) (by simp) ?_
  refine AllReadyH.cons rfl (fun K hK => ?_) (AllReadyH.cons rfl (fun K hK => ?_) AllReadyH.nil)
  · skip
    go_simp
    refine hK.out _ _ ⟨keep1 (hb_w5.alloc hb_w5.size _) ba_5, keep1 (hb_w5.alloc hb_w5.size _) va_5⟩ (fun hHeld => ?_)
    clear hK K
    try simp only [Act.put, List.setIfInBounds_toArray, List.set_cons_zero, List.set_cons_succ]
    generalize hw9 : (World.alloc _ _) = w5A at hHeld ⊢
    have hb_w5A : Below w5.heap.size w5 w5A := by rw [← hw9]; exact hb_w5.alloc hb_w5.size _
    have hz_w5A : Hid (w5A.heap.size = w5.heap.size + 1) := Lib.hid (by rw [← hw9]; simp)
    have ow_w5A : Hid (w5A.ownsRow w5.heap.size 40 2 (.slice (some ⟨w5.heap.size, 0, none⟩) 0 0) 0 []) := Lib.hid (by rw [← hw9]; exact World.ownsRow_made w5 #[] 0 hb_w5.size (by unfold maxLen; omega) rfl)
    clear hw9
    refine wpAnyH_ready (rs := [3, 5]) (by kernel_rfl) (by simp) ?_
    refine AllReadyH.cons rfl (fun K hK => ?_) (AllReadyH.cons rfl (fun K hK => ?_) AllReadyH.nil)
    · skip
      refine step_app_src rfl _ _ _ rfl w5.heap.size _ i0 _ 2 16 Try.underlying34 HI.out rfl (by omega) (by omega) _ 0 _ rfl ow_w5A.out _ _ _ _ rfl ((slA (Ss_5.out.below hb_w5A)).src (fun _ => rfl)) (one_A _) (by omega) hb_w5A.size ?_
      intro v9 w5A1 ho9 hg9
      rw [Nat.zero_add, List.nil_append] at ho9
      obtain ⟨A9, c9, rfl⟩ := own_form ho9
      have hb_w5A1 : Below w5.heap.size w5 w5A1 := hb_w5A.grown hg9 hb_w5A.size (fun q hq => (ow_w5A.out.lt q hq).1)
      have ow_w5A1 := Lib.hid ho9
      clear ho9 hg9
      refine hK.out _ _ ⟨keep1 hb_w5A1 ba_5, keep1 hb_w5A1 va_5⟩ (fun hHeld => ?_)
      clear hK K
      try simp only [Act.put, List.setIfInBounds_toArray, List.set_cons_zero, List.set_cons_succ]
      refine wpAnyH_ready (rs := [5]) (by kernel_rfl) (by simp) ?_
      refine AllReadyH.cons rfl (fun K hK => ?_) AllReadyH.nil
      go_simp
      refine hK.out _ _ ⟨keep1 (hb_w5A1.alloc hb_w5A1.size _) ba_5, keep1 (hb_w5A1.alloc hb_w5A1.size _) va_5⟩ (fun hHeld => ?_)
      clear hK K
      try simp only [Act.put, List.setIfInBounds_toArray, List.set_cons_zero, List.set_cons_succ]
      generalize hw9 : (World.alloc _ _) = w5A1B at hHeld ⊢
      have hb_w5A1B : Below w5.heap.size w5 w5A1B := by rw [← hw9]; exact hb_w5A1.alloc hb_w5A1.size _
      have hz_w5A1B : Hid (w5A1B.heap.size = w5A1.heap.size + 1) := Lib.hid (by rw [← hw9]; simp)
      have cx_w5A1B : w5A1B.cell? ⟨w5A1.heap.size, 0, none⟩ = some (.int .i64 0) := by rw [← hw9]; simp [go_sem]
      have cy_w5A1B : w5A1B.cell? ⟨w5A1.heap.size, 1, none⟩ = some (.int .i64 0) := by rw [← hw9]; simp [go_sem]
      have ow_w5A1B := Lib.hid (ow_w5A1.out.alloc (.cells #[.int .i64 0, .int .i64 0] 40))
      rw [hw9] at ow_w5A1B
      clear hw9
      refine wpAnyH_ready (rs := [6]) (by kernel_rfl) (by simp) ?_
      refine AllReadyH.cons rfl (fun K hK => ?_) AllReadyH.nil
      refine step_app_src rfl _ _ _ rfl w5.heap.size _ i0 _ 2 16 Try.underlying34 HI.out rfl (by omega) (by omega) _ (rs.length) _ rfl ow_w5A1B.out _ _ _ _ rfl (src_one cx_w5A1B cy_w5A1B) (one_A [⟨0, 0⟩]) (by omega) hb_w5A1B.size ?_
      intro v9 w5A1B2 ho9 hg9
      obtain ⟨A9, c9, rfl⟩ := own_form ho9
      have hb_w5A1B2 : Below w5.heap.size w5 w5A1B2 := hb_w5A1B.grown hg9 hb_w5A1B.size (fun q hq => (ow_w5A1B.out.lt q hq).1)
      have ow_w5A1B2 := Lib.hid ho9
      clear ho9 hg9
      refine hK.out _ _ ⟨keep1 hb_w5A1B2 ba_5, keep1 hb_w5A1B2 va_5⟩ (fun hHeld => ?_)
      clear hK K
      try simp only [Act.put, List.setIfInBounds_toArray, List.set_cons_zero, List.set_cons_succ]
      obtain ⟨w6, hwn⟩ : ∃ W : World, W = w5A1B2 := ⟨_, rfl⟩
      subst hwn
      have hb := hb_w5A1B2
      have ba_6 := keep1 hb ba_5
      have va_6 := keep1 hb va_5
      have Sa_6 := Lib.hid ((Sa_5.out.below hb).call hb.size)
      have Ss_6 := Lib.hid ((Ss_5.out.below hb).call hb.size)
      have HB_6 : Hid (Below w.heap.size w w6) := Lib.hid (HB_5.out.trans (hb.mono HB_5.out.size))
      have Sl_6 := Lib.hid (sa_of_own (ks := rs ++ [⟨0, 0⟩]) (by rw [flatA_app]; exact ow_w5A1B2.out) OKL.out)
      clear hb ba_5 va_5 Sa_5 Ss_5 HB_5
      refine wpAnyH_ready (rs := [7]) (by kernel_rfl) (by simp) ?_
      refine AllReadyH.cons rfl (fun K hK => ?_) AllReadyH.nil
      go_simp
      refine (implMissed_v dsa ba (rs ++ [⟨0, 0⟩]) _ _ _ _ Sa_6.out _ _ _ Sl_6.out (by omega) HALL.out).mono ?_
      rintro e w7 ⟨rfl, hb⟩
      have ba_7 := keep1 hb ba_6
      have va_7 := keep1 hb va_6
      have Sa_7 := Lib.hid ((Sa_6.out.below hb).call hb.size)
      have Ss_7 := Lib.hid ((Ss_6.out.below hb).call hb.size)
      have Sl_7 := Lib.hid ((Sl_6.out.below hb).call hb.size)
      have HB_7 : Hid (Below w.heap.size w w7) := Lib.hid (HB_6.out.trans (hb.mono HB_6.out.size))
      go_simp
      refine hK.out _ _ ⟨ba_7, va_7⟩ (fun hHeld => ?_)
      clear hb hK K ba_6 va_6 Sa_6 Ss_6 Sl_6 HB_6
      try simp only [Act.put, List.setIfInBounds_toArray, List.set_cons_zero, List.set_cons_succ]
      refine wpAnyH_take (i := 8) (v := ?_) rfl (by kernel_rfl) (by kernel_rfl) (by kernel_rfl) (fun _ _ _ h => h) (Or.inl ⟨by kernel_rfl, ?_⟩) hHeld ?_
      rotate_left
      · intro wz hSw
        try dsimp only at hSw
        first
        | (go_simp; done)
        | (go_simp; with_reducible rfl)
      try simp only [Act.put, List.setIfInBounds_toArray, List.set_cons_zero, List.set_cons_succ]
      refine wpAnyH_take (i := 9) (v := ?_) rfl (by kernel_rfl) (by kernel_rfl) (by kernel_rfl) (fun _ _ _ h => h) (Or.inl ⟨by kernel_rfl, ?_⟩) hHeld ?_
      rotate_left
      · intro wz hSw
        try dsimp only at hSw
        first
        | (go_simp; done)
        | (go_simp; with_reducible rfl)
      try simp only [Act.put, List.setIfInBounds_toArray, List.set_cons_zero, List.set_cons_succ]
      refine wpAnyH_take (i := 10) (v := ?_) rfl (by kernel_rfl) (by kernel_rfl) (by kernel_rfl) (fun _ _ _ h => h) (Or.inl ⟨by kernel_rfl, ?_⟩) hHeld ?_
      rotate_left
      · intro wz hSw
        try dsimp only at hSw
        first
        | (go_simp; done)
        | (go_simp; with_reducible rfl)
      try simp only [Act.put, List.setIfInBounds_toArray, List.set_cons_zero, List.set_cons_succ]
      refine wpAnyH_ready (rs := [11]) (by kernel_rfl) (by simp) ?_
      refine AllReadyH.cons rfl (fun K hK => ?_) AllReadyH.nil
      go_simp
      refine (implMissed_v dsa ba [] _ _ _ _ Sa_7.out none 0 0 (nilA _) (by omega) HNIL.out).mono ?_
      rintro e w8 ⟨rfl, hb⟩
      have ba_8 := keep1 hb ba_7
      have va_8 := keep1 hb va_7
      have Sa_8 := Lib.hid ((Sa_7.out.below hb).call hb.size)
      have Ss_8 := Lib.hid ((Ss_7.out.below hb).call hb.size)
      have Sl_8 := Lib.hid ((Sl_7.out.below hb).call hb.size)
      have HB_8 : Hid (Below w.heap.size w w8) := Lib.hid (HB_7.out.trans (hb.mono HB_7.out.size))
      go_simp
      refine hK.out _ _ ⟨ba_8, va_8⟩ (fun hHeld => ?_)
      clear hb hK K ba_7 va_7 Sa_7 Ss_7 Sl_7 HB_7
      try simp only [Act.put, List.setIfInBounds_toArray, List.set_cons_zero, List.set_cons_succ]
      refine wpAnyH_take (i := 12) (v := ?_) rfl (by kernel_rfl) (by kernel_rfl) (by kernel_rfl) (fun _ _ _ h => h) (Or.inl ⟨by kernel_rfl, ?_⟩) hHeld ?_
      rotate_left
      · intro wz hSw
        try dsimp only at hSw
        first
        | (go_simp; done)
        | (go_simp; with_reducible rfl)
      try simp only [Act.put, List.setIfInBounds_toArray, List.set_cons_zero, List.set_cons_succ]
      refine wpAnyH_take (i := 13) (v := ?_) rfl (by kernel_rfl) (by kernel_rfl) (by kernel_rfl) (fun _ _ _ h => h) (Or.inl ⟨by kernel_rfl, ?_⟩) hHeld ?_
      rotate_left
      · intro wz hSw
        try dsimp only at hSw
        first
        | (go_simp; done)
        | (go_simp; with_reducible rfl)
      try simp only [Act.put, List.setIfInBounds_toArray, List.set_cons_zero, List.set_cons_succ]
      refine wpAnyH_take (i := 14) (v := ?_) rfl (by kernel_rfl) (by kernel_rfl) (by kernel_rfl) (fun _ _ _ h => h) (Or.inl ⟨by kernel_rfl, ?_⟩) hHeld ?_
      rotate_left
      · intro wz hSw
        try dsimp only at hSw
        first
        | (go_simp; done)
        | (go_simp; with_reducible rfl)
      try simp only [Act.put, List.setIfInBounds_toArray, List.set_cons_zero, List.set_cons_succ]
      refine wpAnyH_take (i := 15) (v := ?_) rfl (by kernel_rfl) (by kernel_rfl) (by kernel_rfl) (fun _ _ _ h => h) (Or.inl ⟨by kernel_rfl, ?_⟩) hHeld ?_
      rotate_left
      · intro wz hSw
        try dsimp only at hSw
        first
        | (go_simp; done)
        | (go_simp; with_reducible rfl)
      try simp only [Act.put, List.setIfInBounds_toArray, List.set_cons_zero, List.set_cons_succ]
      refine wpAnyH_take (i := 16) (v := ?_) rfl (by kernel_rfl) (by kernel_rfl) (by kernel_rfl) (fun _ _ _ h => h) (Or.inl ⟨by kernel_rfl, ?_⟩) hHeld ?_
      rotate_left
      · intro wz hSw
        try dsimp only at hSw
        first
        | (go_simp; done)
        | (go_simp; with_reducible rfl)
      try simp only [Act.put, List.setIfInBounds_toArray, List.set_cons_zero, List.set_cons_succ]
      by_cases hr0 : r < 0
      · skip
        refine wpAnyH_take (i := 17) (v := ?_) rfl (by kernel_rfl) (by kernel_rfl) (by kernel_rfl) (fun _ _ _ h => h) (Or.inl ⟨by kernel_rfl, ?_⟩) hHeld ?_
        rotate_left
        · intro wz hSw
          try dsimp only at hSw
          first
          | (go_simp; done)
          | (go_simp; with_reducible rfl)
        try simp only [Act.put, List.setIfInBounds_toArray, List.set_cons_zero, List.set_cons_succ]
        refine wpAnyH_take (i := 18) (v := undef) rfl (by kernel_rfl) (by kernel_rfl) (by kernel_rfl) (fun _ _ _ h => h) (Or.inr ⟨by kernel_rfl, rfl⟩) hHeld ?_
        try simp only [Act.put, List.setIfInBounds_toArray, List.set_cons_zero, List.set_cons_succ]
        refine wpAnyH_take (i := 19) (v := undef) rfl (by kernel_rfl) (by kernel_rfl) (by kernel_rfl) (fun _ _ _ h => h) (Or.inr ⟨by kernel_rfl, rfl⟩) hHeld ?_
        try simp only [Act.put, List.setIfInBounds_toArray, List.set_cons_zero, List.set_cons_succ]
        refine wpAnyH_take (i := 20) (v := undef) rfl (by kernel_rfl) (by kernel_rfl) (by kernel_rfl) (fun _ _ _ h => h) (Or.inr ⟨by kernel_rfl, rfl⟩) hHeld ?_
        try simp only [Act.put, List.setIfInBounds_toArray, List.set_cons_zero, List.set_cons_succ]
        refine wpAnyH_take (i := 21) (v := undef) rfl (by kernel_rfl) (by kernel_rfl) (by kernel_rfl) (fun _ _ _ h => h) (Or.inr ⟨by kernel_rfl, rfl⟩) hHeld ?_
        try simp only [Act.put, List.setIfInBounds_toArray, List.set_cons_zero, List.set_cons_succ]
        refine wpAnyH_take (i := 22) (v := ?_) rfl (by kernel_rfl) (by kernel_rfl) (by kernel_rfl) (fun _ _ _ h => h) (Or.inl ⟨by kernel_rfl, ?_⟩) hHeld ?_
        rotate_left
        · intro wz hSw
          try dsimp only at hSw
          first
          | (go_simp; done)
          | (go_simp; with_reducible rfl)
        try simp only [Act.put, List.setIfInBounds_toArray, List.set_cons_zero, List.set_cons_succ]
        refine wpAnyH_take (i := 23) (v := ?_) rfl (by kernel_rfl) (by kernel_rfl) (by kernel_rfl) (fun _ _ _ h => h) (Or.inl ⟨by kernel_rfl, ?_⟩) hHeld ?_
        rotate_left
        · intro wz hSw
          try dsimp only at hSw
          first
          | (go_simp; done)
          | (go_simp; with_reducible rfl)
        try simp only [Act.put, List.setIfInBounds_toArray, List.set_cons_zero, List.set_cons_succ]
        refine wpAnyH_take (i := 24) (v := ?_) rfl (by kernel_rfl) (by kernel_rfl) (by kernel_rfl) (fun _ _ _ h => h) (Or.inl ⟨by kernel_rfl, ?_⟩) hHeld ?_
        rotate_left
        · intro wz hSw
          try dsimp only at hSw
          first
          | (go_simp; done)
          | (go_simp; with_reducible rfl)
        try simp only [Act.put, List.setIfInBounds_toArray, List.set_cons_zero, List.set_cons_succ]
        refine wpAnyH_done (by kernel_rfl) ?_ _
        try go_simp
        go_wp2
        go_ret
        exact ⟨by first | rfl | kernel_rfl | (go_simp; done), HB_8.out⟩
      have hle : r ≤ (m : Int) := by rcases HLE.out with h | h <;> omega
      refine wpAnyH_take (i := 17) (v := ?_) rfl (by kernel_rfl) (by kernel_rfl) (by kernel_rfl) (fun _ _ _ h => h) (Or.inl ⟨by kernel_rfl, ?_⟩) hHeld ?_
      rotate_left
      · intro wz hSw
        try dsimp only at hSw
        first
        | (go_simp; done)
        | (go_simp; with_reducible rfl)
      try simp only [Act.put, List.setIfInBounds_toArray, List.set_cons_zero, List.set_cons_succ]
      refine wpAnyH_take (i := 18) (v := ?_) rfl (by kernel_rfl) (by kernel_rfl) (by kernel_rfl) (fun _ _ _ h => h) (Or.inl ⟨by kernel_rfl, ?_⟩) hHeld ?_
      rotate_left
      · intro wz hSw
        try dsimp only at hSw
        first
        | (go_simp; done)
        | (go_simp; with_reducible rfl)
      try simp only [Act.put, List.setIfInBounds_toArray, List.set_cons_zero, List.set_cons_succ]
      refine wpAnyH_take (i := 19) (v := ?_) rfl (by kernel_rfl) (by kernel_rfl) (by kernel_rfl) (fun _ _ _ h => h) (Or.inl ⟨by kernel_rfl, ?_⟩) hHeld ?_
      rotate_left
      · intro wz hSw
        try dsimp only at hSw
        first
        | (go_simp; done)
        | (go_simp; with_reducible rfl)
      try simp only [Act.put, List.setIfInBounds_toArray, List.set_cons_zero, List.set_cons_succ]
      refine wpAnyH_ready (rs := [20]) (by kernel_rfl) (by simp) ?_
      refine AllReadyH.cons rfl (fun K hK => ?_) AllReadyH.nil
      go_simp
      refine (implMaskOf_v dsa ba _ _ _ _ Sa_8.out (by omega) HMK.out).mono ?_
      rintro e w9 ⟨rfl, hb⟩
      have ba_9 := keep1 hb ba_8
      have va_9 := keep1 hb va_8
      have Sa_9 := Lib.hid ((Sa_8.out.below hb).call hb.size)
      have Ss_9 := Lib.hid ((Ss_8.out.below hb).call hb.size)
      have Sl_9 := Lib.hid ((Sl_8.out.below hb).call hb.size)
      have HB_9 : Hid (Below w.heap.size w w9) := Lib.hid (HB_8.out.trans (hb.mono HB_8.out.size))
      go_simp
      refine hK.out _ _ ⟨ba_9, va_9⟩ (fun hHeld => ?_)
      clear hb hK K ba_8 va_8 Sa_8 Ss_8 Sl_8 HB_8
      try simp only [Act.put, List.setIfInBounds_toArray, List.set_cons_zero, List.set_cons_succ]
      refine wpAnyH_take (i := 21) (v := ?_) rfl (by kernel_rfl) (by kernel_rfl) (by kernel_rfl) (fun _ _ _ h => h) (Or.inl ⟨by kernel_rfl, ?_⟩) hHeld ?_
      rotate_left
      · intro wz hSw
        try dsimp only at hSw
        first
        | (go_simp; done)
        | (go_simp; with_reducible rfl)
      try simp only [Act.put, List.setIfInBounds_toArray, List.set_cons_zero, List.set_cons_succ]
      refine wpAnyH_take (i := 22) (v := ?_) rfl (by kernel_rfl) (by kernel_rfl) (by kernel_rfl) (fun _ _ _ h => h) (Or.inl ⟨by kernel_rfl, ?_⟩) hHeld ?_
      rotate_left
      · intro wz hSw
        try dsimp only at hSw
        first
        | (go_simp; done)
        | (go_simp; with_reducible rfl)
      try simp only [Act.put, List.setIfInBounds_toArray, List.set_cons_zero, List.set_cons_succ]
      refine wpAnyH_take (i := 23) (v := ?_) rfl (by kernel_rfl) (by kernel_rfl) (by kernel_rfl) (fun _ _ _ h => h) (Or.inl ⟨by kernel_rfl, ?_⟩) hHeld ?_
      rotate_left
      · intro wz hSw
        try dsimp only at hSw
        first
        | (go_simp; done)
        | (go_simp; with_reducible rfl)
      try simp only [Act.put, List.setIfInBounds_toArray, List.set_cons_zero, List.set_cons_succ]
      refine wpAnyH_take (i := 24) (v := ?_) rfl (by kernel_rfl) (by kernel_rfl) (by kernel_rfl) (fun _ _ _ h => h) (Or.inl ⟨by kernel_rfl, ?_⟩) hHeld ?_
      rotate_left
      · intro wz hSw
        try dsimp only at hSw
        first
        | (go_simp; done)
        | (go_simp; with_reducible rfl)
      try simp only [Act.put, List.setIfInBounds_toArray, List.set_cons_zero, List.set_cons_succ]
      refine wpAnyH_done (by kernel_rfl) ?_ _
      try go_simp
      go_wp2
      go_ret
      exact ⟨by first | rfl | kernel_rfl | (go_simp; done), HB_9.out⟩
    · skip
      go_simp
      refine hK.out _ _ ⟨keep1 (hb_w5A.alloc hb_w5A.size _) ba_5, keep1 (hb_w5A.alloc hb_w5A.size _) va_5⟩ (fun hHeld => ?_)
      clear hK K
      try simp only [Act.put, List.setIfInBounds_toArray, List.set_cons_zero, List.set_cons_succ]
      generalize hw9 : (World.alloc _ _) = w5AB at hHeld ⊢
      have hb_w5AB : Below w5.heap.size w5 w5AB := by rw [← hw9]; exact hb_w5A.alloc hb_w5A.size _
      have hz_w5AB : Hid (w5AB.heap.size = w5A.heap.size + 1) := Lib.hid (by rw [← hw9]; simp)
      have cx_w5AB : w5AB.cell? ⟨w5A.heap.size, 0, none⟩ = some (.int .i64 0) := by rw [← hw9]; simp [go_sem]
      have cy_w5AB : w5AB.cell? ⟨w5A.heap.size, 1, none⟩ = some (.int .i64 0) := by rw [← hw9]; simp [go_sem]
      have ow_w5AB : Hid (w5AB.ownsRow w5.heap.size 40 2 (.slice (some ⟨w5.heap.size, 0, none⟩) 0 0) 0 []) := Lib.hid (by rw [← hw9]; exact ow_w5A.out.alloc _)
      clear hw9
      refine wpAnyH_ready (rs := [3]) (by kernel_rfl) (by simp) ?_
      refine AllReadyH.cons rfl (fun K hK => ?_) AllReadyH.nil
      refine step_app_src rfl _ _ _ rfl w5.heap.size _ i0 _ 2 16 Try.underlying34 HI.out rfl (by omega) (by omega) _ 0 _ rfl ow_w5AB.out _ _ _ _ rfl ((slA (Ss_5.out.below hb_w5AB)).src (fun _ => rfl)) (one_A _) (by omega) hb_w5AB.size ?_
      intro v9 w5AB1 ho9 hg9
      rw [Nat.zero_add, List.nil_append] at ho9
      obtain ⟨A9, c9, rfl⟩ := own_form ho9
      have hb_w5AB1 : Below w5.heap.size w5 w5AB1 := hb_w5AB.grown hg9 hb_w5AB.size (fun q hq => (ow_w5AB.out.lt q hq).1)
      have ow_w5AB1 := Lib.hid ho9
      have cx_w5AB1 := hg9.cell cx_w5AB (fun e => by have e2 : w5A.heap.size = w5.heap.size := Option.some.inj e; have h1 := hz_w5A.out; omega)
      have cy_w5AB1 := hg9.cell cy_w5AB (fun e => by have e2 : w5A.heap.size = w5.heap.size := Option.some.inj e; have h1 := hz_w5A.out; omega)
      clear ho9 hg9
      refine hK.out _ _ ⟨keep1 hb_w5AB1 ba_5, keep1 hb_w5AB1 va_5⟩ (fun hHeld => ?_)
      clear hK K
      try simp only [Act.put, List.setIfInBounds_toArray, List.set_cons_zero, List.set_cons_succ]
      refine wpAnyH_ready (rs := [6]) (by kernel_rfl) (by simp) ?_
      refine AllReadyH.cons rfl (fun K hK => ?_) AllReadyH.nil
      refine step_app_src rfl _ _ _ rfl w5.heap.size _ i0 _ 2 16 Try.underlying34 HI.out rfl (by omega) (by omega) _ (rs.length) _ rfl ow_w5AB1.out _ _ _ _ rfl (src_one cx_w5AB1 cy_w5AB1) (one_A [⟨0, 0⟩]) (by omega) hb_w5AB1.size ?_
      intro v9 w5AB12 ho9 hg9
      obtain ⟨A9, c9, rfl⟩ := own_form ho9
      have hb_w5AB12 : Below w5.heap.size w5 w5AB12 := hb_w5AB1.grown hg9 hb_w5AB1.size (fun q hq => (ow_w5AB1.out.lt q hq).1)
      have ow_w5AB12 := Lib.hid ho9
      clear ho9 hg9
      refine hK.out _ _ ⟨keep1 hb_w5AB12 ba_5, keep1 hb_w5AB12 va_5⟩ (fun hHeld => ?_)
      clear hK K
      try simp only [Act.put, List.setIfInBounds_toArray, List.set_cons_zero, List.set_cons_succ]
      obtain ⟨w6, hwn⟩ : ∃ W : World, W = w5AB12 := ⟨_, rfl⟩
      subst hwn
      have hb := hb_w5AB12
      have ba_6 := keep1 hb ba_5
      have va_6 := keep1 hb va_5
      have Sa_6 := Lib.hid ((Sa_5.out.below hb).call hb.size)
      have Ss_6 := Lib.hid ((Ss_5.out.below hb).call hb.size)
      have HB_6 : Hid (Below w.heap.size w w6) := Lib.hid (HB_5.out.trans (hb.mono HB_5.out.size))
      have Sl_6 := Lib.hid (sa_of_own (ks := rs ++ [⟨0, 0⟩]) (by rw [flatA_app]; exact ow_w5AB12.out) OKL.out)
      clear hb ba_5 va_5 Sa_5 Ss_5 HB_5
      refine wpAnyH_ready (rs := [7]) (by kernel_rfl) (by simp) ?_
      refine AllReadyH.cons rfl (fun K hK => ?_) AllReadyH.nil
      go_simp
      refine (implMissed_v dsa ba (rs ++ [⟨0, 0⟩]) _ _ _ _ Sa_6.out _ _ _ Sl_6.out (by omega) HALL.out).mono ?_
      rintro e w7 ⟨rfl, hb⟩
      have ba_7 := keep1 hb ba_6
      have va_7 := keep1 hb va_6
      have Sa_7 := Lib.hid ((Sa_6.out.below hb).call hb.size)
      have Ss_7 := Lib.hid ((Ss_6.out.below hb).call hb.size)
      have Sl_7 := Lib.hid ((Sl_6.out.below hb).call hb.size)
      have HB_7 : Hid (Below w.heap.size w w7) := Lib.hid (HB_6.out.trans (hb.mono HB_6.out.size))
      go_simp
      refine hK.out _ _ ⟨ba_7, va_7⟩ (fun hHeld => ?_)
      clear hb hK K ba_6 va_6 Sa_6 Ss_6 Sl_6 HB_6
      try simp only [Act.put, List.setIfInBounds_toArray, List.set_cons_zero, List.set_cons_succ]
      refine wpAnyH_take (i := 8) (v := ?_) rfl (by kernel_rfl) (by kernel_rfl) (by kernel_rfl) (fun _ _ _ h => h) (Or.inl ⟨by kernel_rfl, ?_⟩) hHeld ?_
      rotate_left
      · intro wz hSw
        try dsimp only at hSw
        first
        | (go_simp; done)
        | (go_simp; with_reducible rfl)
      try simp only [Act.put, List.setIfInBounds_toArray, List.set_cons_zero, List.set_cons_succ]
      refine wpAnyH_take (i := 9) (v := ?_) rfl (by kernel_rfl) (by kernel_rfl) (by kernel_rfl) (fun _ _ _ h => h) (Or.inl ⟨by kernel_rfl, ?_⟩) hHeld ?_
      rotate_left
      · intro wz hSw
        try dsimp only at hSw
        first
        | (go_simp; done)
        | (go_simp; with_reducible rfl)
      try simp only [Act.put, List.setIfInBounds_toArray, List.set_cons_zero, List.set_cons_succ]
      refine wpAnyH_take (i := 10) (v := ?_) rfl (by kernel_rfl) (by kernel_rfl) (by kernel_rfl) (fun _ _ _ h => h) (Or.inl ⟨by kernel_rfl, ?_⟩) hHeld ?_
      rotate_left
      · intro wz hSw
        try dsimp only at hSw
        first
        | (go_simp; done)
        | (go_simp; with_reducible rfl)
      try simp only [Act.put, List.setIfInBounds_toArray, List.set_cons_zero, List.set_cons_succ]
      refine wpAnyH_ready (rs := [11]) (by kernel_rfl) (by simp) ?_
      refine AllReadyH.cons rfl (fun K hK => ?_) AllReadyH.nil
      go_simp
      refine (implMissed_v dsa ba [] _ _ _ _ Sa_7.out none 0 0 (nilA _) (by omega) HNIL.out).mono ?_
      rintro e w8 ⟨rfl, hb⟩
      have ba_8 := keep1 hb ba_7
      have va_8 := keep1 hb va_7
      have Sa_8 := Lib.hid ((Sa_7.out.below hb).call hb.size)
      have Ss_8 := Lib.hid ((Ss_7.out.below hb).call hb.size)
      have Sl_8 := Lib.hid ((Sl_7.out.below hb).call hb.size)
      have HB_8 : Hid (Below w.heap.size w w8) := Lib.hid (HB_7.out.trans (hb.mono HB_7.out.size))
      go_simp
      refine hK.out _ _ ⟨ba_8, va_8⟩ (fun hHeld => ?_)
      clear hb hK K ba_7 va_7 Sa_7 Ss_7 Sl_7 HB_7
      try simp only [Act.put, List.setIfInBounds_toArray, List.set_cons_zero, List.set_cons_succ]
      refine wpAnyH_take (i := 12) (v := ?_) rfl (by kernel_rfl) (by kernel_rfl) (by kernel_rfl) (fun _ _ _ h => h) (Or.inl ⟨by kernel_rfl, ?_⟩) hHeld ?_
      rotate_left
      · intro wz hSw
        try dsimp only at hSw
        first
        | (go_simp; done)
        | (go_simp; with_reducible rfl)
      try simp only [Act.put, List.setIfInBounds_toArray, List.set_cons_zero, List.set_cons_succ]
      refine wpAnyH_take (i := 13) (v := ?_) rfl (by kernel_rfl) (by kernel_rfl) (by kernel_rfl) (fun _ _ _ h => h) (Or.inl ⟨by kernel_rfl, ?_⟩) hHeld ?_
      rotate_left
      · intro wz hSw
        try dsimp only at hSw
        first
        | (go_simp; done)
        | (go_simp; with_reducible rfl)
      try simp only [Act.put, List.setIfInBounds_toArray, List.set_cons_zero, List.set_cons_succ]
      refine wpAnyH_take (i := 14) (v := ?_) rfl (by kernel_rfl) (by kernel_rfl) (by kernel_rfl) (fun _ _ _ h => h) (Or.inl ⟨by kernel_rfl, ?_⟩) hHeld ?_
      rotate_left
      · intro wz hSw
        try dsimp only at hSw
        first
        | (go_simp; done)
        | (go_simp; with_reducible rfl)
      try simp only [Act.put, List.setIfInBounds_toArray, List.set_cons_zero, List.set_cons_succ]
      refine wpAnyH_take (i := 15) (v := ?_) rfl (by kernel_rfl) (by kernel_rfl) (by kernel_rfl) (fun _ _ _ h => h) (Or.inl ⟨by kernel_rfl, ?_⟩) hHeld ?_
      rotate_left
      · intro wz hSw
        try dsimp only at hSw
        first
        | (go_simp; done)
        | (go_simp; with_reducible rfl)
      try simp only [Act.put, List.setIfInBounds_toArray, List.set_cons_zero, List.set_cons_succ]
      refine wpAnyH_take (i := 16) (v := ?_) rfl (by kernel_rfl) (by kernel_rfl) (by kernel_rfl) (fun _ _ _ h => h) (Or.inl ⟨by kernel_rfl, ?_⟩) hHeld ?_
      rotate_left
      · intro wz hSw
        try dsimp only at hSw
        first
        | (go_simp; done)
        | (go_simp; with_reducible rfl)
      try simp only [Act.put, List.setIfInBounds_toArray, List.set_cons_zero, List.set_cons_succ]
      by_cases hr0 : r < 0
      · skip
        refine wpAnyH_take (i := 17) (v := ?_) rfl (by kernel_rfl) (by kernel_rfl) (by kernel_rfl) (fun _ _ _ h => h) (Or.inl ⟨by kernel_rfl, ?_⟩) hHeld ?_
        rotate_left
        · intro wz hSw
          try dsimp only at hSw
          first
          | (go_simp; done)
          | (go_simp; with_reducible rfl)
        try simp only [Act.put, List.setIfInBounds_toArray, List.set_cons_zero, List.set_cons_succ]
        refine wpAnyH_take (i := 18) (v := undef) rfl (by kernel_rfl) (by kernel_rfl) (by kernel_rfl) (fun _ _ _ h => h) (Or.inr ⟨by kernel_rfl, rfl⟩) hHeld ?_
        try simp only [Act.put, List.setIfInBounds_toArray, List.set_cons_zero, List.set_cons_succ]
        refine wpAnyH_take (i := 19) (v := undef) rfl (by kernel_rfl) (by kernel_rfl) (by kernel_rfl) (fun _ _ _ h => h) (Or.inr ⟨by kernel_rfl, rfl⟩) hHeld ?_
        try simp only [Act.put, List.setIfInBounds_toArray, List.set_cons_zero, List.set_cons_succ]
        refine wpAnyH_take (i := 20) (v := undef) rfl (by kernel_rfl) (by kernel_rfl) (by kernel_rfl) (fun _ _ _ h => h) (Or.inr ⟨by kernel_rfl, rfl⟩) hHeld ?_
        try simp only [Act.put, List.setIfInBounds_toArray, List.set_cons_zero, List.set_cons_succ]
        refine wpAnyH_take (i := 21) (v := undef) rfl (by kernel_rfl) (by kernel_rfl) (by kernel_rfl) (fun _ _ _ h => h) (Or.inr ⟨by kernel_rfl, rfl⟩) hHeld ?_
        try simp only [Act.put, List.setIfInBounds_toArray, List.set_cons_zero, List.set_cons_succ]
        refine wpAnyH_take (i := 22) (v := ?_) rfl (by kernel_rfl) (by kernel_rfl) (by kernel_rfl) (fun _ _ _ h => h) (Or.inl ⟨by kernel_rfl, ?_⟩) hHeld ?_
        rotate_left
        · intro wz hSw
          try dsimp only at hSw
          first
          | (go_simp; done)
          | (go_simp; with_reducible rfl)
        try simp only [Act.put, List.setIfInBounds_toArray, List.set_cons_zero, List.set_cons_succ]
        refine wpAnyH_take (i := 23) (v := ?_) rfl (by kernel_rfl) (by kernel_rfl) (by kernel_rfl) (fun _ _ _ h => h) (Or.inl ⟨by kernel_rfl, ?_⟩) hHeld ?_
        rotate_left
        · intro wz hSw
          try dsimp only at hSw
          first
          | (go_simp; done)
          | (go_simp; with_reducible rfl)
        try simp only [Act.put, List.setIfInBounds_toArray, List.set_cons_zero, List.set_cons_succ]
        refine wpAnyH_take (i := 24) (v := ?_) rfl (by kernel_rfl) (by kernel_rfl) (by kernel_rfl) (fun _ _ _ h => h) (Or.inl ⟨by kernel_rfl, ?_⟩) hHeld ?_
        rotate_left
        · intro wz hSw
          try dsimp only at hSw
          first
          | (go_simp; done)
          | (go_simp; with_reducible rfl)
        try simp only [Act.put, List.setIfInBounds_toArray, List.set_cons_zero, List.set_cons_succ]
        refine wpAnyH_done (by kernel_rfl) ?_ _
        try go_simp
        go_wp2
        go_ret
        exact ⟨by first | rfl | kernel_rfl | (go_simp; done), HB_8.out⟩
      have hle : r ≤ (m : Int) := by rcases HLE.out with h | h <;> omega
      refine wpAnyH_take (i := 17) (v := ?_) rfl (by kernel_rfl) (by kernel_rfl) (by kernel_rfl) (fun _ _ _ h => h) (Or.inl ⟨by kernel_rfl, ?_⟩) hHeld ?_
      rotate_left
      · intro wz hSw
        try dsimp only at hSw
        first
        | (go_simp; done)
        | (go_simp; with_reducible rfl)
      try simp only [Act.put, List.setIfInBounds_toArray, List.set_cons_zero, List.set_cons_succ]
      refine wpAnyH_take (i := 18) (v := ?_) rfl (by kernel_rfl) (by kernel_rfl) (by kernel_rfl) (fun _ _ _ h => h) (Or.inl ⟨by kernel_rfl, ?_⟩) hHeld ?_
      rotate_left
      · intro wz hSw
        try dsimp only at hSw
        first
        | (go_simp; done)
        | (go_simp; with_reducible rfl)
      try simp only [Act.put, List.setIfInBounds_toArray, List.set_cons_zero, List.set_cons_succ]
      refine wpAnyH_take (i := 19) (v := ?_) rfl (by kernel_rfl) (by kernel_rfl) (by kernel_rfl) (fun _ _ _ h => h) (Or.inl ⟨by kernel_rfl, ?_⟩) hHeld ?_
      rotate_left
      · intro wz hSw
        try dsimp only at hSw
        first
        | (go_simp; done)
        | (go_simp; with_reducible rfl)
      try simp only [Act.put, List.setIfInBounds_toArray, List.set_cons_zero, List.set_cons_succ]
      refine wpAnyH_ready (rs := [20]) (by kernel_rfl) (by simp) ?_
      refine AllReadyH.cons rfl (fun K hK => ?_) AllReadyH.nil
      go_simp
      refine (implMaskOf_v dsa ba _ _ _ _ Sa_8.out (by omega) HMK.out).mono ?_
      rintro e w9 ⟨rfl, hb⟩
      have ba_9 := keep1 hb ba_8
      have va_9 := keep1 hb va_8
      have Sa_9 := Lib.hid ((Sa_8.out.below hb).call hb.size)
      have Ss_9 := Lib.hid ((Ss_8.out.below hb).call hb.size)
      have Sl_9 := Lib.hid ((Sl_8.out.below hb).call hb.size)
      have HB_9 : Hid (Below w.heap.size w w9) := Lib.hid (HB_8.out.trans (hb.mono HB_8.out.size))
      go_simp
      refine hK.out _ _ ⟨ba_9, va_9⟩ (fun hHeld => ?_)
      clear hb hK K ba_8 va_8 Sa_8 Ss_8 Sl_8 HB_8
      try simp only [Act.put, List.setIfInBounds_toArray, List.set_cons_zero, List.set_cons_succ]
      refine wpAnyH_take (i := 21) (v := ?_) rfl (by kernel_rfl) (by kernel_rfl) (by kernel_rfl) (fun _ _ _ h => h) (Or.inl ⟨by kernel_rfl, ?_⟩) hHeld ?_
      rotate_left
      · intro wz hSw
        try dsimp only at hSw
        first
        | (go_simp; done)
        | (go_simp; with_reducible rfl)
      try simp only [Act.put, List.setIfInBounds_toArray, List.set_cons_zero, List.set_cons_succ]
      refine wpAnyH_take (i := 22) (v := ?_) rfl (by kernel_rfl) (by kernel_rfl) (by kernel_rfl) (fun _ _ _ h => h) (Or.inl ⟨by kernel_rfl, ?_⟩) hHeld ?_
      rotate_left
      · intro wz hSw
        try dsimp only at hSw
        first
        | (go_simp; done)
        | (go_simp; with_reducible rfl)
      try simp only [Act.put, List.setIfInBounds_toArray, List.set_cons_zero, List.set_cons_succ]
      refine wpAnyH_take (i := 23) (v := ?_) rfl (by kernel_rfl) (by kernel_rfl) (by kernel_rfl) (fun _ _ _ h => h) (Or.inl ⟨by kernel_rfl, ?_⟩) hHeld ?_
      rotate_left
      · intro wz hSw
        try dsimp only at hSw
        first
        | (go_simp; done)
        | (go_simp; with_reducible rfl)
      try simp only [Act.put, List.setIfInBounds_toArray, List.set_cons_zero, List.set_cons_succ]
      refine wpAnyH_take (i := 24) (v := ?_) rfl (by kernel_rfl) (by kernel_rfl) (by kernel_rfl) (fun _ _ _ h => h) (Or.inl ⟨by kernel_rfl, ?_⟩) hHeld ?_
      rotate_left
      · intro wz hSw
        try dsimp only at hSw
        first
        | (go_simp; done)
        | (go_simp; with_reducible rfl)
      try simp only [Act.put, List.setIfInBounds_toArray, List.set_cons_zero, List.set_cons_succ]
      refine wpAnyH_done (by kernel_rfl) ?_ _
      try go_simp
      go_wp2
      go_ret
      exact ⟨by first | rfl | kernel_rfl | (go_simp; done), HB_9.out⟩
  · skip
    go_simp
    refine hK.out _ _ ⟨keep1 (hb_w5.alloc hb_w5.size _) ba_5, keep1 (hb_w5.alloc hb_w5.size _) va_5⟩ (fun hHeld => ?_)
    clear hK K
    try simp only [Act.put, List.setIfInBounds_toArray, List.set_cons_zero, List.set_cons_succ]
    generalize hw9 : (World.alloc _ _) = w5B at hHeld ⊢
    have hb_w5B : Below w5.heap.size w5 w5B := by rw [← hw9]; exact hb_w5.alloc hb_w5.size _
    have hz_w5B : Hid (w5B.heap.size = w5.heap.size + 1) := Lib.hid (by rw [← hw9]; simp)
    have cx_w5B : w5B.cell? ⟨w5.heap.size, 0, none⟩ = some (.int .i64 0) := by rw [← hw9]; simp [go_sem]
    have cy_w5B : w5B.cell? ⟨w5.heap.size, 1, none⟩ = some (.int .i64 0) := by rw [← hw9]; simp [go_sem]
    clear hw9
    refine wpAnyH_ready (rs := [1]) (by kernel_rfl) (by simp) ?_
    refine AllReadyH.cons rfl (fun K hK => ?_) AllReadyH.nil
    go_simp
    refine hK.out _ _ ⟨keep1 (hb_w5B.alloc hb_w5B.size _) ba_5, keep1 (hb_w5B.alloc hb_w5B.size _) va_5⟩ (fun hHeld => ?_)
    clear hK K
    try simp only [Act.put, List.setIfInBounds_toArray, List.set_cons_zero, List.set_cons_succ]
    generalize hw9 : (World.alloc _ _) = w5BA at hHeld ⊢
    have hb_w5BA : Below w5.heap.size w5 w5BA := by rw [← hw9]; exact hb_w5B.alloc hb_w5B.size _
    have hz_w5BA : Hid (w5BA.heap.size = w5B.heap.size + 1) := Lib.hid (by rw [← hw9]; simp)
    have ow_w5BA : Hid (w5BA.ownsRow w5.heap.size 40 2 (.slice (some ⟨w5B.heap.size, 0, none⟩) 0 0) 0 []) := Lib.hid (by rw [← hw9]; exact World.ownsRow_made w5B #[] 0 hb_w5B.size (by unfold maxLen; omega) rfl)
    have cx_w5BA : w5BA.cell? ⟨w5.heap.size, 0, none⟩ = some (.int .i64 0) := by rw [← hw9]; exact (World.cell?_alloc_lt _ _ _ (World.block_lt_of_cell? _ _ cx_w5B)).trans cx_w5B
    have cy_w5BA : w5BA.cell? ⟨w5.heap.size, 1, none⟩ = some (.int .i64 0) := by rw [← hw9]; exact (World.cell?_alloc_lt _ _ _ (World.block_lt_of_cell? _ _ cy_w5B)).trans cy_w5B
    clear hw9
    refine wpAnyH_ready (rs := [3]) (by kernel_rfl) (by simp) ?_
    refine AllReadyH.cons rfl (fun K hK => ?_) AllReadyH.nil
    refine step_app_src rfl _ _ _ rfl w5.heap.size _ i0 _ 2 16 Try.underlying34 HI.out rfl (by omega) (by omega) _ 0 _ rfl ow_w5BA.out _ _ _ _ rfl ((slA (Ss_5.out.below hb_w5BA)).src (fun _ => rfl)) (one_A _) (by omega) hb_w5BA.size ?_
    intro v9 w5BA1 ho9 hg9
    rw [Nat.zero_add, List.nil_append] at ho9
    obtain ⟨A9, c9, rfl⟩ := own_form ho9
    have hb_w5BA1 : Below w5.heap.size w5 w5BA1 := hb_w5BA.grown hg9 hb_w5BA.size (fun q hq => (ow_w5BA.out.lt q hq).1)
    have ow_w5BA1 := Lib.hid ho9
    have cx_w5BA1 := hg9.cell cx_w5BA (fun e => by have e2 : w5.heap.size = w5B.heap.size := Option.some.inj e; have h1 := hz_w5B.out; omega)
    have cy_w5BA1 := hg9.cell cy_w5BA (fun e => by have e2 : w5.heap.size = w5B.heap.size := Option.some.inj e; have h1 := hz_w5B.out; omega)
    clear ho9 hg9
    refine hK.out _ _ ⟨keep1 hb_w5BA1 ba_5, keep1 hb_w5BA1 va_5⟩ (fun hHeld => ?_)
    clear hK K
    try simp only [Act.put, List.setIfInBounds_toArray, List.set_cons_zero, List.set_cons_succ]
    refine wpAnyH_ready (rs := [6]) (by kernel_rfl) (by simp) ?_
    refine AllReadyH.cons rfl (fun K hK => ?_) AllReadyH.nil
    refine step_app_src rfl _ _ _ rfl w5.heap.size _ i0 _ 2 16 Try.underlying34 HI.out rfl (by omega) (by omega) _ (rs.length) _ rfl ow_w5BA1.out _ _ _ _ rfl (src_one cx_w5BA1 cy_w5BA1) (one_A [⟨0, 0⟩]) (by omega) hb_w5BA1.size ?_
    intro v9 w5BA12 ho9 hg9
    obtain ⟨A9, c9, rfl⟩ := own_form ho9
    have hb_w5BA12 : Below w5.heap.size w5 w5BA12 := hb_w5BA1.grown hg9 hb_w5BA1.size (fun q hq => (ow_w5BA1.out.lt q hq).1)
    have ow_w5BA12 := Lib.hid ho9
    clear ho9 hg9
    refine hK.out _ _ ⟨keep1 hb_w5BA12 ba_5, keep1 hb_w5BA12 va_5⟩ (fun hHeld => ?_)
    clear hK K
    try simp only [Act.put, List.setIfInBounds_toArray, List.set_cons_zero, List.set_cons_succ]
    obtain ⟨w6, hwn⟩ : ∃ W : World, W = w5BA12 := ⟨_, rfl⟩
    subst hwn
    have hb := hb_w5BA12
    have ba_6 := keep1 hb ba_5
    have va_6 := keep1 hb va_5
    have Sa_6 := Lib.hid ((Sa_5.out.below hb).call hb.size)
    have Ss_6 := Lib.hid ((Ss_5.out.below hb).call hb.size)
    have HB_6 : Hid (Below w.heap.size w w6) := Lib.hid (HB_5.out.trans (hb.mono HB_5.out.size))
    have Sl_6 := Lib.hid (sa_of_own (ks := rs ++ [⟨0, 0⟩]) (by rw [flatA_app]; exact ow_w5BA12.out) OKL.out)
    clear hb ba_5 va_5 Sa_5 Ss_5 HB_5
    refine wpAnyH_ready (rs := [7]) (by kernel_rfl) (by simp) ?_
    refine AllReadyH.cons rfl (fun K hK => ?_) AllReadyH.nil
    go_simp
    refine (implMissed_v dsa ba (rs ++ [⟨0, 0⟩]) _ _ _ _ Sa_6.out _ _ _ Sl_6.out (by omega) HALL.out).mono ?_
    rintro e w7 ⟨rfl, hb⟩
    have ba_7 := keep1 hb ba_6
    have va_7 := keep1 hb va_6
    have Sa_7 := Lib.hid ((Sa_6.out.below hb).call hb.size)
    have Ss_7 := Lib.hid ((Ss_6.out.below hb).call hb.size)
    have Sl_7 := Lib.hid ((Sl_6.out.below hb).call hb.size)
    have HB_7 : Hid (Below w.heap.size w w7) := Lib.hid (HB_6.out.trans (hb.mono HB_6.out.size))
    go_simp
    refine hK.out _ _ ⟨ba_7, va_7⟩ (fun hHeld => ?_)
    clear hb hK K ba_6 va_6 Sa_6 Ss_6 Sl_6 HB_6
    try simp only [Act.put, List.setIfInBounds_toArray, List.set_cons_zero, List.set_cons_succ]
    refine wpAnyH_take (i := 8) (v := ?_) rfl (by kernel_rfl) (by kernel_rfl) (by kernel_rfl) (fun _ _ _ h => h) (Or.inl ⟨by kernel_rfl, ?_⟩) hHeld ?_
    rotate_left
    · intro wz hSw
      try dsimp only at hSw
      first
      | (go_simp; done)
      | (go_simp; with_reducible rfl)
    try simp only [Act.put, List.setIfInBounds_toArray, List.set_cons_zero, List.set_cons_succ]
    refine wpAnyH_take (i := 9) (v := ?_) rfl (by kernel_rfl) (by kernel_rfl) (by kernel_rfl) (fun _ _ _ h => h) (Or.inl ⟨by kernel_rfl, ?_⟩) hHeld ?_
    rotate_left
    · intro wz hSw
      try dsimp only at hSw
      first
      | (go_simp; done)
      | (go_simp; with_reducible rfl)
    try simp only [Act.put, List.setIfInBounds_toArray, List.set_cons_zero, List.set_cons_succ]
    refine wpAnyH_take (i := 10) (v := ?_) rfl (by kernel_rfl) (by kernel_rfl) (by kernel_rfl) (fun _ _ _ h => h) (Or.inl ⟨by kernel_rfl, ?_⟩) hHeld ?_
    rotate_left
    · intro wz hSw
      try dsimp only at hSw
      first
      | (go_simp; done)
      | (go_simp; with_reducible rfl)
    try simp only [Act.put, List.setIfInBounds_toArray, List.set_cons_zero, List.set_cons_succ]
    refine wpAnyH_ready (rs := [11]) (by kernel_rfl) (by simp) ?_
    refine AllReadyH.cons rfl (fun K hK => ?_) AllReadyH.nil
    go_simp
    refine (implMissed_v dsa ba [] _ _ _ _ Sa_7.out none 0 0 (nilA _) (by omega) HNIL.out).mono ?_
    rintro e w8 ⟨rfl, hb⟩
    have ba_8 := keep1 hb ba_7
    have va_8 := keep1 hb va_7
    have Sa_8 := Lib.hid ((Sa_7.out.below hb).call hb.size)
    have Ss_8 := Lib.hid ((Ss_7.out.below hb).call hb.size)
    have Sl_8 := Lib.hid ((Sl_7.out.below hb).call hb.size)
    have HB_8 : Hid (Below w.heap.size w w8) := Lib.hid (HB_7.out.trans (hb.mono HB_7.out.size))
    go_simp
    refine hK.out _ _ ⟨ba_8, va_8⟩ (fun hHeld => ?_)
    clear hb hK K ba_7 va_7 Sa_7 Ss_7 Sl_7 HB_7
    try simp only [Act.put, List.setIfInBounds_toArray, List.set_cons_zero, List.set_cons_succ]
    refine wpAnyH_take (i := 12) (v := ?_) rfl (by kernel_rfl) (by kernel_rfl) (by kernel_rfl) (fun _ _ _ h => h) (Or.inl ⟨by kernel_rfl, ?_⟩) hHeld ?_
    rotate_left
    · intro wz hSw
      try dsimp only at hSw
      first
      | (go_simp; done)
      | (go_simp; with_reducible rfl)
    try simp only [Act.put, List.setIfInBounds_toArray, List.set_cons_zero, List.set_cons_succ]
    refine wpAnyH_take (i := 13) (v := ?_) rfl (by kernel_rfl) (by kernel_rfl) (by kernel_rfl) (fun _ _ _ h => h) (Or.inl ⟨by kernel_rfl, ?_⟩) hHeld ?_
    rotate_left
    · intro wz hSw
      try dsimp only at hSw
      first
      | (go_simp; done)
      | (go_simp; with_reducible rfl)
    try simp only [Act.put, List.setIfInBounds_toArray, List.set_cons_zero, List.set_cons_succ]
    refine wpAnyH_take (i := 14) (v := ?_) rfl (by kernel_rfl) (by kernel_rfl) (by kernel_rfl) (fun _ _ _ h => h) (Or.inl ⟨by kernel_rfl, ?_⟩) hHeld ?_
    rotate_left
    · intro wz hSw
      try dsimp only at hSw
      first
      | (go_simp; done)
      | (go_simp; with_reducible rfl)
    try simp only [Act.put, List.setIfInBounds_toArray, List.set_cons_zero, List.set_cons_succ]
    refine wpAnyH_take (i := 15) (v := ?_) rfl (by kernel_rfl) (by kernel_rfl) (by kernel_rfl) (fun _ _ _ h => h) (Or.inl ⟨by kernel_rfl, ?_⟩) hHeld ?_
    rotate_left
    · intro wz hSw
      try dsimp only at hSw
      first
      | (go_simp; done)
      | (go_simp; with_reducible rfl)
    try simp only [Act.put, List.setIfInBounds_toArray, List.set_cons_zero, List.set_cons_succ]
    refine wpAnyH_take (i := 16) (v := ?_) rfl (by kernel_rfl) (by kernel_rfl) (by kernel_rfl) (fun _ _ _ h => h) (Or.inl ⟨by kernel_rfl, ?_⟩) hHeld ?_
    rotate_left
    · intro wz hSw
      try dsimp only at hSw
      first
      | (go_simp; done)
      | (go_simp; with_reducible rfl)
    try simp only [Act.put, List.setIfInBounds_toArray, List.set_cons_zero, List.set_cons_succ]
    by_cases hr0 : r < 0
    · skip
      refine wpAnyH_take (i := 17) (v := ?_) rfl (by kernel_rfl) (by kernel_rfl) (by kernel_rfl) (fun _ _ _ h => h) (Or.inl ⟨by kernel_rfl, ?_⟩) hHeld ?_
      rotate_left
      · intro wz hSw
        try dsimp only at hSw
        first
        | (go_simp; done)
        | (go_simp; with_reducible rfl)
      try simp only [Act.put, List.setIfInBounds_toArray, List.set_cons_zero, List.set_cons_succ]
      refine wpAnyH_take (i := 18) (v := undef) rfl (by kernel_rfl) (by kernel_rfl) (by kernel_rfl) (fun _ _ _ h => h) (Or.inr ⟨by kernel_rfl, rfl⟩) hHeld ?_
      try simp only [Act.put, List.setIfInBounds_toArray, List.set_cons_zero, List.set_cons_succ]
      refine wpAnyH_take (i := 19) (v := undef) rfl (by kernel_rfl) (by kernel_rfl) (by kernel_rfl) (fun _ _ _ h => h) (Or.inr ⟨by kernel_rfl, rfl⟩) hHeld ?_
      try simp only [Act.put, List.setIfInBounds_toArray, List.set_cons_zero, List.set_cons_succ]
      refine wpAnyH_take (i := 20) (v := undef) rfl (by kernel_rfl) (by kernel_rfl) (by kernel_rfl) (fun _ _ _ h => h) (Or.inr ⟨by kernel_rfl, rfl⟩) hHeld ?_
      try simp only [Act.put, List.setIfInBounds_toArray, List.set_cons_zero, List.set_cons_succ]
      refine wpAnyH_take (i := 21) (v := undef) rfl (by kernel_rfl) (by kernel_rfl) (by kernel_rfl) (fun _ _ _ h => h) (Or.inr ⟨by kernel_rfl, rfl⟩) hHeld ?_
      try simp only [Act.put, List.setIfInBounds_toArray, List.set_cons_zero, List.set_cons_succ]
      refine wpAnyH_take (i := 22) (v := ?_) rfl (by kernel_rfl) (by kernel_rfl) (by kernel_rfl) (fun _ _ _ h => h) (Or.inl ⟨by kernel_rfl, ?_⟩) hHeld ?_
      rotate_left
      · intro wz hSw
        try dsimp only at hSw
        first
        | (go_simp; done)
        | (go_simp; with_reducible rfl)
      try simp only [Act.put, List.setIfInBounds_toArray, List.set_cons_zero, List.set_cons_succ]
      refine wpAnyH_take (i := 23) (v := ?_) rfl (by kernel_rfl) (by kernel_rfl) (by kernel_rfl) (fun _ _ _ h => h) (Or.inl ⟨by kernel_rfl, ?_⟩) hHeld ?_
      rotate_left
      · intro wz hSw
        try dsimp only at hSw
        first
        | (go_simp; done)
        | (go_simp; with_reducible rfl)
      try simp only [Act.put, List.setIfInBounds_toArray, List.set_cons_zero, List.set_cons_succ]
      refine wpAnyH_take (i := 24) (v := ?_) rfl (by kernel_rfl) (by kernel_rfl) (by kernel_rfl) (fun _ _ _ h => h) (Or.inl ⟨by kernel_rfl, ?_⟩) hHeld ?_
      rotate_left
      · intro wz hSw
        try dsimp only at hSw
        first
        | (go_simp; done)
        | (go_simp; with_reducible rfl)
      try simp only [Act.put, List.setIfInBounds_toArray, List.set_cons_zero, List.set_cons_succ]
      refine wpAnyH_done (by kernel_rfl) ?_ _
      try go_simp
      go_wp2
      go_ret
      exact ⟨by first | rfl | kernel_rfl | (go_simp; done), HB_8.out⟩
    have hle : r ≤ (m : Int) := by rcases HLE.out with h | h <;> omega
    refine wpAnyH_take (i := 17) (v := ?_) rfl (by kernel_rfl) (by kernel_rfl) (by kernel_rfl) (fun _ _ _ h => h) (Or.inl ⟨by kernel_rfl, ?_⟩) hHeld ?_
    rotate_left
    · intro wz hSw
      try dsimp only at hSw
      first
      | (go_simp; done)
      | (go_simp; with_reducible rfl)
    try simp only [Act.put, List.setIfInBounds_toArray, List.set_cons_zero, List.set_cons_succ]
    refine wpAnyH_take (i := 18) (v := ?_) rfl (by kernel_rfl) (by kernel_rfl) (by kernel_rfl) (fun _ _ _ h => h) (Or.inl ⟨by kernel_rfl, ?_⟩) hHeld ?_
    rotate_left
    · intro wz hSw
      try dsimp only at hSw
      first
      | (go_simp; done)
      | (go_simp; with_reducible rfl)
    try simp only [Act.put, List.setIfInBounds_toArray, List.set_cons_zero, List.set_cons_succ]
    refine wpAnyH_take (i := 19) (v := ?_) rfl (by kernel_rfl) (by kernel_rfl) (by kernel_rfl) (fun _ _ _ h => h) (Or.inl ⟨by kernel_rfl, ?_⟩) hHeld ?_
    rotate_left
    · intro wz hSw
      try dsimp only at hSw
      first
      | (go_simp; done)
      | (go_simp; with_reducible rfl)
    try simp only [Act.put, List.setIfInBounds_toArray, List.set_cons_zero, List.set_cons_succ]
    refine wpAnyH_ready (rs := [20]) (by kernel_rfl) (by simp) ?_
    refine AllReadyH.cons rfl (fun K hK => ?_) AllReadyH.nil
    go_simp
    refine (implMaskOf_v dsa ba _ _ _ _ Sa_8.out (by omega) HMK.out).mono ?_
    rintro e w9 ⟨rfl, hb⟩
    have ba_9 := keep1 hb ba_8
    have va_9 := keep1 hb va_8
    have Sa_9 := Lib.hid ((Sa_8.out.below hb).call hb.size)
    have Ss_9 := Lib.hid ((Ss_8.out.below hb).call hb.size)
    have Sl_9 := Lib.hid ((Sl_8.out.below hb).call hb.size)
    have HB_9 : Hid (Below w.heap.size w w9) := Lib.hid (HB_8.out.trans (hb.mono HB_8.out.size))
    go_simp
    refine hK.out _ _ ⟨ba_9, va_9⟩ (fun hHeld => ?_)
    clear hb hK K ba_8 va_8 Sa_8 Ss_8 Sl_8 HB_8
    try simp only [Act.put, List.setIfInBounds_toArray, List.set_cons_zero, List.set_cons_succ]
    refine wpAnyH_take (i := 21) (v := ?_) rfl (by kernel_rfl) (by kernel_rfl) (by kernel_rfl) (fun _ _ _ h => h) (Or.inl ⟨by kernel_rfl, ?_⟩) hHeld ?_
    rotate_left
    · intro wz hSw
      try dsimp only at hSw
      first
      | (go_simp; done)
      | (go_simp; with_reducible rfl)
    try simp only [Act.put, List.setIfInBounds_toArray, List.set_cons_zero, List.set_cons_succ]
    refine wpAnyH_take (i := 22) (v := ?_) rfl (by kernel_rfl) (by kernel_rfl) (by kernel_rfl) (fun _ _ _ h => h) (Or.inl ⟨by kernel_rfl, ?_⟩) hHeld ?_
    rotate_left
    · intro wz hSw
      try dsimp only at hSw
      first
      | (go_simp; done)
      | (go_simp; with_reducible rfl)
    try simp only [Act.put, List.setIfInBounds_toArray, List.set_cons_zero, List.set_cons_succ]
    refine wpAnyH_take (i := 23) (v := ?_) rfl (by kernel_rfl) (by kernel_rfl) (by kernel_rfl) (fun _ _ _ h => h) (Or.inl ⟨by kernel_rfl, ?_⟩) hHeld ?_
    rotate_left
    · intro wz hSw
      try dsimp only at hSw
      first
      | (go_simp; done)
      | (go_simp; with_reducible rfl)
    try simp only [Act.put, List.setIfInBounds_toArray, List.set_cons_zero, List.set_cons_succ]
    refine wpAnyH_take (i := 24) (v := ?_) rfl (by kernel_rfl) (by kernel_rfl) (by kernel_rfl) (fun _ _ _ h => h) (Or.inl ⟨by kernel_rfl, ?_⟩) hHeld ?_
    rotate_left
    · intro wz hSw
      try dsimp only at hSw
      first
      | (go_simp; done)
      | (go_simp; with_reducible rfl)
    try simp only [Act.put, List.setIfInBounds_toArray, List.set_cons_zero, List.set_cons_succ]
    refine wpAnyH_done (by kernel_rfl) ?_ _
    try go_simp
    go_wp2
    go_ret
    exact ⟨by first | rfl | kernel_rfl | (go_simp; done), HB_9.out⟩

theorem lifted (os : Os) (started : os.Started) (H : Type) (enc : TypeId × Value → H) :
    ReturnsInHanded {} Try.checked os 6 .any (Rows.fnFirstMissedAllSpec.pre6 enc Try.prog Try.f6 Rows.fnFirstMissedAllRow.domain false) (Rows.fnFirstMissedAllSpec.post enc Try.prog Try.f6 false true false false) := by
  refine returnsInHanded_of_change (C := Try.checked) own started (by kernel_rfl) Try.func6
    (ChangeSpec.witness6 (enc := enc) (C := Try.checked) false ⟨#[], #[.slice none 0 0], []⟩ 8 (by kernel_rfl) (by kernel_rfl) (by kernel_rfl) (by kernel_rfl)) ?_
  intro W base args ds gs before hval0 hW hcnd _
  have hval : ∀ (j : Nat) t v, Try.f6.params[j]? = some t → args[j]? = some v → Value.okWide Try.prog W .any base t v := hval0
  have hW' := hW
  obtain ⟨p, q, hA0, hV, rfl, hfz, hnd⟩ := hW
  have hA : DataW.TrodAll enc Try.prog W 0 (fun _ => true) true Try.f6.params.toList args.toList ds p := hA0
  rw [Try.params6] at hA hval
  obtain ⟨v0, vs0, d0, ds0, p0, q0, hargs, rfl, rfl, h0, r0⟩ := trodAll_cons hA
  obtain ⟨rfl, rfl, rfl⟩ := trodAll_nil r0
  obtain rfl : args = #[v0] := by cases args; simp_all
  obtain ⟨rfl, rfl⟩ := trodVars_none hV
  have k0 := h0
  have lt0 : ∀ x ∈ p0, x.block < W.heap.size := by obtain ⟨m, hm⟩ := k0; exact DataW.trod_lt m _ _ _ hm
  obtain ⟨A0, n0, c0, l0, rfl, w0⟩ := open_code (hval 0 22 v0 rfl rfl) h0
  clear hA0 hval0
  refine (walk A0 n0 c0 l0 W w0).mono fun e W' ⟨he, bel⟩ => ?_
  subst he
  exact ⟨_, rfl, _, _, _, [], _, [], hW', trodAll_mk1 (shut_bool Try.underlying4 _), (trodAll_cons_mk (Below.trod laidOut (by kernel_rfl) (of_decide_eq_true (by kernel_rfl)) k0 bel lt0) trodAll_mk0), rfl, bel.frame _, fun h => by cases h⟩

theorem over : Rows.fnFirstMissedAllRow.holds Try.pinned (OpenSpec.ofChange Rows.fnFirstMissedAllSpec) :=
  OpenClaim.holds_of_wide 6 Try.f6 rfl rfl rfl rfl rfl rfl rfl ⟨rfl, rfl, rfl, rfl, rfl⟩ rfl rfl rfl rfl rfl (by kernel_rfl) Try.func6 (by kernel_rfl)
    (of_decide_eq_true (by kernel_rfl)) (by unfold Func.isWrapper; first | (rw [if_pos (by decide +kernel)]; kernel_rfl) | (rw [if_neg (by decide +kernel)]; exact ⟨rfl, rfl⟩))
    (fun os started H enc _ => lifted os started H enc)

theorem proved : Rows.FnFirstMissedAllSaid := over
end Go.Proofs.Ytkholjcmaebaaaa.fnFirstMissedAll
