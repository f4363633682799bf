/-
For every code the law of order that means nothing returns true: the program's SameMeaning answers as its model, holds both ways, and for SortEnum.
Conditions: none.
-/
import Derived.Test.YtbkfagncoekbkaaGenEn2
import Derived.Test.YtbkfagncoekbkaaOpenC
import Derived.Test.YtbkfagncoekbkaaLPc
import Derived.Test.YtbkfagncoekbkaaSameW
import Derived.Test.YtbkfagncoekbkaaSameI
import Derived.Test.YtbkfagncoekbkaaLEq
namespace Go.Proofs.Ytbkfagncoekbkaa.fnSameMeaning
open Go.ChangeShapes Go.WideShapes Go.ChangeAt Go.RowKit
open Go.ChangeMaps (open_string shut_string)
set_option linter.unusedVariables false
set_option linter.unusedSimpArgs false
set_option maxRecDepth 100000

set_option maxHeartbeats 16000000 in
theorem walk (A : Option Addr) (n c : Nat) (zs : List Int) (w : World) (h : SB w w.heap.size A n c zs) :
    Calls Try.prog 12 #[.slice A n c] w fun e w' => e = .returned (.bool true) ∧ Below w.heap.size w w' := by
  have hm := h.max
  have hcap := h.cap
  unfold maxLen at hm
  have HS0 := Lib.hid h
  clear h
  by_cases hbig : 1048576 < (n : Int)
  · go_enter Try.func12, Try.ntmps12
    go_wp2
    go_ret
    exact ⟨rfl, Below.refl _ _⟩
  go_enter Try.func12, Try.ntmps12
  go_wp2_with fail
  refine (drawSameMeaning_s A n c zs _ HS0.out).mono ?_
  rintro e w1 ⟨Aa, ca, dsa, Ab, cb, dsb, rfl, hna, hnb, hsma, hsmb, hsa, hsb, hb⟩
  have HB_1 := Lib.hid hb
  have Sa_1 := Lib.hid hsa
  have HSMa := Lib.hid hsma
  have HOKa : Hid (∀ d ∈ dsa, d.ok) := Lib.hid (fun d hd => small_ok (hsma d hd))
  have Sb_1 := Lib.hid hsb
  have HSMb := Lib.hid hsmb
  have HOKb : Hid (∀ d ∈ dsb, d.ok) := Lib.hid (fun d hd => small_ok (hsmb d hd))
  clear hb hsa hsma hsb hsmb
  obtain ⟨w2, hw⟩ : ∃ W : World, W = ((w1.alloc (.cells #[.slice Aa dsa.length ca] 58)).alloc (.cells #[.slice Ab dsb.length cb] 58)) := ⟨_, rfl⟩
  have hb : Below w1.heap.size w1 w2 := by rw [hw]; exact (((Below.refl _ _).alloc (by first | exact Nat.le_refl _ | (simp; done) | (simp; omega)) _).alloc (by first | exact Nat.le_refl _ | (simp; done) | (simp; omega)) _)
  have Sa_2 := Lib.hid ((Sa_1.out.below hb).call hb.size)
  have Sb_2 := Lib.hid ((Sb_1.out.below hb).call hb.size)
  have HB_2 : Hid (Below w.heap.size w w2) := Lib.hid (HB_1.out.trans (hb.mono HB_1.out.size))
  have ba_2 : w2.cell? ⟨w1.heap.size, 0, none⟩ = some (.slice Aa dsa.length ca) := by rw [hw]; simp [go_sem]
  have bb_2 : w2.cell? ⟨w1.heap.size + 1, 0, none⟩ = some (.slice Ab dsb.length cb) := by rw [hw]; simp [go_sem]
  have lf_ba : ((w1.alloc (.cells #[.slice Aa dsa.length ca] 58)).alloc (.cells #[.slice Ab dsb.length cb] 58)).cell? ⟨w1.heap.size, 0, none⟩ = some (.slice Aa dsa.length ca) := by rw [← hw]; exact ba_2
  have lf_bb : ((w1.alloc (.cells #[.slice Aa dsa.length ca] 58)).alloc (.cells #[.slice Ab dsb.length cb] 58)).cell? ⟨w1.heap.size + 1, 0, none⟩ = some (.slice Ab dsb.length cb) := by rw [← hw]; exact bb_2
  have HW2 : Hid (((w1.alloc (.cells #[.slice Aa dsa.length ca] 58)).alloc (.cells #[.slice Ab dsb.length cb] 58)) = w2) := Lib.hid hw.symm
  clear hb hw Sa_1 Sb_1 HB_1
  obtain ⟨v, hv⟩ : ∃ v, mSame dsa dsb = v := ⟨_, rfl⟩
  have HV := Lib.hid hv
  have HSP : Hid (∀ (A B : Option Addr) (n c m e : Nat) (w : World), SD w w.heap.size A n c dsa → SD w w.heap.size B m e dsb → Calls Try.prog 61 #[.agg #[.slice A n c], .agg #[.slice B m e]] w (fun en w' => en = .returned (.bool v) ∧ Below w.heap.size w w')) := Lib.hid (by rw [← hv]; exact fun A B n c m e w h1 h2 => specSame_any dsa dsb A B n c m e w h1 h2)
  clear hv
  obtain ⟨va, hva⟩ : ∃ va, vEnum dsa = va := ⟨_, rfl⟩
  obtain ⟨vb, hvb⟩ : ∃ vb, vEnum dsb = vb := ⟨_, rfl⟩
  have HVA := Lib.hid hva
  have HVB := Lib.hid hvb
  clear hva hvb
  go_wp2_with fail
  rw [HW2.out]
  clear lf_ba lf_bb
  refine (implSame_v dsa dsb _ _ _ _ _ _ _ Sa_2.out Sb_2.out HV.out).mono ?_
  rintro e w3 ⟨rfl, hb⟩
  have ba_3 := keep1 hb ba_2
  have bb_3 := keep1 hb bb_2
  have Sa_3 := Lib.hid ((Sa_2.out.below hb).call hb.size)
  have Sb_3 := Lib.hid ((Sb_2.out.below hb).call hb.size)
  have HB_3 : Hid (Below w.heap.size w w3) := Lib.hid (HB_2.out.trans (hb.mono HB_2.out.size))
  clear hb  ba_2 bb_2 Sa_2 Sb_2 HB_2
  go_wp2_with fail
  refine (HSP.out _ _ _ _ _ _ _ Sa_3.out Sb_3.out).mono ?_
  rintro e w4 ⟨rfl, hb⟩
  have ba_4 := keep1 hb ba_3
  have bb_4 := keep1 hb bb_3
  have Sa_4 := Lib.hid ((Sa_3.out.below hb).call hb.size)
  have Sb_4 := Lib.hid ((Sb_3.out.below hb).call hb.size)
  have HB_4 : Hid (Below w.heap.size w w4) := Lib.hid (HB_3.out.trans (hb.mono HB_3.out.size))
  clear hb  ba_3 bb_3 Sa_3 Sb_3 HB_3
  go_wp2_with fail
  refine (implVE_v dsa _ _ _ _ Sa_4.out HVA.out).mono ?_
  rintro e w5 ⟨rfl, hb⟩
  have ba_5 := keep1 hb ba_4
  have bb_5 := keep1 hb bb_4
  have Sa_5 := Lib.hid ((Sa_4.out.below hb).call hb.size)
  have Sb_5 := Lib.hid ((Sb_4.out.below hb).call hb.size)
  have HB_5 : Hid (Below w.heap.size w w5) := Lib.hid (HB_4.out.trans (hb.mono HB_4.out.size))
  clear hb  ba_4 bb_4 Sa_4 Sb_4 HB_4
  cases va
  · skip
    go_wp2_with fail
    refine (HSP.out _ _ _ _ _ _ _ Sa_5.out Sb_5.out).mono ?_
    rintro e w6 ⟨rfl, hb⟩
    have ba_6 := keep1 hb ba_5
    have bb_6 := keep1 hb bb_5
    have Sa_6 := Lib.hid ((Sa_5.out.below hb).call hb.size)
    have Sb_6 := Lib.hid ((Sb_5.out.below hb).call hb.size)
    have HB_6 : Hid (Below w.heap.size w w6) := Lib.hid (HB_5.out.trans (hb.mono HB_5.out.size))
    clear hb  ba_5 bb_5 Sa_5 Sb_5 HB_5
    go_wp2
    go_ret
    exact ⟨by first | rfl | kernel_rfl | (go_simp; done), HB_6.out⟩
  go_wp2_with fail
  refine (implVE_v dsb _ _ _ _ Sb_5.out HVB.out).mono ?_
  rintro e w6 ⟨rfl, hb⟩
  have ba_6 := keep1 hb ba_5
  have bb_6 := keep1 hb bb_5
  have Sa_6 := Lib.hid ((Sa_5.out.below hb).call hb.size)
  have Sb_6 := Lib.hid ((Sb_5.out.below hb).call hb.size)
  have HB_6 : Hid (Below w.heap.size w w6) := Lib.hid (HB_5.out.trans (hb.mono HB_5.out.size))
  clear hb  ba_5 bb_5 Sa_5 Sb_5 HB_5
  cases vb
  · skip
    go_wp2_with fail
    refine (HSP.out _ _ _ _ _ _ _ Sa_6.out Sb_6.out).mono ?_
    rintro e w7 ⟨rfl, hb⟩
    have ba_7 := keep1 hb ba_6
    have bb_7 := keep1 hb bb_6
    have Sa_7 := Lib.hid ((Sa_6.out.below hb).call hb.size)
    have Sb_7 := Lib.hid ((Sb_6.out.below hb).call hb.size)
    have HB_7 : Hid (Below w.heap.size w w7) := Lib.hid (HB_6.out.trans (hb.mono HB_6.out.size))
    clear hb  ba_6 bb_6 Sa_6 Sb_6 HB_6
    go_wp2
    go_ret
    exact ⟨by first | rfl | kernel_rfl | (go_simp; done), HB_7.out⟩
  have hsl := sort_law HVA.out
  have hms0 : mSort dsa = srt dsa := by unfold mSort; rw [HVA.out, if_pos rfl]
  rw [← hms0] at hsl
  obtain ⟨ms, hms⟩ : ∃ ms, mSort dsa = ms := ⟨_, rfl⟩
  rw [hms] at hsl
  have OKM : Hid (∀ d ∈ ms, d.ok) := Lib.hid (by rw [← hms]; exact fun d hd => HOKa.out d (mSort_mem hd))
  have HIM : Hid (∀ (A : Option Addr) (n c : Nat) (w : World), SD w w.heap.size A n c dsa → Calls Try.prog 62 #[.agg #[.slice A n c]] w (EnumE ms w)) := Lib.hid (by rw [← hms]; exact fun A n c w h => implSort_any dsa A n c w h)
  unfold EnumE at HIM
  have HS1 : Hid (mSame dsb dsa = v) := Lib.hid (by rw [same_swap]; exact HV.out)
  have HS2 : Hid (mSame dsa ms = true) := Lib.hid (by rw [same_swap]; exact hsl.same)
  clear hms hms0 hsl
  cases v
  · skip
    go_wp2_with fail
    refine wp_region_held_drew (S := (fun w' => w'.cell? ⟨w1.heap.size, 0, none⟩ = some (.slice Aa dsa.length ca) ∧ w'.cell? ⟨w1.heap.size + 1, 0, none⟩ = some (.slice Ab dsb.length cb))) (by kernel_rfl) ⟨ba_6, bb_6⟩ (fun hHeld => ?_)
    refine wpAnyH_take (i := 0) (v := ?_) rfl (by kernel_rfl) (by kernel_rfl) (by kernel_rfl) (fun _ _ _ h => h) (Or.inl ⟨by kernel_rfl, ?_⟩) hHeld ?_
    rotate_left
    · intro wz hSw
      try dsimp only at hSw
      first
      | (go_simp; done)
      | (go_simp; with_reducible rfl)
    try simp only [Act.put, List.setIfInBounds_toArray, List.set_cons_zero, List.set_cons_succ]
    refine wpAnyH_take (i := 1) (v := ?_) rfl (by kernel_rfl) (by kernel_rfl) (by kernel_rfl) (fun _ _ _ h => h) (Or.inl ⟨by kernel_rfl, ?_⟩) hHeld ?_
    rotate_left
    · intro wz hSw
      try dsimp only at hSw
      first
      | (go_simp; done)
      | (go_simp; with_reducible rfl)
    try simp only [Act.put, List.setIfInBounds_toArray, List.set_cons_zero, List.set_cons_succ]
    refine wpAnyH_take (i := 3) (v := ?_) rfl (by kernel_rfl) (by kernel_rfl) (by kernel_rfl) (fun _ _ _ h => h) (Or.inl ⟨by kernel_rfl, ?_⟩) hHeld ?_
    rotate_left
    · intro wz hSw
      try dsimp only at hSw
      first
      | (go_simp; done)
      | (go_simp; with_reducible rfl)
    try simp only [Act.put, List.setIfInBounds_toArray, List.set_cons_zero, List.set_cons_succ]
    refine wpAnyH_ready (rs := [2]) (by kernel_rfl) (by simp) ?_
    refine AllReadyH.cons rfl (fun K hK => ?_) AllReadyH.nil
    go_simp
    refine (implSame_v dsb dsa _ _ _ _ _ _ _ (Sb_6.out.drewN 1) (Sa_6.out.drewN 1) HS1.out).mono ?_
    rintro e w7 ⟨rfl, hb⟩
    replace hb : Below w6.heap.size w6 w7 := (by first | exact hb | exact undrew hb)
    have ba_7 := keep1 hb ba_6
    have bb_7 := keep1 hb bb_6
    have Sa_7 := Lib.hid ((Sa_6.out.below hb).call hb.size)
    have Sb_7 := Lib.hid ((Sb_6.out.below hb).call hb.size)
    have HB_7 : Hid (Below w.heap.size w w7) := Lib.hid (HB_6.out.trans (hb.mono HB_6.out.size))
    go_simp
    refine hK.out _ _ ⟨ba_7, bb_7⟩ (fun hHeld => ?_)
    clear hK K
    try simp only [Act.put, List.setIfInBounds_toArray, List.set_cons_zero, List.set_cons_succ]
    refine wpAnyH_take (i := 4) (v := ?_) rfl (by kernel_rfl) (by kernel_rfl) (by kernel_rfl) (fun _ _ _ h => h) (Or.inl ⟨by kernel_rfl, ?_⟩) hHeld ?_
    rotate_left
    · intro wz hSw
      try dsimp only at hSw
      first
      | (go_simp; done)
      | (go_simp; with_reducible rfl)
    try simp only [Act.put, List.setIfInBounds_toArray, List.set_cons_zero, List.set_cons_succ]
    refine wpAnyH_take (i := 5) (v := ?_) rfl (by kernel_rfl) (by kernel_rfl) (by kernel_rfl) (fun _ _ _ h => h) (Or.inl ⟨by kernel_rfl, ?_⟩) hHeld ?_
    rotate_left
    · intro wz hSw
      try dsimp only at hSw
      first
      | (go_simp; done)
      | (go_simp; with_reducible rfl)
    try simp only [Act.put, List.setIfInBounds_toArray, List.set_cons_zero, List.set_cons_succ]
    refine wpAnyH_take (i := 6) (v := ?_) rfl (by kernel_rfl) (by kernel_rfl) (by kernel_rfl) (fun _ _ _ h => h) (Or.inl ⟨by kernel_rfl, ?_⟩) hHeld ?_
    rotate_left
    · intro wz hSw
      try dsimp only at hSw
      first
      | (go_simp; done)
      | (go_simp; with_reducible rfl)
    try simp only [Act.put, List.setIfInBounds_toArray, List.set_cons_zero, List.set_cons_succ]
    refine wpAnyH_take (i := 7) (v := ?_) rfl (by kernel_rfl) (by kernel_rfl) (by kernel_rfl) (fun _ _ _ h => h) (Or.inl ⟨by kernel_rfl, ?_⟩) hHeld ?_
    rotate_left
    · intro wz hSw
      try dsimp only at hSw
      first
      | (go_simp; done)
      | (go_simp; with_reducible rfl)
    try simp only [Act.put, List.setIfInBounds_toArray, List.set_cons_zero, List.set_cons_succ]
    refine wpAnyH_ready (rs := [8]) (by kernel_rfl) (by simp) ?_
    refine AllReadyH.cons rfl (fun K hK => ?_) AllReadyH.nil
    go_simp
    refine (HIM.out _ _ _ _ Sa_7.out).mono ?_
    rintro e w8 ⟨Ao, co, rfl, ho, hb⟩
    have ba_8 := keep1 hb ba_7
    have bb_8 := keep1 hb bb_7
    have Sa_8 := Lib.hid ((Sa_7.out.below hb).call hb.size)
    have Sb_8 := Lib.hid ((Sb_7.out.below hb).call hb.size)
    have HB_8 : Hid (Below w.heap.size w w8) := Lib.hid (HB_7.out.trans (hb.mono HB_7.out.size))
    have So_8 := Lib.hid (sd_of_own ho OKM.out)
    clear ho
    go_simp
    refine hK.out _ _ ⟨ba_8, bb_8⟩ (fun hHeld => ?_)
    clear hK K
    try simp only [Act.put, List.setIfInBounds_toArray, List.set_cons_zero, List.set_cons_succ]
    refine wpAnyH_ready (rs := [9]) (by kernel_rfl) (by simp) ?_
    refine AllReadyH.cons rfl (fun K hK => ?_) AllReadyH.nil
    go_simp
    refine (implSame_v dsa ms _ _ _ _ _ _ _ Sa_8.out So_8.out HS2.out).mono ?_
    rintro e w9 ⟨rfl, hb⟩
    have ba_9 := keep1 hb ba_8
    have bb_9 := keep1 hb bb_8
    have Sa_9 := Lib.hid ((Sa_8.out.below hb).call hb.size)
    have Sb_9 := Lib.hid ((Sb_8.out.below hb).call hb.size)
    have So_9 := Lib.hid ((So_8.out.below hb).call hb.size)
    have HB_9 : Hid (Below w.heap.size w w9) := Lib.hid (HB_8.out.trans (hb.mono HB_8.out.size))
    go_simp
    refine hK.out _ _ ⟨ba_9, bb_9⟩ (fun hHeld => ?_)
    clear hK K
    try simp only [Act.put, List.setIfInBounds_toArray, List.set_cons_zero, List.set_cons_succ]
    refine wpAnyH_take (i := 10) (v := ?_) rfl (by kernel_rfl) (by kernel_rfl) (by kernel_rfl) (fun _ _ _ h => h) (Or.inl ⟨by kernel_rfl, ?_⟩) hHeld ?_
    rotate_left
    · intro wz hSw
      try dsimp only at hSw
      first
      | (go_simp; done)
      | (go_simp; with_reducible rfl)
    try simp only [Act.put, List.setIfInBounds_toArray, List.set_cons_zero, List.set_cons_succ]
    refine wpAnyH_take (i := 11) (v := ?_) rfl (by kernel_rfl) (by kernel_rfl) (by kernel_rfl) (fun _ _ _ h => h) (Or.inl ⟨by kernel_rfl, ?_⟩) hHeld ?_
    rotate_left
    · intro wz hSw
      try dsimp only at hSw
      first
      | (go_simp; done)
      | (go_simp; with_reducible rfl)
    try simp only [Act.put, List.setIfInBounds_toArray, List.set_cons_zero, List.set_cons_succ]
    refine wpAnyH_take (i := 12) (v := ?_) rfl (by kernel_rfl) (by kernel_rfl) (by kernel_rfl) (fun _ _ _ h => h) (Or.inl ⟨by kernel_rfl, ?_⟩) hHeld ?_
    rotate_left
    · intro wz hSw
      try dsimp only at hSw
      first
      | (go_simp; done)
      | (go_simp; with_reducible rfl)
    try simp only [Act.put, List.setIfInBounds_toArray, List.set_cons_zero, List.set_cons_succ]
    refine wpAnyH_take (i := 13) (v := ?_) rfl (by kernel_rfl) (by kernel_rfl) (by kernel_rfl) (fun _ _ _ h => h) (Or.inl ⟨by kernel_rfl, ?_⟩) hHeld ?_
    rotate_left
    · intro wz hSw
      try dsimp only at hSw
      first
      | (go_simp; done)
      | (go_simp; with_reducible rfl)
    try simp only [Act.put, List.setIfInBounds_toArray, List.set_cons_zero, List.set_cons_succ]
    refine wpAnyH_take (i := 14) (v := ?_) rfl (by kernel_rfl) (by kernel_rfl) (by kernel_rfl) (fun _ _ _ h => h) (Or.inl ⟨by kernel_rfl, ?_⟩) hHeld ?_
    rotate_left
    · intro wz hSw
      try dsimp only at hSw
      first
      | (go_simp; done)
      | (go_simp; with_reducible rfl)
    try simp only [Act.put, List.setIfInBounds_toArray, List.set_cons_zero, List.set_cons_succ]
    refine wpAnyH_take (i := 15) (v := undef) rfl (by kernel_rfl) (by kernel_rfl) (by kernel_rfl) (fun _ _ _ h => h) (Or.inr ⟨by kernel_rfl, rfl⟩) hHeld ?_
    try simp only [Act.put, List.setIfInBounds_toArray, List.set_cons_zero, List.set_cons_succ]
    refine wpAnyH_take (i := 16) (v := undef) rfl (by kernel_rfl) (by kernel_rfl) (by kernel_rfl) (fun _ _ _ h => h) (Or.inr ⟨by kernel_rfl, rfl⟩) hHeld ?_
    try simp only [Act.put, List.setIfInBounds_toArray, List.set_cons_zero, List.set_cons_succ]
    refine wpAnyH_take (i := 17) (v := undef) rfl (by kernel_rfl) (by kernel_rfl) (by kernel_rfl) (fun _ _ _ h => h) (Or.inr ⟨by kernel_rfl, rfl⟩) hHeld ?_
    try simp only [Act.put, List.setIfInBounds_toArray, List.set_cons_zero, List.set_cons_succ]
    refine wpAnyH_take (i := 18) (v := undef) rfl (by kernel_rfl) (by kernel_rfl) (by kernel_rfl) (fun _ _ _ h => h) (Or.inr ⟨by kernel_rfl, rfl⟩) hHeld ?_
    try simp only [Act.put, List.setIfInBounds_toArray, List.set_cons_zero, List.set_cons_succ]
    refine wpAnyH_take (i := 19) (v := undef) rfl (by kernel_rfl) (by kernel_rfl) (by kernel_rfl) (fun _ _ _ h => h) (Or.inr ⟨by kernel_rfl, rfl⟩) hHeld ?_
    try simp only [Act.put, List.setIfInBounds_toArray, List.set_cons_zero, List.set_cons_succ]
    refine wpAnyH_take (i := 20) (v := undef) rfl (by kernel_rfl) (by kernel_rfl) (by kernel_rfl) (fun _ _ _ h => h) (Or.inr ⟨by kernel_rfl, rfl⟩) hHeld ?_
    try simp only [Act.put, List.setIfInBounds_toArray, List.set_cons_zero, List.set_cons_succ]
    refine wpAnyH_take (i := 21) (v := undef) rfl (by kernel_rfl) (by kernel_rfl) (by kernel_rfl) (fun _ _ _ h => h) (Or.inr ⟨by kernel_rfl, rfl⟩) hHeld ?_
    try simp only [Act.put, List.setIfInBounds_toArray, List.set_cons_zero, List.set_cons_succ]
    refine wpAnyH_take (i := 22) (v := ?_) rfl (by kernel_rfl) (by kernel_rfl) (by kernel_rfl) (fun _ _ _ h => h) (Or.inl ⟨by kernel_rfl, ?_⟩) hHeld ?_
    rotate_left
    · intro wz hSw
      try dsimp only at hSw
      first
      | (go_simp; done)
      | (go_simp; with_reducible rfl)
    try simp only [Act.put, List.setIfInBounds_toArray, List.set_cons_zero, List.set_cons_succ]
    refine wpAnyH_take (i := 23) (v := ?_) rfl (by kernel_rfl) (by kernel_rfl) (by kernel_rfl) (fun _ _ _ h => h) (Or.inl ⟨by kernel_rfl, ?_⟩) hHeld ?_
    rotate_left
    · intro wz hSw
      try dsimp only at hSw
      first
      | (go_simp; done)
      | (go_simp; with_reducible rfl)
    try simp only [Act.put, List.setIfInBounds_toArray, List.set_cons_zero, List.set_cons_succ]
    refine wpAnyH_take (i := 24) (v := ?_) rfl (by kernel_rfl) (by kernel_rfl) (by kernel_rfl) (fun _ _ _ h => h) (Or.inl ⟨by kernel_rfl, ?_⟩) hHeld ?_
    rotate_left
    · intro wz hSw
      try dsimp only at hSw
      first
      | (go_simp; done)
      | (go_simp; with_reducible rfl)
    try simp only [Act.put, List.setIfInBounds_toArray, List.set_cons_zero, List.set_cons_succ]
    refine wpAnyH_done (by kernel_rfl) ?_ _
    try go_simp
    go_wp2
    go_ret
    exact ⟨by first | rfl | kernel_rfl | (go_simp; done), HB_9.out⟩
  have hl : ((dsa.length : Int) == (dsb.length : Int)) = true := by rw [beq_iff_eq]; have := same_length HV.out; omega
  go_wp2_with fail
  go_region_held3 (fun w' => w'.cell? ⟨w1.heap.size, 0, none⟩ = some (.slice Aa dsa.length ca) ∧ w'.cell? ⟨w1.heap.size + 1, 0, none⟩ = some (.slice Ab dsb.length cb))
    (first | go_keep | exact ⟨ba_6, bb_6⟩ | exact ⟨ba_7, bb_7⟩ | exact ⟨ba_8, bb_8⟩ | exact ⟨ba_9, bb_9⟩)
    (first
      | (go_at_call_of 53 (Value.agg #[.slice Ab dsb.length cb]); refine (implSame_v dsb dsa _ _ _ _ _ _ _ (Sb_6.out.drewN 1) (Sa_6.out.drewN 1) HS1.out).mono ?_; rintro e w7 ⟨rfl, hb⟩; replace hb : Below w6.heap.size w6 w7 := (by first | exact hb | exact undrew hb); have ba_7 := keep1 hb ba_6; have bb_7 := keep1 hb bb_6; have Sa_7 := Lib.hid ((Sa_6.out.below hb).call hb.size); have Sb_7 := Lib.hid ((Sb_6.out.below hb).call hb.size); have HB_7 : Hid (Below w.heap.size w w7) := Lib.hid (HB_6.out.trans (hb.mono HB_6.out.size)); clear hb)
      | (go_at_call 62; refine (HIM.out _ _ _ _ Sa_7.out).mono ?_; rintro e w8 ⟨Ao, co, rfl, ho, hb⟩; have ba_8 := keep1 hb ba_7; have bb_8 := keep1 hb bb_7; have Sa_8 := Lib.hid ((Sa_7.out.below hb).call hb.size); have Sb_8 := Lib.hid ((Sb_7.out.below hb).call hb.size); have HB_8 : Hid (Below w.heap.size w w8) := Lib.hid (HB_7.out.trans (hb.mono HB_7.out.size)); have So_8 := Lib.hid (sd_of_own ho OKM.out); clear ho; clear hb)
      | (go_at_call 53; refine (implSame_v dsa ms _ _ _ _ _ _ _ Sa_8.out So_8.out HS2.out).mono ?_; rintro e w9 ⟨rfl, hb⟩; have ba_9 := keep1 hb ba_8; have bb_9 := keep1 hb bb_8; have Sa_9 := Lib.hid ((Sa_8.out.below hb).call hb.size); have Sb_9 := Lib.hid ((Sb_8.out.below hb).call hb.size); have So_9 := Lib.hid ((So_8.out.below hb).call hb.size); have HB_9 : Hid (Below w.heap.size w w9) := Lib.hid (HB_8.out.trans (hb.mono HB_8.out.size)); clear hb))
  go_wp2
  go_ret
  exact ⟨by first | rfl | kernel_rfl | (go_simp; done), HB_9.out⟩

theorem lifted (os : Os) (started : os.Started) (H : Type) (enc : TypeId × Value → H) :
    ReturnsInHanded {} Try.checked os 12 .any (Rows.fnSameMeaningSpec.pre6 enc Try.prog Try.f12 Rows.fnSameMeaningRow.domain false) (Rows.fnSameMeaningSpec.post enc Try.prog Try.f12 false true false false) := by
  refine returnsInHanded_of_change (C := Try.checked) own started (by kernel_rfl) Try.func12
    (ChangeSpec.witness6 (enc := enc) (C := Try.checked) false ⟨#[], #[.slice none 0 0], []⟩ 8 (by kernel_rfl) (by kernel_rfl) (by kernel_rfl) (by kernel_rfl)) ?_
  intro W base args ds gs before hval0 hW hcnd _
  have hval : ∀ (j : Nat) t v, Try.f12.params[j]? = some t → args[j]? = some v → Value.okWide Try.prog W .any base t v := hval0
  have hW' := hW
  obtain ⟨p, q, hA0, hV, rfl, hfz, hnd⟩ := hW
  have hA : DataW.TrodAll enc Try.prog W 0 (fun _ => true) true Try.f12.params.toList args.toList ds p := hA0
  rw [Try.params12] at hA hval
  obtain ⟨v0, vs0, d0, ds0, p0, q0, hargs, rfl, rfl, h0, r0⟩ := trodAll_cons hA
  obtain ⟨rfl, rfl, rfl⟩ := trodAll_nil r0
  obtain rfl : args = #[v0] := by cases args; simp_all
  obtain ⟨rfl, rfl⟩ := trodVars_none hV
  have k0 := h0
  have lt0 : ∀ x ∈ p0, x.block < W.heap.size := by obtain ⟨m, hm⟩ := k0; exact DataW.trod_lt m _ _ _ hm
  obtain ⟨A0, n0, c0, l0, rfl, w0⟩ := open_code (hval 0 22 v0 rfl rfl) h0
  clear hA0 hval0
  refine (walk A0 n0 c0 l0 W w0).mono fun e W' ⟨he, bel⟩ => ?_
  subst he
  exact ⟨_, rfl, _, _, _, [], _, [], hW', trodAll_mk1 (shut_bool Try.underlying4 _), (trodAll_cons_mk (Below.trod laidOut (by kernel_rfl) (of_decide_eq_true (by kernel_rfl)) k0 bel lt0) trodAll_mk0), rfl, bel.frame _, fun h => by cases h⟩

theorem over : Rows.fnSameMeaningRow.holds Try.pinned (OpenSpec.ofChange Rows.fnSameMeaningSpec) :=
  OpenClaim.holds_of_wide 12 Try.f12 rfl rfl rfl rfl rfl rfl rfl ⟨rfl, rfl, rfl, rfl, rfl⟩ rfl rfl rfl rfl rfl (by kernel_rfl) Try.func12 (by kernel_rfl)
    (of_decide_eq_true (by kernel_rfl)) (by unfold Func.isWrapper; first | (rw [if_pos (by decide +kernel)]; kernel_rfl) | (rw [if_neg (by decide +kernel)]; exact ⟨rfl, rfl⟩))
    (fun os started H enc _ => lifted os started H enc)

theorem proved : Rows.FnSameMeaningSaid := over
end Go.Proofs.Ytbkfagncoekbkaa.fnSameMeaning
