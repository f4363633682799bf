/-
For every code the law of changes that are undone returns true: ApplyChanges answers as its model, its answer is valid, and the turned changes lead back to what means the same.
Conditions: none.
-/
import Derived.Test.YtkholjcmaebaaaaGenAp
import Derived.Test.YtkholjcmaebaaaaOpenC
import Derived.Test.YtkholjcmaebaaaaLPb
import Derived.Test.YtkholjcmaebaaaaLCh
import Derived.Test.YtkholjcmaebaaaaLEq
import Derived.Test.YtkholjcmaebaaaaApplyI
import Derived.Test.YtkholjcmaebaaaaApplyS
import Derived.Test.YtkholjcmaebaaaaTurnJ
import Derived.Test.YtkholjcmaebaaaaSameI
import Derived.Test.YtkholjcmaebaaaaBaseB
namespace Go.Proofs.Ytkholjcmaebaaaa.fnApplyChanges
open Go.ChangeShapes Go.WideShapes Go.ChangeAt Go.RowKit
open Go.ChangeMaps (open_string shut_string)
set_option linter.unusedVariables false
set_option linter.unusedSimpArgs false
set_option maxRecDepth 100000

set_option maxHeartbeats 16000000 in
theorem walk (A : Option Addr) (n c : Nat) (zs : List Int) (w : World) (h : SB w w.heap.size A n c zs) :
    Calls Try.prog 10 #[.slice A n c] w fun e w' => e = .returned (.bool true) ∧ Below w.heap.size w w' := by
  have hm := h.max
  have hcap := h.cap
  unfold maxLen at hm
  have HS0 := Lib.hid h
  clear h
  by_cases hbig : 1048576 < (n : Int)
  · go_enter Try.func10, Try.ntmps10
    go_wp2
    go_ret
    exact ⟨rfl, Below.refl _ _⟩
  go_enter Try.func10, Try.ntmps10
  go_wp2_with fail
  refine (drawApplyChanges_s A n c zs _ HS0.out).mono ?_
  rintro e w1 ⟨Aa, ca, dsa, As, ck, ks, rfl, hna, hsma, hkl, hks, hsa, hss, hb⟩
  have HB_1 := Lib.hid hb
  have Sa_1 := Lib.hid hsa
  have HSMa := Lib.hid hsma
  have HOKa : Hid (∀ d ∈ dsa, d.ok) := Lib.hid (fun d hd => small_ok (hsma d hd))
  have Ss_1 := Lib.hid hss
  clear hb hsa hsma hss
  obtain ⟨w2, hw⟩ : ∃ W : World, W = (w1.alloc (.cells #[.slice Aa dsa.length ca] 53)) := ⟨_, rfl⟩
  have hb : Below w1.heap.size w1 w2 := by rw [hw]; exact ((Below.refl _ _).alloc (by first | exact Nat.le_refl _ | (simp; done) | (simp; omega)) _)
  have Sa_2 := Lib.hid ((Sa_1.out.below hb).call hb.size)
  have Ss_2 := Lib.hid ((Ss_1.out.below hb).call hb.size)
  have HB_2 : Hid (Below w.heap.size w w2) := Lib.hid (HB_1.out.trans (hb.mono HB_1.out.size))
  have ba_2 : w2.cell? ⟨w1.heap.size, 0, none⟩ = some (.slice Aa dsa.length ca) := by rw [hw]; simp [go_sem]
  have lf_ba : (w1.alloc (.cells #[.slice Aa dsa.length ca] 53)).cell? ⟨w1.heap.size, 0, none⟩ = some (.slice Aa dsa.length ca) := by rw [← hw]; exact ba_2
  have HW2 : Hid ((w1.alloc (.cells #[.slice Aa dsa.length ca] 53)) = w2) := Lib.hid hw.symm
  clear hb hw Sa_1 Ss_1 HB_1
  have hml := (mApply_ok (cs := ks) HOKa.out hks).1
  have OKM0 := (mApply_ok (cs := ks) HOKa.out hks).2
  have HIM : Hid (∀ (A B : Option Addr) (n c m e : Nat) (w : World), SD w w.heap.size A n c dsa → SK w w.heap.size B m e ks → Calls Try.prog 39 #[.agg #[.slice A n c], .slice B m e] w (EnumP (mApply dsa ks) w)) := Lib.hid fun A B n c m e w h1 h2 => implApply_any dsa ks A B n c m e w h1 h2
  have HSP : Hid (∀ (A B : Option Addr) (n c m e : Nat) (w : World), SD w w.heap.size A n c dsa → SK w w.heap.size B m e ks → Calls Try.prog 40 #[.agg #[.slice A n c], .slice B m e] w (EnumP (mApply dsa ks) w)) := Lib.hid fun A B n c m e w h1 h2 => specApply_any dsa ks A B n c m e w h1 h2
  unfold EnumP at HIM HSP
  have HFIT : Hid ((mApply dsa ks).isSome = true → mApply dsa ks = some ((mApply dsa ks).getD [])) := Lib.hid (fun h => by cases hq : mApply dsa ks with | none => rw [hq] at h; cases h | some es => rfl)
  generalize hq : mApply dsa ks = q at HIM HSP HFIT hml OKM0
  generalize q.getD [] = ms at *
  generalize q.isSome = ok at *
  have OKM := Lib.hid OKM0
  have HQ := Lib.hid hq
  clear OKM0 hq
  go_wp2_with fail
  rw [HW2.out]
  clear lf_ba
  refine (HIM.out _ _ _ _ _ _ _ Sa_2.out Ss_2.out).mono ?_
  rintro e w3 ⟨Ag, cg, rfl, ho, hb⟩
  have ba_3 := keep1 hb ba_2
  have Sa_3 := Lib.hid ((Sa_2.out.below hb).call hb.size)
  have Ss_3 := Lib.hid ((Ss_2.out.below hb).call hb.size)
  have HB_3 : Hid (Below w.heap.size w w3) := Lib.hid (HB_2.out.trans (hb.mono HB_2.out.size))
  have Sg_3 := Lib.hid (sd_of_own ho OKM.out)
  clear hb ho ba_2 Sa_2 Ss_2 HB_2
  obtain ⟨w4, hw⟩ : ∃ W : World, W = (w3.alloc (.cells #[.slice Ag ms.length cg] 53)) := ⟨_, rfl⟩
  have hb : Below w3.heap.size w3 w4 := by rw [hw]; exact ((Below.refl _ _).alloc (by first | exact Nat.le_refl _ | (simp; done) | (simp; omega)) _)
  have ba_4 := keep1 hb ba_3
  have Sa_4 := Lib.hid ((Sa_3.out.below hb).call hb.size)
  have Ss_4 := Lib.hid ((Ss_3.out.below hb).call hb.size)
  have Sg_4 := Lib.hid ((Sg_3.out.below hb).call hb.size)
  have HB_4 : Hid (Below w.heap.size w w4) := Lib.hid (HB_3.out.trans (hb.mono HB_3.out.size))
  have bg_4 : w4.cell? ⟨w3.heap.size, 0, none⟩ = some (.slice Ag ms.length cg) := by rw [hw]; simp [go_sem]
  have lf_ba : (w3.alloc (.cells #[.slice Ag ms.length cg] 53)).cell? ⟨w1.heap.size, 0, none⟩ = some (.slice Aa dsa.length ca) := by rw [← hw]; exact ba_4
  have lf_bg : (w3.alloc (.cells #[.slice Ag ms.length cg] 53)).cell? ⟨w3.heap.size, 0, none⟩ = some (.slice Ag ms.length cg) := by rw [← hw]; exact bg_4
  have HW4 : Hid ((w3.alloc (.cells #[.slice Ag ms.length cg] 53)) = w4) := Lib.hid hw.symm
  clear hb hw ba_3 Sa_3 Ss_3 Sg_3 HB_3
  go_wp2_with fail
  rw [HW4.out]
  clear lf_ba lf_bg
  refine (HSP.out _ _ _ _ _ _ _ Sa_4.out Ss_4.out).mono ?_
  rintro e w5 ⟨Aw, cw, rfl, ho, hb⟩
  have ba_5 := keep1 hb ba_4
  have bg_5 := keep1 hb bg_4
  have Sa_5 := Lib.hid ((Sa_4.out.below hb).call hb.size)
  have Ss_5 := Lib.hid ((Ss_4.out.below hb).call hb.size)
  have Sg_5 := Lib.hid ((Sg_4.out.below hb).call hb.size)
  have HB_5 : Hid (Below w.heap.size w w5) := Lib.hid (HB_4.out.trans (hb.mono HB_4.out.size))
  have Sw_5 := Lib.hid (sd_of_own ho OKM.out)
  clear hb ho ba_4 bg_4 Sa_4 Ss_4 Sg_4 HB_4
  obtain ⟨w6, hw⟩ : ∃ W : World, W = (w5.alloc (.cells #[.slice Aw ms.length cw] 53)) := ⟨_, rfl⟩
  have hb : Below w5.heap.size w5 w6 := by rw [hw]; exact ((Below.refl _ _).alloc (by first | exact Nat.le_refl _ | (simp; done) | (simp; omega)) _)
  have ba_6 := keep1 hb ba_5
  have bg_6 := keep1 hb bg_5
  have Sa_6 := Lib.hid ((Sa_5.out.below hb).call hb.size)
  have Ss_6 := Lib.hid ((Ss_5.out.below hb).call hb.size)
  have Sg_6 := Lib.hid ((Sg_5.out.below hb).call hb.size)
  have Sw_6 := Lib.hid ((Sw_5.out.below hb).call hb.size)
  have HB_6 : Hid (Below w.heap.size w w6) := Lib.hid (HB_5.out.trans (hb.mono HB_5.out.size))
  have bw_6 : w6.cell? ⟨w5.heap.size, 0, none⟩ = some (.slice Aw ms.length cw) := by rw [hw]; simp [go_sem]
  have lf_ba : (w5.alloc (.cells #[.slice Aw ms.length cw] 53)).cell? ⟨w1.heap.size, 0, none⟩ = some (.slice Aa dsa.length ca) := by rw [← hw]; exact ba_6
  have lf_bg : (w5.alloc (.cells #[.slice Aw ms.length cw] 53)).cell? ⟨w3.heap.size, 0, none⟩ = some (.slice Ag ms.length cg) := by rw [← hw]; exact bg_6
  have lf_bw : (w5.alloc (.cells #[.slice Aw ms.length cw] 53)).cell? ⟨w5.heap.size, 0, none⟩ = some (.slice Aw ms.length cw) := by rw [← hw]; exact bw_6
  have HW6 : Hid ((w5.alloc (.cells #[.slice Aw ms.length cw] 53)) = w6) := Lib.hid hw.symm
  clear hb hw ba_5 bg_5 Sa_5 Ss_5 Sg_5 Sw_5 HB_5
  go_wp2_with fail
  rw [HW6.out]
  clear lf_ba lf_bg lf_bw
  refine (equalEnum_any ms _ _ _ _ _ _ _ Sg_6.out Sw_6.out).mono ?_
  rintro e w7 ⟨rfl, hb⟩
  have ba_7 := keep1 hb ba_6
  have bg_7 := keep1 hb bg_6
  have bw_7 := keep1 hb bw_6
  have Sa_7 := Lib.hid ((Sa_6.out.below hb).call hb.size)
  have Ss_7 := Lib.hid ((Ss_6.out.below hb).call hb.size)
  have Sg_7 := Lib.hid ((Sg_6.out.below hb).call hb.size)
  have Sw_7 := Lib.hid ((Sw_6.out.below hb).call hb.size)
  have HB_7 : Hid (Below w.heap.size w w7) := Lib.hid (HB_6.out.trans (hb.mono HB_6.out.size))
  clear hb  ba_6 bg_6 bw_6 Sa_6 Ss_6 Sg_6 Sw_6 HB_6
  cases ok
  · skip
    go_wp2_with fail
    refine (equalEnum_any ms _ _ _ _ _ _ _ Sg_7.out Sw_7.out).mono ?_
    rintro e w8 ⟨rfl, hb⟩
    have ba_8 := keep1 hb ba_7
    have bg_8 := keep1 hb bg_7
    have bw_8 := keep1 hb bw_7
    have Sa_8 := Lib.hid ((Sa_7.out.below hb).call hb.size)
    have Ss_8 := Lib.hid ((Ss_7.out.below hb).call hb.size)
    have Sg_8 := Lib.hid ((Sg_7.out.below hb).call hb.size)
    have Sw_8 := Lib.hid ((Sw_7.out.below hb).call hb.size)
    have HB_8 : Hid (Below w.heap.size w w8) := Lib.hid (HB_7.out.trans (hb.mono HB_7.out.size))
    clear hb  ba_7 bg_7 bw_7 Sa_7 Ss_7 Sg_7 Sw_7 HB_7
    go_wp2
    go_ret
    exact ⟨by first | rfl | kernel_rfl | (go_simp; done), HB_8.out⟩
  obtain ⟨bs, hb1, hb2⟩ := apply_back (HQ.out.trans (HFIT.out rfl))
  obtain ⟨hb3, hb4, hb5, hb6⟩ := mApply_some (HQ.out.trans (HFIT.out rfl))
  have HVE := Lib.hid hb6
  have HSM2 := Lib.hid hb2
  have OKS : Hid (∀ a ∈ ks, a.ok) := Lib.hid Ss_7.out.ok
  obtain ⟨ts, hts⟩ : ∃ ts, mTurn ks = ts := ⟨_, rfl⟩
  rw [hts] at hb1
  have OKT : Hid (∀ a ∈ ts, a.ok) := Lib.hid (by rw [← hts]; exact mTurn_ok OKS.out)
  have OKB : Hid (∀ d ∈ bs, d.ok) := Lib.hid (by have := (mApply_ok (ds := ms) (cs := ts) OKM.out OKT.out).2; rw [hb1] at this; exact this)
  have hbl : bs.length ≤ 12 := by have := (mApply_ok (ds := ms) (cs := ts) OKM.out OKT.out).1; rw [hb1] at this; exact this
  have HT : Hid (∀ (A : Option Addr) (n c : Nat) (w : World), SK w w.heap.size A n c ks → n ≤ 1048576 → Calls Try.prog 42 #[.slice A n c] w (FreshK ts w)) := Lib.hid (by rw [← hts]; exact fun A n c w h hn => implTurn_any ks A n c w h hn)
  have HA2 : Hid (∀ (A B : Option Addr) (n c m e : Nat) (w : World), SD w w.heap.size A n c ms → SK w w.heap.size B m e ts → Calls Try.prog 39 #[.agg #[.slice A n c], .slice B m e] w (EnumP (some bs) w)) := Lib.hid (by rw [← hb1]; exact fun A B n c m e w h1 h2 => implApply_any ms ts A B n c m e w h1 h2)
  unfold FreshK at HT
  unfold EnumP at HA2
  simp only [Option.getD_some, Option.isSome_some] at HA2
  clear HIM HSP HFIT HQ hb1 hb2 hb3 hb4 hb5 hb6 hts
  clear Sw_7
  clear bw_7
  go_upto_region 8 with fail
  go_cut [9, 10] (fun s t wx => ∃ (X : Nat) (A : Option Addr) (c : Nat), s = .pointer (some ⟨X, 0, none⟩) ∧ t = .bool true ∧ Hid (wx.cell? ⟨X, 0, none⟩ = some (.slice A bs.length c)) ∧ Hid (SD wx wx.heap.size A bs.length c bs) ∧ Hid (Below w7.heap.size w7 wx))
  case first =>
    refine wp_region_held_drew (S := (fun w' => w'.cell? ⟨w3.heap.size, 0, none⟩ = some (.slice Ag ms.length cg))) (by kernel_rfl) (bg_7) (fun hHeld => ?_)
    generalize hwd : w7.drew = w8 at hHeld ⊢
    have hb : Below w7.heap.size w7 w8 := by rw [← hwd]; exact (Below.refl _ _).drew
    have ba_8 := keep1 hb ba_7
    have bg_8 := keep1 hb bg_7
    have Sa_8 := Lib.hid ((Sa_7.out.below hb).call hb.size)
    have Ss_8 := Lib.hid ((Ss_7.out.below hb).call hb.size)
    have Sg_8 := Lib.hid ((Sg_7.out.below hb).call hb.size)
    have HB_8 : Hid (Below w.heap.size w w8) := Lib.hid (HB_7.out.trans (hb.mono HB_7.out.size))
    have HD8 := Lib.hid hb
    clear hb hwd ba_7 bg_7 Sa_7 Ss_7 Sg_7 HB_7
    have hb_w8 : Below w8.heap.size w8 w8 := Below.refl _ _
    refine wpAnyH_take (i := 0) (v := ?_) rfl (by kernel_rfl) (by kernel_rfl) (by kernel_rfl) (fun _ _ _ h => h) (Or.inl ⟨by kernel_rfl, ?_⟩) hHeld ?_
    rotate_left
    · intro wz hSw
      try dsimp only at hSw
      first
      | (go_simp; done)
      | (go_simp; with_reducible rfl)
    try simp only [Act.put, List.setIfInBounds_toArray, List.set_cons_zero, List.set_cons_succ]
    refine wpAnyH_take (i := 1) (v := ?_) rfl (by kernel_rfl) (by kernel_rfl) (by kernel_rfl) (fun _ _ _ h => h) (Or.inl ⟨by kernel_rfl, ?_⟩) hHeld ?_
    rotate_left
    · intro wz hSw
      try dsimp only at hSw
      first
      | (go_simp; done)
      | (go_simp; with_reducible rfl)
    try simp only [Act.put, List.setIfInBounds_toArray, List.set_cons_zero, List.set_cons_succ]
    refine wpAnyH_ready (rs := [2, 7]) (by kernel_rfl) (by simp) ?_
    refine AllReadyH.cons rfl (fun K hK => ?_) (AllReadyH.cons rfl (fun K hK => ?_) AllReadyH.nil)
    · skip
      go_simp
      refine (HT.out _ _ _ _ ((Ss_8.out.below hb_w8).call hb_w8.size) (by omega)).mono ?_
      rintro e w8c ⟨At, ct, rfl, ho, hb⟩
      have hb_w8c : Below w8.heap.size w8 w8c := hb_w8.trans (hb.mono hb_w8.size)
      have ot_w8c := Lib.hid ho
      clear ho
      go_simp
      refine hK.out _ _ (keep1 hb_w8c bg_8) (fun hHeld => ?_)
      clear hb hK K
      try simp only [Act.put, List.setIfInBounds_toArray, List.set_cons_zero, List.set_cons_succ]
      refine wpAnyH_ready (rs := [3, 7]) (by kernel_rfl) (by simp) ?_
      refine AllReadyH.cons rfl (fun K hK => ?_) (AllReadyH.cons rfl (fun K hK => ?_) AllReadyH.nil)
      · skip
        go_simp
        refine (HA2.out _ _ _ _ _ _ _ ((Sg_8.out.below hb_w8c).call hb_w8c.size) (sk_of_own ot_w8c.out OKT.out)).mono ?_
        rintro e w8cc ⟨Az, cz, rfl, ho, hb⟩
        have hb_w8cc : Below w8.heap.size w8 w8cc := hb_w8c.trans (hb.mono hb_w8c.size)
        have ot_w8cc := Lib.hid (own_below ot_w8c.out hb)
        have ow_w8cc := Lib.hid ho
        have hq := Lib.hid (fun (q : Nat) (hq : (Value.slice Az bs.length cz).ownBlock = some q) => ho.lt q hq)
        clear ho
        go_simp
        refine hK.out _ _ (keep1 hb_w8cc bg_8) (fun hHeld => ?_)
        clear hb hK K
        try simp only [Act.put, List.setIfInBounds_toArray, List.set_cons_zero, List.set_cons_succ]
        refine wpAnyH_take (i := 4) (v := ?_) rfl (by kernel_rfl) (by kernel_rfl) (by kernel_rfl) (fun _ _ _ h => h) (Or.inl ⟨by kernel_rfl, ?_⟩) hHeld ?_
        rotate_left
        · intro wz hSw
          try dsimp only at hSw
          first
          | (go_simp; done)
          | (go_simp; with_reducible rfl)
        try simp only [Act.put, List.setIfInBounds_toArray, List.set_cons_zero, List.set_cons_succ]
        refine wpAnyH_take (i := 5) (v := ?_) rfl (by kernel_rfl) (by kernel_rfl) (by kernel_rfl) (fun _ _ _ h => h) (Or.inl ⟨by kernel_rfl, ?_⟩) hHeld ?_
        rotate_left
        · intro wz hSw
          try dsimp only at hSw
          first
          | (go_simp; done)
          | (go_simp; with_reducible rfl)
        try simp only [Act.put, List.setIfInBounds_toArray, List.set_cons_zero, List.set_cons_succ]
        refine wpAnyH_take (i := 6) (v := ?_) rfl (by kernel_rfl) (by kernel_rfl) (by kernel_rfl) (fun _ _ _ h => h) (Or.inl ⟨by kernel_rfl, ?_⟩) hHeld ?_
        rotate_left
        · intro wz hSw
          try dsimp only at hSw
          first
          | (go_simp; done)
          | (go_simp; with_reducible rfl)
        try simp only [Act.put, List.setIfInBounds_toArray, List.set_cons_zero, List.set_cons_succ]
        refine wpAnyH_ready (rs := [7]) (by kernel_rfl) (by simp) ?_
        refine AllReadyH.cons rfl (fun K hK => ?_) AllReadyH.nil
        go_simp
        refine hK.out _ _ (keep1 (hb_w8cc.alloc hb_w8cc.size _) bg_8) (fun hHeld => ?_)
        clear hK K
        try simp only [Act.put, List.setIfInBounds_toArray, List.set_cons_zero, List.set_cons_succ]
        generalize hw9 : (World.alloc _ _) = w8cca at hHeld ⊢
        have hb_w8cca : Below w8.heap.size w8 w8cca := by rw [← hw9]; exact hb_w8cc.alloc hb_w8cc.size _
        have bx0_w8cca : w8cca.cell? ⟨w8cc.heap.size, 0, none⟩ = some (.slice none 0 0) := by rw [← hw9]; simp [go_sem]
        have bf0_w8cca : w8cca.frozen? ⟨w8cc.heap.size, 0, none⟩ = false := by rw [← hw9]; simp [go_sem]
        have hl_w8cca : w8cc.heap.size < w8cca.heap.size := by rw [← hw9]; simp
        have ot_w8cca := Lib.hid (ot_w8cc.out.alloc (.cells #[.slice none 0 0] 53))
        rw [hw9] at ot_w8cca
        have ow_w8cca := Lib.hid (ow_w8cc.out.alloc (.cells #[.slice none 0 0] 53))
        rw [hw9] at ow_w8cca
        clear hw9
        have k0_9 := bx0_w8cca
        have l0_9 := bf0_w8cca
        refine wpAnyH_ready (rs := [8]) (by kernel_rfl) (by simp) ?_
        refine AllReadyH.cons rfl (fun K hK => ?_) AllReadyH.nil
        go_simp
        have hge_w8cca : w8.heap.size ≤ w8cc.heap.size := hb_w8cc.size
        refine hK.out _ _ (keep1 (hb_w8cca.setCell (by first | exact Nat.le_refl _ | exact Nat.le_of_lt hl_w8cca | exact hge_w8cca) _) bg_8) (fun hHeld => ?_)
        clear hK K
        try simp only [Act.put, List.setIfInBounds_toArray, List.set_cons_zero, List.set_cons_succ]
        refine wpAnyH_take (i := 9) (v := ?_) rfl (by kernel_rfl) (by kernel_rfl) (by kernel_rfl) (fun _ _ _ h => h) (Or.inl ⟨by kernel_rfl, ?_⟩) hHeld ?_
        rotate_left
        · intro wz hSw
          try dsimp only at hSw
          first
          | (go_simp; done)
          | (go_simp; with_reducible rfl)
        try simp only [Act.put, List.setIfInBounds_toArray, List.set_cons_zero, List.set_cons_succ]
        refine wpAnyH_done (by kernel_rfl) ?_ _
        try go_simp
        go_wp2_with fail
        go_meet
        refine ⟨w8cc.heap.size, Az, cz, rfl, rfl, ?_, ?_, ?_⟩
        · exact Lib.hid (World.cell?_setCell_same' _ _ _ (by rw [k0_9]; rfl))
        · exact Lib.hid (sd_of_own (own_setCell ow_w8cca.out (fun e => by have h1 := hq.out _ e; first | omega | (have h2 := hlo; omega) | (simp only at *; omega)) _) OKB.out)
        · exact Lib.hid (HD8.out.trans ((hb_w8cca.setCell (by first | exact Nat.le_refl _ | exact Nat.le_of_lt hl_w8cca | exact hge_w8cca) _).mono HD8.out.size))
      · skip
        go_simp
        refine hK.out _ _ (keep1 (hb_w8c.alloc hb_w8c.size _) bg_8) (fun hHeld => ?_)
        clear hK K
        try simp only [Act.put, List.setIfInBounds_toArray, List.set_cons_zero, List.set_cons_succ]
        generalize hw9 : (World.alloc _ _) = w8ca at hHeld ⊢
        have hb_w8ca : Below w8.heap.size w8 w8ca := by rw [← hw9]; exact hb_w8c.alloc hb_w8c.size _
        have bx0_w8ca : w8ca.cell? ⟨w8c.heap.size, 0, none⟩ = some (.slice none 0 0) := by rw [← hw9]; simp [go_sem]
        have bf0_w8ca : w8ca.frozen? ⟨w8c.heap.size, 0, none⟩ = false := by rw [← hw9]; simp [go_sem]
        have hl_w8ca : w8c.heap.size < w8ca.heap.size := by rw [← hw9]; simp
        have ot_w8ca := Lib.hid (ot_w8c.out.alloc (.cells #[.slice none 0 0] 53))
        rw [hw9] at ot_w8ca
        clear hw9
        refine wpAnyH_ready (rs := [3]) (by kernel_rfl) (by simp) ?_
        refine AllReadyH.cons rfl (fun K hK => ?_) AllReadyH.nil
        go_simp
        refine (HA2.out _ _ _ _ _ _ _ ((Sg_8.out.below hb_w8ca).call hb_w8ca.size) (sk_of_own ot_w8ca.out OKT.out)).mono ?_
        rintro e w8cac ⟨Az, cz, rfl, ho, hb⟩
        have hb_w8cac : Below w8.heap.size w8 w8cac := hb_w8ca.trans (hb.mono hb_w8ca.size)
        have bx0_w8cac := keep1 hb bx0_w8ca
        have bf0_w8cac : w8cac.frozen? ⟨w8c.heap.size, 0, none⟩ = false := (hb.frozen (p := ⟨w8c.heap.size, 0, none⟩) hl_w8ca).trans bf0_w8ca
        have hl_w8cac : w8c.heap.size < w8cac.heap.size := Nat.lt_of_lt_of_le hl_w8ca hb.size
        have hlo := hl_w8ca
        have ot_w8cac := Lib.hid (own_below ot_w8ca.out hb)
        have ow_w8cac := Lib.hid ho
        have hq := Lib.hid (fun (q : Nat) (hq : (Value.slice Az bs.length cz).ownBlock = some q) => ho.lt q hq)
        clear ho
        go_simp
        refine hK.out _ _ (keep1 hb_w8cac bg_8) (fun hHeld => ?_)
        clear hb hK K
        try simp only [Act.put, List.setIfInBounds_toArray, List.set_cons_zero, List.set_cons_succ]
        refine wpAnyH_take (i := 4) (v := ?_) rfl (by kernel_rfl) (by kernel_rfl) (by kernel_rfl) (fun _ _ _ h => h) (Or.inl ⟨by kernel_rfl, ?_⟩) hHeld ?_
        rotate_left
        · intro wz hSw
          try dsimp only at hSw
          first
          | (go_simp; done)
          | (go_simp; with_reducible rfl)
        try simp only [Act.put, List.setIfInBounds_toArray, List.set_cons_zero, List.set_cons_succ]
        refine wpAnyH_take (i := 5) (v := ?_) rfl (by kernel_rfl) (by kernel_rfl) (by kernel_rfl) (fun _ _ _ h => h) (Or.inl ⟨by kernel_rfl, ?_⟩) hHeld ?_
        rotate_left
        · intro wz hSw
          try dsimp only at hSw
          first
          | (go_simp; done)
          | (go_simp; with_reducible rfl)
        try simp only [Act.put, List.setIfInBounds_toArray, List.set_cons_zero, List.set_cons_succ]
        refine wpAnyH_take (i := 6) (v := ?_) rfl (by kernel_rfl) (by kernel_rfl) (by kernel_rfl) (fun _ _ _ h => h) (Or.inl ⟨by kernel_rfl, ?_⟩) hHeld ?_
        rotate_left
        · intro wz hSw
          try dsimp only at hSw
          first
          | (go_simp; done)
          | (go_simp; with_reducible rfl)
        try simp only [Act.put, List.setIfInBounds_toArray, List.set_cons_zero, List.set_cons_succ]
        have k0_9 := bx0_w8cac
        have l0_9 := bf0_w8cac
        refine wpAnyH_ready (rs := [8]) (by kernel_rfl) (by simp) ?_
        refine AllReadyH.cons rfl (fun K hK => ?_) AllReadyH.nil
        go_simp
        have hge_w8cac : w8.heap.size ≤ w8c.heap.size := hb_w8c.size
        refine hK.out _ _ (keep1 (hb_w8cac.setCell (by first | exact Nat.le_refl _ | exact Nat.le_of_lt hl_w8cac | exact hge_w8cac) _) bg_8) (fun hHeld => ?_)
        clear hK K
        try simp only [Act.put, List.setIfInBounds_toArray, List.set_cons_zero, List.set_cons_succ]
        refine wpAnyH_take (i := 9) (v := ?_) rfl (by kernel_rfl) (by kernel_rfl) (by kernel_rfl) (fun _ _ _ h => h) (Or.inl ⟨by kernel_rfl, ?_⟩) hHeld ?_
        rotate_left
        · intro wz hSw
          try dsimp only at hSw
          first
          | (go_simp; done)
          | (go_simp; with_reducible rfl)
        try simp only [Act.put, List.setIfInBounds_toArray, List.set_cons_zero, List.set_cons_succ]
        refine wpAnyH_done (by kernel_rfl) ?_ _
        try go_simp
        go_wp2_with fail
        go_meet
        refine ⟨w8c.heap.size, Az, cz, rfl, rfl, ?_, ?_, ?_⟩
        · exact Lib.hid (World.cell?_setCell_same' _ _ _ (by rw [k0_9]; rfl))
        · exact Lib.hid (sd_of_own (own_setCell ow_w8cac.out (fun e => by have h1 := hq.out _ e; first | omega | (have h2 := hlo; omega) | (simp only at *; omega)) _) OKB.out)
        · exact Lib.hid (HD8.out.trans ((hb_w8cac.setCell (by first | exact Nat.le_refl _ | exact Nat.le_of_lt hl_w8cac | exact hge_w8cac) _).mono HD8.out.size))
    · skip
      go_simp
      refine hK.out _ _ (keep1 (hb_w8.alloc hb_w8.size _) bg_8) (fun hHeld => ?_)
      clear hK K
      try simp only [Act.put, List.setIfInBounds_toArray, List.set_cons_zero, List.set_cons_succ]
      generalize hw9 : (World.alloc _ _) = w8a at hHeld ⊢
      have hb_w8a : Below w8.heap.size w8 w8a := by rw [← hw9]; exact hb_w8.alloc hb_w8.size _
      have bx0_w8a : w8a.cell? ⟨w8.heap.size, 0, none⟩ = some (.slice none 0 0) := by rw [← hw9]; simp [go_sem]
      have bf0_w8a : w8a.frozen? ⟨w8.heap.size, 0, none⟩ = false := by rw [← hw9]; simp [go_sem]
      have hl_w8a : w8.heap.size < w8a.heap.size := by rw [← hw9]; simp
      clear hw9
      refine wpAnyH_ready (rs := [2]) (by kernel_rfl) (by simp) ?_
      refine AllReadyH.cons rfl (fun K hK => ?_) AllReadyH.nil
      go_simp
      refine (HT.out _ _ _ _ ((Ss_8.out.below hb_w8a).call hb_w8a.size) (by omega)).mono ?_
      rintro e w8ac ⟨At, ct, rfl, ho, hb⟩
      have hb_w8ac : Below w8.heap.size w8 w8ac := hb_w8a.trans (hb.mono hb_w8a.size)
      have bx0_w8ac := keep1 hb bx0_w8a
      have bf0_w8ac : w8ac.frozen? ⟨w8.heap.size, 0, none⟩ = false := (hb.frozen (p := ⟨w8.heap.size, 0, none⟩) hl_w8a).trans bf0_w8a
      have hl_w8ac : w8.heap.size < w8ac.heap.size := Nat.lt_of_lt_of_le hl_w8a hb.size
      have hlo := hl_w8a
      have ot_w8ac := Lib.hid ho
      clear ho
      go_simp
      refine hK.out _ _ (keep1 hb_w8ac bg_8) (fun hHeld => ?_)
      clear hb hK K
      try simp only [Act.put, List.setIfInBounds_toArray, List.set_cons_zero, List.set_cons_succ]
      refine wpAnyH_ready (rs := [3]) (by kernel_rfl) (by simp) ?_
      refine AllReadyH.cons rfl (fun K hK => ?_) AllReadyH.nil
      go_simp
      refine (HA2.out _ _ _ _ _ _ _ ((Sg_8.out.below hb_w8ac).call hb_w8ac.size) (sk_of_own ot_w8ac.out OKT.out)).mono ?_
      rintro e w8acc ⟨Az, cz, rfl, ho, hb⟩
      have hb_w8acc : Below w8.heap.size w8 w8acc := hb_w8ac.trans (hb.mono hb_w8ac.size)
      have bx0_w8acc := keep1 hb bx0_w8ac
      have bf0_w8acc : w8acc.frozen? ⟨w8.heap.size, 0, none⟩ = false := (hb.frozen (p := ⟨w8.heap.size, 0, none⟩) hl_w8ac).trans bf0_w8ac
      have hl_w8acc : w8.heap.size < w8acc.heap.size := Nat.lt_of_lt_of_le hl_w8ac hb.size
      have hlo := hl_w8ac
      have ot_w8acc := Lib.hid (own_below ot_w8ac.out hb)
      have ow_w8acc := Lib.hid ho
      have hq := Lib.hid (fun (q : Nat) (hq : (Value.slice Az bs.length cz).ownBlock = some q) => ho.lt q hq)
      clear ho
      go_simp
      refine hK.out _ _ (keep1 hb_w8acc bg_8) (fun hHeld => ?_)
      clear hb hK K
      try simp only [Act.put, List.setIfInBounds_toArray, List.set_cons_zero, List.set_cons_succ]
      refine wpAnyH_take (i := 4) (v := ?_) rfl (by kernel_rfl) (by kernel_rfl) (by kernel_rfl) (fun _ _ _ h => h) (Or.inl ⟨by kernel_rfl, ?_⟩) hHeld ?_
      rotate_left
      · intro wz hSw
        try dsimp only at hSw
        first
        | (go_simp; done)
        | (go_simp; with_reducible rfl)
      try simp only [Act.put, List.setIfInBounds_toArray, List.set_cons_zero, List.set_cons_succ]
      refine wpAnyH_take (i := 5) (v := ?_) rfl (by kernel_rfl) (by kernel_rfl) (by kernel_rfl) (fun _ _ _ h => h) (Or.inl ⟨by kernel_rfl, ?_⟩) hHeld ?_
      rotate_left
      · intro wz hSw
        try dsimp only at hSw
        first
        | (go_simp; done)
        | (go_simp; with_reducible rfl)
      try simp only [Act.put, List.setIfInBounds_toArray, List.set_cons_zero, List.set_cons_succ]
      refine wpAnyH_take (i := 6) (v := ?_) rfl (by kernel_rfl) (by kernel_rfl) (by kernel_rfl) (fun _ _ _ h => h) (Or.inl ⟨by kernel_rfl, ?_⟩) hHeld ?_
      rotate_left
      · intro wz hSw
        try dsimp only at hSw
        first
        | (go_simp; done)
        | (go_simp; with_reducible rfl)
      try simp only [Act.put, List.setIfInBounds_toArray, List.set_cons_zero, List.set_cons_succ]
      have k0_9 := bx0_w8acc
      have l0_9 := bf0_w8acc
      refine wpAnyH_ready (rs := [8]) (by kernel_rfl) (by simp) ?_
      refine AllReadyH.cons rfl (fun K hK => ?_) AllReadyH.nil
      go_simp
      have hge_w8acc : w8.heap.size ≤ w8.heap.size := Nat.le_refl _
      refine hK.out _ _ (keep1 (hb_w8acc.setCell (by first | exact Nat.le_refl _ | exact Nat.le_of_lt hl_w8acc | exact hge_w8acc) _) bg_8) (fun hHeld => ?_)
      clear hK K
      try simp only [Act.put, List.setIfInBounds_toArray, List.set_cons_zero, List.set_cons_succ]
      refine wpAnyH_take (i := 9) (v := ?_) rfl (by kernel_rfl) (by kernel_rfl) (by kernel_rfl) (fun _ _ _ h => h) (Or.inl ⟨by kernel_rfl, ?_⟩) hHeld ?_
      rotate_left
      · intro wz hSw
        try dsimp only at hSw
        first
        | (go_simp; done)
        | (go_simp; with_reducible rfl)
      try simp only [Act.put, List.setIfInBounds_toArray, List.set_cons_zero, List.set_cons_succ]
      refine wpAnyH_done (by kernel_rfl) ?_ _
      try go_simp
      go_wp2_with fail
      go_meet
      refine ⟨w8.heap.size, Az, cz, rfl, rfl, ?_, ?_, ?_⟩
      · exact Lib.hid (World.cell?_setCell_same' _ _ _ (by rw [k0_9]; rfl))
      · exact Lib.hid (sd_of_own (own_setCell ow_w8acc.out (fun e => by have h1 := hq.out _ e; first | omega | (have h2 := hlo; omega) | (simp only at *; omega)) _) OKB.out)
      · exact Lib.hid (HD8.out.trans ((hb_w8acc.setCell (by first | exact Nat.le_refl _ | exact Nat.le_of_lt hl_w8acc | exact hge_w8acc) _).mono HD8.out.size))
  case rest =>
    obtain ⟨Xz, Az, cz, hs, ht, hcx, hsx, hb⟩ := hcut
    subst hs
    subst ht
    obtain ⟨w8, e8⟩ : ∃ W : World, W = wc := ⟨_, rfl⟩
    subst e8
    replace hb := hb.out
    have ba_8 := keep1 hb ba_7
    have bg_8 := keep1 hb bg_7
    have Sa_8 := Lib.hid ((Sa_7.out.below hb).call hb.size)
    have Ss_8 := Lib.hid ((Ss_7.out.below hb).call hb.size)
    have Sg_8 := Lib.hid ((Sg_7.out.below hb).call hb.size)
    have HB_8 : Hid (Below w.heap.size w w8) := Lib.hid (HB_7.out.trans (hb.mono HB_7.out.size))
    have bz_8 := hcx.out
    have Sz_8 := hsx
    clear hb hcx hsx ba_7 bg_7 Sa_7 Ss_7 Sg_7 HB_7
    go_wp2_with fail
    refine (implVE_v ms _ _ _ _ Sg_8.out HVE.out).mono ?_
    rintro e w9 ⟨rfl, hb⟩
    have ba_9 := keep1 hb ba_8
    have bg_9 := keep1 hb bg_8
    have bz_9 := keep1 hb bz_8
    have Sa_9 := Lib.hid ((Sa_8.out.below hb).call hb.size)
    have Ss_9 := Lib.hid ((Ss_8.out.below hb).call hb.size)
    have Sg_9 := Lib.hid ((Sg_8.out.below hb).call hb.size)
    have Sz_9 := Lib.hid ((Sz_8.out.below hb).call hb.size)
    have HB_9 : Hid (Below w.heap.size w w9) := Lib.hid (HB_8.out.trans (hb.mono HB_8.out.size))
    clear hb  ba_8 bg_8 bz_8 Sa_8 Ss_8 Sg_8 Sz_8 HB_8
    go_wp2_with fail
    refine (implSame_v bs dsa _ _ _ _ _ _ _ Sz_9.out Sa_9.out HSM2.out).mono ?_
    rintro e w10 ⟨rfl, hb⟩
    have ba_10 := keep1 hb ba_9
    have bg_10 := keep1 hb bg_9
    have bz_10 := keep1 hb bz_9
    have Sa_10 := Lib.hid ((Sa_9.out.below hb).call hb.size)
    have Ss_10 := Lib.hid ((Ss_9.out.below hb).call hb.size)
    have Sg_10 := Lib.hid ((Sg_9.out.below hb).call hb.size)
    have Sz_10 := Lib.hid ((Sz_9.out.below hb).call hb.size)
    have HB_10 : Hid (Below w.heap.size w w10) := Lib.hid (HB_9.out.trans (hb.mono HB_9.out.size))
    clear hb  ba_9 bg_9 bz_9 Sa_9 Ss_9 Sg_9 Sz_9 HB_9
    go_wp2
    go_ret
    exact ⟨by first | rfl | kernel_rfl | (go_simp; done), HB_10.out⟩

theorem lifted (os : Os) (started : os.Started) (H : Type) (enc : TypeId × Value → H) :
    ReturnsInHanded {} Try.checked os 10 .any (Rows.fnApplyChangesSpec.pre6 enc Try.prog Try.f10 Rows.fnApplyChangesRow.domain false) (Rows.fnApplyChangesSpec.post enc Try.prog Try.f10 false true false false) := by
  refine returnsInHanded_of_change (C := Try.checked) own started (by kernel_rfl) Try.func10
    (ChangeSpec.witness6 (enc := enc) (C := Try.checked) false ⟨#[], #[.slice none 0 0], []⟩ 8 (by kernel_rfl) (by kernel_rfl) (by kernel_rfl) (by kernel_rfl)) ?_
  intro W base args ds gs before hval0 hW hcnd _
  have hval : ∀ (j : Nat) t v, Try.f10.params[j]? = some t → args[j]? = some v → Value.okWide Try.prog W .any base t v := hval0
  have hW' := hW
  obtain ⟨p, q, hA0, hV, rfl, hfz, hnd⟩ := hW
  have hA : DataW.TrodAll enc Try.prog W 0 (fun _ => true) true Try.f10.params.toList args.toList ds p := hA0
  rw [Try.params10] at hA hval
  obtain ⟨v0, vs0, d0, ds0, p0, q0, hargs, rfl, rfl, h0, r0⟩ := trodAll_cons hA
  obtain ⟨rfl, rfl, rfl⟩ := trodAll_nil r0
  obtain rfl : args = #[v0] := by cases args; simp_all
  obtain ⟨rfl, rfl⟩ := trodVars_none hV
  have k0 := h0
  have lt0 : ∀ x ∈ p0, x.block < W.heap.size := by obtain ⟨m, hm⟩ := k0; exact DataW.trod_lt m _ _ _ hm
  obtain ⟨A0, n0, c0, l0, rfl, w0⟩ := open_code (hval 0 22 v0 rfl rfl) h0
  clear hA0 hval0
  refine (walk A0 n0 c0 l0 W w0).mono fun e W' ⟨he, bel⟩ => ?_
  subst he
  exact ⟨_, rfl, _, _, _, [], _, [], hW', trodAll_mk1 (shut_bool Try.underlying4 _), (trodAll_cons_mk (Below.trod laidOut (by kernel_rfl) (of_decide_eq_true (by kernel_rfl)) k0 bel lt0) trodAll_mk0), rfl, bel.frame _, fun h => by cases h⟩

theorem over : Rows.fnApplyChangesRow.holds Try.pinned (OpenSpec.ofChange Rows.fnApplyChangesSpec) :=
  OpenClaim.holds_of_wide 10 Try.f10 rfl rfl rfl rfl rfl rfl rfl ⟨rfl, rfl, rfl, rfl, rfl⟩ rfl rfl rfl rfl rfl (by kernel_rfl) Try.func10 (by kernel_rfl)
    (of_decide_eq_true (by kernel_rfl)) (by unfold Func.isWrapper; first | (rw [if_pos (by decide +kernel)]; kernel_rfl) | (rw [if_neg (by decide +kernel)]; exact ⟨rfl, rfl⟩))
    (fun os started H enc _ => lifted os started H enc)

theorem proved : Rows.FnApplyChangesSaid := over
end Go.Proofs.Ytkholjcmaebaaaa.fnApplyChanges
