/-
For every code the law that changes go one by one returns true: ApplyChanges of the first changes, and of the others behind it, is ApplyChanges of all.
Conditions: none.
-/
import Derived.Test.YtkholjcmaebaaaaGenAp
import Derived.Test.YtkholjcmaebaaaaOpenC
import Derived.Test.YtkholjcmaebaaaaLPb
import Derived.Test.YtkholjcmaebaaaaLCh
import Derived.Test.YtkholjcmaebaaaaLEq
import Derived.Test.YtkholjcmaebaaaaApplyI
import Derived.Test.YtkholjcmaebaaaaApplyS
namespace Go.Proofs.Ytkholjcmaebaaaa.fnApplyChangesOne
open Go.ChangeShapes Go.WideShapes Go.ChangeAt Go.RowKit
open Go.ChangeMaps (open_string shut_string)
set_option linter.unusedVariables false
set_option linter.unusedSimpArgs false
set_option maxRecDepth 100000

set_option maxHeartbeats 16000000 in
theorem walk (A : Option Addr) (n c : Nat) (zs : List Int) (w : World) (h : SB w w.heap.size A n c zs) :
    Calls Try.prog 9 #[.slice A n c] w fun e w' => e = .returned (.bool true) ∧ Below w.heap.size w w' := by
  have hm := h.max
  have hcap := h.cap
  unfold maxLen at hm
  have HS0 := Lib.hid h
  clear h
  by_cases hbig : 1048576 < (n : Int)
  · go_enter Try.func9, Try.ntmps9
    go_wp2
    go_ret
    exact ⟨rfl, Below.refl _ _⟩
  go_enter Try.func9, Try.ntmps9
  go_wp2_with fail
  refine (drawApplyChanges_s A n c zs _ HS0.out).mono ?_
  rintro e w1 ⟨Aa, ca, dsa, As, ck, ks, rfl, hna, hsma, hkl, hks, hsa, hss, hb⟩
  have HB_1 := Lib.hid hb
  have Sa_1 := Lib.hid hsa
  have HSMa := Lib.hid hsma
  have HOKa : Hid (∀ d ∈ dsa, d.ok) := Lib.hid (fun d hd => small_ok (hsma d hd))
  have Ss_1 := Lib.hid hss
  clear hb hsa hsma hss
  obtain ⟨w2, hw⟩ : ∃ W : World, W = (w1.alloc (.cells #[.slice Aa dsa.length ca] 53)) := ⟨_, rfl⟩
  have hb : Below w1.heap.size w1 w2 := by rw [hw]; exact ((Below.refl _ _).alloc (by first | exact Nat.le_refl _ | (simp; done) | (simp; omega)) _)
  have Sa_2 := Lib.hid ((Sa_1.out.below hb).call hb.size)
  have Ss_2 := Lib.hid ((Ss_1.out.below hb).call hb.size)
  have HB_2 : Hid (Below w.heap.size w w2) := Lib.hid (HB_1.out.trans (hb.mono HB_1.out.size))
  have ba_2 : w2.cell? ⟨w1.heap.size, 0, none⟩ = some (.slice Aa dsa.length ca) := by rw [hw]; simp [go_sem]
  have lf_ba : (w1.alloc (.cells #[.slice Aa dsa.length ca] 53)).cell? ⟨w1.heap.size, 0, none⟩ = some (.slice Aa dsa.length ca) := by rw [← hw]; exact ba_2
  have HW2 : Hid ((w1.alloc (.cells #[.slice Aa dsa.length ca] 53)) = w2) := Lib.hid hw.symm
  clear hb hw Sa_1 Ss_1 HB_1
  have hml := (mApply_ok (cs := ks) HOKa.out hks).1
  have OKM0 := (mApply_ok (cs := ks) HOKa.out hks).2
  have HIM : Hid (∀ (A B : Option Addr) (n c m e : Nat) (w : World), SD w w.heap.size A n c dsa → SK w w.heap.size B m e ks → Calls Try.prog 39 #[.agg #[.slice A n c], .slice B m e] w (EnumP (mApply dsa ks) w)) := Lib.hid fun A B n c m e w h1 h2 => implApply_any dsa ks A B n c m e w h1 h2
  have HSP : Hid (∀ (A B : Option Addr) (n c m e : Nat) (w : World), SD w w.heap.size A n c dsa → SK w w.heap.size B m e ks → Calls Try.prog 40 #[.agg #[.slice A n c], .slice B m e] w (EnumP (mApply dsa ks) w)) := Lib.hid fun A B n c m e w h1 h2 => specApply_any dsa ks A B n c m e w h1 h2
  unfold EnumP at HIM HSP
  have HFIT : Hid ((mApply dsa ks).isSome = true → mApply dsa ks = some ((mApply dsa ks).getD [])) := Lib.hid (fun h => by cases hq : mApply dsa ks with | none => rw [hq] at h; cases h | some es => rfl)
  generalize hq : mApply dsa ks = q at HIM HSP HFIT hml OKM0
  generalize q.getD [] = ms at *
  generalize q.isSome = ok at *
  have OKM := Lib.hid OKM0
  have HQ := Lib.hid hq
  clear OKM0 hq
  go_wp2_with fail
  rw [HW2.out]
  clear lf_ba
  refine (HIM.out _ _ _ _ _ _ _ Sa_2.out Ss_2.out).mono ?_
  rintro e w3 ⟨Ag, cg, rfl, ho, hb⟩
  have ba_3 := keep1 hb ba_2
  have Sa_3 := Lib.hid ((Sa_2.out.below hb).call hb.size)
  have Ss_3 := Lib.hid ((Ss_2.out.below hb).call hb.size)
  have HB_3 : Hid (Below w.heap.size w w3) := Lib.hid (HB_2.out.trans (hb.mono HB_2.out.size))
  have Sg_3 := Lib.hid (sd_of_own ho OKM.out)
  clear hb ho ba_2 Sa_2 Ss_2 HB_2
  obtain ⟨w4, hw⟩ : ∃ W : World, W = (w3.alloc (.cells #[.slice Ag ms.length cg] 53)) := ⟨_, rfl⟩
  have hb : Below w3.heap.size w3 w4 := by rw [hw]; exact ((Below.refl _ _).alloc (by first | exact Nat.le_refl _ | (simp; done) | (simp; omega)) _)
  have ba_4 := keep1 hb ba_3
  have Sa_4 := Lib.hid ((Sa_3.out.below hb).call hb.size)
  have Ss_4 := Lib.hid ((Ss_3.out.below hb).call hb.size)
  have Sg_4 := Lib.hid ((Sg_3.out.below hb).call hb.size)
  have HB_4 : Hid (Below w.heap.size w w4) := Lib.hid (HB_3.out.trans (hb.mono HB_3.out.size))
  have bg_4 : w4.cell? ⟨w3.heap.size, 0, none⟩ = some (.slice Ag ms.length cg) := by rw [hw]; simp [go_sem]
  have lf_ba : (w3.alloc (.cells #[.slice Ag ms.length cg] 53)).cell? ⟨w1.heap.size, 0, none⟩ = some (.slice Aa dsa.length ca) := by rw [← hw]; exact ba_4
  have lf_bg : (w3.alloc (.cells #[.slice Ag ms.length cg] 53)).cell? ⟨w3.heap.size, 0, none⟩ = some (.slice Ag ms.length cg) := by rw [← hw]; exact bg_4
  have HW4 : Hid ((w3.alloc (.cells #[.slice Ag ms.length cg] 53)) = w4) := Lib.hid hw.symm
  clear hb hw ba_3 Sa_3 Ss_3 Sg_3 HB_3
  go_wp2_with fail
  rw [HW4.out]
  clear lf_ba lf_bg
  refine (HSP.out _ _ _ _ _ _ _ Sa_4.out Ss_4.out).mono ?_
  rintro e w5 ⟨Aw, cw, rfl, ho, hb⟩
  have ba_5 := keep1 hb ba_4
  have bg_5 := keep1 hb bg_4
  have Sa_5 := Lib.hid ((Sa_4.out.below hb).call hb.size)
  have Ss_5 := Lib.hid ((Ss_4.out.below hb).call hb.size)
  have Sg_5 := Lib.hid ((Sg_4.out.below hb).call hb.size)
  have HB_5 : Hid (Below w.heap.size w w5) := Lib.hid (HB_4.out.trans (hb.mono HB_4.out.size))
  have Sw_5 := Lib.hid (sd_of_own ho OKM.out)
  clear hb ho ba_4 bg_4 Sa_4 Ss_4 Sg_4 HB_4
  obtain ⟨w6, hw⟩ : ∃ W : World, W = (w5.alloc (.cells #[.slice Aw ms.length cw] 53)) := ⟨_, rfl⟩
  have hb : Below w5.heap.size w5 w6 := by rw [hw]; exact ((Below.refl _ _).alloc (by first | exact Nat.le_refl _ | (simp; done) | (simp; omega)) _)
  have ba_6 := keep1 hb ba_5
  have bg_6 := keep1 hb bg_5
  have Sa_6 := Lib.hid ((Sa_5.out.below hb).call hb.size)
  have Ss_6 := Lib.hid ((Ss_5.out.below hb).call hb.size)
  have Sg_6 := Lib.hid ((Sg_5.out.below hb).call hb.size)
  have Sw_6 := Lib.hid ((Sw_5.out.below hb).call hb.size)
  have HB_6 : Hid (Below w.heap.size w w6) := Lib.hid (HB_5.out.trans (hb.mono HB_5.out.size))
  have bw_6 : w6.cell? ⟨w5.heap.size, 0, none⟩ = some (.slice Aw ms.length cw) := by rw [hw]; simp [go_sem]
  have lf_ba : (w5.alloc (.cells #[.slice Aw ms.length cw] 53)).cell? ⟨w1.heap.size, 0, none⟩ = some (.slice Aa dsa.length ca) := by rw [← hw]; exact ba_6
  have lf_bg : (w5.alloc (.cells #[.slice Aw ms.length cw] 53)).cell? ⟨w3.heap.size, 0, none⟩ = some (.slice Ag ms.length cg) := by rw [← hw]; exact bg_6
  have lf_bw : (w5.alloc (.cells #[.slice Aw ms.length cw] 53)).cell? ⟨w5.heap.size, 0, none⟩ = some (.slice Aw ms.length cw) := by rw [← hw]; exact bw_6
  have HW6 : Hid ((w5.alloc (.cells #[.slice Aw ms.length cw] 53)) = w6) := Lib.hid hw.symm
  clear hb hw ba_5 bg_5 Sa_5 Ss_5 Sg_5 Sw_5 HB_5
  go_wp2_with fail
  rw [HW6.out]
  clear lf_ba lf_bg lf_bw
  refine (equalEnum_any ms _ _ _ _ _ _ _ Sg_6.out Sw_6.out).mono ?_
  rintro e w7 ⟨rfl, hb⟩
  have ba_7 := keep1 hb ba_6
  have bg_7 := keep1 hb bg_6
  have bw_7 := keep1 hb bw_6
  have Sa_7 := Lib.hid ((Sa_6.out.below hb).call hb.size)
  have Ss_7 := Lib.hid ((Ss_6.out.below hb).call hb.size)
  have Sg_7 := Lib.hid ((Sg_6.out.below hb).call hb.size)
  have Sw_7 := Lib.hid ((Sw_6.out.below hb).call hb.size)
  have HB_7 : Hid (Below w.heap.size w w7) := Lib.hid (HB_6.out.trans (hb.mono HB_6.out.size))
  clear hb  ba_6 bg_6 bw_6 Sa_6 Ss_6 Sg_6 Sw_6 HB_6
  cases ok
  · skip
    go_wp2_with fail
    refine (equalEnum_any ms _ _ _ _ _ _ _ Sg_7.out Sw_7.out).mono ?_
    rintro e w8 ⟨rfl, hb⟩
    have ba_8 := keep1 hb ba_7
    have bg_8 := keep1 hb bg_7
    have bw_8 := keep1 hb bw_7
    have Sa_8 := Lib.hid ((Sa_7.out.below hb).call hb.size)
    have Ss_8 := Lib.hid ((Ss_7.out.below hb).call hb.size)
    have Sg_8 := Lib.hid ((Sg_7.out.below hb).call hb.size)
    have Sw_8 := Lib.hid ((Sw_7.out.below hb).call hb.size)
    have HB_8 : Hid (Below w.heap.size w w8) := Lib.hid (HB_7.out.trans (hb.mono HB_7.out.size))
    clear hb  ba_7 bg_7 bw_7 Sa_7 Ss_7 Sg_7 Sw_7 HB_7
    go_wp2
    go_ret
    exact ⟨by first | rfl | kernel_rfl | (go_simp; done), HB_8.out⟩
  have HONE : Hid (∀ k : Nat, ∃ xs, mApply dsa (ks.take k) = some xs ∧ mApply xs (ks.drop k) = some ms) := Lib.hid (apply_one (HQ.out.trans (HFIT.out rfl)))
  have hkc : ks.length ≤ ck := Ss_7.out.cap
  clear HIM HSP HFIT HQ
  clear Sw_7
  clear bw_7
  go_wp2_with fail
  go_loopw [9] (fun i wr => ∃ (k : Nat), k ≤ ks.length + 1 ∧ i = .int .i64 k ∧ Hid (Below w.heap.size w wr) ∧ Hid (wr.cell? ⟨w1.heap.size, 0, none⟩ = some (.slice Aa dsa.length ca)) ∧ Hid (wr.cell? ⟨w3.heap.size, 0, none⟩ = some (.slice Ag ms.length cg)) ∧ Hid (SD wr wr.heap.size Aa dsa.length ca dsa) ∧ Hid (SK wr wr.heap.size As ks.length ck ks) ∧ Hid (SD wr wr.heap.size Ag ms.length cg ms)) (fun i _ => ks.length + 1 - (intOf i).toNat)
  case atStart => exact ⟨0, Nat.zero_le _, rfl, HB_7, Lib.hid ba_7, Lib.hid bg_7, Sa_7, Ss_7, Sg_7⟩
  case round =>
    obtain ⟨k, hk, rfl, hbel, hca, hcg, hsa, hss, hsg⟩ := hrel
    clear ba_7 bg_7 HB_7 Sa_7 Ss_7 Sg_7
    have y1 := hca.out
    have y2 := hcg.out
    clear hca hcg
    by_cases hlt : k ≤ ks.length
    · have hi1 : (k : Int) ≤ (ks.length : Int) := by omega
      have hi0 : (0 : Int) ≤ (k : Int) := by omega
      obtain ⟨xs, hx1, hx2⟩ := HONE.out k
      have OKX : Hid (∀ d ∈ xs, d.ok) := Lib.hid (by have := (mApply_ok (cs := ks.take k) HOKa.out (fun c hc => hss.out.ok c (List.mem_of_mem_take hc))).2; rw [hx1] at this; exact this)
      have hxl : xs.length ≤ 12 := by have := (mApply_ok (cs := ks.take k) HOKa.out (fun c hc => hss.out.ok c (List.mem_of_mem_take hc))).1; rw [hx1] at this; exact this
      have HA1 : Hid (∀ (A B : Option Addr) (n c m e : Nat) (w : World), SD w w.heap.size A n c dsa → SK w w.heap.size B m e (ks.take k) → Calls Try.prog 39 #[.agg #[.slice A n c], .slice B m e] w (EnumP (some xs) w)) := Lib.hid (by rw [← hx1]; exact fun A B n c m e w h1 h2 => implApply_any dsa (ks.take k) A B n c m e w h1 h2)
      have HA2 : Hid (∀ (A B : Option Addr) (n c m e : Nat) (w : World), SD w w.heap.size A n c xs → SK w w.heap.size B m e (ks.drop k) → Calls Try.prog 39 #[.agg #[.slice A n c], .slice B m e] w (EnumP (some ms) w)) := Lib.hid (by rw [← hx2]; exact fun A B n c m e w h1 h2 => implApply_any xs (ks.drop k) A B n c m e w h1 h2)
      unfold EnumP at HA1 HA2
      simp only [Option.getD_some, Option.isSome_some] at HA1 HA2
      have hsl1 := runK_to As ks.length ck k (by omega)
      obtain ⟨A2, hsl2, hs2⟩ := runK_from hss.out k hlt
      have S1 := Lib.hid (hss.out.take_ k hlt)
      have S2 := Lib.hid hs2
      clear hs2 hx1 hx2
      generalize hm2 : ks.length - k = m2 at S2 hsl2
      generalize hc2 : ck - k = c2 at S2 hsl2
      clear hm2 hc2
      have T1 := S1
      have T2 := S2
      clear S1 S2
      obtain ⟨w60, hwn⟩ : ∃ W : World, W = wr := ⟨_, rfl⟩
      subst hwn
      have HB_60 := hbel
      have ba_60 := y1
      have bg_60 := y2
      have Sa_60 := hsa
      have Ss_60 := hss
      have Sg_60 := hsg
      have S1_60 := T1
      have S2_60 := T2
      clear hbel y1 y2 hsa hss hsg T1 T2
      go_upto_region 11 with fail
      go_cut [10, 11] (fun s t wx => ∃ (X : Nat) (A : Option Addr) (c : Nat), s = .pointer (some ⟨X, 0, none⟩) ∧ t = .bool true ∧ Hid (wx.cell? ⟨X, 0, none⟩ = some (.slice A xs.length c)) ∧ Hid (SD wx wx.heap.size A xs.length c xs) ∧ Hid (Below w60.heap.size w60 wx))
      case first =>
        refine wp_region_held_drew (S := (fun w' => w'.cell? ⟨w1.heap.size, 0, none⟩ = some (.slice Aa dsa.length ca))) (by kernel_rfl) (ba_60) (fun hHeld => ?_)
        generalize hwd : w60.drew = w61 at hHeld ⊢
        have hb : Below w60.heap.size w60 w61 := by rw [← hwd]; exact (Below.refl _ _).drew
        have ba_61 := keep1 hb ba_60
        have bg_61 := keep1 hb bg_60
        have Sa_61 := Lib.hid ((Sa_60.out.below hb).call hb.size)
        have Ss_61 := Lib.hid ((Ss_60.out.below hb).call hb.size)
        have Sg_61 := Lib.hid ((Sg_60.out.below hb).call hb.size)
        have S1_61 := Lib.hid ((S1_60.out.below hb).call hb.size)
        have S2_61 := Lib.hid ((S2_60.out.below hb).call hb.size)
        have HB_61 : Hid (Below w.heap.size w w61) := Lib.hid (HB_60.out.trans (hb.mono HB_60.out.size))
        have HD61 := Lib.hid hb
        clear hb hwd ba_60 bg_60 Sa_60 Ss_60 Sg_60 S1_60 S2_60 HB_60
        have hb_w61 : Below w61.heap.size w61 w61 := Below.refl _ _
        refine wpAnyH_take (i := 0) (v := ?_) rfl (by kernel_rfl) (by kernel_rfl) (by kernel_rfl) (fun _ _ _ h => h) (Or.inl ⟨by kernel_rfl, ?_⟩) hHeld ?_
        rotate_left
        · intro wz hSw
          try dsimp only at hSw
          first
          | (go_simp; done)
          | (go_simp; with_reducible rfl)
        try simp only [Act.put, List.setIfInBounds_toArray, List.set_cons_zero, List.set_cons_succ]
        refine wpAnyH_take (i := 1) (v := ?_) rfl (by kernel_rfl) (by kernel_rfl) (by kernel_rfl) (fun _ _ _ h => h) (Or.inl ⟨by kernel_rfl, ?_⟩) hHeld ?_
        rotate_left
        · intro wz hSw
          try dsimp only at hSw
          first
          | (go_simp; done)
          | (go_simp; with_reducible rfl)
        try simp only [Act.put, List.setIfInBounds_toArray, List.set_cons_zero, List.set_cons_succ]
        refine wpAnyH_take (i := 2) (v := ?_) rfl (by kernel_rfl) (by kernel_rfl) (by kernel_rfl) (fun _ _ _ h => h) (Or.inl ⟨by kernel_rfl, ?_⟩) hHeld ?_
        rotate_left
        · intro wz hSw
          try dsimp only at hSw
          first
          | (go_simp; done)
          | (go_simp; with_reducible rfl)
        try simp only [Act.put, List.setIfInBounds_toArray, List.set_cons_zero, List.set_cons_succ]
        refine wpAnyH_take (i := 3) (v := ?_) rfl (by kernel_rfl) (by kernel_rfl) (by kernel_rfl) (fun _ _ _ h => h) (Or.inl ⟨by kernel_rfl, ?_⟩) hHeld ?_
        rotate_left
        · intro wz hSw
          try dsimp only at hSw
          first
          | exact hsl1 _
          | (go_simp; done)
          | (go_simp; with_reducible rfl)
        try simp only [Act.put, List.setIfInBounds_toArray, List.set_cons_zero, List.set_cons_succ]
        refine wpAnyH_ready (rs := [4, 8]) (by kernel_rfl) (by simp) ?_
        refine AllReadyH.cons rfl (fun K hK => ?_) (AllReadyH.cons rfl (fun K hK => ?_) AllReadyH.nil)
        · skip
          go_simp
          refine (HA1.out _ _ _ _ _ _ _ ((Sa_61.out.below hb_w61).call hb_w61.size) ((S1_61.out.below hb_w61).call hb_w61.size)).mono ?_
          rintro e w61c ⟨Am, cm, rfl, ho, hb⟩
          have hb_w61c : Below w61.heap.size w61 w61c := hb_w61.trans (hb.mono hb_w61.size)
          have ow_w61c := Lib.hid ho
          have hq := Lib.hid (fun (q : Nat) (hq : (Value.slice Am xs.length cm).ownBlock = some q) => ho.lt q hq)
          clear ho
          go_simp
          refine hK.out _ _ (keep1 hb_w61c ba_61) (fun hHeld => ?_)
          clear hb hK K
          try simp only [Act.put, List.setIfInBounds_toArray, List.set_cons_zero, List.set_cons_succ]
          refine wpAnyH_take (i := 5) (v := ?_) rfl (by kernel_rfl) (by kernel_rfl) (by kernel_rfl) (fun _ _ _ h => h) (Or.inl ⟨by kernel_rfl, ?_⟩) hHeld ?_
          rotate_left
          · intro wz hSw
            try dsimp only at hSw
            first
            | (go_simp; done)
            | (go_simp; with_reducible rfl)
          try simp only [Act.put, List.setIfInBounds_toArray, List.set_cons_zero, List.set_cons_succ]
          refine wpAnyH_take (i := 6) (v := ?_) rfl (by kernel_rfl) (by kernel_rfl) (by kernel_rfl) (fun _ _ _ h => h) (Or.inl ⟨by kernel_rfl, ?_⟩) hHeld ?_
          rotate_left
          · intro wz hSw
            try dsimp only at hSw
            first
            | (go_simp; done)
            | (go_simp; with_reducible rfl)
          try simp only [Act.put, List.setIfInBounds_toArray, List.set_cons_zero, List.set_cons_succ]
          refine wpAnyH_take (i := 7) (v := ?_) rfl (by kernel_rfl) (by kernel_rfl) (by kernel_rfl) (fun _ _ _ h => h) (Or.inl ⟨by kernel_rfl, ?_⟩) hHeld ?_
          rotate_left
          · intro wz hSw
            try dsimp only at hSw
            first
            | (go_simp; done)
            | (go_simp; with_reducible rfl)
          try simp only [Act.put, List.setIfInBounds_toArray, List.set_cons_zero, List.set_cons_succ]
          refine wpAnyH_ready (rs := [8]) (by kernel_rfl) (by simp) ?_
          refine AllReadyH.cons rfl (fun K hK => ?_) AllReadyH.nil
          go_simp
          refine hK.out _ _ (keep1 (hb_w61c.alloc hb_w61c.size _) ba_61) (fun hHeld => ?_)
          clear hK K
          try simp only [Act.put, List.setIfInBounds_toArray, List.set_cons_zero, List.set_cons_succ]
          generalize hw9 : (World.alloc _ _) = w61ca at hHeld ⊢
          have hb_w61ca : Below w61.heap.size w61 w61ca := by rw [← hw9]; exact hb_w61c.alloc hb_w61c.size _
          have bx0_w61ca : w61ca.cell? ⟨w61c.heap.size, 0, none⟩ = some (.slice none 0 0) := by rw [← hw9]; simp [go_sem]
          have bf0_w61ca : w61ca.frozen? ⟨w61c.heap.size, 0, none⟩ = false := by rw [← hw9]; simp [go_sem]
          have hl_w61ca : w61c.heap.size < w61ca.heap.size := by rw [← hw9]; simp
          have ow_w61ca := Lib.hid (ow_w61c.out.alloc (.cells #[.slice none 0 0] 53))
          rw [hw9] at ow_w61ca
          clear hw9
          have k0_9 := bx0_w61ca
          have l0_9 := bf0_w61ca
          refine wpAnyH_ready (rs := [9]) (by kernel_rfl) (by simp) ?_
          refine AllReadyH.cons rfl (fun K hK => ?_) AllReadyH.nil
          go_simp
          have hge_w61ca : w61.heap.size ≤ w61c.heap.size := hb_w61c.size
          refine hK.out _ _ (keep1 (hb_w61ca.setCell (by first | exact Nat.le_refl _ | exact Nat.le_of_lt hl_w61ca | exact hge_w61ca) _) ba_61) (fun hHeld => ?_)
          clear hK K
          try simp only [Act.put, List.setIfInBounds_toArray, List.set_cons_zero, List.set_cons_succ]
          refine wpAnyH_take (i := 10) (v := ?_) rfl (by kernel_rfl) (by kernel_rfl) (by kernel_rfl) (fun _ _ _ h => h) (Or.inl ⟨by kernel_rfl, ?_⟩) hHeld ?_
          rotate_left
          · intro wz hSw
            try dsimp only at hSw
            first
            | (go_simp; done)
            | (go_simp; with_reducible rfl)
          try simp only [Act.put, List.setIfInBounds_toArray, List.set_cons_zero, List.set_cons_succ]
          refine wpAnyH_done (by kernel_rfl) ?_ _
          try go_simp
          go_wp2_with fail
          go_meet
          refine ⟨w61c.heap.size, Am, cm, rfl, rfl, ?_, ?_, ?_⟩
          · exact Lib.hid (World.cell?_setCell_same' _ _ _ (by rw [k0_9]; rfl))
          · exact Lib.hid (sd_of_own (own_setCell ow_w61ca.out (fun e => by have h1 := hq.out _ e; first | omega | (have h2 := hlo; omega) | (simp only at *; omega)) _) OKX.out)
          · exact Lib.hid (HD61.out.trans ((hb_w61ca.setCell (by first | exact Nat.le_refl _ | exact Nat.le_of_lt hl_w61ca | exact hge_w61ca) _).mono HD61.out.size))
        · skip
          go_simp
          refine hK.out _ _ (keep1 (hb_w61.alloc hb_w61.size _) ba_61) (fun hHeld => ?_)
          clear hK K
          try simp only [Act.put, List.setIfInBounds_toArray, List.set_cons_zero, List.set_cons_succ]
          generalize hw9 : (World.alloc _ _) = w61a at hHeld ⊢
          have hb_w61a : Below w61.heap.size w61 w61a := by rw [← hw9]; exact hb_w61.alloc hb_w61.size _
          have bx0_w61a : w61a.cell? ⟨w61.heap.size, 0, none⟩ = some (.slice none 0 0) := by rw [← hw9]; simp [go_sem]
          have bf0_w61a : w61a.frozen? ⟨w61.heap.size, 0, none⟩ = false := by rw [← hw9]; simp [go_sem]
          have hl_w61a : w61.heap.size < w61a.heap.size := by rw [← hw9]; simp
          clear hw9
          refine wpAnyH_ready (rs := [4]) (by kernel_rfl) (by simp) ?_
          refine AllReadyH.cons rfl (fun K hK => ?_) AllReadyH.nil
          go_simp
          refine (HA1.out _ _ _ _ _ _ _ ((Sa_61.out.below hb_w61a).call hb_w61a.size) ((S1_61.out.below hb_w61a).call hb_w61a.size)).mono ?_
          rintro e w61ac ⟨Am, cm, rfl, ho, hb⟩
          have hb_w61ac : Below w61.heap.size w61 w61ac := hb_w61a.trans (hb.mono hb_w61a.size)
          have bx0_w61ac := keep1 hb bx0_w61a
          have bf0_w61ac : w61ac.frozen? ⟨w61.heap.size, 0, none⟩ = false := (hb.frozen (p := ⟨w61.heap.size, 0, none⟩) hl_w61a).trans bf0_w61a
          have hl_w61ac : w61.heap.size < w61ac.heap.size := Nat.lt_of_lt_of_le hl_w61a hb.size
          have hlo := hl_w61a
          have ow_w61ac := Lib.hid ho
          have hq := Lib.hid (fun (q : Nat) (hq : (Value.slice Am xs.length cm).ownBlock = some q) => ho.lt q hq)
          clear ho
          go_simp
          refine hK.out _ _ (keep1 hb_w61ac ba_61) (fun hHeld => ?_)
          clear hb hK K
          try simp only [Act.put, List.setIfInBounds_toArray, List.set_cons_zero, List.set_cons_succ]
          refine wpAnyH_take (i := 5) (v := ?_) rfl (by kernel_rfl) (by kernel_rfl) (by kernel_rfl) (fun _ _ _ h => h) (Or.inl ⟨by kernel_rfl, ?_⟩) hHeld ?_
          rotate_left
          · intro wz hSw
            try dsimp only at hSw
            first
            | (go_simp; done)
            | (go_simp; with_reducible rfl)
          try simp only [Act.put, List.setIfInBounds_toArray, List.set_cons_zero, List.set_cons_succ]
          refine wpAnyH_take (i := 6) (v := ?_) rfl (by kernel_rfl) (by kernel_rfl) (by kernel_rfl) (fun _ _ _ h => h) (Or.inl ⟨by kernel_rfl, ?_⟩) hHeld ?_
          rotate_left
          · intro wz hSw
            try dsimp only at hSw
            first
            | (go_simp; done)
            | (go_simp; with_reducible rfl)
          try simp only [Act.put, List.setIfInBounds_toArray, List.set_cons_zero, List.set_cons_succ]
          refine wpAnyH_take (i := 7) (v := ?_) rfl (by kernel_rfl) (by kernel_rfl) (by kernel_rfl) (fun _ _ _ h => h) (Or.inl ⟨by kernel_rfl, ?_⟩) hHeld ?_
          rotate_left
          · intro wz hSw
            try dsimp only at hSw
            first
            | (go_simp; done)
            | (go_simp; with_reducible rfl)
          try simp only [Act.put, List.setIfInBounds_toArray, List.set_cons_zero, List.set_cons_succ]
          have k0_9 := bx0_w61ac
          have l0_9 := bf0_w61ac
          refine wpAnyH_ready (rs := [9]) (by kernel_rfl) (by simp) ?_
          refine AllReadyH.cons rfl (fun K hK => ?_) AllReadyH.nil
          go_simp
          have hge_w61ac : w61.heap.size ≤ w61.heap.size := Nat.le_refl _
          refine hK.out _ _ (keep1 (hb_w61ac.setCell (by first | exact Nat.le_refl _ | exact Nat.le_of_lt hl_w61ac | exact hge_w61ac) _) ba_61) (fun hHeld => ?_)
          clear hK K
          try simp only [Act.put, List.setIfInBounds_toArray, List.set_cons_zero, List.set_cons_succ]
          refine wpAnyH_take (i := 10) (v := ?_) rfl (by kernel_rfl) (by kernel_rfl) (by kernel_rfl) (fun _ _ _ h => h) (Or.inl ⟨by kernel_rfl, ?_⟩) hHeld ?_
          rotate_left
          · intro wz hSw
            try dsimp only at hSw
            first
            | (go_simp; done)
            | (go_simp; with_reducible rfl)
          try simp only [Act.put, List.setIfInBounds_toArray, List.set_cons_zero, List.set_cons_succ]
          refine wpAnyH_done (by kernel_rfl) ?_ _
          try go_simp
          go_wp2_with fail
          go_meet
          refine ⟨w61.heap.size, Am, cm, rfl, rfl, ?_, ?_, ?_⟩
          · exact Lib.hid (World.cell?_setCell_same' _ _ _ (by rw [k0_9]; rfl))
          · exact Lib.hid (sd_of_own (own_setCell ow_w61ac.out (fun e => by have h1 := hq.out _ e; first | omega | (have h2 := hlo; omega) | (simp only at *; omega)) _) OKX.out)
          · exact Lib.hid (HD61.out.trans ((hb_w61ac.setCell (by first | exact Nat.le_refl _ | exact Nat.le_of_lt hl_w61ac | exact hge_w61ac) _).mono HD61.out.size))
      case rest =>
        obtain ⟨Xm, Am, cm, hs, ht, hcx, hsx, hb⟩ := hcut
        subst hs
        subst ht
        obtain ⟨w61, e8⟩ : ∃ W : World, W = wc := ⟨_, rfl⟩
        subst e8
        replace hb := hb.out
        have ba_61 := keep1 hb ba_60
        have bg_61 := keep1 hb bg_60
        have Sa_61 := Lib.hid ((Sa_60.out.below hb).call hb.size)
        have Ss_61 := Lib.hid ((Ss_60.out.below hb).call hb.size)
        have Sg_61 := Lib.hid ((Sg_60.out.below hb).call hb.size)
        have S1_61 := Lib.hid ((S1_60.out.below hb).call hb.size)
        have S2_61 := Lib.hid ((S2_60.out.below hb).call hb.size)
        have HB_61 : Hid (Below w.heap.size w w61) := Lib.hid (HB_60.out.trans (hb.mono HB_60.out.size))
        have bm_61 := hcx.out
        have Sm_61 := hsx
        clear hb hcx hsx ba_60 bg_60 Sa_60 Ss_60 Sg_60 S1_60 S2_60 HB_60
        go_upto_region 12 with fail
        go_cut [12, 13] (fun s t wx => ∃ (X : Nat) (A : Option Addr) (c : Nat), s = .pointer (some ⟨X, 0, none⟩) ∧ t = .bool true ∧ Hid (wx.cell? ⟨X, 0, none⟩ = some (.slice A ms.length c)) ∧ Hid (SD wx wx.heap.size A ms.length c ms) ∧ Hid (Below w61.heap.size w61 wx))
        case first =>
          refine wp_region_held_drew (S := (fun w' => w'.cell? ⟨Xm, 0, none⟩ = some (.slice Am xs.length cm))) (by kernel_rfl) (bm_61) (fun hHeld => ?_)
          generalize hwd : w61.drew = w62 at hHeld ⊢
          have hb : Below w61.heap.size w61 w62 := by rw [← hwd]; exact (Below.refl _ _).drew
          have ba_62 := keep1 hb ba_61
          have bg_62 := keep1 hb bg_61
          have bm_62 := keep1 hb bm_61
          have Sa_62 := Lib.hid ((Sa_61.out.below hb).call hb.size)
          have Ss_62 := Lib.hid ((Ss_61.out.below hb).call hb.size)
          have Sg_62 := Lib.hid ((Sg_61.out.below hb).call hb.size)
          have S1_62 := Lib.hid ((S1_61.out.below hb).call hb.size)
          have S2_62 := Lib.hid ((S2_61.out.below hb).call hb.size)
          have Sm_62 := Lib.hid ((Sm_61.out.below hb).call hb.size)
          have HB_62 : Hid (Below w.heap.size w w62) := Lib.hid (HB_61.out.trans (hb.mono HB_61.out.size))
          have HD62 := Lib.hid hb
          clear hb hwd ba_61 bg_61 bm_61 Sa_61 Ss_61 Sg_61 S1_61 S2_61 Sm_61 HB_61
          have hb_w62 : Below w62.heap.size w62 w62 := Below.refl _ _
          refine wpAnyH_take (i := 0) (v := ?_) rfl (by kernel_rfl) (by kernel_rfl) (by kernel_rfl) (fun _ _ _ h => h) (Or.inl ⟨by kernel_rfl, ?_⟩) hHeld ?_
          rotate_left
          · intro wz hSw
            try dsimp only at hSw
            first
            | (go_simp; done)
            | (go_simp; with_reducible rfl)
          try simp only [Act.put, List.setIfInBounds_toArray, List.set_cons_zero, List.set_cons_succ]
          refine wpAnyH_take (i := 1) (v := ?_) rfl (by kernel_rfl) (by kernel_rfl) (by kernel_rfl) (fun _ _ _ h => h) (Or.inl ⟨by kernel_rfl, ?_⟩) hHeld ?_
          rotate_left
          · intro wz hSw
            try dsimp only at hSw
            first
            | (go_simp; done)
            | (go_simp; with_reducible rfl)
          try simp only [Act.put, List.setIfInBounds_toArray, List.set_cons_zero, List.set_cons_succ]
          refine wpAnyH_take (i := 2) (v := ?_) rfl (by kernel_rfl) (by kernel_rfl) (by kernel_rfl) (fun _ _ _ h => h) (Or.inl ⟨by kernel_rfl, ?_⟩) hHeld ?_
          rotate_left
          · intro wz hSw
            try dsimp only at hSw
            first
            | (go_simp; done)
            | (go_simp; with_reducible rfl)
          try simp only [Act.put, List.setIfInBounds_toArray, List.set_cons_zero, List.set_cons_succ]
          refine wpAnyH_take (i := 3) (v := ?_) rfl (by kernel_rfl) (by kernel_rfl) (by kernel_rfl) (fun _ _ _ h => h) (Or.inl ⟨by kernel_rfl, ?_⟩) hHeld ?_
          rotate_left
          · intro wz hSw
            try dsimp only at hSw
            first
            | exact hsl2 _
            | (go_simp; done)
            | (go_simp; with_reducible rfl)
          try simp only [Act.put, List.setIfInBounds_toArray, List.set_cons_zero, List.set_cons_succ]
          refine wpAnyH_ready (rs := [4, 8]) (by kernel_rfl) (by simp) ?_
          refine AllReadyH.cons rfl (fun K hK => ?_) (AllReadyH.cons rfl (fun K hK => ?_) AllReadyH.nil)
          · skip
            go_simp
            refine (HA2.out _ _ _ _ _ _ _ ((Sm_62.out.below hb_w62).call hb_w62.size) ((S2_62.out.below hb_w62).call hb_w62.size)).mono ?_
            rintro e w62c ⟨Az, cz, rfl, ho, hb⟩
            have hb_w62c : Below w62.heap.size w62 w62c := hb_w62.trans (hb.mono hb_w62.size)
            have ow_w62c := Lib.hid ho
            have hq := Lib.hid (fun (q : Nat) (hq : (Value.slice Az ms.length cz).ownBlock = some q) => ho.lt q hq)
            clear ho
            go_simp
            refine hK.out _ _ (keep1 hb_w62c bm_62) (fun hHeld => ?_)
            clear hb hK K
            try simp only [Act.put, List.setIfInBounds_toArray, List.set_cons_zero, List.set_cons_succ]
            refine wpAnyH_take (i := 5) (v := ?_) rfl (by kernel_rfl) (by kernel_rfl) (by kernel_rfl) (fun _ _ _ h => h) (Or.inl ⟨by kernel_rfl, ?_⟩) hHeld ?_
            rotate_left
            · intro wz hSw
              try dsimp only at hSw
              first
              | (go_simp; done)
              | (go_simp; with_reducible rfl)
            try simp only [Act.put, List.setIfInBounds_toArray, List.set_cons_zero, List.set_cons_succ]
            refine wpAnyH_take (i := 6) (v := ?_) rfl (by kernel_rfl) (by kernel_rfl) (by kernel_rfl) (fun _ _ _ h => h) (Or.inl ⟨by kernel_rfl, ?_⟩) hHeld ?_
            rotate_left
            · intro wz hSw
              try dsimp only at hSw
              first
              | (go_simp; done)
              | (go_simp; with_reducible rfl)
            try simp only [Act.put, List.setIfInBounds_toArray, List.set_cons_zero, List.set_cons_succ]
            refine wpAnyH_take (i := 7) (v := ?_) rfl (by kernel_rfl) (by kernel_rfl) (by kernel_rfl) (fun _ _ _ h => h) (Or.inl ⟨by kernel_rfl, ?_⟩) hHeld ?_
            rotate_left
            · intro wz hSw
              try dsimp only at hSw
              first
              | (go_simp; done)
              | (go_simp; with_reducible rfl)
            try simp only [Act.put, List.setIfInBounds_toArray, List.set_cons_zero, List.set_cons_succ]
            refine wpAnyH_ready (rs := [8]) (by kernel_rfl) (by simp) ?_
            refine AllReadyH.cons rfl (fun K hK => ?_) AllReadyH.nil
            go_simp
            refine hK.out _ _ (keep1 (hb_w62c.alloc hb_w62c.size _) bm_62) (fun hHeld => ?_)
            clear hK K
            try simp only [Act.put, List.setIfInBounds_toArray, List.set_cons_zero, List.set_cons_succ]
            generalize hw9 : (World.alloc _ _) = w62ca at hHeld ⊢
            have hb_w62ca : Below w62.heap.size w62 w62ca := by rw [← hw9]; exact hb_w62c.alloc hb_w62c.size _
            have bx0_w62ca : w62ca.cell? ⟨w62c.heap.size, 0, none⟩ = some (.slice none 0 0) := by rw [← hw9]; simp [go_sem]
            have bf0_w62ca : w62ca.frozen? ⟨w62c.heap.size, 0, none⟩ = false := by rw [← hw9]; simp [go_sem]
            have hl_w62ca : w62c.heap.size < w62ca.heap.size := by rw [← hw9]; simp
            have ow_w62ca := Lib.hid (ow_w62c.out.alloc (.cells #[.slice none 0 0] 53))
            rw [hw9] at ow_w62ca
            clear hw9
            have k0_9 := bx0_w62ca
            have l0_9 := bf0_w62ca
            refine wpAnyH_ready (rs := [9]) (by kernel_rfl) (by simp) ?_
            refine AllReadyH.cons rfl (fun K hK => ?_) AllReadyH.nil
            go_simp
            have hge_w62ca : w62.heap.size ≤ w62c.heap.size := hb_w62c.size
            refine hK.out _ _ (keep1 (hb_w62ca.setCell (by first | exact Nat.le_refl _ | exact Nat.le_of_lt hl_w62ca | exact hge_w62ca) _) bm_62) (fun hHeld => ?_)
            clear hK K
            try simp only [Act.put, List.setIfInBounds_toArray, List.set_cons_zero, List.set_cons_succ]
            refine wpAnyH_take (i := 10) (v := ?_) rfl (by kernel_rfl) (by kernel_rfl) (by kernel_rfl) (fun _ _ _ h => h) (Or.inl ⟨by kernel_rfl, ?_⟩) hHeld ?_
            rotate_left
            · intro wz hSw
              try dsimp only at hSw
              first
              | (go_simp; done)
              | (go_simp; with_reducible rfl)
            try simp only [Act.put, List.setIfInBounds_toArray, List.set_cons_zero, List.set_cons_succ]
            refine wpAnyH_done (by kernel_rfl) ?_ _
            try go_simp
            go_wp2_with fail
            go_meet
            refine ⟨w62c.heap.size, Az, cz, rfl, rfl, ?_, ?_, ?_⟩
            · exact Lib.hid (World.cell?_setCell_same' _ _ _ (by rw [k0_9]; rfl))
            · exact Lib.hid (sd_of_own (own_setCell ow_w62ca.out (fun e => by have h1 := hq.out _ e; first | omega | (have h2 := hlo; omega) | (simp only at *; omega)) _) OKM.out)
            · exact Lib.hid (HD62.out.trans ((hb_w62ca.setCell (by first | exact Nat.le_refl _ | exact Nat.le_of_lt hl_w62ca | exact hge_w62ca) _).mono HD62.out.size))
          · skip
            go_simp
            refine hK.out _ _ (keep1 (hb_w62.alloc hb_w62.size _) bm_62) (fun hHeld => ?_)
            clear hK K
            try simp only [Act.put, List.setIfInBounds_toArray, List.set_cons_zero, List.set_cons_succ]
            generalize hw9 : (World.alloc _ _) = w62a at hHeld ⊢
            have hb_w62a : Below w62.heap.size w62 w62a := by rw [← hw9]; exact hb_w62.alloc hb_w62.size _
            have bx0_w62a : w62a.cell? ⟨w62.heap.size, 0, none⟩ = some (.slice none 0 0) := by rw [← hw9]; simp [go_sem]
            have bf0_w62a : w62a.frozen? ⟨w62.heap.size, 0, none⟩ = false := by rw [← hw9]; simp [go_sem]
            have hl_w62a : w62.heap.size < w62a.heap.size := by rw [← hw9]; simp
            clear hw9
            refine wpAnyH_ready (rs := [4]) (by kernel_rfl) (by simp) ?_
            refine AllReadyH.cons rfl (fun K hK => ?_) AllReadyH.nil
            go_simp
            refine (HA2.out _ _ _ _ _ _ _ ((Sm_62.out.below hb_w62a).call hb_w62a.size) ((S2_62.out.below hb_w62a).call hb_w62a.size)).mono ?_
            rintro e w62ac ⟨Az, cz, rfl, ho, hb⟩
            have hb_w62ac : Below w62.heap.size w62 w62ac := hb_w62a.trans (hb.mono hb_w62a.size)
            have bx0_w62ac := keep1 hb bx0_w62a
            have bf0_w62ac : w62ac.frozen? ⟨w62.heap.size, 0, none⟩ = false := (hb.frozen (p := ⟨w62.heap.size, 0, none⟩) hl_w62a).trans bf0_w62a
            have hl_w62ac : w62.heap.size < w62ac.heap.size := Nat.lt_of_lt_of_le hl_w62a hb.size
            have hlo := hl_w62a
            have ow_w62ac := Lib.hid ho
            have hq := Lib.hid (fun (q : Nat) (hq : (Value.slice Az ms.length cz).ownBlock = some q) => ho.lt q hq)
            clear ho
            go_simp
            refine hK.out _ _ (keep1 hb_w62ac bm_62) (fun hHeld => ?_)
            clear hb hK K
            try simp only [Act.put, List.setIfInBounds_toArray, List.set_cons_zero, List.set_cons_succ]
            refine wpAnyH_take (i := 5) (v := ?_) rfl (by kernel_rfl) (by kernel_rfl) (by kernel_rfl) (fun _ _ _ h => h) (Or.inl ⟨by kernel_rfl, ?_⟩) hHeld ?_
            rotate_left
            · intro wz hSw
              try dsimp only at hSw
              first
              | (go_simp; done)
              | (go_simp; with_reducible rfl)
            try simp only [Act.put, List.setIfInBounds_toArray, List.set_cons_zero, List.set_cons_succ]
            refine wpAnyH_take (i := 6) (v := ?_) rfl (by kernel_rfl) (by kernel_rfl) (by kernel_rfl) (fun _ _ _ h => h) (Or.inl ⟨by kernel_rfl, ?_⟩) hHeld ?_
            rotate_left
            · intro wz hSw
              try dsimp only at hSw
              first
              | (go_simp; done)
              | (go_simp; with_reducible rfl)
            try simp only [Act.put, List.setIfInBounds_toArray, List.set_cons_zero, List.set_cons_succ]
            refine wpAnyH_take (i := 7) (v := ?_) rfl (by kernel_rfl) (by kernel_rfl) (by kernel_rfl) (fun _ _ _ h => h) (Or.inl ⟨by kernel_rfl, ?_⟩) hHeld ?_
            rotate_left
            · intro wz hSw
              try dsimp only at hSw
              first
              | (go_simp; done)
              | (go_simp; with_reducible rfl)
            try simp only [Act.put, List.setIfInBounds_toArray, List.set_cons_zero, List.set_cons_succ]
            have k0_9 := bx0_w62ac
            have l0_9 := bf0_w62ac
            refine wpAnyH_ready (rs := [9]) (by kernel_rfl) (by simp) ?_
            refine AllReadyH.cons rfl (fun K hK => ?_) AllReadyH.nil
            go_simp
            have hge_w62ac : w62.heap.size ≤ w62.heap.size := Nat.le_refl _
            refine hK.out _ _ (keep1 (hb_w62ac.setCell (by first | exact Nat.le_refl _ | exact Nat.le_of_lt hl_w62ac | exact hge_w62ac) _) bm_62) (fun hHeld => ?_)
            clear hK K
            try simp only [Act.put, List.setIfInBounds_toArray, List.set_cons_zero, List.set_cons_succ]
            refine wpAnyH_take (i := 10) (v := ?_) rfl (by kernel_rfl) (by kernel_rfl) (by kernel_rfl) (fun _ _ _ h => h) (Or.inl ⟨by kernel_rfl, ?_⟩) hHeld ?_
            rotate_left
            · intro wz hSw
              try dsimp only at hSw
              first
              | (go_simp; done)
              | (go_simp; with_reducible rfl)
            try simp only [Act.put, List.setIfInBounds_toArray, List.set_cons_zero, List.set_cons_succ]
            refine wpAnyH_done (by kernel_rfl) ?_ _
            try go_simp
            go_wp2_with fail
            go_meet
            refine ⟨w62.heap.size, Az, cz, rfl, rfl, ?_, ?_, ?_⟩
            · exact Lib.hid (World.cell?_setCell_same' _ _ _ (by rw [k0_9]; rfl))
            · exact Lib.hid (sd_of_own (own_setCell ow_w62ac.out (fun e => by have h1 := hq.out _ e; first | omega | (have h2 := hlo; omega) | (simp only at *; omega)) _) OKM.out)
            · exact Lib.hid (HD62.out.trans ((hb_w62ac.setCell (by first | exact Nat.le_refl _ | exact Nat.le_of_lt hl_w62ac | exact hge_w62ac) _).mono HD62.out.size))
        case rest =>
          obtain ⟨Xz, Az, cz, hs, ht, hcx, hsx, hb⟩ := hcut
          subst hs
          subst ht
          obtain ⟨w62, e8⟩ : ∃ W : World, W = wc := ⟨_, rfl⟩
          subst e8
          replace hb := hb.out
          have ba_62 := keep1 hb ba_61
          have bg_62 := keep1 hb bg_61
          have bm_62 := keep1 hb bm_61
          have Sa_62 := Lib.hid ((Sa_61.out.below hb).call hb.size)
          have Ss_62 := Lib.hid ((Ss_61.out.below hb).call hb.size)
          have Sg_62 := Lib.hid ((Sg_61.out.below hb).call hb.size)
          have S1_62 := Lib.hid ((S1_61.out.below hb).call hb.size)
          have S2_62 := Lib.hid ((S2_61.out.below hb).call hb.size)
          have Sm_62 := Lib.hid ((Sm_61.out.below hb).call hb.size)
          have HB_62 : Hid (Below w.heap.size w w62) := Lib.hid (HB_61.out.trans (hb.mono HB_61.out.size))
          have bz_62 := hcx.out
          have Sz_62 := hsx
          clear hb hcx hsx ba_61 bg_61 bm_61 Sa_61 Ss_61 Sg_61 S1_61 S2_61 Sm_61 HB_61
          go_wp2_with fail
          refine (equalEnum_any ms _ _ _ _ _ _ _ Sz_62.out Sg_62.out).mono ?_
          rintro e w63 ⟨rfl, hb⟩
          have ba_63 := keep1 hb ba_62
          have bg_63 := keep1 hb bg_62
          have bm_63 := keep1 hb bm_62
          have bz_63 := keep1 hb bz_62
          have Sa_63 := Lib.hid ((Sa_62.out.below hb).call hb.size)
          have Ss_63 := Lib.hid ((Ss_62.out.below hb).call hb.size)
          have Sg_63 := Lib.hid ((Sg_62.out.below hb).call hb.size)
          have S1_63 := Lib.hid ((S1_62.out.below hb).call hb.size)
          have S2_63 := Lib.hid ((S2_62.out.below hb).call hb.size)
          have Sm_63 := Lib.hid ((Sm_62.out.below hb).call hb.size)
          have Sz_63 := Lib.hid ((Sz_62.out.below hb).call hb.size)
          have HB_63 : Hid (Below w.heap.size w w63) := Lib.hid (HB_62.out.trans (hb.mono HB_62.out.size))
          clear hb  ba_62 bg_62 bm_62 bz_62 Sa_62 Ss_62 Sg_62 S1_62 S2_62 Sm_62 Sz_62 HB_62
          go_wp2
          go_roundw
          case rel => exact ⟨k + 1, by omega, by go_num, HB_63, Lib.hid ba_63, Lib.hid bg_63, Sa_63, Ss_63, Sg_63⟩
          case measure => simp [intOf]; omega
    · obtain rfl : k = ks.length + 1 := by omega
      have hi9 : ¬ ((ks.length + 1 : Nat) : Int) ≤ (ks.length : Int) := by omega
      go_wp2
      go_ret
      exact ⟨rfl, hbel.out⟩

theorem lifted (os : Os) (started : os.Started) (H : Type) (enc : TypeId × Value → H) :
    ReturnsInHanded {} Try.checked os 9 .any (Rows.fnApplyChangesOneSpec.pre6 enc Try.prog Try.f9 Rows.fnApplyChangesOneRow.domain false) (Rows.fnApplyChangesOneSpec.post enc Try.prog Try.f9 false true false false) := by
  refine returnsInHanded_of_change (C := Try.checked) own started (by kernel_rfl) Try.func9
    (ChangeSpec.witness6 (enc := enc) (C := Try.checked) false ⟨#[], #[.slice none 0 0], []⟩ 8 (by kernel_rfl) (by kernel_rfl) (by kernel_rfl) (by kernel_rfl)) ?_
  intro W base args ds gs before hval0 hW hcnd _
  have hval : ∀ (j : Nat) t v, Try.f9.params[j]? = some t → args[j]? = some v → Value.okWide Try.prog W .any base t v := hval0
  have hW' := hW
  obtain ⟨p, q, hA0, hV, rfl, hfz, hnd⟩ := hW
  have hA : DataW.TrodAll enc Try.prog W 0 (fun _ => true) true Try.f9.params.toList args.toList ds p := hA0
  rw [Try.params9] at hA hval
  obtain ⟨v0, vs0, d0, ds0, p0, q0, hargs, rfl, rfl, h0, r0⟩ := trodAll_cons hA
  obtain ⟨rfl, rfl, rfl⟩ := trodAll_nil r0
  obtain rfl : args = #[v0] := by cases args; simp_all
  obtain ⟨rfl, rfl⟩ := trodVars_none hV
  have k0 := h0
  have lt0 : ∀ x ∈ p0, x.block < W.heap.size := by obtain ⟨m, hm⟩ := k0; exact DataW.trod_lt m _ _ _ hm
  obtain ⟨A0, n0, c0, l0, rfl, w0⟩ := open_code (hval 0 22 v0 rfl rfl) h0
  clear hA0 hval0
  refine (walk A0 n0 c0 l0 W w0).mono fun e W' ⟨he, bel⟩ => ?_
  subst he
  exact ⟨_, rfl, _, _, _, [], _, [], hW', trodAll_mk1 (shut_bool Try.underlying4 _), (trodAll_cons_mk (Below.trod laidOut (by kernel_rfl) (of_decide_eq_true (by kernel_rfl)) k0 bel lt0) trodAll_mk0), rfl, bel.frame _, fun h => by cases h⟩

theorem over : Rows.fnApplyChangesOneRow.holds Try.pinned (OpenSpec.ofChange Rows.fnApplyChangesOneSpec) :=
  OpenClaim.holds_of_wide 9 Try.f9 rfl rfl rfl rfl rfl rfl rfl ⟨rfl, rfl, rfl, rfl, rfl⟩ rfl rfl rfl rfl rfl (by kernel_rfl) Try.func9 (by kernel_rfl)
    (of_decide_eq_true (by kernel_rfl)) (by unfold Func.isWrapper; first | (rw [if_pos (by decide +kernel)]; kernel_rfl) | (rw [if_neg (by decide +kernel)]; exact ⟨rfl, rfl⟩))
    (fun os started H enc _ => lifted os started H enc)

theorem proved : Rows.FnApplyChangesOneSaid := over
end Go.Proofs.Ytkholjcmaebaaaa.fnApplyChangesOne
