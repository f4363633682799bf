/-
For every code the law of names of either, which are those of both, returns true.
Conditions: none.
-/
import Derived.Test.YtmahjggkiikmgaaGenV
import Derived.Test.YtmahjggkiikmgaaOpenC
import Derived.Test.YtmahjggkiikmgaaLFlag
import Derived.Test.YtmahjggkiikmgaaLAlgT
import Derived.Test.YtmahjggkiikmgaaAlgS
import Derived.Test.YtmahjggkiikmgaaAlgJ
import Derived.Test.YtmahjggkiikmgaaFlagS
namespace Go.Proofs.Ytmahjggkiikmgaa.fnNamesInOr
open Go.ChangeShapes Go.WideShapes Go.ChangeAt Go.RowKit
open Go.ChangeMaps (open_string shut_string)
set_option linter.unusedVariables false
set_option maxRecDepth 100000

set_option maxHeartbeats 16000000 in
theorem walk (A : Option Addr) (n c : Nat) (zs : List Int) (w : World) (h : SB w w.heap.size A n c zs) :
    Calls Try.prog 4 #[.slice A n c] w fun e w' => e = .returned (.bool true) ∧ Below w.heap.size w w' := by
  have hm := h.max
  have hcap := h.cap
  unfold maxLen at hm
  have HS0 := Lib.hid h
  clear h
  by_cases hbig : 1048576 < (n : Int)
  · go_enter Try.func4, Try.ntmps4
    go_wp2
    go_ret
    exact ⟨rfl, Below.refl _ _⟩
  go_enter Try.func4, Try.ntmps4
  go_wp2_with fail
  refine (drawOrValues_any A n c zs _ HS0.out).mono ?_
  rintro e w1 ⟨Aa, ca, dsa, ba, xa, xb, rfl, hna, hsma, hbda, hxa, hxb, hsa, hb⟩
  have HB_1 := Lib.hid hb
  have Sa_1 := Lib.hid hsa
  have HSMa := Lib.hid hsma
  have HOKa : Hid (∀ d ∈ dsa, d.ok) := Lib.hid (fun d hd => small_ok (hsma d hd))
  have HBDa := Lib.hid hbda
  clear hb hsa hsma hbda
  obtain ⟨w2, hw⟩ : ∃ W : World, W = (w1.alloc (.cells #[.slice Aa dsa.length ca, .int .i64 ba] 25)) := ⟨_, rfl⟩
  have hb : Below w1.heap.size w1 w2 := by rw [hw]; exact ((Below.refl _ _).alloc (by first | exact Nat.le_refl _ | (simp; done) | (simp; omega)) _)
  have Sa_2 := Lib.hid ((Sa_1.out.below hb).call hb.size)
  have HB_2 : Hid (Below w.heap.size w w2) := Lib.hid (HB_1.out.trans (hb.mono HB_1.out.size))
  have ba_2 : w2.cell? ⟨w1.heap.size, 0, none⟩ = some (.slice Aa dsa.length ca) := by rw [hw]; simp [go_sem]
  have va_2 : w2.cell? ⟨w1.heap.size, 1, none⟩ = some (.int .i64 ba) := by rw [hw]; simp [go_sem]
  have lf_ba : (w1.alloc (.cells #[.slice Aa dsa.length ca, .int .i64 ba] 25)).cell? ⟨w1.heap.size, 0, none⟩ = some (.slice Aa dsa.length ca) := by rw [← hw]; exact ba_2
  have lf_va : (w1.alloc (.cells #[.slice Aa dsa.length ca, .int .i64 ba] 25)).cell? ⟨w1.heap.size, 1, none⟩ = some (.int .i64 ba) := by rw [← hw]; exact va_2
  have HW2 : Hid ((w1.alloc (.cells #[.slice Aa dsa.length ca, .int .i64 ba] 25)) = w2) := Lib.hid hw.symm
  clear hb hw Sa_1 HB_1
  obtain ⟨r, hr⟩ : ∃ r, mOp orN dsa ba xa xb = r := ⟨_, rfl⟩
  have HR := Lib.hid hr
  clear hr
  go_wp2_with fail
  rw [HW2.out]
  clear lf_ba lf_va
  refine (implOr_v dsa ba xa xb _ _ _ _ Sa_2.out (by omega) HR.out).mono ?_
  rintro e w3 ⟨rfl, hb⟩
  have ba_3 := keep1 hb ba_2
  have va_3 := keep1 hb va_2
  have Sa_3 := Lib.hid ((Sa_2.out.below hb).call hb.size)
  have HB_3 : Hid (Below w.heap.size w w3) := Lib.hid (HB_2.out.trans (hb.mono HB_2.out.size))
  clear hb  ba_2 va_2 Sa_2 HB_2
  go_wp2_with fail
  refine (specOr_v dsa ba xa xb _ _ _ _ Sa_3.out HR.out).mono ?_
  rintro e w4 ⟨rfl, hb⟩
  have ba_4 := keep1 hb ba_3
  have va_4 := keep1 hb va_3
  have Sa_4 := Lib.hid ((Sa_3.out.below hb).call hb.size)
  have HB_4 : Hid (Below w.heap.size w w4) := Lib.hid (HB_3.out.trans (hb.mono HB_3.out.size))
  clear hb  ba_3 va_3 Sa_3 HB_3
  by_cases h0 : r < 0
  · skip
    go_wp2_with fail
    refine (specOr_v dsa ba xa xb _ _ _ _ Sa_4.out HR.out).mono ?_
    rintro e w5 ⟨rfl, hb⟩
    have ba_5 := keep1 hb ba_4
    have va_5 := keep1 hb va_4
    have Sa_5 := Lib.hid ((Sa_4.out.below hb).call hb.size)
    have HB_5 : Hid (Below w.heap.size w w5) := Lib.hid (HB_4.out.trans (hb.mono HB_4.out.size))
    clear hb  ba_4 va_4 Sa_4 HB_4
    go_wp2
    go_ret
    exact ⟨rfl, HB_5.out⟩
  have ht := op_two (by rw [HR.out]; exact h0)
  obtain ⟨p, rfl, hp⟩ := mIsV_nat (mTwo_1 ht)
  obtain ⟨q, rfl, hq⟩ := mIsV_nat (mTwo_2 ht)
  have HVp := Lib.hid (mTwo_1 ht)
  have HVq := Lib.hid (mTwo_2 ht)
  obtain ⟨o, qo⟩ : ∃ o, p ||| q = o := ⟨_, rfl⟩
  have ho : o < 4096 := by rw [← qo]; exact or_lt hp hq
  have HVo : Hid (mIsV dsa ba (o : Nat) = true) := Lib.hid (by rw [← qo]; exact v_or HVp.out HVq.out)
  obtain rfl : r = (o : Int) := by rw [← HR.out]; exact op_is HVp.out HVq.out qo
  clear ht h0 hxa hxb
  have HFL := Lib.hid (mIsV_flag HVp.out)
  have hN : ∀ x : Nat, mIsV dsa ba x = true → mNamesIn dsa ba x = (mIn dsa x).map (·.name) := fun x h => by unfold mNamesIn; rw [h, if_pos rfl, Int.toNat_natCast]
  obtain ⟨ps, hps⟩ : ∃ l, mNamesIn dsa ba (p : Nat) = l := ⟨_, rfl⟩
  obtain ⟨qs, hqs⟩ : ∃ l, mNamesIn dsa ba (q : Nat) = l := ⟨_, rfl⟩
  obtain ⟨ns, hns⟩ : ∃ l, mNamesIn dsa ba (o : Nat) = l := ⟨_, rfl⟩
  obtain ⟨ss, hss⟩ : ∃ l, mSgOf dsa ba = l := ⟨_, rfl⟩
  have hss2 : ss = (mSg dsa).map (·.name) := by rw [← hss]; unfold mSgOf; rw [HFL.out, if_pos rfl]
  have hlen : ns.length ≤ ss.length := by rw [← hns, hN o HVo.out, hss2, List.length_map, List.length_map]; exact in_len_sg dsa o
  have hls : ss.length ≤ 12 := by rw [← hss]; exact mSgOf_len dsa ba
  have HT : Hid (∀ t ∈ ss, ∃ v1 v2 : Bool, ps.any (hT t) = v1 ∧ qs.any (hT t) = v2 ∧ ns.any (hT t) = (v1 || v2)) := Lib.hid (fun t ht => by
    rw [hss2] at ht
    obtain ⟨d, hd, rfl⟩ := List.mem_map.1 ht
    refine ⟨fitIn p d, fitIn q d, ?_, ?_, ?_⟩
    · rw [← hps, hN p HVp.out]; exact in_has HFL.out hd p
    · rw [← hqs, hN q HVq.out]; exact in_has HFL.out hd q
    · rw [← hns, hN o HVo.out, in_has HFL.out hd o, ← qo]; exact fit_or hd p q)
  have OKp : Hid (∀ s ∈ ps, s.size ≤ maxLen) := Lib.hid (by rw [← hps]; exact mNamesIn_ok HOKa.out)
  have OKq : Hid (∀ s ∈ qs, s.size ≤ maxLen) := Lib.hid (by rw [← hqs]; exact mNamesIn_ok HOKa.out)
  have OKn : Hid (∀ s ∈ ns, s.size ≤ maxLen) := Lib.hid (by rw [← hns]; exact mNamesIn_ok HOKa.out)
  have OKs : Hid (∀ s ∈ ss, s.size ≤ maxLen) := Lib.hid (by rw [← hss]; exact mSgOf_ok HOKa.out)
  have HNp : Hid (∀ (A : Option Addr) (n c : Nat) (w : World), SD w w.heap.size A n c dsa → n ≤ 1048576 → Calls Try.prog 16 #[.agg #[.slice A n c, .int .i64 ba], .int .i64 p] w (StrsP ps w)) := Lib.hid (by rw [← hps]; exact fun A n c w h hn => implNamesIn_any dsa ba p A n c w h hn)
  have HNq : Hid (∀ (A : Option Addr) (n c : Nat) (w : World), SD w w.heap.size A n c dsa → n ≤ 1048576 → Calls Try.prog 16 #[.agg #[.slice A n c, .int .i64 ba], .int .i64 q] w (StrsP qs w)) := Lib.hid (by rw [← hqs]; exact fun A n c w h hn => implNamesIn_any dsa ba q A n c w h hn)
  have HNo : Hid (∀ (A : Option Addr) (n c : Nat) (w : World), SD w w.heap.size A n c dsa → n ≤ 1048576 → Calls Try.prog 16 #[.agg #[.slice A n c, .int .i64 ba], .int .i64 o] w (StrsP ns w)) := Lib.hid (by rw [← hns]; exact fun A n c w h hn => implNamesIn_any dsa ba o A n c w h hn)
  have HSG : Hid (∀ (A : Option Addr) (n c : Nat) (w : World), SD w w.heap.size A n c dsa → n ≤ 1048576 → Calls Try.prog 27 #[.agg #[.slice A n c, .int .i64 ba]] w (StrsP ss w)) := Lib.hid (by rw [← hss]; exact fun A n c w h hn => implSgOf_any dsa ba A n c w h hn)
  clear hN hps hqs hns hss hss2
  clear qo
  go_wp2_with fail
  refine (HNo.out _ _ _ _ Sa_4.out (by omega)).mono ?_
  rintro e w5 ⟨An, cn, rfl, ho, hb⟩
  have ba_5 := keep1 hb ba_4
  have va_5 := keep1 hb va_4
  have Sa_5 := Lib.hid ((Sa_4.out.below hb).call hb.size)
  have HB_5 : Hid (Below w.heap.size w w5) := Lib.hid (HB_4.out.trans (hb.mono HB_4.out.size))
  have Sn_5 := Lib.hid (ss_of_own ho OKn.out)
  clear hb ho ba_4 va_4 Sa_4 HB_4
  go_wp2_with fail
  refine (HSG.out _ _ _ _ Sa_5.out (by omega)).mono ?_
  rintro e w6 ⟨As, cs, rfl, ho, hb⟩
  have ba_6 := keep1 hb ba_5
  have va_6 := keep1 hb va_5
  have Sa_6 := Lib.hid ((Sa_5.out.below hb).call hb.size)
  have Sn_6 := Lib.hid ((Sn_5.out.below hb).call hb.size)
  have HB_6 : Hid (Below w.heap.size w w6) := Lib.hid (HB_5.out.trans (hb.mono HB_5.out.size))
  have Ss_6 := Lib.hid (ss_of_own ho OKs.out)
  clear hb ho ba_5 va_5 Sa_5 Sn_5 HB_5
  go_wp2
  go_loopw [9] (fun i wr => ∃ (k : Nat), k ≤ ss.length ∧ i = .int .i64 k ∧ Hid (Below w.heap.size w wr) ∧ Hid (wr.cell? ⟨w1.heap.size, 0, none⟩ = some (.slice Aa dsa.length ca)) ∧ Hid (wr.cell? ⟨w1.heap.size, 1, none⟩ = some (.int .i64 ba)) ∧ Hid (SD wr wr.heap.size Aa dsa.length ca dsa) ∧ Hid (SS wr wr.heap.size An ns.length cn ns) ∧ Hid (SS wr wr.heap.size As ss.length cs ss)) (fun i _ => ss.length - (intOf i).toNat)
  case atStart => exact ⟨0, Nat.zero_le _, rfl, HB_6, Lib.hid ba_6, Lib.hid va_6, Sa_6, Sn_6, Ss_6⟩
  case round =>
    obtain ⟨k, hk, rfl, hbel, hca, hcv, hsa, hsn, hss⟩ := hrel
    clear ba_6 va_6 HB_6 Sa_6 Sn_6 Ss_6
    have y1 := hca.out
    have y2 := hcv.out
    clear hca hcv
    by_cases hlt : k < ss.length
    · obtain ⟨b, o2, rfl, hbb, x1⟩ := hss.out.at_ hlt
      obtain ⟨v1, v2, ht1, ht2, ht3⟩ := HT.out _ (List.getElem_mem hlt)
      have HT1 := Lib.hid ht1
      have HT2 := Lib.hid ht2
      have HT3 := Lib.hid ht3
      clear ht1 ht2 ht3
      generalize ss[k] = t at *
      have hi1 : (k : Int) < (ss.length : Int) := by omega
      have hi0 : (0 : Int) ≤ (k : Int) := by omega
      obtain ⟨w40, hwn⟩ : ∃ W : World, W = wr := ⟨_, rfl⟩
      subst hwn
      have HB_40 := hbel
      have ba_40 := y1
      have va_40 := y2
      have Sa_40 := hsa
      have Sn_40 := hsn
      have Ss_40 := hss
      have x1_40 := x1
      clear hbel y1 y2 hsa hsn hss x1
      clear OKs HSG HT HNo
      cases v1
      · skip
        go_wp2_with fail
        refine wp_region_held_drew (S := (fun w' => w'.cell? ⟨w1.heap.size, 0, none⟩ = some (.slice Aa dsa.length ca) ∧ w'.cell? ⟨w1.heap.size, 1, none⟩ = some (.int .i64 ba) ∧ w'.cell? ⟨b, o2 + k, none⟩ = some (.string t))) (by kernel_rfl) ⟨ba_40, va_40, x1_40⟩ (fun hHeld => ?_)
        refine wpAnyH_take (i := 0) (v := ?_) rfl (by kernel_rfl) (by kernel_rfl) (by kernel_rfl) (fun _ _ _ h => h) (Or.inl ⟨by rfl, ?_⟩) hHeld ?_
        rotate_left
        · intro wz hSw
          try dsimp only at hSw
          first
          | (go_simp; done)
          | (go_simp; with_reducible rfl)
        try simp only [Act.put, List.setIfInBounds_toArray, List.set_cons_zero, List.set_cons_succ]
        refine wpAnyH_take (i := 1) (v := ?_) rfl (by kernel_rfl) (by kernel_rfl) (by kernel_rfl) (fun _ _ _ h => h) (Or.inl ⟨by rfl, ?_⟩) hHeld ?_
        rotate_left
        · intro wz hSw
          try dsimp only at hSw
          first
          | (go_simp; done)
          | (go_simp; with_reducible rfl)
        try simp only [Act.put, List.setIfInBounds_toArray, List.set_cons_zero, List.set_cons_succ]
        refine wpAnyH_take (i := 3) (v := ?_) rfl (by kernel_rfl) (by kernel_rfl) (by kernel_rfl) (fun _ _ _ h => h) (Or.inl ⟨by rfl, ?_⟩) hHeld ?_
        rotate_left
        · intro wz hSw
          try dsimp only at hSw
          first
          | (go_simp; done)
          | (go_simp; with_reducible rfl)
        try simp only [Act.put, List.setIfInBounds_toArray, List.set_cons_zero, List.set_cons_succ]
        refine wpAnyH_take (i := 4) (v := ?_) rfl (by kernel_rfl) (by kernel_rfl) (by kernel_rfl) (fun _ _ _ h => h) (Or.inl ⟨by rfl, ?_⟩) hHeld ?_
        rotate_left
        · intro wz hSw
          try dsimp only at hSw
          first
          | (go_simp; done)
          | (go_simp; with_reducible rfl)
        try simp only [Act.put, List.setIfInBounds_toArray, List.set_cons_zero, List.set_cons_succ]
        refine wpAnyH_take (i := 5) (v := ?_) rfl (by kernel_rfl) (by kernel_rfl) (by kernel_rfl) (fun _ _ _ h => h) (Or.inl ⟨by rfl, ?_⟩) hHeld ?_
        rotate_left
        · intro wz hSw
          try dsimp only at hSw
          first
          | (go_simp; done)
          | (go_simp; with_reducible rfl)
        try simp only [Act.put, List.setIfInBounds_toArray, List.set_cons_zero, List.set_cons_succ]
        refine wpAnyH_take (i := 6) (v := ?_) rfl (by kernel_rfl) (by kernel_rfl) (by kernel_rfl) (fun _ _ _ h => h) (Or.inl ⟨by rfl, ?_⟩) hHeld ?_
        rotate_left
        · intro wz hSw
          try dsimp only at hSw
          first
          | (go_simp; done)
          | (go_simp; with_reducible rfl)
        try simp only [Act.put, List.setIfInBounds_toArray, List.set_cons_zero, List.set_cons_succ]
        refine wpAnyH_ready (rs := [2]) (by kernel_rfl) (by simp) ?_
        refine AllReadyH.cons rfl (fun K hK => ?_) AllReadyH.nil
        go_simp
        refine (HNp.out _ _ _ _ (Sa_40.out.drewN 1) (by omega)).mono ?_
        rintro e w41 ⟨Ap, cp, rfl, ho, hb⟩
        replace hb : Below w40.heap.size w40 w41 := (by first | exact hb | exact undrew hb)
        have ba_41 := keep1 hb ba_40
        have va_41 := keep1 hb va_40
        have x1_41 := keep1 hb x1_40
        have Sa_41 := Lib.hid ((Sa_40.out.below hb).call hb.size)
        have Sn_41 := Lib.hid ((Sn_40.out.below hb).call hb.size)
        have Ss_41 := Lib.hid ((Ss_40.out.below hb).call hb.size)
        have HB_41 : Hid (Below w.heap.size w w41) := Lib.hid (HB_40.out.trans (hb.mono HB_40.out.size))
        have Sp_41 := Lib.hid (ss_of_own ho OKp.out)
        clear ho
        go_simp
        refine hK.out _ _ ⟨ba_41, va_41, x1_41⟩ (fun hHeld => ?_)
        clear hK K
        try simp only [Act.put, List.setIfInBounds_toArray, List.set_cons_zero, List.set_cons_succ]
        refine wpAnyH_ready (rs := [7]) (by kernel_rfl) (by simp) ?_
        refine AllReadyH.cons rfl (fun K hK => ?_) AllReadyH.nil
        go_simp
        refine (hasText_any ps t _ _ _ _ Sp_41.out HT1.out).mono ?_
        rintro e w42 ⟨rfl, hb⟩
        have ba_42 := keep1 hb ba_41
        have va_42 := keep1 hb va_41
        have x1_42 := keep1 hb x1_41
        have Sa_42 := Lib.hid ((Sa_41.out.below hb).call hb.size)
        have Sn_42 := Lib.hid ((Sn_41.out.below hb).call hb.size)
        have Ss_42 := Lib.hid ((Ss_41.out.below hb).call hb.size)
        have Sp_42 := Lib.hid ((Sp_41.out.below hb).call hb.size)
        have HB_42 : Hid (Below w.heap.size w w42) := Lib.hid (HB_41.out.trans (hb.mono HB_41.out.size))
        go_simp
        refine hK.out _ _ ⟨ba_42, va_42, x1_42⟩ (fun hHeld => ?_)
        clear hK K
        try simp only [Act.put, List.setIfInBounds_toArray, List.set_cons_zero, List.set_cons_succ]
        refine wpAnyH_take (i := 8) (v := ?_) rfl (by kernel_rfl) (by kernel_rfl) (by kernel_rfl) (fun _ _ _ h => h) (Or.inl ⟨by rfl, ?_⟩) hHeld ?_
        rotate_left
        · intro wz hSw
          try dsimp only at hSw
          first
          | (go_simp; done)
          | (go_simp; with_reducible rfl)
        try simp only [Act.put, List.setIfInBounds_toArray, List.set_cons_zero, List.set_cons_succ]
        refine wpAnyH_take (i := 9) (v := ?_) rfl (by kernel_rfl) (by kernel_rfl) (by kernel_rfl) (fun _ _ _ h => h) (Or.inl ⟨by rfl, ?_⟩) hHeld ?_
        rotate_left
        · intro wz hSw
          try dsimp only at hSw
          first
          | (go_simp; done)
          | (go_simp; with_reducible rfl)
        try simp only [Act.put, List.setIfInBounds_toArray, List.set_cons_zero, List.set_cons_succ]
        refine wpAnyH_take (i := 10) (v := ?_) rfl (by kernel_rfl) (by kernel_rfl) (by kernel_rfl) (fun _ _ _ h => h) (Or.inl ⟨by rfl, ?_⟩) hHeld ?_
        rotate_left
        · intro wz hSw
          try dsimp only at hSw
          first
          | (go_simp; done)
          | (go_simp; with_reducible rfl)
        try simp only [Act.put, List.setIfInBounds_toArray, List.set_cons_zero, List.set_cons_succ]
        refine wpAnyH_take (i := 12) (v := ?_) rfl (by kernel_rfl) (by kernel_rfl) (by kernel_rfl) (fun _ _ _ h => h) (Or.inl ⟨by rfl, ?_⟩) hHeld ?_
        rotate_left
        · intro wz hSw
          try dsimp only at hSw
          first
          | (go_simp; done)
          | (go_simp; with_reducible rfl)
        try simp only [Act.put, List.setIfInBounds_toArray, List.set_cons_zero, List.set_cons_succ]
        refine wpAnyH_take (i := 13) (v := ?_) rfl (by kernel_rfl) (by kernel_rfl) (by kernel_rfl) (fun _ _ _ h => h) (Or.inl ⟨by rfl, ?_⟩) hHeld ?_
        rotate_left
        · intro wz hSw
          try dsimp only at hSw
          first
          | (go_simp; done)
          | (go_simp; with_reducible rfl)
        try simp only [Act.put, List.setIfInBounds_toArray, List.set_cons_zero, List.set_cons_succ]
        refine wpAnyH_take (i := 14) (v := ?_) rfl (by kernel_rfl) (by kernel_rfl) (by kernel_rfl) (fun _ _ _ h => h) (Or.inl ⟨by rfl, ?_⟩) hHeld ?_
        rotate_left
        · intro wz hSw
          try dsimp only at hSw
          first
          | (go_simp; done)
          | (go_simp; with_reducible rfl)
        try simp only [Act.put, List.setIfInBounds_toArray, List.set_cons_zero, List.set_cons_succ]
        refine wpAnyH_take (i := 15) (v := ?_) rfl (by kernel_rfl) (by kernel_rfl) (by kernel_rfl) (fun _ _ _ h => h) (Or.inl ⟨by rfl, ?_⟩) hHeld ?_
        rotate_left
        · intro wz hSw
          try dsimp only at hSw
          first
          | (go_simp; done)
          | (go_simp; with_reducible rfl)
        try simp only [Act.put, List.setIfInBounds_toArray, List.set_cons_zero, List.set_cons_succ]
        refine wpAnyH_ready (rs := [11]) (by kernel_rfl) (by simp) ?_
        refine AllReadyH.cons rfl (fun K hK => ?_) AllReadyH.nil
        go_simp
        refine (HNq.out _ _ _ _ Sa_42.out (by omega)).mono ?_
        rintro e w43 ⟨Aq, cq, rfl, ho, hb⟩
        have ba_43 := keep1 hb ba_42
        have va_43 := keep1 hb va_42
        have x1_43 := keep1 hb x1_42
        have Sa_43 := Lib.hid ((Sa_42.out.below hb).call hb.size)
        have Sn_43 := Lib.hid ((Sn_42.out.below hb).call hb.size)
        have Ss_43 := Lib.hid ((Ss_42.out.below hb).call hb.size)
        have Sp_43 := Lib.hid ((Sp_42.out.below hb).call hb.size)
        have HB_43 : Hid (Below w.heap.size w w43) := Lib.hid (HB_42.out.trans (hb.mono HB_42.out.size))
        have Sq_43 := Lib.hid (ss_of_own ho OKq.out)
        clear ho
        go_simp
        refine hK.out _ _ ⟨ba_43, va_43, x1_43⟩ (fun hHeld => ?_)
        clear hK K
        try simp only [Act.put, List.setIfInBounds_toArray, List.set_cons_zero, List.set_cons_succ]
        refine wpAnyH_ready (rs := [16]) (by kernel_rfl) (by simp) ?_
        refine AllReadyH.cons rfl (fun K hK => ?_) AllReadyH.nil
        go_simp
        refine (hasText_any qs t _ _ _ _ Sq_43.out HT2.out).mono ?_
        rintro e w44 ⟨rfl, hb⟩
        have ba_44 := keep1 hb ba_43
        have va_44 := keep1 hb va_43
        have x1_44 := keep1 hb x1_43
        have Sa_44 := Lib.hid ((Sa_43.out.below hb).call hb.size)
        have Sn_44 := Lib.hid ((Sn_43.out.below hb).call hb.size)
        have Ss_44 := Lib.hid ((Ss_43.out.below hb).call hb.size)
        have Sp_44 := Lib.hid ((Sp_43.out.below hb).call hb.size)
        have Sq_44 := Lib.hid ((Sq_43.out.below hb).call hb.size)
        have HB_44 : Hid (Below w.heap.size w w44) := Lib.hid (HB_43.out.trans (hb.mono HB_43.out.size))
        go_simp
        refine hK.out _ _ ⟨ba_44, va_44, x1_44⟩ (fun hHeld => ?_)
        clear hK K
        try simp only [Act.put, List.setIfInBounds_toArray, List.set_cons_zero, List.set_cons_succ]
        refine wpAnyH_take (i := 17) (v := ?_) rfl (by kernel_rfl) (by kernel_rfl) (by kernel_rfl) (fun _ _ _ h => h) (Or.inl ⟨by rfl, ?_⟩) hHeld ?_
        rotate_left
        · intro wz hSw
          try dsimp only at hSw
          first
          | (go_simp; done)
          | (go_simp; with_reducible rfl)
        try simp only [Act.put, List.setIfInBounds_toArray, List.set_cons_zero, List.set_cons_succ]
        refine wpAnyH_take (i := 18) (v := ?_) rfl (by kernel_rfl) (by kernel_rfl) (by kernel_rfl) (fun _ _ _ h => h) (Or.inl ⟨by rfl, ?_⟩) hHeld ?_
        rotate_left
        · intro wz hSw
          try dsimp only at hSw
          first
          | (go_simp; done)
          | (go_simp; with_reducible rfl)
        try simp only [Act.put, List.setIfInBounds_toArray, List.set_cons_zero, List.set_cons_succ]
        refine wpAnyH_done (by kernel_rfl) ?_ _
        cases v2
        all_goals
          go_wp2_with fail
          refine (hasText_any ns t _ _ _ _ Sn_44.out HT3.out).mono ?_
          rintro e w45 ⟨rfl, hb⟩
          have ba_45 := keep1 hb ba_44
          have va_45 := keep1 hb va_44
          have x1_45 := keep1 hb x1_44
          have Sa_45 := Lib.hid ((Sa_44.out.below hb).call hb.size)
          have Sn_45 := Lib.hid ((Sn_44.out.below hb).call hb.size)
          have Ss_45 := Lib.hid ((Ss_44.out.below hb).call hb.size)
          have Sp_45 := Lib.hid ((Sp_44.out.below hb).call hb.size)
          have Sq_45 := Lib.hid ((Sq_44.out.below hb).call hb.size)
          have HB_45 : Hid (Below w.heap.size w w45) := Lib.hid (HB_44.out.trans (hb.mono HB_44.out.size))
          clear hb  ba_44 va_44 x1_44 Sa_44 Sn_44 Ss_44 Sp_44 Sq_44 HB_44
          go_wp2
          go_roundw
          case rel => exact ⟨k + 1, by omega, by go_num, HB_45, Lib.hid ba_45, Lib.hid va_45, Sa_45, Sn_45, Ss_45⟩
          case measure => simp [intOf]; omega
      · skip
        go_wp2_with fail
        refine wp_region_held_drew (S := (fun w' => w'.cell? ⟨w1.heap.size, 0, none⟩ = some (.slice Aa dsa.length ca) ∧ w'.cell? ⟨w1.heap.size, 1, none⟩ = some (.int .i64 ba) ∧ w'.cell? ⟨b, o2 + k, none⟩ = some (.string t))) (by kernel_rfl) ⟨ba_40, va_40, x1_40⟩ (fun hHeld => ?_)
        refine wpAnyH_take (i := 0) (v := ?_) rfl (by kernel_rfl) (by kernel_rfl) (by kernel_rfl) (fun _ _ _ h => h) (Or.inl ⟨by rfl, ?_⟩) hHeld ?_
        rotate_left
        · intro wz hSw
          try dsimp only at hSw
          first
          | (go_simp; done)
          | (go_simp; with_reducible rfl)
        try simp only [Act.put, List.setIfInBounds_toArray, List.set_cons_zero, List.set_cons_succ]
        refine wpAnyH_take (i := 1) (v := ?_) rfl (by kernel_rfl) (by kernel_rfl) (by kernel_rfl) (fun _ _ _ h => h) (Or.inl ⟨by rfl, ?_⟩) hHeld ?_
        rotate_left
        · intro wz hSw
          try dsimp only at hSw
          first
          | (go_simp; done)
          | (go_simp; with_reducible rfl)
        try simp only [Act.put, List.setIfInBounds_toArray, List.set_cons_zero, List.set_cons_succ]
        refine wpAnyH_take (i := 3) (v := ?_) rfl (by kernel_rfl) (by kernel_rfl) (by kernel_rfl) (fun _ _ _ h => h) (Or.inl ⟨by rfl, ?_⟩) hHeld ?_
        rotate_left
        · intro wz hSw
          try dsimp only at hSw
          first
          | (go_simp; done)
          | (go_simp; with_reducible rfl)
        try simp only [Act.put, List.setIfInBounds_toArray, List.set_cons_zero, List.set_cons_succ]
        refine wpAnyH_take (i := 4) (v := ?_) rfl (by kernel_rfl) (by kernel_rfl) (by kernel_rfl) (fun _ _ _ h => h) (Or.inl ⟨by rfl, ?_⟩) hHeld ?_
        rotate_left
        · intro wz hSw
          try dsimp only at hSw
          first
          | (go_simp; done)
          | (go_simp; with_reducible rfl)
        try simp only [Act.put, List.setIfInBounds_toArray, List.set_cons_zero, List.set_cons_succ]
        refine wpAnyH_take (i := 5) (v := ?_) rfl (by kernel_rfl) (by kernel_rfl) (by kernel_rfl) (fun _ _ _ h => h) (Or.inl ⟨by rfl, ?_⟩) hHeld ?_
        rotate_left
        · intro wz hSw
          try dsimp only at hSw
          first
          | (go_simp; done)
          | (go_simp; with_reducible rfl)
        try simp only [Act.put, List.setIfInBounds_toArray, List.set_cons_zero, List.set_cons_succ]
        refine wpAnyH_take (i := 6) (v := ?_) rfl (by kernel_rfl) (by kernel_rfl) (by kernel_rfl) (fun _ _ _ h => h) (Or.inl ⟨by rfl, ?_⟩) hHeld ?_
        rotate_left
        · intro wz hSw
          try dsimp only at hSw
          first
          | (go_simp; done)
          | (go_simp; with_reducible rfl)
        try simp only [Act.put, List.setIfInBounds_toArray, List.set_cons_zero, List.set_cons_succ]
        refine wpAnyH_ready (rs := [2]) (by kernel_rfl) (by simp) ?_
        refine AllReadyH.cons rfl (fun K hK => ?_) AllReadyH.nil
        go_simp
        refine (HNp.out _ _ _ _ (Sa_40.out.drewN 1) (by omega)).mono ?_
        rintro e w41 ⟨Ap, cp, rfl, ho, hb⟩
        replace hb : Below w40.heap.size w40 w41 := (by first | exact hb | exact undrew hb)
        have ba_41 := keep1 hb ba_40
        have va_41 := keep1 hb va_40
        have x1_41 := keep1 hb x1_40
        have Sa_41 := Lib.hid ((Sa_40.out.below hb).call hb.size)
        have Sn_41 := Lib.hid ((Sn_40.out.below hb).call hb.size)
        have Ss_41 := Lib.hid ((Ss_40.out.below hb).call hb.size)
        have HB_41 : Hid (Below w.heap.size w w41) := Lib.hid (HB_40.out.trans (hb.mono HB_40.out.size))
        have Sp_41 := Lib.hid (ss_of_own ho OKp.out)
        clear ho
        go_simp
        refine hK.out _ _ ⟨ba_41, va_41, x1_41⟩ (fun hHeld => ?_)
        clear hK K
        try simp only [Act.put, List.setIfInBounds_toArray, List.set_cons_zero, List.set_cons_succ]
        refine wpAnyH_ready (rs := [7]) (by kernel_rfl) (by simp) ?_
        refine AllReadyH.cons rfl (fun K hK => ?_) AllReadyH.nil
        go_simp
        refine (hasText_any ps t _ _ _ _ Sp_41.out HT1.out).mono ?_
        rintro e w42 ⟨rfl, hb⟩
        have ba_42 := keep1 hb ba_41
        have va_42 := keep1 hb va_41
        have x1_42 := keep1 hb x1_41
        have Sa_42 := Lib.hid ((Sa_41.out.below hb).call hb.size)
        have Sn_42 := Lib.hid ((Sn_41.out.below hb).call hb.size)
        have Ss_42 := Lib.hid ((Ss_41.out.below hb).call hb.size)
        have Sp_42 := Lib.hid ((Sp_41.out.below hb).call hb.size)
        have HB_42 : Hid (Below w.heap.size w w42) := Lib.hid (HB_41.out.trans (hb.mono HB_41.out.size))
        go_simp
        refine hK.out _ _ ⟨ba_42, va_42, x1_42⟩ (fun hHeld => ?_)
        clear hK K
        try simp only [Act.put, List.setIfInBounds_toArray, List.set_cons_zero, List.set_cons_succ]
        refine wpAnyH_take (i := 8) (v := ?_) rfl (by kernel_rfl) (by kernel_rfl) (by kernel_rfl) (fun _ _ _ h => h) (Or.inl ⟨by rfl, ?_⟩) hHeld ?_
        rotate_left
        · intro wz hSw
          try dsimp only at hSw
          first
          | (go_simp; done)
          | (go_simp; with_reducible rfl)
        try simp only [Act.put, List.setIfInBounds_toArray, List.set_cons_zero, List.set_cons_succ]
        refine wpAnyH_take (i := 9) (v := undef) rfl (by kernel_rfl) (by kernel_rfl) (by kernel_rfl) (fun _ _ _ h => h) (Or.inr ⟨by rfl, rfl⟩) hHeld ?_
        try simp only [Act.put, List.setIfInBounds_toArray, List.set_cons_zero, List.set_cons_succ]
        refine wpAnyH_take (i := 10) (v := undef) rfl (by kernel_rfl) (by kernel_rfl) (by kernel_rfl) (fun _ _ _ h => h) (Or.inr ⟨by rfl, rfl⟩) hHeld ?_
        try simp only [Act.put, List.setIfInBounds_toArray, List.set_cons_zero, List.set_cons_succ]
        refine wpAnyH_take (i := 11) (v := undef) rfl (by kernel_rfl) (by kernel_rfl) (by kernel_rfl) (fun _ _ _ h => h) (Or.inr ⟨by rfl, rfl⟩) hHeld ?_
        try simp only [Act.put, List.setIfInBounds_toArray, List.set_cons_zero, List.set_cons_succ]
        refine wpAnyH_take (i := 12) (v := undef) rfl (by kernel_rfl) (by kernel_rfl) (by kernel_rfl) (fun _ _ _ h => h) (Or.inr ⟨by rfl, rfl⟩) hHeld ?_
        try simp only [Act.put, List.setIfInBounds_toArray, List.set_cons_zero, List.set_cons_succ]
        refine wpAnyH_take (i := 13) (v := undef) rfl (by kernel_rfl) (by kernel_rfl) (by kernel_rfl) (fun _ _ _ h => h) (Or.inr ⟨by rfl, rfl⟩) hHeld ?_
        try simp only [Act.put, List.setIfInBounds_toArray, List.set_cons_zero, List.set_cons_succ]
        refine wpAnyH_take (i := 14) (v := undef) rfl (by kernel_rfl) (by kernel_rfl) (by kernel_rfl) (fun _ _ _ h => h) (Or.inr ⟨by rfl, rfl⟩) hHeld ?_
        try simp only [Act.put, List.setIfInBounds_toArray, List.set_cons_zero, List.set_cons_succ]
        refine wpAnyH_take (i := 15) (v := undef) rfl (by kernel_rfl) (by kernel_rfl) (by kernel_rfl) (fun _ _ _ h => h) (Or.inr ⟨by rfl, rfl⟩) hHeld ?_
        try simp only [Act.put, List.setIfInBounds_toArray, List.set_cons_zero, List.set_cons_succ]
        refine wpAnyH_take (i := 16) (v := undef) rfl (by kernel_rfl) (by kernel_rfl) (by kernel_rfl) (fun _ _ _ h => h) (Or.inr ⟨by rfl, rfl⟩) hHeld ?_
        try simp only [Act.put, List.setIfInBounds_toArray, List.set_cons_zero, List.set_cons_succ]
        refine wpAnyH_take (i := 17) (v := ?_) rfl (by kernel_rfl) (by kernel_rfl) (by kernel_rfl) (fun _ _ _ h => h) (Or.inl ⟨by rfl, ?_⟩) hHeld ?_
        rotate_left
        · intro wz hSw
          try dsimp only at hSw
          first
          | (go_simp; done)
          | (go_simp; with_reducible rfl)
        try simp only [Act.put, List.setIfInBounds_toArray, List.set_cons_zero, List.set_cons_succ]
        refine wpAnyH_take (i := 18) (v := ?_) rfl (by kernel_rfl) (by kernel_rfl) (by kernel_rfl) (fun _ _ _ h => h) (Or.inl ⟨by rfl, ?_⟩) hHeld ?_
        rotate_left
        · intro wz hSw
          try dsimp only at hSw
          first
          | (go_simp; done)
          | (go_simp; with_reducible rfl)
        try simp only [Act.put, List.setIfInBounds_toArray, List.set_cons_zero, List.set_cons_succ]
        refine wpAnyH_done (by kernel_rfl) ?_ _
        go_wp2_with fail
        refine (hasText_any ns t _ _ _ _ Sn_42.out HT3.out).mono ?_
        rintro e w43 ⟨rfl, hb⟩
        have ba_43 := keep1 hb ba_42
        have va_43 := keep1 hb va_42
        have x1_43 := keep1 hb x1_42
        have Sa_43 := Lib.hid ((Sa_42.out.below hb).call hb.size)
        have Sn_43 := Lib.hid ((Sn_42.out.below hb).call hb.size)
        have Ss_43 := Lib.hid ((Ss_42.out.below hb).call hb.size)
        have Sp_43 := Lib.hid ((Sp_42.out.below hb).call hb.size)
        have HB_43 : Hid (Below w.heap.size w w43) := Lib.hid (HB_42.out.trans (hb.mono HB_42.out.size))
        clear hb  ba_42 va_42 x1_42 Sa_42 Sn_42 Ss_42 Sp_42 HB_42
        go_wp2
        go_roundw
        case rel => exact ⟨k + 1, by omega, by go_num, HB_43, Lib.hid ba_43, Lib.hid va_43, Sa_43, Sn_43, Ss_43⟩
        case measure => simp [intOf]; omega
    · obtain rfl : k = ss.length := by omega
      have hle : (ns.length : Int) ≤ (ss.length : Int) := by omega
      go_wp2
      go_ret
      exact ⟨rfl, hbel.out⟩

theorem lifted (os : Os) (started : os.Started) (H : Type) (enc : TypeId × Value → H) :
    ReturnsInHanded {} Try.checked os 4 .any (Rows.fnNamesInOrSpec.pre6 enc Try.prog Try.f4 Rows.fnNamesInOrRow.domain false) (Rows.fnNamesInOrSpec.post enc Try.prog Try.f4 false true false false) := by
  refine returnsInHanded_of_change (C := Try.checked) own started (by kernel_rfl) Try.func4
    (ChangeSpec.witness6 (enc := enc) (C := Try.checked) false ⟨#[], #[.slice none 0 0], []⟩ 8 (by kernel_rfl) (by kernel_rfl) (by kernel_rfl) (by kernel_rfl)) ?_
  intro W base args ds gs before hval0 hW hcnd _
  have hval : ∀ (j : Nat) t v, Try.f4.params[j]? = some t → args[j]? = some v → Value.okWide Try.prog W .any base t v := hval0
  have hW' := hW
  obtain ⟨p, q, hA0, hV, rfl, hfz, hnd⟩ := hW
  have hA : DataW.TrodAll enc Try.prog W 0 (fun _ => true) true Try.f4.params.toList args.toList ds p := hA0
  rw [Try.params4] at hA hval
  obtain ⟨v0, vs0, d0, ds0, p0, q0, hargs, rfl, rfl, h0, r0⟩ := trodAll_cons hA
  obtain ⟨rfl, rfl, rfl⟩ := trodAll_nil r0
  obtain rfl : args = #[v0] := by cases args; simp_all
  obtain ⟨rfl, rfl⟩ := trodVars_none hV
  have k0 := h0
  have lt0 : ∀ x ∈ p0, x.block < W.heap.size := by obtain ⟨m, hm⟩ := k0; exact DataW.trod_lt m _ _ _ hm
  obtain ⟨A0, n0, c0, l0, rfl, w0⟩ := open_code (hval 0 22 v0 rfl rfl) h0
  clear hA0 hval0
  refine (walk A0 n0 c0 l0 W w0).mono fun e W' ⟨he, bel⟩ => ?_
  subst he
  exact ⟨_, rfl, _, _, _, [], _, [], hW', trodAll_mk1 (shut_bool Try.underlying4 _), (trodAll_cons_mk (Below.trod laidOut (by kernel_rfl) (of_decide_eq_true (by kernel_rfl)) k0 bel lt0) trodAll_mk0), rfl, bel.frame _, fun h => by cases h⟩

theorem over : Rows.fnNamesInOrRow.holds Try.pinned (OpenSpec.ofChange Rows.fnNamesInOrSpec) :=
  OpenClaim.holds_of_wide 4 Try.f4 rfl rfl rfl rfl rfl rfl rfl ⟨rfl, rfl, rfl, rfl, rfl⟩ rfl rfl rfl rfl rfl (by kernel_rfl) Try.func4 (by kernel_rfl)
    (of_decide_eq_true (by kernel_rfl)) (by unfold Func.isWrapper; first | (rw [if_pos (by decide +kernel)]; kernel_rfl) | (rw [if_neg (by decide +kernel)]; exact ⟨rfl, rfl⟩))
    (fun os started H enc _ => lifted os started H enc)

theorem proved : Rows.FnNamesInOrSaid := over
end Go.Proofs.Ytmahjggkiikmgaa.fnNamesInOr
