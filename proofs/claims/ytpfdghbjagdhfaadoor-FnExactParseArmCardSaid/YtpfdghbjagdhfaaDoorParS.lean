import Derived.Test.YtpfdghbjagdhfaaDoorAuQ
import Derived.Test.YtpfdghbjagdhfaaDoorArtS
import Derived.Test.YtpfdghbjagdhfaaDoorBaseX
namespace Go.Proofs.YtpfdghbjagdhfaaDoor
open Go.RowKit Go.Maps
set_option linter.unusedVariables false
set_option linter.unusedSimpArgs false
set_option maxRecDepth 100000

theorem inv_at {u : ByteArray} (h : 0 < u.size) : isInv u = decide (u[0] = 33) := by
  have e : u.data.toList.head? = some u[0] := by
    rw [List.head?_eq_getElem?, Array.getElem?_toList]
    exact Array.getElem?_eq_getElem h
  unfold isInv
  rw [e]
  rw [Bool.eq_iff_iff, decide_eq_true_iff, decide_eq_true_iff]
  exact ⟨fun h => Option.some.inj h, fun h => by rw [h]⟩
theorem list_ne {u : ByteArray} (h : 0 < u.size) : (u.toList == []) = false := by
  rw [beq_eq_false_iff_ne]
  intro e
  have : u = ⟨#[]⟩ := nm_inj (by rw [e]; first | rfl | decide | simp [go_sem])
  rw [this] at h
  exact absurd h (by decide)
theorem size_zero {u : ByteArray} (h : ¬ 0 < u.size) : u = ⟨#[]⟩ := by
  apply ByteArray.ext
  apply Array.eq_empty_of_size_eq_zero
  show u.size = 0
  omega
theorem starNo {s : ByteArray} (h : s ≠ starB) : (s.toList == [42]) = false := by
  rw [beq_eq_false_iff_ne]
  intro e
  exact h (nm_inj (by rw [e]; first | rfl | decide | simp [starB, go_sem]))
theorem textNo {s t : ByteArray} (h : t ≠ s) : (t.toList == s.toList) = false := by
  rw [beq_eq_false_iff_ne]
  exact fun e => h (nm_inj e)
/-- What the model's parseArm returns. -/
def PaP (r : Option (Nat × Nat)) (w : World) (e : Ending) (w' : World) : Prop :=
  ∃ (p q : Nat) (v : Bool), e = .returned (.tuple #[.agg #[.int .i64 p, .int .i64 q], .bool v]) ∧ (v = true → r = some (p, q)) ∧ (v = false → r = none) ∧ Below w.heap.size w w'

set_option maxHeartbeats 32000000 in
theorem parseArm_v (ds : List D) (b : Int) (s : ByteArray) (A : Option Addr) (m c : Nat) (w : World) (hr : SD w w.heap.size A m c ds) (hs : s.size ≤ 1048576) (hv : vFlag ds b = true) :
    Calls Tryd.prog 48 #[.agg #[.slice A m c, .int .i64 b], .string s] w (PaP (mPar ds b s) w) := by
  have HF := Lib.hid (((FB.start hr b).alloc (.cells #[.int .i64 0, .int .i64 0] 27)).alloc (.cells #[.int .i64 0, .int .i64 0] 27))
  have HLM := Lib.hid hr.len
  have HIN := Lib.hid (vFlag_in hv)
  have HV := Lib.hid hv
  obtain ⟨W0, hw⟩ : ∃ W : World, W = (((w.alloc (.cells #[.slice A m c, .int .i64 b] 32)).alloc (.cells #[.int .i64 0, .int .i64 0] 27)).alloc (.cells #[.int .i64 0, .int .i64 0] 27)) := ⟨_, rfl⟩
  have HC0 : Hid (C2 W0 (w.heap.size + 1) (.int .i64 0) (.int .i64 0)) := Lib.hid (by rw [hw]; exact (c2New' _ _ _ _ _).low ((Below.refl _ _).alloc (Nat.le_refl _) _) (by simp))
  have HA0 : Hid (C2 W0 (w.heap.size + 1 + 1) (.int .i64 0) (.int .i64 0)) := Lib.hid (by
    have h := c2New ((w.alloc (.cells #[.slice A m c, .int .i64 b] 32)).alloc (.cells #[.int .i64 0, .int .i64 0] 27)) (.int .i64 0) (.int .i64 0) 27
    have e : ((w.alloc (.cells #[.slice A m c, .int .i64 b] 32)).alloc (.cells #[.int .i64 0, .int .i64 0] 27)).heap.size = w.heap.size + 1 + 1 := by simp
    rw [e] at h
    rw [hw]
    exact h)
  have hs0 : W0.heap.size = w.heap.size + 1 + 1 + 1 := by rw [hw]; simp
  rw [← hw] at HF
  have HW := Lib.hid hw.symm
  clear hr hv hw
  by_cases hst : s = starB
  · subst hst
    have HM : Hid (mPar ds b starB = some (0, 0)) := Lib.hid (by unfold mPar; rw [if_pos HV.out, if_pos rfl])
    generalize mPar ds b starB = r at *
    unfold starB
    go_enter Tryd.func48, Tryd.ntmps48
    go_wp2
    refine bodyPost_ret (v := .tuple #[.agg #[.int .i64 0, .int .i64 0], .bool true]) (by simp [results, Tryd.results48, go_sem]) rfl ⟨0, 0, true, rfl, fun _ => HM.out, fun h => (by cases h), ?_⟩
    repeat first | exact Below.refl _ _ | refine Below.setCell ?_ (by first | exact Nat.le_refl _ | (show w.heap.size ≤ _; omega)) _ | refine Below.alloc ?_ (by first | exact Nat.le_refl _ | (simp; done) | (simp; omega)) _
  have hsn := starNo hst
  have HSP := Lib.hid (fun w => splitAt_any s 32 32 rfl w hs)
  unfold StrsP at HSP
  have hwl := (splitT_len 32 s).1
  have HWS : Hid (∀ x ∈ splitT 32 s, x.size ≤ 1048576) := Lib.hid fun x hx => by have := splitT_size 32 s x hx; omega
  have HNR : Hid (arTo ds (splitT 32 s) 0 0 = none → mPar ds b s = none) := Lib.hid fun e => by unfold mPar; rw [if_pos HV.out, if_neg hst, e]
  have HER : Hid (∀ p q : Nat, arTo ds (splitT 32 s) 0 0 = some (p, q) → mPar ds b s = if mArmOk ds b ⟨p, q⟩ && decide (mArmT ds b ⟨p, q⟩ = s) then some (p, q) else none) := Lib.hid fun p q e => by unfold mPar; rw [if_pos HV.out, if_neg hst, e]
  generalize splitT 32 s = ws at *
  generalize mPar ds b s = r at *
  have HOKS : Hid (∀ x ∈ ws, x.size ≤ maxLen) := Lib.hid fun x hx => by have := HWS.out x hx; unfold maxLen; omega
  clear hst
  go_enter Tryd.func48, Tryd.ntmps48
  go_wp2_with fail
  rw [HW.out]
  clear HW
  refine (HSP.out _).mono ?_
  rintro e w1 ⟨A1, c1, rfl, ho, hb⟩
  have HO1 := Lib.hid ho
  have HF1 := Lib.hid (HF.out.call hb)
  have HC1 := Lib.hid (HC0.out.below hb)
  have HA1 := Lib.hid (HA0.out.below hb)
  have hs1 := hb.size
  clear ho hb HSP HF HC0 HA0
  go_wp2
  go_loopw [8] (fun i wr => ∃ (k p q : Nat), k ≤ ws.length ∧ p < 4096 ∧ q < 4096 ∧ i = .int .i64 k ∧ Hid (arAt ds ws k p q) ∧ Hid (wr.ownsRow W0.heap.size 9 1 (.slice A1 ws.length c1) ws.length (flatS ws)) ∧ Hid (FB w wr w.heap.size A m c ds b) ∧ Hid (C2 wr (w.heap.size + 1) (.int .i64 0) (.int .i64 0)) ∧ Hid (C2 wr (w.heap.size + 1 + 1) (.int .i64 p) (.int .i64 q)) ∧ W0.heap.size ≤ wr.heap.size) (fun i _ => ws.length - (intOf i).toNat)
  case atStart => exact ⟨0, 0, 0, Nat.zero_le _, by omega, by omega, rfl, Lib.hid (arAt_zero ds ws), HO1, HF1, HC1, HA1, hs1⟩
  case round =>
    clear HO1 HF1 HC1 HA1
    obtain ⟨k, p, q, hk, hp, hq, rfl, hst, hown, hf, hc, ha, hsz⟩ := hrel
    by_cases hlt : k < ws.length
    · obtain ⟨bb, o, hA, hbb, d1⟩ := (ss_of_own hown.out HOKS.out).at_ hlt
      subst hA
      have hi1 : (k : Int) < (ws.length : Int) := by omega
      have hi0 : (0 : Int) ≤ (k : Int) := by omega
      have hz := HWS.out _ (List.getElem_mem hlt)
      have HNO := Lib.hid (arAt_no hlt hst.out)
      have HIV := Lib.hid (fun d => arAt_inv (d := d) hlt hst.out)
      have HNT := Lib.hid (fun d => arAt_not (d := d) hlt hst.out)
      generalize ws[k] = u at *
      clear hst
      have c0 := hf.out.c0
      have NEB : Hid (∀ r, some r = (Value.slice (some ⟨bb, o, none⟩) ws.length c1).ownBlock → W0.heap.size ≤ r) := Lib.hid fun r e => (hown.out.lt r e.symm).1
      by_cases hu : 0 < u.size
      · have hne := list_ne hu
        have hu1 : (0 : Int) < (u.size : Int) := by omega
        have hu2 : (1 : Int) ≤ (u.size : Int) := by omega
        by_cases h33 : u[0] = 33
        · have e1 : ((u[0].toNat : Int) == 33) = true := by rw [h33]; rfl
          have hiv : isInv u = true := by rw [inv_at hu, decide_eq_true h33]
          have hbu : bareB u = u.extract 1 u.size := by unfold bareB; rw [if_pos hiv]
          have HI2 := Lib.hid hiv
          rw [hbu] at HNO HIV HNT
          rw [hiv] at HIV
          clear hiv h33 hbu HNT
          generalize hnm : u.extract 1 u.size = nm at *
          rcases fidx_cases (isNm nm) ds with ⟨hx, hno⟩ | ⟨j, hj, hx, hpj, hno⟩
          · have HX := Lib.hid hx
            have HN := Lib.hid (HNR.out (HNO.out (fnd_no hno)))
            obtain ⟨r0, r1, rf0, rf1⟩ := hc.out
            have HB3 := Lib.hid hf.out.bel
            clear hx hno HNO
            go_wp2_with (go_at_call 91; refine (indexOf_v ds nm _ _ _ _ hf.out.sd HX.out).mono ?_; rintro e w2 ⟨rfl, rfl⟩)
            exact bodyPost_ret (v := .tuple #[.agg #[.int .i64 0, .int .i64 0], .bool false]) (by simp [results, Tryd.results48, go_sem, r0, r1]) rfl ⟨0, 0, false, rfl, fun h => (by cases h), fun _ => HN.out, (HB3.out.setCell (by show w.heap.size ≤ w.heap.size + 1; omega) _).setCell (by show w.heap.size ≤ w.heap.size + 1; omega) _⟩
          · have HX := Lib.hid hx
            obtain ⟨bd, od, hA, hbd, d2, d3⟩ := hf.out.sd.at_ hj
            subst hA
            have HFD := Lib.hid (fnd_at hj hpj hno)
            obtain ⟨z, hz2⟩ : ∃ z : Nat, ds[j].val = z := ⟨ds[j].val.toNat, (Int.toNat_of_nonneg (HIN.out _ (List.getElem_mem hj)).1).symm⟩
            have hz4 : z < 4096 := by have := (HIN.out _ (List.getElem_mem hj)).2; omega
            have HST := Lib.hid (HIV.out ds[j] HFD.out rfl)
            rw [hz2, Int.toNat_natCast] at HST
            rw [hz2] at d3
            have hij : (j : Int) < (m : Int) := by have := HLM.out; omega
            have hij0 : (0 : Int) ≤ (j : Int) := by omega
            clear hx hno hz2 HNO HFD hpj
            have HOS : Hid ((wr.setCell ⟨w.heap.size + 1 + 1, 1, none⟩ (.int .i64 ((q ||| z : Nat) : Int))).drew.ownsRow W0.heap.size 9 1 (.slice (some ⟨bb, o, none⟩) ws.length c1) ws.length (flatS ws)) := Lib.hid (own_below (own_setCell hown.out (fun e => by have := NEB.out _ e.symm; simp only at this; omega) _) (Below.refl _ _).drew)
            obtain ⟨a0, a1, af0, af1⟩ := ha.out
            obtain ⟨t, ht⟩ : ∃ t, q ||| z = t := ⟨_, rfl⟩
            have htl : t < 4096 := by rw [← ht]; exact or_lt hq hz4
            have HEI := Lib.hid (fun w => either_any q z w hq hz4 ht)
            rw [ht] at HST HOS
            clear ht
            go_wp2_with (go_at_call 91; refine (indexOf_v ds nm _ _ _ _ hf.out.sd HX.out).mono ?_; rintro e w2 ⟨rfl, rfl⟩)
            go_region_with (first | (go_at_call 92; refine (HEI.out _).mono ?_; rintro e w6 ⟨rfl, rfl⟩))
            all_goals
              go_wp2
              go_roundw
              case rel => exact ⟨k + 1, p, t, by omega, hp, htl, by go_num, HST, HOS, Lib.hid (((hf.out.set (p := ⟨w.heap.size + 1 + 1, 1, none⟩) (by show w.heap.size ≤ w.heap.size + 1 + 1; omega) (by show w.heap.size + 1 + 1 ≠ w.heap.size; omega) _).drewN 1)), Lib.hid ((hc.out.setO (by simp) _).below (Below.refl _ _).drew), Lib.hid ((ha.out.set1 _).below (Below.refl _ _).drew), by simp; omega⟩
              case measure => simp [intOf]; omega
        · have e1 : ((u[0].toNat : Int) == 33) = false := by
            rw [beq_eq_false_iff_ne]
            intro e
            exact h33 (UInt8.toNat_inj.1 (by show u[0].toNat = 33; omega))
          have hiv : isInv u = false := by rw [inv_at hu, decide_eq_false h33]
          have hbu : bareB u = u := bare_plain hiv
          rw [hbu] at HNO HIV HNT
          rw [hiv] at HNT
          clear hiv h33 hbu HIV
          have hnm : u = u := rfl
          rcases fidx_cases (isNm u) ds with ⟨hx, hno⟩ | ⟨j, hj, hx, hpj, hno⟩
          · have HX := Lib.hid hx
            have HN := Lib.hid (HNR.out (HNO.out (fnd_no hno)))
            obtain ⟨r0, r1, rf0, rf1⟩ := hc.out
            have HB3 := Lib.hid hf.out.bel
            clear hx hno HNO
            go_wp2_with (go_at_call 91; refine (indexOf_v ds u _ _ _ _ hf.out.sd HX.out).mono ?_; rintro e w2 ⟨rfl, rfl⟩)
            exact bodyPost_ret (v := .tuple #[.agg #[.int .i64 0, .int .i64 0], .bool false]) (by simp [results, Tryd.results48, go_sem, r0, r1]) rfl ⟨0, 0, false, rfl, fun h => (by cases h), fun _ => HN.out, (HB3.out.setCell (by show w.heap.size ≤ w.heap.size + 1; omega) _).setCell (by show w.heap.size ≤ w.heap.size + 1; omega) _⟩
          · have HX := Lib.hid hx
            obtain ⟨bd, od, hA, hbd, d2, d3⟩ := hf.out.sd.at_ hj
            subst hA
            have HFD := Lib.hid (fnd_at hj hpj hno)
            obtain ⟨z, hz2⟩ : ∃ z : Nat, ds[j].val = z := ⟨ds[j].val.toNat, (Int.toNat_of_nonneg (HIN.out _ (List.getElem_mem hj)).1).symm⟩
            have hz4 : z < 4096 := by have := (HIN.out _ (List.getElem_mem hj)).2; omega
            have HST := Lib.hid (HNT.out ds[j] HFD.out rfl)
            rw [hz2, Int.toNat_natCast] at HST
            rw [hz2] at d3
            have hij : (j : Int) < (m : Int) := by have := HLM.out; omega
            have hij0 : (0 : Int) ≤ (j : Int) := by omega
            clear hx hno hz2 HNO HFD hpj
            have HOS : Hid ((wr.setCell ⟨w.heap.size + 1 + 1, 0, none⟩ (.int .i64 ((p ||| z : Nat) : Int))).drew.ownsRow W0.heap.size 9 1 (.slice (some ⟨bb, o, none⟩) ws.length c1) ws.length (flatS ws)) := Lib.hid (own_below (own_setCell hown.out (fun e => by have := NEB.out _ e.symm; simp only at this; omega) _) (Below.refl _ _).drew)
            obtain ⟨a0, a1, af0, af1⟩ := ha.out
            obtain ⟨t, ht⟩ : ∃ t, p ||| z = t := ⟨_, rfl⟩
            have htl : t < 4096 := by rw [← ht]; exact or_lt hp hz4
            have HEI := Lib.hid (fun w => either_any p z w hp hz4 ht)
            rw [ht] at HST HOS
            clear ht
            go_wp2_with (go_at_call 91; refine (indexOf_v ds u _ _ _ _ hf.out.sd HX.out).mono ?_; rintro e w2 ⟨rfl, rfl⟩)
            go_region_with (first | (go_at_call 92; refine (HEI.out _).mono ?_; rintro e w6 ⟨rfl, rfl⟩))
            all_goals
              go_wp2
              go_roundw
              case rel => exact ⟨k + 1, t, q, by omega, htl, hq, by go_num, HST, HOS, Lib.hid (((hf.out.set (p := ⟨w.heap.size + 1 + 1, 0, none⟩) (by show w.heap.size ≤ w.heap.size + 1 + 1; omega) (by show w.heap.size + 1 + 1 ≠ w.heap.size; omega) _).drewN 1)), Lib.hid ((hc.out.setO (by simp) _).below (Below.refl _ _).drew), Lib.hid ((ha.out.set0 _).below (Below.refl _ _).drew), by simp; omega⟩
              case measure => simp [intOf]; omega
      · have hue := size_zero hu
        subst hue
        have hiv : isInv (⟨#[]⟩ : ByteArray) = false := rfl
        have hbu : bareB (⟨#[]⟩ : ByteArray) = ⟨#[]⟩ := bare_plain hiv
        rw [hbu] at HNO HIV HNT
        rw [hiv] at HNT
        clear hiv hbu HIV hu
        rcases fidx_cases (isNm (⟨#[]⟩ : ByteArray)) ds with ⟨hx, hno⟩ | ⟨j, hj, hx, hpj, hno⟩
        · have HX := Lib.hid hx
          have HN := Lib.hid (HNR.out (HNO.out (fnd_no hno)))
          obtain ⟨r0, r1, rf0, rf1⟩ := hc.out
          have HB3 := Lib.hid hf.out.bel
          clear hx hno HNO
          go_wp2_with (go_at_call 91; refine (indexOf_v ds (⟨#[]⟩ : ByteArray) _ _ _ _ hf.out.sd HX.out).mono ?_; rintro e w2 ⟨rfl, rfl⟩)
          exact bodyPost_ret (v := .tuple #[.agg #[.int .i64 0, .int .i64 0], .bool false]) (by simp [results, Tryd.results48, go_sem, r0, r1]) rfl ⟨0, 0, false, rfl, fun h => (by cases h), fun _ => HN.out, (HB3.out.setCell (by show w.heap.size ≤ w.heap.size + 1; omega) _).setCell (by show w.heap.size ≤ w.heap.size + 1; omega) _⟩
        · have HX := Lib.hid hx
          obtain ⟨bd, od, hA, hbd, d2, d3⟩ := hf.out.sd.at_ hj
          subst hA
          have HFD := Lib.hid (fnd_at hj hpj hno)
          obtain ⟨z, hz2⟩ : ∃ z : Nat, ds[j].val = z := ⟨ds[j].val.toNat, (Int.toNat_of_nonneg (HIN.out _ (List.getElem_mem hj)).1).symm⟩
          have hz4 : z < 4096 := by have := (HIN.out _ (List.getElem_mem hj)).2; omega
          have HST := Lib.hid (HNT.out ds[j] HFD.out rfl)
          rw [hz2, Int.toNat_natCast] at HST
          rw [hz2] at d3
          have hij : (j : Int) < (m : Int) := by have := HLM.out; omega
          have hij0 : (0 : Int) ≤ (j : Int) := by omega
          clear hx hno hz2 HNO HFD hpj
          have HOS : Hid ((wr.setCell ⟨w.heap.size + 1 + 1, 0, none⟩ (.int .i64 ((p ||| z : Nat) : Int))).drew.ownsRow W0.heap.size 9 1 (.slice (some ⟨bb, o, none⟩) ws.length c1) ws.length (flatS ws)) := Lib.hid (own_below (own_setCell hown.out (fun e => by have := NEB.out _ e.symm; simp only at this; omega) _) (Below.refl _ _).drew)
          obtain ⟨a0, a1, af0, af1⟩ := ha.out
          obtain ⟨t, ht⟩ : ∃ t, p ||| z = t := ⟨_, rfl⟩
          have htl : t < 4096 := by rw [← ht]; exact or_lt hp hz4
          have HEI := Lib.hid (fun w => either_any p z w hp hz4 ht)
          rw [ht] at HST HOS
          clear ht
          go_wp2_with (go_at_call 91; refine (indexOf_v ds (⟨#[]⟩ : ByteArray) _ _ _ _ hf.out.sd HX.out).mono ?_; rintro e w2 ⟨rfl, rfl⟩)
          go_region_with (first | (go_at_call 92; refine (HEI.out _).mono ?_; rintro e w6 ⟨rfl, rfl⟩))
          all_goals
            go_wp2
            go_roundw
            case rel => exact ⟨k + 1, t, q, by omega, htl, hq, by go_num, HST, HOS, Lib.hid (((hf.out.set (p := ⟨w.heap.size + 1 + 1, 0, none⟩) (by show w.heap.size ≤ w.heap.size + 1 + 1; omega) (by show w.heap.size + 1 + 1 ≠ w.heap.size; omega) _).drewN 1)), Lib.hid ((hc.out.setO (by simp) _).below (Below.refl _ _).drew), Lib.hid ((ha.out.set0 _).below (Below.refl _ _).drew), by simp; omega⟩
            case measure => simp [intOf]; omega
    · obtain rfl : k = ws.length := by omega
      have hi9 : ¬ (ws.length : Int) < (ws.length : Int) := by omega
      have HE := Lib.hid (HER.out p q (arAt_end hst.out))
      obtain ⟨va, hva⟩ : ∃ t, mArm ds b ⟨p, q⟩ = t := ⟨_, rfl⟩
      obtain ⟨ct, hct⟩ : ∃ t, decide (nl (p ||| q) (mMask (mSg ds)) = 0) = t := ⟨_, rfl⟩
      have HVA := Lib.hid hva
      have HCT := Lib.hid hct
      have hok : mArmOk ds b ⟨p, q⟩ = (va && ct) := by rw [mArmOk_two]; simp only [Int.toNat_natCast]; rw [hva, hct]
      have htt : va = true → ct = true → mArmT ds b ⟨p, q⟩ = textA ds p q := fun e1 e2 => by unfold mArmT; rw [hok, e1, e2]; simp only [Int.toNat_natCast]; rfl
      have HTT := Lib.hid htt
      have HPQ : Hid (va = true → p &&& q = 0) := Lib.hid fun e => by
        obtain ⟨p', q', e1, e2, _, _, _, _, h⟩ := mArm_nat (show mArm ds b ⟨p, q⟩ = true by rw [hva, e])
        simp only at e1 e2
        have h1 : p = p' := by omega
        have h2 : q = q' := by omega
        rw [h1, h2]; exact h
      rw [hok] at HE
      clear hva hct hok htt hst
      obtain ⟨tx, htx⟩ : ∃ t, textA ds p q = t := ⟨_, rfl⟩
      have HTA := Lib.hid (fun (h : p &&& q = 0) (A : Option Addr) (m c : Nat) (w : World) (hr : SD w w.heap.size A m c ds) => armText_v ds b p q A m c w hr HV.out hp hq h)
      rw [htx] at HTA HTT
      clear htx
      have c0 := hf.out.c0
      have c1' := hf.out.c1
      obtain ⟨r0, r1, rf0, rf1⟩ := hc.out
      have a0 := ha.out.c0
      have a1 := ha.out.c1
      have HF3 := hf
      have HC3 := hc
      have HA3 := ha
      have c03 := c0
      have c13 := c1'
      have a03 := a0
      have a13 := a1
      cases va
      · have HN : Hid (r = none) := Lib.hid (by rw [HE.out]; rfl)
        go_wp2_with fail
        refine wp_region_held_drew (S := (fun w' => w'.cell? ⟨w.heap.size, 0, none⟩ = some (.slice A m c) ∧ w'.cell? ⟨w.heap.size, 1, none⟩ = some (.int .i64 b) ∧ w'.cell? ⟨w.heap.size + 1 + 1, 0, none⟩ = some (.int .i64 p) ∧ w'.cell? ⟨w.heap.size + 1 + 1, 1, none⟩ = some (.int .i64 q))) (by kernel_rfl) ⟨c03, c13, a03, a13⟩ (fun hHeld => ?_)
        refine wpAnyH_take (i := 0) (v := ?_) rfl (by kernel_rfl) (by kernel_rfl) (by kernel_rfl) (fun _ _ _ h => h) (Or.inl ⟨by kernel_rfl, ?_⟩) hHeld ?_
        rotate_left
        · intro wz hSw
          obtain ⟨s0, s1, s2, s3⟩ := hSw
          first
          | (go_simp; done)
          | (go_simp; with_reducible rfl)
          | (go_simp; omega)
        try simp only [Act.put, List.setIfInBounds_toArray, List.set_cons_zero, List.set_cons_succ]
        refine wpAnyH_take (i := 1) (v := ?_) rfl (by kernel_rfl) (by kernel_rfl) (by kernel_rfl) (fun _ _ _ h => h) (Or.inl ⟨by kernel_rfl, ?_⟩) hHeld ?_
        rotate_left
        · intro wz hSw
          obtain ⟨s0, s1, s2, s3⟩ := hSw
          first
          | (go_simp; done)
          | (go_simp; with_reducible rfl)
          | (go_simp; omega)
        try simp only [Act.put, List.setIfInBounds_toArray, List.set_cons_zero, List.set_cons_succ]
        refine wpAnyH_take (i := 2) (v := ?_) rfl (by kernel_rfl) (by kernel_rfl) (by kernel_rfl) (fun _ _ _ h => h) (Or.inl ⟨by kernel_rfl, ?_⟩) hHeld ?_
        rotate_left
        · intro wz hSw
          obtain ⟨s0, s1, s2, s3⟩ := hSw
          first
          | (go_simp; done)
          | (go_simp; with_reducible rfl)
          | (go_simp; omega)
        try simp only [Act.put, List.setIfInBounds_toArray, List.set_cons_zero, List.set_cons_succ]
        refine wpAnyH_ready (rs := [3]) (by kernel_rfl) (by simp) ?_
        refine AllReadyH.cons rfl (fun K hK => ?_) AllReadyH.nil
        go_simp
        refine (validArm_v ds b p q _ _ _ _ (by first | exact HF3.out.sd | exact (HF3.out.drewN _).sd) HVA.out).mono ?_
        rintro e w5 ⟨rfl, hb⟩
        replace hb : Below wr.heap.size wr w5 := (by first | exact hb | exact undrew hb)
        have HF5 := Lib.hid (HF3.out.call hb)
        have HC5 := Lib.hid (HC3.out.below hb)
        have HA5 := Lib.hid (HA3.out.below hb)
        have c05 := HF5.out.c0
        have c15 := HF5.out.c1
        have a05 := HA5.out.c0
        have a15 := HA5.out.c1
        obtain ⟨r05, r15, rf05, rf15⟩ := HC5.out
        clear hb
        go_simp
        refine hK.out _ _ ⟨c05, c15, a05, a15⟩ (fun hHeld => ?_)
        clear hK K
        try simp only [Act.put, List.setIfInBounds_toArray, List.set_cons_zero, List.set_cons_succ]
        refine wpAnyH_take (i := 4) (v := ?_) rfl (by kernel_rfl) (by kernel_rfl) (by kernel_rfl) (fun _ _ _ h => h) (Or.inl ⟨by kernel_rfl, ?_⟩) hHeld ?_
        rotate_left
        · intro wz hSw
          obtain ⟨s0, s1, s2, s3⟩ := hSw
          first
          | (go_simp; done)
          | (go_simp; with_reducible rfl)
          | (go_simp; omega)
        try simp only [Act.put, List.setIfInBounds_toArray, List.set_cons_zero, List.set_cons_succ]
        refine wpAnyH_take (i := 5) (v := undef) rfl (by kernel_rfl) (by kernel_rfl) (by kernel_rfl) (fun _ _ _ h => h) (Or.inr ⟨by kernel_rfl, rfl⟩) hHeld ?_
        try simp only [Act.put, List.setIfInBounds_toArray, List.set_cons_zero, List.set_cons_succ]
        refine wpAnyH_take (i := 6) (v := undef) rfl (by kernel_rfl) (by kernel_rfl) (by kernel_rfl) (fun _ _ _ h => h) (Or.inr ⟨by kernel_rfl, rfl⟩) hHeld ?_
        try simp only [Act.put, List.setIfInBounds_toArray, List.set_cons_zero, List.set_cons_succ]
        refine wpAnyH_take (i := 7) (v := undef) rfl (by kernel_rfl) (by kernel_rfl) (by kernel_rfl) (fun _ _ _ h => h) (Or.inr ⟨by kernel_rfl, rfl⟩) hHeld ?_
        try simp only [Act.put, List.setIfInBounds_toArray, List.set_cons_zero, List.set_cons_succ]
        refine wpAnyH_take (i := 8) (v := ?_) rfl (by kernel_rfl) (by kernel_rfl) (by kernel_rfl) (fun _ _ _ h => h) (Or.inl ⟨by kernel_rfl, ?_⟩) hHeld ?_
        rotate_left
        · intro wz hSw
          obtain ⟨s0, s1, s2, s3⟩ := hSw
          first
          | (go_simp; done)
          | (go_simp; with_reducible rfl)
          | (go_simp; omega)
        try simp only [Act.put, List.setIfInBounds_toArray, List.set_cons_zero, List.set_cons_succ]
        refine wpAnyH_take (i := 9) (v := ?_) rfl (by kernel_rfl) (by kernel_rfl) (by kernel_rfl) (fun _ _ _ h => h) (Or.inl ⟨by kernel_rfl, ?_⟩) hHeld ?_
        rotate_left
        · intro wz hSw
          obtain ⟨s0, s1, s2, s3⟩ := hSw
          first
          | (go_simp; done)
          | (go_simp; with_reducible rfl)
          | (go_simp; omega)
        try simp only [Act.put, List.setIfInBounds_toArray, List.set_cons_zero, List.set_cons_succ]
        refine wpAnyH_take (i := 10) (v := undef) rfl (by kernel_rfl) (by kernel_rfl) (by kernel_rfl) (fun _ _ _ h => h) (Or.inr ⟨by kernel_rfl, rfl⟩) hHeld ?_
        try simp only [Act.put, List.setIfInBounds_toArray, List.set_cons_zero, List.set_cons_succ]
        refine wpAnyH_take (i := 11) (v := undef) rfl (by kernel_rfl) (by kernel_rfl) (by kernel_rfl) (fun _ _ _ h => h) (Or.inr ⟨by kernel_rfl, rfl⟩) hHeld ?_
        try simp only [Act.put, List.setIfInBounds_toArray, List.set_cons_zero, List.set_cons_succ]
        refine wpAnyH_take (i := 12) (v := undef) rfl (by kernel_rfl) (by kernel_rfl) (by kernel_rfl) (fun _ _ _ h => h) (Or.inr ⟨by kernel_rfl, rfl⟩) hHeld ?_
        try simp only [Act.put, List.setIfInBounds_toArray, List.set_cons_zero, List.set_cons_succ]
        refine wpAnyH_take (i := 13) (v := undef) rfl (by kernel_rfl) (by kernel_rfl) (by kernel_rfl) (fun _ _ _ h => h) (Or.inr ⟨by kernel_rfl, rfl⟩) hHeld ?_
        try simp only [Act.put, List.setIfInBounds_toArray, List.set_cons_zero, List.set_cons_succ]
        refine wpAnyH_take (i := 14) (v := undef) rfl (by kernel_rfl) (by kernel_rfl) (by kernel_rfl) (fun _ _ _ h => h) (Or.inr ⟨by kernel_rfl, rfl⟩) hHeld ?_
        try simp only [Act.put, List.setIfInBounds_toArray, List.set_cons_zero, List.set_cons_succ]
        refine wpAnyH_take (i := 15) (v := ?_) rfl (by kernel_rfl) (by kernel_rfl) (by kernel_rfl) (fun _ _ _ h => h) (Or.inl ⟨by kernel_rfl, ?_⟩) hHeld ?_
        rotate_left
        · intro wz hSw
          obtain ⟨s0, s1, s2, s3⟩ := hSw
          first
          | (go_simp; done)
          | (go_simp; with_reducible rfl)
          | (go_simp; omega)
        try simp only [Act.put, List.setIfInBounds_toArray, List.set_cons_zero, List.set_cons_succ]
        refine wpAnyH_ready (rs := [16]) (by kernel_rfl) (by simp) ?_
        refine AllReadyH.cons rfl (fun K hK => ?_) AllReadyH.nil
        go_simp
        have HFS := Lib.hid ((HF5.out.set (p := ⟨w.heap.size + 1, 0, none⟩) (by show w.heap.size ≤ w.heap.size + 1; omega) (by show w.heap.size + 1 ≠ w.heap.size; omega) (.int .i64 (p : Int))).set (p := ⟨w.heap.size + 1, 1, none⟩) (by show w.heap.size ≤ w.heap.size + 1; omega) (by show w.heap.size + 1 ≠ w.heap.size; omega) (.int .i64 (q : Int)))
        have HCS := Lib.hid ((HC5.out.set0 (.int .i64 (p : Int))).set1 (.int .i64 (q : Int)))
        have HAS := Lib.hid ((HA5.out.setO (p := ⟨w.heap.size + 1, 0, none⟩) (by simp) (.int .i64 (p : Int))).setO (p := ⟨w.heap.size + 1, 1, none⟩) (by simp) (.int .i64 (q : Int)))
        refine hK.out _ _ ⟨HFS.out.c0, HFS.out.c1, HAS.out.c0, HAS.out.c1⟩ (fun hHeld => ?_)
        clear hK K
        obtain ⟨q0, q1, qf0, qf1⟩ := HCS.out
        try simp only [Act.put, List.setIfInBounds_toArray, List.set_cons_zero, List.set_cons_succ]
        refine wpAnyH_take (i := 17) (v := ?_) rfl (by kernel_rfl) (by kernel_rfl) (by kernel_rfl) (fun _ _ _ h => h) (Or.inl ⟨by kernel_rfl, ?_⟩) hHeld ?_
        rotate_left
        · intro wz hSw
          obtain ⟨s0, s1, s2, s3⟩ := hSw
          first
          | (go_simp; done)
          | (go_simp; with_reducible rfl)
          | (go_simp; omega)
        try simp only [Act.put, List.setIfInBounds_toArray, List.set_cons_zero, List.set_cons_succ]
        refine wpAnyH_done (by kernel_rfl) ?_ _
        try go_simp
        have HBS := Lib.hid HFS.out.bel
        go_wp2
        exact bodyPost_ret (v := .tuple #[.agg #[.int .i64 p, .int .i64 q], .bool false]) (by simp [results, Tryd.results48, go_sem, q0, q1]) rfl ⟨p, q, false, rfl, fun h => (by cases h), fun h => HN.out, HBS.out⟩
      · cases ct
        · have HN : Hid (r = none) := Lib.hid (by rw [HE.out]; rfl)
          go_wp2_with fail
          refine wp_region_held_drew (S := (fun w' => w'.cell? ⟨w.heap.size, 0, none⟩ = some (.slice A m c) ∧ w'.cell? ⟨w.heap.size, 1, none⟩ = some (.int .i64 b) ∧ w'.cell? ⟨w.heap.size + 1 + 1, 0, none⟩ = some (.int .i64 p) ∧ w'.cell? ⟨w.heap.size + 1 + 1, 1, none⟩ = some (.int .i64 q))) (by kernel_rfl) ⟨c03, c13, a03, a13⟩ (fun hHeld => ?_)
          refine wpAnyH_take (i := 0) (v := ?_) rfl (by kernel_rfl) (by kernel_rfl) (by kernel_rfl) (fun _ _ _ h => h) (Or.inl ⟨by kernel_rfl, ?_⟩) hHeld ?_
          rotate_left
          · intro wz hSw
            obtain ⟨s0, s1, s2, s3⟩ := hSw
            first
            | (go_simp; done)
            | (go_simp; with_reducible rfl)
            | (go_simp; omega)
          try simp only [Act.put, List.setIfInBounds_toArray, List.set_cons_zero, List.set_cons_succ]
          refine wpAnyH_take (i := 1) (v := ?_) rfl (by kernel_rfl) (by kernel_rfl) (by kernel_rfl) (fun _ _ _ h => h) (Or.inl ⟨by kernel_rfl, ?_⟩) hHeld ?_
          rotate_left
          · intro wz hSw
            obtain ⟨s0, s1, s2, s3⟩ := hSw
            first
            | (go_simp; done)
            | (go_simp; with_reducible rfl)
            | (go_simp; omega)
          try simp only [Act.put, List.setIfInBounds_toArray, List.set_cons_zero, List.set_cons_succ]
          refine wpAnyH_take (i := 2) (v := ?_) rfl (by kernel_rfl) (by kernel_rfl) (by kernel_rfl) (fun _ _ _ h => h) (Or.inl ⟨by kernel_rfl, ?_⟩) hHeld ?_
          rotate_left
          · intro wz hSw
            obtain ⟨s0, s1, s2, s3⟩ := hSw
            first
            | (go_simp; done)
            | (go_simp; with_reducible rfl)
            | (go_simp; omega)
          try simp only [Act.put, List.setIfInBounds_toArray, List.set_cons_zero, List.set_cons_succ]
          refine wpAnyH_ready (rs := [3]) (by kernel_rfl) (by simp) ?_
          refine AllReadyH.cons rfl (fun K hK => ?_) AllReadyH.nil
          go_simp
          refine (validArm_v ds b p q _ _ _ _ (by first | exact HF3.out.sd | exact (HF3.out.drewN _).sd) HVA.out).mono ?_
          rintro e w5 ⟨rfl, hb⟩
          replace hb : Below wr.heap.size wr w5 := (by first | exact hb | exact undrew hb)
          have HF5 := Lib.hid (HF3.out.call hb)
          have HC5 := Lib.hid (HC3.out.below hb)
          have HA5 := Lib.hid (HA3.out.below hb)
          have c05 := HF5.out.c0
          have c15 := HF5.out.c1
          have a05 := HA5.out.c0
          have a15 := HA5.out.c1
          obtain ⟨r05, r15, rf05, rf15⟩ := HC5.out
          clear hb
          go_simp
          refine hK.out _ _ ⟨c05, c15, a05, a15⟩ (fun hHeld => ?_)
          clear hK K
          try simp only [Act.put, List.setIfInBounds_toArray, List.set_cons_zero, List.set_cons_succ]
          refine wpAnyH_take (i := 4) (v := ?_) rfl (by kernel_rfl) (by kernel_rfl) (by kernel_rfl) (fun _ _ _ h => h) (Or.inl ⟨by kernel_rfl, ?_⟩) hHeld ?_
          rotate_left
          · intro wz hSw
            obtain ⟨s0, s1, s2, s3⟩ := hSw
            first
            | (go_simp; done)
            | (go_simp; with_reducible rfl)
            | (go_simp; omega)
          try simp only [Act.put, List.setIfInBounds_toArray, List.set_cons_zero, List.set_cons_succ]
          refine wpAnyH_take (i := 5) (v := ?_) rfl (by kernel_rfl) (by kernel_rfl) (by kernel_rfl) (fun _ _ _ h => h) (Or.inl ⟨by kernel_rfl, ?_⟩) hHeld ?_
          rotate_left
          · intro wz hSw
            obtain ⟨s0, s1, s2, s3⟩ := hSw
            first
            | (go_simp; done)
            | (go_simp; with_reducible rfl)
            | (go_simp; omega)
          try simp only [Act.put, List.setIfInBounds_toArray, List.set_cons_zero, List.set_cons_succ]
          refine wpAnyH_take (i := 6) (v := ?_) rfl (by kernel_rfl) (by kernel_rfl) (by kernel_rfl) (fun _ _ _ h => h) (Or.inl ⟨by kernel_rfl, ?_⟩) hHeld ?_
          rotate_left
          · intro wz hSw
            obtain ⟨s0, s1, s2, s3⟩ := hSw
            first
            | (go_simp; done)
            | (go_simp; with_reducible rfl)
            | (go_simp; omega)
          try simp only [Act.put, List.setIfInBounds_toArray, List.set_cons_zero, List.set_cons_succ]
          refine wpAnyH_ready (rs := [7]) (by kernel_rfl) (by simp) ?_
          refine AllReadyH.cons rfl (fun K hK => ?_) AllReadyH.nil
          go_simp
          refine (canTell_v ds b p q _ _ _ _ (by first | exact HF5.out.sd | exact (HF5.out.drewN _).sd) HV.out hp hq HCT.out).mono ?_
          rintro e w6 ⟨rfl, hb⟩
          replace hb : Below w5.heap.size w5 w6 := (by first | exact hb | exact undrew hb)
          have HF6 := Lib.hid (HF5.out.call hb)
          have HC6 := Lib.hid (HC5.out.below hb)
          have HA6 := Lib.hid (HA5.out.below hb)
          have c06 := HF6.out.c0
          have c16 := HF6.out.c1
          have a06 := HA6.out.c0
          have a16 := HA6.out.c1
          obtain ⟨r06, r16, rf06, rf16⟩ := HC6.out
          clear hb
          go_simp
          refine hK.out _ _ ⟨c06, c16, a06, a16⟩ (fun hHeld => ?_)
          clear hK K
          try simp only [Act.put, List.setIfInBounds_toArray, List.set_cons_zero, List.set_cons_succ]
          refine wpAnyH_take (i := 8) (v := ?_) rfl (by kernel_rfl) (by kernel_rfl) (by kernel_rfl) (fun _ _ _ h => h) (Or.inl ⟨by kernel_rfl, ?_⟩) hHeld ?_
          rotate_left
          · intro wz hSw
            obtain ⟨s0, s1, s2, s3⟩ := hSw
            first
            | (go_simp; done)
            | (go_simp; with_reducible rfl)
            | (go_simp; omega)
          try simp only [Act.put, List.setIfInBounds_toArray, List.set_cons_zero, List.set_cons_succ]
          refine wpAnyH_take (i := 9) (v := ?_) rfl (by kernel_rfl) (by kernel_rfl) (by kernel_rfl) (fun _ _ _ h => h) (Or.inl ⟨by kernel_rfl, ?_⟩) hHeld ?_
          rotate_left
          · intro wz hSw
            obtain ⟨s0, s1, s2, s3⟩ := hSw
            first
            | (go_simp; done)
            | (go_simp; with_reducible rfl)
            | (go_simp; omega)
          try simp only [Act.put, List.setIfInBounds_toArray, List.set_cons_zero, List.set_cons_succ]
          refine wpAnyH_take (i := 10) (v := undef) rfl (by kernel_rfl) (by kernel_rfl) (by kernel_rfl) (fun _ _ _ h => h) (Or.inr ⟨by kernel_rfl, rfl⟩) hHeld ?_
          try simp only [Act.put, List.setIfInBounds_toArray, List.set_cons_zero, List.set_cons_succ]
          refine wpAnyH_take (i := 11) (v := undef) rfl (by kernel_rfl) (by kernel_rfl) (by kernel_rfl) (fun _ _ _ h => h) (Or.inr ⟨by kernel_rfl, rfl⟩) hHeld ?_
          try simp only [Act.put, List.setIfInBounds_toArray, List.set_cons_zero, List.set_cons_succ]
          refine wpAnyH_take (i := 12) (v := undef) rfl (by kernel_rfl) (by kernel_rfl) (by kernel_rfl) (fun _ _ _ h => h) (Or.inr ⟨by kernel_rfl, rfl⟩) hHeld ?_
          try simp only [Act.put, List.setIfInBounds_toArray, List.set_cons_zero, List.set_cons_succ]
          refine wpAnyH_take (i := 13) (v := undef) rfl (by kernel_rfl) (by kernel_rfl) (by kernel_rfl) (fun _ _ _ h => h) (Or.inr ⟨by kernel_rfl, rfl⟩) hHeld ?_
          try simp only [Act.put, List.setIfInBounds_toArray, List.set_cons_zero, List.set_cons_succ]
          refine wpAnyH_take (i := 14) (v := undef) rfl (by kernel_rfl) (by kernel_rfl) (by kernel_rfl) (fun _ _ _ h => h) (Or.inr ⟨by kernel_rfl, rfl⟩) hHeld ?_
          try simp only [Act.put, List.setIfInBounds_toArray, List.set_cons_zero, List.set_cons_succ]
          refine wpAnyH_take (i := 15) (v := ?_) rfl (by kernel_rfl) (by kernel_rfl) (by kernel_rfl) (fun _ _ _ h => h) (Or.inl ⟨by kernel_rfl, ?_⟩) hHeld ?_
          rotate_left
          · intro wz hSw
            obtain ⟨s0, s1, s2, s3⟩ := hSw
            first
            | (go_simp; done)
            | (go_simp; with_reducible rfl)
            | (go_simp; omega)
          try simp only [Act.put, List.setIfInBounds_toArray, List.set_cons_zero, List.set_cons_succ]
          refine wpAnyH_ready (rs := [16]) (by kernel_rfl) (by simp) ?_
          refine AllReadyH.cons rfl (fun K hK => ?_) AllReadyH.nil
          go_simp
          have HFS := Lib.hid ((HF6.out.set (p := ⟨w.heap.size + 1, 0, none⟩) (by show w.heap.size ≤ w.heap.size + 1; omega) (by show w.heap.size + 1 ≠ w.heap.size; omega) (.int .i64 (p : Int))).set (p := ⟨w.heap.size + 1, 1, none⟩) (by show w.heap.size ≤ w.heap.size + 1; omega) (by show w.heap.size + 1 ≠ w.heap.size; omega) (.int .i64 (q : Int)))
          have HCS := Lib.hid ((HC6.out.set0 (.int .i64 (p : Int))).set1 (.int .i64 (q : Int)))
          have HAS := Lib.hid ((HA6.out.setO (p := ⟨w.heap.size + 1, 0, none⟩) (by simp) (.int .i64 (p : Int))).setO (p := ⟨w.heap.size + 1, 1, none⟩) (by simp) (.int .i64 (q : Int)))
          refine hK.out _ _ ⟨HFS.out.c0, HFS.out.c1, HAS.out.c0, HAS.out.c1⟩ (fun hHeld => ?_)
          clear hK K
          obtain ⟨q0, q1, qf0, qf1⟩ := HCS.out
          try simp only [Act.put, List.setIfInBounds_toArray, List.set_cons_zero, List.set_cons_succ]
          refine wpAnyH_take (i := 17) (v := ?_) rfl (by kernel_rfl) (by kernel_rfl) (by kernel_rfl) (fun _ _ _ h => h) (Or.inl ⟨by kernel_rfl, ?_⟩) hHeld ?_
          rotate_left
          · intro wz hSw
            obtain ⟨s0, s1, s2, s3⟩ := hSw
            first
            | (go_simp; done)
            | (go_simp; with_reducible rfl)
            | (go_simp; omega)
          try simp only [Act.put, List.setIfInBounds_toArray, List.set_cons_zero, List.set_cons_succ]
          refine wpAnyH_done (by kernel_rfl) ?_ _
          try go_simp
          have HBS := Lib.hid HFS.out.bel
          go_wp2
          exact bodyPost_ret (v := .tuple #[.agg #[.int .i64 p, .int .i64 q], .bool false]) (by simp [results, Tryd.results48, go_sem, q0, q1]) rfl ⟨p, q, false, rfl, fun h => (by cases h), fun h => HN.out, HBS.out⟩
        · have HT2 : Hid (mArmT ds b ⟨p, q⟩ = tx) := Lib.hid (HTT.out rfl rfl)
          by_cases htx : tx = s
          · have HN : Hid (r = some (p, q)) := Lib.hid (by rw [HE.out, HT2.out, htx]; simp)
            subst htx
            go_wp2_with fail
            refine wp_region_held_drew (S := (fun w' => w'.cell? ⟨w.heap.size, 0, none⟩ = some (.slice A m c) ∧ w'.cell? ⟨w.heap.size, 1, none⟩ = some (.int .i64 b) ∧ w'.cell? ⟨w.heap.size + 1 + 1, 0, none⟩ = some (.int .i64 p) ∧ w'.cell? ⟨w.heap.size + 1 + 1, 1, none⟩ = some (.int .i64 q))) (by kernel_rfl) ⟨c03, c13, a03, a13⟩ (fun hHeld => ?_)
            refine wpAnyH_take (i := 0) (v := ?_) rfl (by kernel_rfl) (by kernel_rfl) (by kernel_rfl) (fun _ _ _ h => h) (Or.inl ⟨by kernel_rfl, ?_⟩) hHeld ?_
            rotate_left
            · intro wz hSw
              obtain ⟨s0, s1, s2, s3⟩ := hSw
              first
              | (go_simp; done)
              | (go_simp; with_reducible rfl)
              | (go_simp; omega)
            try simp only [Act.put, List.setIfInBounds_toArray, List.set_cons_zero, List.set_cons_succ]
            refine wpAnyH_take (i := 1) (v := ?_) rfl (by kernel_rfl) (by kernel_rfl) (by kernel_rfl) (fun _ _ _ h => h) (Or.inl ⟨by kernel_rfl, ?_⟩) hHeld ?_
            rotate_left
            · intro wz hSw
              obtain ⟨s0, s1, s2, s3⟩ := hSw
              first
              | (go_simp; done)
              | (go_simp; with_reducible rfl)
              | (go_simp; omega)
            try simp only [Act.put, List.setIfInBounds_toArray, List.set_cons_zero, List.set_cons_succ]
            refine wpAnyH_take (i := 2) (v := ?_) rfl (by kernel_rfl) (by kernel_rfl) (by kernel_rfl) (fun _ _ _ h => h) (Or.inl ⟨by kernel_rfl, ?_⟩) hHeld ?_
            rotate_left
            · intro wz hSw
              obtain ⟨s0, s1, s2, s3⟩ := hSw
              first
              | (go_simp; done)
              | (go_simp; with_reducible rfl)
              | (go_simp; omega)
            try simp only [Act.put, List.setIfInBounds_toArray, List.set_cons_zero, List.set_cons_succ]
            refine wpAnyH_ready (rs := [3]) (by kernel_rfl) (by simp) ?_
            refine AllReadyH.cons rfl (fun K hK => ?_) AllReadyH.nil
            go_simp
            refine (validArm_v ds b p q _ _ _ _ (by first | exact HF3.out.sd | exact (HF3.out.drewN _).sd) HVA.out).mono ?_
            rintro e w5 ⟨rfl, hb⟩
            replace hb : Below wr.heap.size wr w5 := (by first | exact hb | exact undrew hb)
            have HF5 := Lib.hid (HF3.out.call hb)
            have HC5 := Lib.hid (HC3.out.below hb)
            have HA5 := Lib.hid (HA3.out.below hb)
            have c05 := HF5.out.c0
            have c15 := HF5.out.c1
            have a05 := HA5.out.c0
            have a15 := HA5.out.c1
            obtain ⟨r05, r15, rf05, rf15⟩ := HC5.out
            clear hb
            go_simp
            refine hK.out _ _ ⟨c05, c15, a05, a15⟩ (fun hHeld => ?_)
            clear hK K
            try simp only [Act.put, List.setIfInBounds_toArray, List.set_cons_zero, List.set_cons_succ]
            refine wpAnyH_take (i := 4) (v := ?_) rfl (by kernel_rfl) (by kernel_rfl) (by kernel_rfl) (fun _ _ _ h => h) (Or.inl ⟨by kernel_rfl, ?_⟩) hHeld ?_
            rotate_left
            · intro wz hSw
              obtain ⟨s0, s1, s2, s3⟩ := hSw
              first
              | (go_simp; done)
              | (go_simp; with_reducible rfl)
              | (go_simp; omega)
            try simp only [Act.put, List.setIfInBounds_toArray, List.set_cons_zero, List.set_cons_succ]
            refine wpAnyH_take (i := 5) (v := ?_) rfl (by kernel_rfl) (by kernel_rfl) (by kernel_rfl) (fun _ _ _ h => h) (Or.inl ⟨by kernel_rfl, ?_⟩) hHeld ?_
            rotate_left
            · intro wz hSw
              obtain ⟨s0, s1, s2, s3⟩ := hSw
              first
              | (go_simp; done)
              | (go_simp; with_reducible rfl)
              | (go_simp; omega)
            try simp only [Act.put, List.setIfInBounds_toArray, List.set_cons_zero, List.set_cons_succ]
            refine wpAnyH_take (i := 6) (v := ?_) rfl (by kernel_rfl) (by kernel_rfl) (by kernel_rfl) (fun _ _ _ h => h) (Or.inl ⟨by kernel_rfl, ?_⟩) hHeld ?_
            rotate_left
            · intro wz hSw
              obtain ⟨s0, s1, s2, s3⟩ := hSw
              first
              | (go_simp; done)
              | (go_simp; with_reducible rfl)
              | (go_simp; omega)
            try simp only [Act.put, List.setIfInBounds_toArray, List.set_cons_zero, List.set_cons_succ]
            refine wpAnyH_ready (rs := [7]) (by kernel_rfl) (by simp) ?_
            refine AllReadyH.cons rfl (fun K hK => ?_) AllReadyH.nil
            go_simp
            refine (canTell_v ds b p q _ _ _ _ (by first | exact HF5.out.sd | exact (HF5.out.drewN _).sd) HV.out hp hq HCT.out).mono ?_
            rintro e w6 ⟨rfl, hb⟩
            replace hb : Below w5.heap.size w5 w6 := (by first | exact hb | exact undrew hb)
            have HF6 := Lib.hid (HF5.out.call hb)
            have HC6 := Lib.hid (HC5.out.below hb)
            have HA6 := Lib.hid (HA5.out.below hb)
            have c06 := HF6.out.c0
            have c16 := HF6.out.c1
            have a06 := HA6.out.c0
            have a16 := HA6.out.c1
            obtain ⟨r06, r16, rf06, rf16⟩ := HC6.out
            clear hb
            go_simp
            refine hK.out _ _ ⟨c06, c16, a06, a16⟩ (fun hHeld => ?_)
            clear hK K
            try simp only [Act.put, List.setIfInBounds_toArray, List.set_cons_zero, List.set_cons_succ]
            refine wpAnyH_take (i := 8) (v := ?_) rfl (by kernel_rfl) (by kernel_rfl) (by kernel_rfl) (fun _ _ _ h => h) (Or.inl ⟨by kernel_rfl, ?_⟩) hHeld ?_
            rotate_left
            · intro wz hSw
              obtain ⟨s0, s1, s2, s3⟩ := hSw
              first
              | (go_simp; done)
              | (go_simp; with_reducible rfl)
              | (go_simp; omega)
            try simp only [Act.put, List.setIfInBounds_toArray, List.set_cons_zero, List.set_cons_succ]
            refine wpAnyH_take (i := 9) (v := ?_) rfl (by kernel_rfl) (by kernel_rfl) (by kernel_rfl) (fun _ _ _ h => h) (Or.inl ⟨by kernel_rfl, ?_⟩) hHeld ?_
            rotate_left
            · intro wz hSw
              obtain ⟨s0, s1, s2, s3⟩ := hSw
              first
              | (go_simp; done)
              | (go_simp; with_reducible rfl)
              | (go_simp; omega)
            try simp only [Act.put, List.setIfInBounds_toArray, List.set_cons_zero, List.set_cons_succ]
            refine wpAnyH_take (i := 10) (v := ?_) rfl (by kernel_rfl) (by kernel_rfl) (by kernel_rfl) (fun _ _ _ h => h) (Or.inl ⟨by kernel_rfl, ?_⟩) hHeld ?_
            rotate_left
            · intro wz hSw
              obtain ⟨s0, s1, s2, s3⟩ := hSw
              first
              | (go_simp; done)
              | (go_simp; with_reducible rfl)
              | (go_simp; omega)
            try simp only [Act.put, List.setIfInBounds_toArray, List.set_cons_zero, List.set_cons_succ]
            refine wpAnyH_take (i := 11) (v := ?_) rfl (by kernel_rfl) (by kernel_rfl) (by kernel_rfl) (fun _ _ _ h => h) (Or.inl ⟨by kernel_rfl, ?_⟩) hHeld ?_
            rotate_left
            · intro wz hSw
              obtain ⟨s0, s1, s2, s3⟩ := hSw
              first
              | (go_simp; done)
              | (go_simp; with_reducible rfl)
              | (go_simp; omega)
            try simp only [Act.put, List.setIfInBounds_toArray, List.set_cons_zero, List.set_cons_succ]
            refine wpAnyH_take (i := 13) (v := ?_) rfl (by kernel_rfl) (by kernel_rfl) (by kernel_rfl) (fun _ _ _ h => h) (Or.inl ⟨by kernel_rfl, ?_⟩) hHeld ?_
            rotate_left
            · intro wz hSw
              obtain ⟨s0, s1, s2, s3⟩ := hSw
              first
              | (go_simp; done)
              | (go_simp; with_reducible rfl)
              | (go_simp; omega)
            try simp only [Act.put, List.setIfInBounds_toArray, List.set_cons_zero, List.set_cons_succ]
            refine wpAnyH_ready (rs := [12]) (by kernel_rfl) (by simp) ?_
            refine AllReadyH.cons rfl (fun K hK => ?_) AllReadyH.nil
            go_simp
            refine (HTA.out (HPQ.out (by first | rfl | trivial)) _ _ _ _ (by first | exact HF6.out.sd | exact (HF6.out.drewN _).sd)).mono ?_
            rintro e w7 ⟨rfl, hb⟩
            replace hb : Below w6.heap.size w6 w7 := (by first | exact hb | exact undrew hb)
            have HF7 := Lib.hid (HF6.out.call hb)
            have HC7 := Lib.hid (HC6.out.below hb)
            have HA7 := Lib.hid (HA6.out.below hb)
            have c07 := HF7.out.c0
            have c17 := HF7.out.c1
            have a07 := HA7.out.c0
            have a17 := HA7.out.c1
            obtain ⟨r07, r17, rf07, rf17⟩ := HC7.out
            clear hb
            go_simp
            refine hK.out _ _ ⟨c07, c17, a07, a17⟩ (fun hHeld => ?_)
            clear hK K
            try simp only [Act.put, List.setIfInBounds_toArray, List.set_cons_zero, List.set_cons_succ]
            refine wpAnyH_take (i := 14) (v := ?_) rfl (by kernel_rfl) (by kernel_rfl) (by kernel_rfl) (fun _ _ _ h => h) (Or.inl ⟨by kernel_rfl, ?_⟩) hHeld ?_
            rotate_left
            · intro wz hSw
              obtain ⟨s0, s1, s2, s3⟩ := hSw
              first
              | (go_simp; done)
              | (go_simp; with_reducible rfl)
              | (go_simp; omega)
            try simp only [Act.put, List.setIfInBounds_toArray, List.set_cons_zero, List.set_cons_succ]
            refine wpAnyH_take (i := 15) (v := ?_) rfl (by kernel_rfl) (by kernel_rfl) (by kernel_rfl) (fun _ _ _ h => h) (Or.inl ⟨by kernel_rfl, ?_⟩) hHeld ?_
            rotate_left
            · intro wz hSw
              obtain ⟨s0, s1, s2, s3⟩ := hSw
              first
              | (go_simp; done)
              | (go_simp; with_reducible rfl)
              | (go_simp; omega)
            try simp only [Act.put, List.setIfInBounds_toArray, List.set_cons_zero, List.set_cons_succ]
            refine wpAnyH_ready (rs := [16]) (by kernel_rfl) (by simp) ?_
            refine AllReadyH.cons rfl (fun K hK => ?_) AllReadyH.nil
            go_simp
            have HFS := Lib.hid ((HF7.out.set (p := ⟨w.heap.size + 1, 0, none⟩) (by show w.heap.size ≤ w.heap.size + 1; omega) (by show w.heap.size + 1 ≠ w.heap.size; omega) (.int .i64 (p : Int))).set (p := ⟨w.heap.size + 1, 1, none⟩) (by show w.heap.size ≤ w.heap.size + 1; omega) (by show w.heap.size + 1 ≠ w.heap.size; omega) (.int .i64 (q : Int)))
            have HCS := Lib.hid ((HC7.out.set0 (.int .i64 (p : Int))).set1 (.int .i64 (q : Int)))
            have HAS := Lib.hid ((HA7.out.setO (p := ⟨w.heap.size + 1, 0, none⟩) (by simp) (.int .i64 (p : Int))).setO (p := ⟨w.heap.size + 1, 1, none⟩) (by simp) (.int .i64 (q : Int)))
            refine hK.out _ _ ⟨HFS.out.c0, HFS.out.c1, HAS.out.c0, HAS.out.c1⟩ (fun hHeld => ?_)
            clear hK K
            obtain ⟨q0, q1, qf0, qf1⟩ := HCS.out
            try simp only [Act.put, List.setIfInBounds_toArray, List.set_cons_zero, List.set_cons_succ]
            refine wpAnyH_take (i := 17) (v := ?_) rfl (by kernel_rfl) (by kernel_rfl) (by kernel_rfl) (fun _ _ _ h => h) (Or.inl ⟨by kernel_rfl, ?_⟩) hHeld ?_
            rotate_left
            · intro wz hSw
              obtain ⟨s0, s1, s2, s3⟩ := hSw
              first
              | (go_simp; done)
              | (go_simp; with_reducible rfl)
              | (go_simp; omega)
            try simp only [Act.put, List.setIfInBounds_toArray, List.set_cons_zero, List.set_cons_succ]
            refine wpAnyH_done (by kernel_rfl) ?_ _
            try go_simp
            have HBS := Lib.hid HFS.out.bel
            go_wp2
            exact bodyPost_ret (v := .tuple #[.agg #[.int .i64 p, .int .i64 q], .bool true]) (by simp [results, Tryd.results48, go_sem, q0, q1]) rfl ⟨p, q, true, rfl, fun h => HN.out, fun h => (by cases h), HBS.out⟩
          · have HN : Hid (r = none) := Lib.hid (by rw [HE.out, HT2.out, decide_eq_false htx]; rfl)
            have hne := textNo htx
            go_wp2_with fail
            refine wp_region_held_drew (S := (fun w' => w'.cell? ⟨w.heap.size, 0, none⟩ = some (.slice A m c) ∧ w'.cell? ⟨w.heap.size, 1, none⟩ = some (.int .i64 b) ∧ w'.cell? ⟨w.heap.size + 1 + 1, 0, none⟩ = some (.int .i64 p) ∧ w'.cell? ⟨w.heap.size + 1 + 1, 1, none⟩ = some (.int .i64 q))) (by kernel_rfl) ⟨c03, c13, a03, a13⟩ (fun hHeld => ?_)
            refine wpAnyH_take (i := 0) (v := ?_) rfl (by kernel_rfl) (by kernel_rfl) (by kernel_rfl) (fun _ _ _ h => h) (Or.inl ⟨by kernel_rfl, ?_⟩) hHeld ?_
            rotate_left
            · intro wz hSw
              obtain ⟨s0, s1, s2, s3⟩ := hSw
              first
              | (go_simp; done)
              | (go_simp; with_reducible rfl)
              | (go_simp; omega)
            try simp only [Act.put, List.setIfInBounds_toArray, List.set_cons_zero, List.set_cons_succ]
            refine wpAnyH_take (i := 1) (v := ?_) rfl (by kernel_rfl) (by kernel_rfl) (by kernel_rfl) (fun _ _ _ h => h) (Or.inl ⟨by kernel_rfl, ?_⟩) hHeld ?_
            rotate_left
            · intro wz hSw
              obtain ⟨s0, s1, s2, s3⟩ := hSw
              first
              | (go_simp; done)
              | (go_simp; with_reducible rfl)
              | (go_simp; omega)
            try simp only [Act.put, List.setIfInBounds_toArray, List.set_cons_zero, List.set_cons_succ]
            refine wpAnyH_take (i := 2) (v := ?_) rfl (by kernel_rfl) (by kernel_rfl) (by kernel_rfl) (fun _ _ _ h => h) (Or.inl ⟨by kernel_rfl, ?_⟩) hHeld ?_
            rotate_left
            · intro wz hSw
              obtain ⟨s0, s1, s2, s3⟩ := hSw
              first
              | (go_simp; done)
              | (go_simp; with_reducible rfl)
              | (go_simp; omega)
            try simp only [Act.put, List.setIfInBounds_toArray, List.set_cons_zero, List.set_cons_succ]
            refine wpAnyH_ready (rs := [3]) (by kernel_rfl) (by simp) ?_
            refine AllReadyH.cons rfl (fun K hK => ?_) AllReadyH.nil
            go_simp
            refine (validArm_v ds b p q _ _ _ _ (by first | exact HF3.out.sd | exact (HF3.out.drewN _).sd) HVA.out).mono ?_
            rintro e w5 ⟨rfl, hb⟩
            replace hb : Below wr.heap.size wr w5 := (by first | exact hb | exact undrew hb)
            have HF5 := Lib.hid (HF3.out.call hb)
            have HC5 := Lib.hid (HC3.out.below hb)
            have HA5 := Lib.hid (HA3.out.below hb)
            have c05 := HF5.out.c0
            have c15 := HF5.out.c1
            have a05 := HA5.out.c0
            have a15 := HA5.out.c1
            obtain ⟨r05, r15, rf05, rf15⟩ := HC5.out
            clear hb
            go_simp
            refine hK.out _ _ ⟨c05, c15, a05, a15⟩ (fun hHeld => ?_)
            clear hK K
            try simp only [Act.put, List.setIfInBounds_toArray, List.set_cons_zero, List.set_cons_succ]
            refine wpAnyH_take (i := 4) (v := ?_) rfl (by kernel_rfl) (by kernel_rfl) (by kernel_rfl) (fun _ _ _ h => h) (Or.inl ⟨by kernel_rfl, ?_⟩) hHeld ?_
            rotate_left
            · intro wz hSw
              obtain ⟨s0, s1, s2, s3⟩ := hSw
              first
              | (go_simp; done)
              | (go_simp; with_reducible rfl)
              | (go_simp; omega)
            try simp only [Act.put, List.setIfInBounds_toArray, List.set_cons_zero, List.set_cons_succ]
            refine wpAnyH_take (i := 5) (v := ?_) rfl (by kernel_rfl) (by kernel_rfl) (by kernel_rfl) (fun _ _ _ h => h) (Or.inl ⟨by kernel_rfl, ?_⟩) hHeld ?_
            rotate_left
            · intro wz hSw
              obtain ⟨s0, s1, s2, s3⟩ := hSw
              first
              | (go_simp; done)
              | (go_simp; with_reducible rfl)
              | (go_simp; omega)
            try simp only [Act.put, List.setIfInBounds_toArray, List.set_cons_zero, List.set_cons_succ]
            refine wpAnyH_take (i := 6) (v := ?_) rfl (by kernel_rfl) (by kernel_rfl) (by kernel_rfl) (fun _ _ _ h => h) (Or.inl ⟨by kernel_rfl, ?_⟩) hHeld ?_
            rotate_left
            · intro wz hSw
              obtain ⟨s0, s1, s2, s3⟩ := hSw
              first
              | (go_simp; done)
              | (go_simp; with_reducible rfl)
              | (go_simp; omega)
            try simp only [Act.put, List.setIfInBounds_toArray, List.set_cons_zero, List.set_cons_succ]
            refine wpAnyH_ready (rs := [7]) (by kernel_rfl) (by simp) ?_
            refine AllReadyH.cons rfl (fun K hK => ?_) AllReadyH.nil
            go_simp
            refine (canTell_v ds b p q _ _ _ _ (by first | exact HF5.out.sd | exact (HF5.out.drewN _).sd) HV.out hp hq HCT.out).mono ?_
            rintro e w6 ⟨rfl, hb⟩
            replace hb : Below w5.heap.size w5 w6 := (by first | exact hb | exact undrew hb)
            have HF6 := Lib.hid (HF5.out.call hb)
            have HC6 := Lib.hid (HC5.out.below hb)
            have HA6 := Lib.hid (HA5.out.below hb)
            have c06 := HF6.out.c0
            have c16 := HF6.out.c1
            have a06 := HA6.out.c0
            have a16 := HA6.out.c1
            obtain ⟨r06, r16, rf06, rf16⟩ := HC6.out
            clear hb
            go_simp
            refine hK.out _ _ ⟨c06, c16, a06, a16⟩ (fun hHeld => ?_)
            clear hK K
            try simp only [Act.put, List.setIfInBounds_toArray, List.set_cons_zero, List.set_cons_succ]
            refine wpAnyH_take (i := 8) (v := ?_) rfl (by kernel_rfl) (by kernel_rfl) (by kernel_rfl) (fun _ _ _ h => h) (Or.inl ⟨by kernel_rfl, ?_⟩) hHeld ?_
            rotate_left
            · intro wz hSw
              obtain ⟨s0, s1, s2, s3⟩ := hSw
              first
              | (go_simp; done)
              | (go_simp; with_reducible rfl)
              | (go_simp; omega)
            try simp only [Act.put, List.setIfInBounds_toArray, List.set_cons_zero, List.set_cons_succ]
            refine wpAnyH_take (i := 9) (v := ?_) rfl (by kernel_rfl) (by kernel_rfl) (by kernel_rfl) (fun _ _ _ h => h) (Or.inl ⟨by kernel_rfl, ?_⟩) hHeld ?_
            rotate_left
            · intro wz hSw
              obtain ⟨s0, s1, s2, s3⟩ := hSw
              first
              | (go_simp; done)
              | (go_simp; with_reducible rfl)
              | (go_simp; omega)
            try simp only [Act.put, List.setIfInBounds_toArray, List.set_cons_zero, List.set_cons_succ]
            refine wpAnyH_take (i := 10) (v := ?_) rfl (by kernel_rfl) (by kernel_rfl) (by kernel_rfl) (fun _ _ _ h => h) (Or.inl ⟨by kernel_rfl, ?_⟩) hHeld ?_
            rotate_left
            · intro wz hSw
              obtain ⟨s0, s1, s2, s3⟩ := hSw
              first
              | (go_simp; done)
              | (go_simp; with_reducible rfl)
              | (go_simp; omega)
            try simp only [Act.put, List.setIfInBounds_toArray, List.set_cons_zero, List.set_cons_succ]
            refine wpAnyH_take (i := 11) (v := ?_) rfl (by kernel_rfl) (by kernel_rfl) (by kernel_rfl) (fun _ _ _ h => h) (Or.inl ⟨by kernel_rfl, ?_⟩) hHeld ?_
            rotate_left
            · intro wz hSw
              obtain ⟨s0, s1, s2, s3⟩ := hSw
              first
              | (go_simp; done)
              | (go_simp; with_reducible rfl)
              | (go_simp; omega)
            try simp only [Act.put, List.setIfInBounds_toArray, List.set_cons_zero, List.set_cons_succ]
            refine wpAnyH_take (i := 13) (v := ?_) rfl (by kernel_rfl) (by kernel_rfl) (by kernel_rfl) (fun _ _ _ h => h) (Or.inl ⟨by kernel_rfl, ?_⟩) hHeld ?_
            rotate_left
            · intro wz hSw
              obtain ⟨s0, s1, s2, s3⟩ := hSw
              first
              | (go_simp; done)
              | (go_simp; with_reducible rfl)
              | (go_simp; omega)
            try simp only [Act.put, List.setIfInBounds_toArray, List.set_cons_zero, List.set_cons_succ]
            refine wpAnyH_ready (rs := [12]) (by kernel_rfl) (by simp) ?_
            refine AllReadyH.cons rfl (fun K hK => ?_) AllReadyH.nil
            go_simp
            refine (HTA.out (HPQ.out (by first | rfl | trivial)) _ _ _ _ (by first | exact HF6.out.sd | exact (HF6.out.drewN _).sd)).mono ?_
            rintro e w7 ⟨rfl, hb⟩
            replace hb : Below w6.heap.size w6 w7 := (by first | exact hb | exact undrew hb)
            have HF7 := Lib.hid (HF6.out.call hb)
            have HC7 := Lib.hid (HC6.out.below hb)
            have HA7 := Lib.hid (HA6.out.below hb)
            have c07 := HF7.out.c0
            have c17 := HF7.out.c1
            have a07 := HA7.out.c0
            have a17 := HA7.out.c1
            obtain ⟨r07, r17, rf07, rf17⟩ := HC7.out
            clear hb
            go_simp
            refine hK.out _ _ ⟨c07, c17, a07, a17⟩ (fun hHeld => ?_)
            clear hK K
            try simp only [Act.put, List.setIfInBounds_toArray, List.set_cons_zero, List.set_cons_succ]
            refine wpAnyH_take (i := 14) (v := ?_) rfl (by kernel_rfl) (by kernel_rfl) (by kernel_rfl) (fun _ _ _ h => h) (Or.inl ⟨by kernel_rfl, ?_⟩) hHeld ?_
            rotate_left
            · intro wz hSw
              obtain ⟨s0, s1, s2, s3⟩ := hSw
              first
              | (go_simp; done)
              | (go_simp; with_reducible rfl)
              | (go_simp; omega)
            try simp only [Act.put, List.setIfInBounds_toArray, List.set_cons_zero, List.set_cons_succ]
            refine wpAnyH_take (i := 15) (v := ?_) rfl (by kernel_rfl) (by kernel_rfl) (by kernel_rfl) (fun _ _ _ h => h) (Or.inl ⟨by kernel_rfl, ?_⟩) hHeld ?_
            rotate_left
            · intro wz hSw
              obtain ⟨s0, s1, s2, s3⟩ := hSw
              first
              | (go_simp; done)
              | (go_simp; with_reducible rfl)
              | (go_simp; omega)
            try simp only [Act.put, List.setIfInBounds_toArray, List.set_cons_zero, List.set_cons_succ]
            refine wpAnyH_ready (rs := [16]) (by kernel_rfl) (by simp) ?_
            refine AllReadyH.cons rfl (fun K hK => ?_) AllReadyH.nil
            go_simp
            have HFS := Lib.hid ((HF7.out.set (p := ⟨w.heap.size + 1, 0, none⟩) (by show w.heap.size ≤ w.heap.size + 1; omega) (by show w.heap.size + 1 ≠ w.heap.size; omega) (.int .i64 (p : Int))).set (p := ⟨w.heap.size + 1, 1, none⟩) (by show w.heap.size ≤ w.heap.size + 1; omega) (by show w.heap.size + 1 ≠ w.heap.size; omega) (.int .i64 (q : Int)))
            have HCS := Lib.hid ((HC7.out.set0 (.int .i64 (p : Int))).set1 (.int .i64 (q : Int)))
            have HAS := Lib.hid ((HA7.out.setO (p := ⟨w.heap.size + 1, 0, none⟩) (by simp) (.int .i64 (p : Int))).setO (p := ⟨w.heap.size + 1, 1, none⟩) (by simp) (.int .i64 (q : Int)))
            refine hK.out _ _ ⟨HFS.out.c0, HFS.out.c1, HAS.out.c0, HAS.out.c1⟩ (fun hHeld => ?_)
            clear hK K
            obtain ⟨q0, q1, qf0, qf1⟩ := HCS.out
            try simp only [Act.put, List.setIfInBounds_toArray, List.set_cons_zero, List.set_cons_succ]
            refine wpAnyH_take (i := 17) (v := ?_) rfl (by kernel_rfl) (by kernel_rfl) (by kernel_rfl) (fun _ _ _ h => h) (Or.inl ⟨by kernel_rfl, ?_⟩) hHeld ?_
            rotate_left
            · intro wz hSw
              obtain ⟨s0, s1, s2, s3⟩ := hSw
              first
              | (go_simp; done)
              | (go_simp; with_reducible rfl)
              | (go_simp; omega)
            try simp only [Act.put, List.setIfInBounds_toArray, List.set_cons_zero, List.set_cons_succ]
            refine wpAnyH_done (by kernel_rfl) ?_ _
            try go_simp
            have HBS := Lib.hid HFS.out.bel
            go_wp2
            exact bodyPost_ret (v := .tuple #[.agg #[.int .i64 p, .int .i64 q], .bool false]) (by simp [results, Tryd.results48, go_sem, q0, q1]) rfl ⟨p, q, false, rfl, fun h => (by cases h), fun h => HN.out, HBS.out⟩
end Go.Proofs.YtpfdghbjagdhfaaDoor
