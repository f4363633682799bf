/-
For every code the law of fitting names returns true: the program's FittingNames answers as its model, each of them has bits of the value alone, and NamesIn are among them.
Conditions: none.
-/
import Derived.Test.YteaiaglangmhbaaGenW
import Derived.Test.YteaiaglangmhbaaOpenC
import Derived.Test.YteaiaglangmhbaaLFit
import Derived.Test.YteaiaglangmhbaaLSg
import Derived.Test.YteaiaglangmhbaaLHelp
import Derived.Test.YteaiaglangmhbaaFitS
import Derived.Test.YteaiaglangmhbaaFitJ
import Derived.Test.YteaiaglangmhbaaAlgJ
import Derived.Test.YteaiaglangmhbaaAlgI
namespace Go.Proofs.Yteaiaglangmhbaa.fnFittingNames
open Go.ChangeShapes Go.WideShapes Go.ChangeAt Go.RowKit
open Go.ChangeMaps (open_string shut_string)
set_option linter.unusedVariables false
set_option linter.unusedSimpArgs false
set_option maxRecDepth 100000

set_option maxHeartbeats 16000000 in
theorem walk (A : Option Addr) (n c : Nat) (zs : List Int) (w : World) (h : SB w w.heap.size A n c zs) :
    Calls Try.prog 6 #[.slice A n c] w fun e w' => e = .returned (.bool true) ∧ Below w.heap.size w w' := by
  have hm := h.max
  have hcap := h.cap
  unfold maxLen at hm
  have HS0 := Lib.hid h
  clear h
  by_cases hbig : 1048576 < (n : Int)
  · go_enter Try.func6, Try.ntmps6
    go_wp2
    go_ret
    exact ⟨rfl, Below.refl _ _⟩
  go_enter Try.func6, Try.ntmps6
  go_wp2_with fail
  refine (drawFittingNames_any A n c zs _ HS0.out).mono ?_
  rintro e w1 ⟨Aa, ca, dsa, ba, x, rfl, hna, hsma, hbda, hx, hsa, hb⟩
  have HB_1 := Lib.hid hb
  have Sa_1 := Lib.hid hsa
  have HSMa := Lib.hid hsma
  have HOKa : Hid (∀ d ∈ dsa, d.ok) := Lib.hid (fun d hd => small_ok (hsma d hd))
  have HBDa := Lib.hid hbda
  clear hb hsa hsma hbda
  obtain ⟨w2, hw⟩ : ∃ W : World, W = (w1.alloc (.cells #[.slice Aa dsa.length ca, .int .i64 ba] 30)) := ⟨_, rfl⟩
  have hb : Below w1.heap.size w1 w2 := by rw [hw]; exact ((Below.refl _ _).alloc (by first | exact Nat.le_refl _ | (simp; done) | (simp; omega)) _)
  have Sa_2 := Lib.hid ((Sa_1.out.below hb).call hb.size)
  have HB_2 : Hid (Below w.heap.size w w2) := Lib.hid (HB_1.out.trans (hb.mono HB_1.out.size))
  have ba_2 : w2.cell? ⟨w1.heap.size, 0, none⟩ = some (.slice Aa dsa.length ca) := by rw [hw]; simp [go_sem]
  have va_2 : w2.cell? ⟨w1.heap.size, 1, none⟩ = some (.int .i64 ba) := by rw [hw]; simp [go_sem]
  have lf_ba : (w1.alloc (.cells #[.slice Aa dsa.length ca, .int .i64 ba] 30)).cell? ⟨w1.heap.size, 0, none⟩ = some (.slice Aa dsa.length ca) := by rw [← hw]; exact ba_2
  have lf_va : (w1.alloc (.cells #[.slice Aa dsa.length ca, .int .i64 ba] 30)).cell? ⟨w1.heap.size, 1, none⟩ = some (.int .i64 ba) := by rw [← hw]; exact va_2
  have HW2 : Hid ((w1.alloc (.cells #[.slice Aa dsa.length ca, .int .i64 ba] 30)) = w2) := Lib.hid hw.symm
  clear hb hw Sa_1 HB_1
  obtain ⟨ss, hss⟩ : ∃ ss, mFitN dsa ba x = ss := ⟨_, rfl⟩
  have hsl : ss.length ≤ 12 := by rw [← hss]; exact mFitN_len _ _ _
  have hle2 : (ss.length : Int) ≤ (dsa.length : Int) := by have := fitN_le dsa ba x; rw [hss] at this; omega
  have OKS : Hid (∀ s ∈ ss, s.size ≤ maxLen) := Lib.hid (by rw [← hss]; exact mFitN_ok HOKa.out)
  have HIM : Hid (∀ (A : Option Addr) (n c : Nat) (w : World), SD w w.heap.size A n c dsa → n ≤ 1048576 → Calls Try.prog 13 #[.agg #[.slice A n c, .int .i64 ba], .int .i64 x] w (StrsP ss w)) := Lib.hid (by rw [← hss]; exact fun A n c w h hn => implFitN_any dsa ba x A n c w h hn)
  have HSP : Hid (∀ (A : Option Addr) (n c : Nat) (w : World), SD w w.heap.size A n c dsa → n ≤ 1048576 → Calls Try.prog 11 #[.agg #[.slice A n c, .int .i64 ba], .int .i64 x] w (StrsP ss w)) := Lib.hid (by rw [← hss]; exact fun A n c w h hn => specFitN_any dsa ba x A n c w h hn)
  unfold StrsP at HIM HSP
  obtain ⟨v, hv⟩ : ∃ v, mIsV dsa ba x = v := ⟨_, rfl⟩
  have HV := Lib.hid hv
  have HSS := Lib.hid hss
  clear hss hv
  go_wp2_with fail
  rw [HW2.out]
  clear lf_ba lf_va
  refine (HIM.out _ _ _ _ Sa_2.out (by omega)).mono ?_
  rintro e w3 ⟨Ag, cg, rfl, ho, hb⟩
  have ba_3 := keep1 hb ba_2
  have va_3 := keep1 hb va_2
  have Sa_3 := Lib.hid ((Sa_2.out.below hb).call hb.size)
  have HB_3 : Hid (Below w.heap.size w w3) := Lib.hid (HB_2.out.trans (hb.mono HB_2.out.size))
  have Sg_3 := Lib.hid (ss_of_own ho OKS.out)
  clear hb ho ba_2 va_2 Sa_2 HB_2
  go_wp2_with fail
  refine (HSP.out _ _ _ _ Sa_3.out (by omega)).mono ?_
  rintro e w4 ⟨Aw, cw, rfl, ho, hb⟩
  have ba_4 := keep1 hb ba_3
  have va_4 := keep1 hb va_3
  have Sa_4 := Lib.hid ((Sa_3.out.below hb).call hb.size)
  have Sg_4 := Lib.hid ((Sg_3.out.below hb).call hb.size)
  have HB_4 : Hid (Below w.heap.size w w4) := Lib.hid (HB_3.out.trans (hb.mono HB_3.out.size))
  have Sw_4 := Lib.hid (ss_of_own ho OKS.out)
  clear hb ho ba_3 va_3 Sa_3 Sg_3 HB_3
  go_wp2_with fail
  refine (equalTexts_any ss _ _ _ _ _ _ _ Sg_4.out Sw_4.out).mono ?_
  rintro e w5 ⟨rfl, hb⟩
  have ba_5 := keep1 hb ba_4
  have va_5 := keep1 hb va_4
  have Sa_5 := Lib.hid ((Sa_4.out.below hb).call hb.size)
  have Sg_5 := Lib.hid ((Sg_4.out.below hb).call hb.size)
  have Sw_5 := Lib.hid ((Sw_4.out.below hb).call hb.size)
  have HB_5 : Hid (Below w.heap.size w w5) := Lib.hid (HB_4.out.trans (hb.mono HB_4.out.size))
  clear hb  ba_4 va_4 Sa_4 Sg_4 Sw_4 HB_4
  clear Sw_5
  go_wp2_with fail
  refine (implIsV_v dsa ba x _ _ _ _ Sa_5.out (by omega) HV.out).mono ?_
  rintro e w6 ⟨rfl, hb⟩
  have ba_6 := keep1 hb ba_5
  have va_6 := keep1 hb va_5
  have Sa_6 := Lib.hid ((Sa_5.out.below hb).call hb.size)
  have Sg_6 := Lib.hid ((Sg_5.out.below hb).call hb.size)
  have HB_6 : Hid (Below w.heap.size w w6) := Lib.hid (HB_5.out.trans (hb.mono HB_5.out.size))
  clear hb  ba_5 va_5 Sa_5 Sg_5 HB_5
  cases v
  · skip
    go_wp2_with fail
    refine (HSP.out _ _ _ _ Sa_6.out (by omega)).mono ?_
    rintro e w7 ⟨Av, cv, rfl, ho, hb⟩
    have ba_7 := keep1 hb ba_6
    have va_7 := keep1 hb va_6
    have Sa_7 := Lib.hid ((Sa_6.out.below hb).call hb.size)
    have Sg_7 := Lib.hid ((Sg_6.out.below hb).call hb.size)
    have HB_7 : Hid (Below w.heap.size w w7) := Lib.hid (HB_6.out.trans (hb.mono HB_6.out.size))
    have Sv_7 := Lib.hid (ss_of_own ho OKS.out)
    clear hb ho ba_6 va_6 Sa_6 Sg_6 HB_6
    go_wp2_with fail
    refine (equalTexts_any ss _ _ _ _ _ _ _ Sg_7.out Sv_7.out).mono ?_
    rintro e w8 ⟨rfl, hb⟩
    have ba_8 := keep1 hb ba_7
    have va_8 := keep1 hb va_7
    have Sa_8 := Lib.hid ((Sa_7.out.below hb).call hb.size)
    have Sg_8 := Lib.hid ((Sg_7.out.below hb).call hb.size)
    have Sv_8 := Lib.hid ((Sv_7.out.below hb).call hb.size)
    have HB_8 : Hid (Below w.heap.size w w8) := Lib.hid (HB_7.out.trans (hb.mono HB_7.out.size))
    clear hb  ba_7 va_7 Sa_7 Sg_7 Sv_7 HB_7
    go_wp2
    go_ret
    exact ⟨by first | rfl | kernel_rfl | (go_simp; done), HB_8.out⟩
  obtain ⟨p, rfl, hp⟩ := mIsV_nat HV.out
  have HAT : Hid (∀ k (hk : k < ss.length), ∃ t : Nat, mFrom dsa ba [ss[k]] = (t : Int) ∧ mFromOk dsa ba [ss[k]] = true ∧ ((t : Int) == 0) = false ∧ mHas dsa ba (p : Int) (t : Int) = true) := Lib.hid (by have h := fit_at HV.out; rw [HSS.out] at h; exact h)
  obtain ⟨ns, hns⟩ : ∃ ns, mNamesIn dsa ba p = ns := ⟨_, rfl⟩
  have HNN : Hid (∀ k (hk : k < ns.length), ss.any (hT ns[k]) = true) := Lib.hid (fun k hk => by have := fit_sub (ds := dsa) (b := ba) (x := (p : Int)) (s := ns[k]) (by rw [hns]; exact List.getElem_mem hk); rw [HSS.out] at this; exact this)
  have hnl : ns.length ≤ 12 := by rw [← hns]; exact mNamesIn_len _ _ _
  have OKN : Hid (∀ s ∈ ns, s.size ≤ maxLen) := Lib.hid (by rw [← hns]; exact mNamesIn_ok HOKa.out)
  have HNI : Hid (∀ (A : Option Addr) (n c : Nat) (w : World), SD w w.heap.size A n c dsa → n ≤ 1048576 → Calls Try.prog 39 #[.agg #[.slice A n c, .int .i64 ba], .int .i64 p] w (StrsP ns w)) := Lib.hid (by rw [← hns]; exact fun A n c w h hn => implNamesIn_any dsa ba p A n c w h hn)
  unfold StrsP at HNI
  clear hns HSS HIM HSP
  go_wp2_with fail
  go_loopw [6] (fun i wr => ∃ (k : Nat), k ≤ ss.length ∧ i = .int .i64 k ∧ Hid (Below w.heap.size w wr) ∧ Hid (wr.cell? ⟨w1.heap.size, 0, none⟩ = some (.slice Aa dsa.length ca)) ∧ Hid (wr.cell? ⟨w1.heap.size, 1, none⟩ = some (.int .i64 ba)) ∧ Hid (SD wr wr.heap.size Aa dsa.length ca dsa) ∧ Hid (SS wr wr.heap.size Ag ss.length cg ss)) (fun i _ => ss.length - (intOf i).toNat)
  case atStart => exact ⟨0, Nat.zero_le _, rfl, HB_6, Lib.hid ba_6, Lib.hid va_6, Sa_6, Sg_6⟩
  case round =>
    obtain ⟨k, hk, rfl, hbel, hca, hcv, hsa, hsg⟩ := hrel
    clear ba_6 va_6 HB_6 Sa_6 Sg_6
    have y1 := hca.out
    have y2 := hcv.out
    clear hca hcv
    by_cases hlt : k < ss.length
    · obtain ⟨t, ht1, ht2, ht3, ht4⟩ := HAT.out k hlt
      have HT1 := Lib.hid ht1
      have HT2 := Lib.hid ht2
      have HT4 := Lib.hid ht4
      clear ht1 ht2 ht4
      obtain ⟨b, o2, hAs, hbb, x1⟩ := hsg.out.at_ hlt
      subst hAs
      have hone : (ss.drop k).take 1 = [ss[k]] := by rw [List.drop_eq_getElem_cons hlt]; rfl
      have hcap := hsg.out.cap
      have HSN : Hid (SS wr wr.heap.size (some ⟨b, o2 + k, none⟩) 1 (cg - k) [ss[k]]) := Lib.hid (by rw [← hone]; exact ss_sub hsg.out hlt)
      clear hone x1
      have hi1 : (k : Int) < (ss.length : Int) := by omega
      have hi0 : (0 : Int) ≤ (k : Int) := by omega
      have hi2 : (k : Int) + 1 ≤ (cg : Int) := by omega
      have hi3 : (k : Int) ≤ (k : Int) + 1 := by omega
      have hck : ¬ cg = k := by omega
      have hw1 : IntKind.i64.wrap ((k : Int) + 1) = (k : Int) + 1 := by rw [IntKind.wrap_i64]; omega
      obtain ⟨w40, hwn⟩ : ∃ W : World, W = wr := ⟨_, rfl⟩
      subst hwn
      have HB_40 := hbel
      have ba_40 := y1
      have va_40 := y2
      have Sa_40 := hsa
      have Sg_40 := hsg
      have Sn_40 := HSN
      clear hbel y1 y2 hsa hsg HSN
      go_wp2_with fail
      go_region_held3 (fun w' => w'.cell? ⟨w1.heap.size, 0, none⟩ = some (.slice Aa dsa.length ca) ∧ w'.cell? ⟨w1.heap.size, 1, none⟩ = some (.int .i64 ba))
        (first | go_keep | exact ⟨ba_40, va_40⟩ | exact ⟨ba_41, va_41⟩)
        (first
          | (go_at_call 37; refine (implFrom_v dsa ba _ _ _ _ _ (Sa_40.out.drewN 1) _ _ _ (Sn_40.out.drewN 1) (by omega) HT1.out HT2.out).mono ?_; rintro e w41 ⟨rfl, hb⟩; replace hb : Below w40.heap.size w40 w41 := (by first | exact hb | exact undrew hb); have ba_41 := keep1 hb ba_40; have va_41 := keep1 hb va_40; have Sa_41 := Lib.hid ((Sa_40.out.below hb).call hb.size); have Sg_41 := Lib.hid ((Sg_40.out.below hb).call hb.size); have Sn_41 := Lib.hid ((Sn_40.out.below hb).call hb.size); have HB_41 : Hid (Below w.heap.size w w41) := Lib.hid (HB_40.out.trans (hb.mono HB_40.out.size)); clear hb))
      go_wp2_with fail
      refine (implHas_v dsa ba (p : Int) (t : Int) _ _ _ _ Sa_41.out (by omega) HT4.out).mono ?_
      rintro e w42 ⟨rfl, hb⟩
      have ba_42 := keep1 hb ba_41
      have va_42 := keep1 hb va_41
      have Sa_42 := Lib.hid ((Sa_41.out.below hb).call hb.size)
      have Sg_42 := Lib.hid ((Sg_41.out.below hb).call hb.size)
      have Sn_42 := Lib.hid ((Sn_41.out.below hb).call hb.size)
      have HB_42 : Hid (Below w.heap.size w w42) := Lib.hid (HB_41.out.trans (hb.mono HB_41.out.size))
      clear hb  ba_41 va_41 Sa_41 Sg_41 Sn_41 HB_41
      go_wp2
      go_roundw
      case rel => exact ⟨k + 1, by omega, by go_num, HB_42, Lib.hid ba_42, Lib.hid va_42, Sa_42, Sg_42⟩
      case measure => simp [intOf]; omega
    · obtain rfl : k = ss.length := by omega
      have hi9 : ¬ (ss.length : Int) < (ss.length : Int) := by omega
      obtain ⟨w40, hwn⟩ : ∃ W : World, W = wr := ⟨_, rfl⟩
      subst hwn
      have HB_40 := hbel
      have ba_40 := y1
      have va_40 := y2
      have Sa_40 := hsa
      have Sg_40 := hsg
      clear hbel y1 y2 hsa hsg
      go_wp2_with fail
      refine (HNI.out _ _ _ _ Sa_40.out (by omega)).mono ?_
      rintro e w41 ⟨An, cn, rfl, ho, hb⟩
      have ba_41 := keep1 hb ba_40
      have va_41 := keep1 hb va_40
      have Sa_41 := Lib.hid ((Sa_40.out.below hb).call hb.size)
      have Sg_41 := Lib.hid ((Sg_40.out.below hb).call hb.size)
      have HB_41 : Hid (Below w.heap.size w w41) := Lib.hid (HB_40.out.trans (hb.mono HB_40.out.size))
      have Sn_41 := Lib.hid (ss_of_own ho OKN.out)
      clear hb ho ba_40 va_40 Sa_40 Sg_40 HB_40
      go_wp2_with fail
      go_loopw [10] (fun i wr => ∃ (k : Nat), k ≤ ns.length ∧ i = .int .i64 k ∧ Hid (Below w.heap.size w wr) ∧ Hid (wr.cell? ⟨w1.heap.size, 0, none⟩ = some (.slice Aa dsa.length ca)) ∧ Hid (SS wr wr.heap.size Ag ss.length cg ss) ∧ Hid (SS wr wr.heap.size An ns.length cn ns)) (fun i _ => ns.length - (intOf i).toNat)
      case atStart => exact ⟨0, Nat.zero_le _, rfl, HB_41, Lib.hid ba_41, Sg_41, Sn_41⟩
      case round =>
        obtain ⟨k, hk, rfl, hbel, hca, hsg, hsn⟩ := hrel
        clear ba_41 va_41 HB_41 Sa_41 Sg_41 Sn_41
        have y1 := hca.out
        clear hca
        by_cases hlt : k < ns.length
        · obtain ⟨b, o, hAs, hbb, x1⟩ := hsn.out.at_ hlt
          subst hAs
          have hh := HNN.out k hlt
          have HH := Lib.hid hh
          clear hh
          generalize ns[k] = s at *
          have hi1 : (k : Int) < (ns.length : Int) := by omega
          have hi0 : (0 : Int) ≤ (k : Int) := by omega
          obtain ⟨w70, hwn⟩ : ∃ W : World, W = wr := ⟨_, rfl⟩
          subst hwn
          have HB_70 := hbel
          have ba_70 := y1
          have Sg_70 := hsg
          have Sn_70 := hsn
          clear hbel y1 hsg hsn
          go_wp2_with fail
          refine (hasText_any ss s _ _ _ _ Sg_70.out HH.out).mono ?_
          rintro e w71 ⟨rfl, hb⟩
          have ba_71 := keep1 hb ba_70
          have Sg_71 := Lib.hid ((Sg_70.out.below hb).call hb.size)
          have Sn_71 := Lib.hid ((Sn_70.out.below hb).call hb.size)
          have HB_71 : Hid (Below w.heap.size w w71) := Lib.hid (HB_70.out.trans (hb.mono HB_70.out.size))
          clear hb  ba_70 Sg_70 Sn_70 HB_70
          go_wp2
          go_roundw
          case rel => exact ⟨k + 1, by omega, by go_num, HB_71, Lib.hid ba_71, Sg_71, Sn_71⟩
          case measure => simp [intOf]; omega
        · obtain rfl : k = ns.length := by omega
          have hi8 : ¬ (ns.length : Int) < (ns.length : Int) := by omega
          obtain ⟨w70, hwn⟩ : ∃ W : World, W = wr := ⟨_, rfl⟩
          subst hwn
          have HB_70 := hbel
          have ba_70 := y1
          have Sg_70 := hsg
          clear hbel y1 hsg
          go_wp2
          go_ret
          exact ⟨by first | rfl | kernel_rfl | (go_simp; done), HB_70.out⟩

theorem lifted (os : Os) (started : os.Started) (H : Type) (enc : TypeId × Value → H) :
    ReturnsInHanded {} Try.checked os 6 .any (Rows.fnFittingNamesSpec.pre6 enc Try.prog Try.f6 Rows.fnFittingNamesRow.domain false) (Rows.fnFittingNamesSpec.post enc Try.prog Try.f6 false true false false) := by
  refine returnsInHanded_of_change (C := Try.checked) own started (by kernel_rfl) Try.func6
    (ChangeSpec.witness6 (enc := enc) (C := Try.checked) false ⟨#[], #[.slice none 0 0], []⟩ 8 (by kernel_rfl) (by kernel_rfl) (by kernel_rfl) (by kernel_rfl)) ?_
  intro W base args ds gs before hval0 hW hcnd _
  have hval : ∀ (j : Nat) t v, Try.f6.params[j]? = some t → args[j]? = some v → Value.okWide Try.prog W .any base t v := hval0
  have hW' := hW
  obtain ⟨p, q, hA0, hV, rfl, hfz, hnd⟩ := hW
  have hA : DataW.TrodAll enc Try.prog W 0 (fun _ => true) true Try.f6.params.toList args.toList ds p := hA0
  rw [Try.params6] at hA hval
  obtain ⟨v0, vs0, d0, ds0, p0, q0, hargs, rfl, rfl, h0, r0⟩ := trodAll_cons hA
  obtain ⟨rfl, rfl, rfl⟩ := trodAll_nil r0
  obtain rfl : args = #[v0] := by cases args; simp_all
  obtain ⟨rfl, rfl⟩ := trodVars_none hV
  have k0 := h0
  have lt0 : ∀ x ∈ p0, x.block < W.heap.size := by obtain ⟨m, hm⟩ := k0; exact DataW.trod_lt m _ _ _ hm
  obtain ⟨A0, n0, c0, l0, rfl, w0⟩ := open_code (hval 0 55 v0 rfl rfl) h0
  clear hA0 hval0
  refine (walk A0 n0 c0 l0 W w0).mono fun e W' ⟨he, bel⟩ => ?_
  subst he
  exact ⟨_, rfl, _, _, _, [], _, [], hW', trodAll_mk1 (shut_bool Try.underlying4 _), (trodAll_cons_mk (Below.trod laidOut (by kernel_rfl) (of_decide_eq_true (by kernel_rfl)) k0 bel lt0) trodAll_mk0), rfl, bel.frame _, fun h => by cases h⟩

theorem over : Rows.fnFittingNamesRow.holds Try.pinned (OpenSpec.ofChange Rows.fnFittingNamesSpec) :=
  OpenClaim.holds_of_wide 6 Try.f6 rfl rfl rfl rfl rfl rfl rfl ⟨rfl, rfl, rfl, rfl, rfl⟩ rfl rfl rfl rfl rfl (by kernel_rfl) Try.func6 (by kernel_rfl)
    (of_decide_eq_true (by kernel_rfl)) (by unfold Func.isWrapper; first | (rw [if_pos (by decide +kernel)]; kernel_rfl) | (rw [if_neg (by decide +kernel)]; exact ⟨rfl, rfl⟩))
    (fun os started H enc _ => lifted os started H enc)

theorem proved : Rows.FnFittingNamesSaid := over
end Go.Proofs.Yteaiaglangmhbaa.fnFittingNames
