/-
For every code the law of names of one bit returns true: the program's SinglesOf answers as its model, the names have one bit each, ascending, and are the names in the mask.
Conditions: none.
-/
import Derived.Test.YtbkfagncoekbkaaGenG
import Derived.Test.YtbkfagncoekbkaaOpenC
import Derived.Test.YtbkfagncoekbkaaLFlag
import Derived.Test.YtbkfagncoekbkaaLSg
import Derived.Test.YtbkfagncoekbkaaAlgJ
import Derived.Test.YtbkfagncoekbkaaFlagS
namespace Go.Proofs.Ytbkfagncoekbkaa.fnSinglesOf
open Go.ChangeShapes Go.WideShapes Go.ChangeAt Go.RowKit
open Go.ChangeMaps (open_string shut_string)
set_option linter.unusedVariables false
set_option maxRecDepth 100000

set_option maxHeartbeats 16000000 in
theorem walk (A : Option Addr) (n c : Nat) (zs : List Int) (w : World) (h : SB w w.heap.size A n c zs) :
    Calls Try.prog 5 #[.slice A n c] w fun e w' => e = .returned (.bool true) ∧ Below w.heap.size w w' := by
  have hm := h.max
  have hcap := h.cap
  unfold maxLen at hm
  have HS0 := Lib.hid h
  clear h
  by_cases hbig : 1048576 < (n : Int)
  · go_enter Try.func5, Try.ntmps5
    go_wp2
    go_ret
    exact ⟨rfl, Below.refl _ _⟩
  go_enter Try.func5, Try.ntmps5
  go_wp2_with fail
  refine (drawSinglesOf_any A n c zs _ HS0.out).mono ?_
  rintro e w1 ⟨Aa, ca, dsa, ba, rfl, hna, hsma, hbda, hsa, hb⟩
  have HB_1 := Lib.hid hb
  have Sa_1 := Lib.hid hsa
  have HSMa := Lib.hid hsma
  have HOKa : Hid (∀ d ∈ dsa, d.ok) := Lib.hid (fun d hd => small_ok (hsma d hd))
  have HBDa := Lib.hid hbda
  clear hb hsa hsma hbda
  obtain ⟨w2, hw⟩ : ∃ W : World, W = (w1.alloc (.cells #[.slice Aa dsa.length ca, .int .i64 ba] 25)) := ⟨_, rfl⟩
  have hb : Below w1.heap.size w1 w2 := by rw [hw]; exact ((Below.refl _ _).alloc (by first | exact Nat.le_refl _ | (simp; done) | (simp; omega)) _)
  have Sa_2 := Lib.hid ((Sa_1.out.below hb).call hb.size)
  have HB_2 : Hid (Below w.heap.size w w2) := Lib.hid (HB_1.out.trans (hb.mono HB_1.out.size))
  have ba_2 : w2.cell? ⟨w1.heap.size, 0, none⟩ = some (.slice Aa dsa.length ca) := by rw [hw]; simp [go_sem]
  have va_2 : w2.cell? ⟨w1.heap.size, 1, none⟩ = some (.int .i64 ba) := by rw [hw]; simp [go_sem]
  have lf_ba : (w1.alloc (.cells #[.slice Aa dsa.length ca, .int .i64 ba] 25)).cell? ⟨w1.heap.size, 0, none⟩ = some (.slice Aa dsa.length ca) := by rw [← hw]; exact ba_2
  have lf_va : (w1.alloc (.cells #[.slice Aa dsa.length ca, .int .i64 ba] 25)).cell? ⟨w1.heap.size, 1, none⟩ = some (.int .i64 ba) := by rw [← hw]; exact va_2
  have HW2 : Hid ((w1.alloc (.cells #[.slice Aa dsa.length ca, .int .i64 ba] 25)) = w2) := Lib.hid hw.symm
  clear hb hw Sa_1 HB_1
  obtain ⟨vf, hvf⟩ : ∃ vf, vFlag dsa ba = vf := ⟨_, rfl⟩
  have HF := Lib.hid hvf
  obtain ⟨ss, hss⟩ : ∃ ss, mSgOf dsa ba = ss := ⟨_, rfl⟩
  have HIM : Hid (∀ (A : Option Addr) (n c : Nat) (w : World), SD w w.heap.size A n c dsa → n ≤ 1048576 → Calls Try.prog 26 #[.agg #[.slice A n c, .int .i64 ba]] w (StrsP ss w)) := Lib.hid (by rw [← hss]; exact fun A n c w h hn => implSgOf_any dsa ba A n c w h hn)
  have HSP : Hid (∀ (A : Option Addr) (n c : Nat) (w : World), SD w w.heap.size A n c dsa → Calls Try.prog 28 #[.agg #[.slice A n c, .int .i64 ba]] w (StrsP ss w)) := Lib.hid (by rw [← hss]; exact fun A n c w h => specSgOf_any dsa ba A n c w h)
  have OKS : Hid (∀ s ∈ ss, s.size ≤ maxLen) := Lib.hid (by rw [← hss]; exact mSgOf_ok HOKa.out)
  have h12 : ss.length ≤ 12 := by rw [← hss]; exact mSgOf_len _ _
  unfold StrsP at HIM HSP
  have HSS := Lib.hid hss
  clear hss hvf
  go_wp2_with fail
  rw [HW2.out]
  clear lf_ba lf_va
  refine (HIM.out _ _ _ _ Sa_2.out (by omega)).mono ?_
  rintro e w3 ⟨As, cs, rfl, ho, hb⟩
  have ba_3 := keep1 hb ba_2
  have va_3 := keep1 hb va_2
  have Sa_3 := Lib.hid ((Sa_2.out.below hb).call hb.size)
  have HB_3 : Hid (Below w.heap.size w w3) := Lib.hid (HB_2.out.trans (hb.mono HB_2.out.size))
  have Ss_3 := Lib.hid (ss_of_own ho OKS.out)
  clear hb ho ba_2 va_2 Sa_2 HB_2
  go_wp2_with fail
  refine (HSP.out _ _ _ _ Sa_3.out).mono ?_
  rintro e w4 ⟨Aw, cw, rfl, ho, hb⟩
  have ba_4 := keep1 hb ba_3
  have va_4 := keep1 hb va_3
  have Sa_4 := Lib.hid ((Sa_3.out.below hb).call hb.size)
  have Ss_4 := Lib.hid ((Ss_3.out.below hb).call hb.size)
  have HB_4 : Hid (Below w.heap.size w w4) := Lib.hid (HB_3.out.trans (hb.mono HB_3.out.size))
  have Sw_4 := Lib.hid (ss_of_own ho OKS.out)
  clear hb ho ba_3 va_3 Sa_3 Ss_3 HB_3
  go_wp2_with fail
  refine (equalTexts_any ss _ _ _ _ _ _ _ Ss_4.out Sw_4.out).mono ?_
  rintro e w5 ⟨rfl, hb⟩
  have ba_5 := keep1 hb ba_4
  have va_5 := keep1 hb va_4
  have Sa_5 := Lib.hid ((Sa_4.out.below hb).call hb.size)
  have Ss_5 := Lib.hid ((Ss_4.out.below hb).call hb.size)
  have Sw_5 := Lib.hid ((Sw_4.out.below hb).call hb.size)
  have HB_5 : Hid (Below w.heap.size w w5) := Lib.hid (HB_4.out.trans (hb.mono HB_4.out.size))
  clear hb  ba_4 va_4 Sa_4 Ss_4 Sw_4 HB_4
  go_wp2_with fail
  refine (implVF_v dsa ba _ _ _ _ Sa_5.out (by omega) HF.out).mono ?_
  rintro e w6 ⟨rfl, hb⟩
  have ba_6 := keep1 hb ba_5
  have va_6 := keep1 hb va_5
  have Sa_6 := Lib.hid ((Sa_5.out.below hb).call hb.size)
  have Ss_6 := Lib.hid ((Ss_5.out.below hb).call hb.size)
  have Sw_6 := Lib.hid ((Sw_5.out.below hb).call hb.size)
  have HB_6 : Hid (Below w.heap.size w w6) := Lib.hid (HB_5.out.trans (hb.mono HB_5.out.size))
  clear hb  ba_5 va_5 Sa_5 Ss_5 Sw_5 HB_5
  clear Sw_6
  cases vf
  · skip
    go_wp2_with fail
    refine (HSP.out _ _ _ _ Sa_6.out).mono ?_
    rintro e w7 ⟨Av, cv, rfl, ho, hb⟩
    have ba_7 := keep1 hb ba_6
    have va_7 := keep1 hb va_6
    have Sa_7 := Lib.hid ((Sa_6.out.below hb).call hb.size)
    have Ss_7 := Lib.hid ((Ss_6.out.below hb).call hb.size)
    have HB_7 : Hid (Below w.heap.size w w7) := Lib.hid (HB_6.out.trans (hb.mono HB_6.out.size))
    have Sv_7 := Lib.hid (ss_of_own ho OKS.out)
    clear hb ho ba_6 va_6 Sa_6 Ss_6 HB_6
    go_wp2_with fail
    refine (equalTexts_any ss _ _ _ _ _ _ _ Ss_7.out Sv_7.out).mono ?_
    rintro e w8 ⟨rfl, hb⟩
    have ba_8 := keep1 hb ba_7
    have va_8 := keep1 hb va_7
    have Sa_8 := Lib.hid ((Sa_7.out.below hb).call hb.size)
    have Ss_8 := Lib.hid ((Ss_7.out.below hb).call hb.size)
    have Sv_8 := Lib.hid ((Sv_7.out.below hb).call hb.size)
    have HB_8 : Hid (Below w.heap.size w w8) := Lib.hid (HB_7.out.trans (hb.mono HB_7.out.size))
    clear hb  ba_7 va_7 Sa_7 Ss_7 Sv_7 HB_7
    go_wp2
    go_ret
    exact ⟨rfl, HB_8.out⟩
  have hf := sg_law HF.out
  rw [HSS.out] at hf
  obtain ⟨gv, hgv⟩ : ∃ gv, ((mSg dsa).map fun d => d.val.toNat) = gv := ⟨_, rfl⟩
  rw [hgv] at hf
  obtain ⟨m, qm⟩ : ∃ m, mMask dsa = m := ⟨_, rfl⟩
  have hgl : gv.length = ss.length := hf.len
  have HAT := Lib.hid hf.at_
  have HUP := Lib.hid hf.up
  have hall := hf.all
  rw [qm] at hall
  have HMK : Hid (mMaskOf dsa ba = (m : Int)) := Lib.hid (by rw [← qm]; exact if_yes HF.out)
  have HNI : Hid (∀ (A : Option Addr) (n c : Nat) (w : World), SD w w.heap.size A n c dsa → n ≤ 1048576 → Calls Try.prog 30 #[.agg #[.slice A n c, .int .i64 ba], .int .i64 m] w (StrsP ss w)) := Lib.hid (by rw [← hall]; exact fun A n c w h hn => implNamesIn_any dsa ba m A n c w h hn)
  unfold StrsP at HNI
  clear hall qm hgv HSS HIM HSP
  go_wp2_with fail
  go_loopw [5, 6] (fun l i wr => ∃ (k L : Nat), k ≤ ss.length ∧ i = .int .i64 k ∧ l = .int .i64 L ∧ Hid (∀ h : k < gv.length, L < gv[k]) ∧ Hid (Below w.heap.size w wr) ∧ Hid (wr.cell? ⟨w1.heap.size, 0, none⟩ = some (.slice Aa dsa.length ca)) ∧ Hid (wr.cell? ⟨w1.heap.size, 1, none⟩ = some (.int .i64 ba)) ∧ Hid (SD wr wr.heap.size Aa dsa.length ca dsa) ∧ Hid (SS wr wr.heap.size As ss.length cs ss)) (fun _ i _ => ss.length - (intOf i).toNat)
  case atStart => exact ⟨0, 0, Nat.zero_le _, rfl, rfl, Lib.hid (fun h => (HAT.out 0 (by omega) h).2.1), HB_6, Lib.hid ba_6, Lib.hid va_6, Sa_6, Ss_6⟩
  case round =>
    obtain ⟨k, L, hk, rfl, rfl, hL, hbel, hca, hcv, hsa, hss⟩ := hrel
    clear ba_6 va_6 HB_6 Sa_6 Ss_6
    have y1 := hca.out
    have y2 := hcv.out
    clear hca hcv
    by_cases hlt : k < ss.length
    · have hlt2 : k < gv.length := by omega
      obtain ⟨hg1, hg2, hg3, hg4, hg5⟩ := HAT.out k hlt hlt2
      have hL2 := hL.out hlt2
      have HN : Hid (∀ h : k + 1 < gv.length, gv[k] < gv[k + 1]) := Lib.hid (HUP.out k)
      have HG3 := Lib.hid hg3
      have HG4 := Lib.hid hg4
      have HG5 := Lib.hid hg5
      clear hg3 hg4 hg5 hL
      generalize gv[k] = g at *
      obtain ⟨b, o2, hAs, hbb, x1⟩ := hss.out.at_ hlt
      subst hAs
      have hone : (ss.drop k).take 1 = [ss[k]] := by rw [List.drop_eq_getElem_cons hlt]; rfl
      have hcap := hss.out.cap
      have HSN : Hid (SS wr wr.heap.size (some ⟨b, o2 + k, none⟩) 1 (cs - k) [ss[k]]) := Lib.hid (by rw [← hone]; exact ss_sub hss.out hlt)
      clear hone x1
      have hi1 : (k : Int) < (ss.length : Int) := by omega
      have hi0 : (0 : Int) ≤ (k : Int) := by omega
      have hi2 : (k : Int) + 1 ≤ (cs : Int) := by omega
      have hi3 : (k : Int) ≤ (k : Int) + 1 := by omega
      have hck : ¬ cs = k := by omega
      have hw1 : IntKind.i64.wrap ((k : Int) + 1) = (k : Int) + 1 := by rw [IntKind.wrap_i64]; omega
      have hi4 : ¬ (g : Int) ≤ (L : Int) := by omega
      obtain ⟨w40, hwn⟩ : ∃ W : World, W = wr := ⟨_, rfl⟩
      subst hwn
      have HB_40 := hbel
      have ba_40 := y1
      have va_40 := y2
      have Sa_40 := hsa
      have Ss_40 := hss
      have Sn_40 := HSN
      clear hbel y1 y2 hsa hss HSN
      go_wp2_with fail
      go_region_held3 (fun w' => w'.cell? ⟨w1.heap.size, 0, none⟩ = some (.slice Aa dsa.length ca) ∧ w'.cell? ⟨w1.heap.size, 1, none⟩ = some (.int .i64 ba))
        (first | go_keep | exact ⟨ba_40, va_40⟩ | exact ⟨ba_41, va_41⟩)
        (first
          | (go_at_call 29; refine (implFrom_v dsa ba _ _ _ _ _ (Sa_40.out.drewN 1) _ _ _ (Sn_40.out.drewN 1) (by omega) HG3.out HG4.out).mono ?_; rintro e w41 ⟨rfl, hb⟩; replace hb : Below w40.heap.size w40 w41 := (by first | exact hb | exact undrew hb); have ba_41 := keep1 hb ba_40; have va_41 := keep1 hb va_40; have Sa_41 := Lib.hid ((Sa_40.out.below hb).call hb.size); have Ss_41 := Lib.hid ((Ss_40.out.below hb).call hb.size); have Sn_41 := Lib.hid ((Sn_40.out.below hb).call hb.size); have HB_41 : Hid (Below w.heap.size w w41) := Lib.hid (HB_40.out.trans (hb.mono HB_40.out.size)); clear hb))
      go_wp2_with fail
      refine (implCount_v dsa ba g _ _ _ _ Sa_41.out (by omega) HG5.out).mono ?_
      rintro e w42 ⟨rfl, hb⟩
      have ba_42 := keep1 hb ba_41
      have va_42 := keep1 hb va_41
      have Sa_42 := Lib.hid ((Sa_41.out.below hb).call hb.size)
      have Ss_42 := Lib.hid ((Ss_41.out.below hb).call hb.size)
      have Sn_42 := Lib.hid ((Sn_41.out.below hb).call hb.size)
      have HB_42 : Hid (Below w.heap.size w w42) := Lib.hid (HB_41.out.trans (hb.mono HB_41.out.size))
      clear hb  ba_41 va_41 Sa_41 Ss_41 Sn_41 HB_41
      go_wp2
      go_roundw
      case rel => exact ⟨k + 1, g, by omega, by go_num, rfl, HN, HB_42, Lib.hid ba_42, Lib.hid va_42, Sa_42, Ss_42⟩
      case measure => simp [intOf]; omega
    · obtain rfl : k = ss.length := by omega
      clear hL
      obtain ⟨w40, hwn⟩ : ∃ W : World, W = wr := ⟨_, rfl⟩
      subst hwn
      have HB_40 := hbel
      have ba_40 := y1
      have va_40 := y2
      have Sa_40 := hsa
      have Ss_40 := hss
      clear hbel y1 y2 hsa hss
      go_wp2_with fail
      go_region_held3 (fun w' => w'.cell? ⟨w1.heap.size, 0, none⟩ = some (.slice Aa dsa.length ca) ∧ w'.cell? ⟨w1.heap.size, 1, none⟩ = some (.int .i64 ba))
        (first | go_keep | exact ⟨ba_40, va_40⟩ | exact ⟨ba_41, va_41⟩ | exact ⟨ba_42, va_42⟩ | exact ⟨ba_43, va_43⟩)
        (first
          | (go_at_call 31; refine (implMaskOf_v dsa ba _ _ _ _ (Sa_40.out.drewN 1) (by omega) HMK.out).mono ?_; rintro e w41 ⟨rfl, hb⟩; replace hb : Below w40.heap.size w40 w41 := (by first | exact hb | exact undrew hb); have ba_41 := keep1 hb ba_40; have va_41 := keep1 hb va_40; have Sa_41 := Lib.hid ((Sa_40.out.below hb).call hb.size); have Ss_41 := Lib.hid ((Ss_40.out.below hb).call hb.size); have HB_41 : Hid (Below w.heap.size w w41) := Lib.hid (HB_40.out.trans (hb.mono HB_40.out.size)); clear hb)
          | (go_at_call 30; refine (HNI.out _ _ _ _ Sa_41.out (by omega)).mono ?_; rintro e w42 ⟨Ax, cx, rfl, ho, hb⟩; have ba_42 := keep1 hb ba_41; have va_42 := keep1 hb va_41; have Sa_42 := Lib.hid ((Sa_41.out.below hb).call hb.size); have Ss_42 := Lib.hid ((Ss_41.out.below hb).call hb.size); have HB_42 : Hid (Below w.heap.size w w42) := Lib.hid (HB_41.out.trans (hb.mono HB_41.out.size)); have Sx_42 := Lib.hid (ss_of_own ho OKS.out); clear ho; clear hb)
          | (go_at_call 27; refine (equalTexts_any ss _ _ _ _ _ _ _ Sx_42.out Ss_42.out).mono ?_; rintro e w43 ⟨rfl, hb⟩; have ba_43 := keep1 hb ba_42; have va_43 := keep1 hb va_42; have Sa_43 := Lib.hid ((Sa_42.out.below hb).call hb.size); have Ss_43 := Lib.hid ((Ss_42.out.below hb).call hb.size); have Sx_43 := Lib.hid ((Sx_42.out.below hb).call hb.size); have HB_43 : Hid (Below w.heap.size w w43) := Lib.hid (HB_42.out.trans (hb.mono HB_42.out.size)); clear hb))
      go_wp2
      go_ret
      exact ⟨rfl, HB_43.out⟩

theorem lifted (os : Os) (started : os.Started) (H : Type) (enc : TypeId × Value → H) :
    ReturnsInHanded {} Try.checked os 5 .any (Rows.fnSinglesOfSpec.pre6 enc Try.prog Try.f5 Rows.fnSinglesOfRow.domain false) (Rows.fnSinglesOfSpec.post enc Try.prog Try.f5 false true false false) := by
  refine returnsInHanded_of_change (C := Try.checked) own started (by kernel_rfl) Try.func5
    (ChangeSpec.witness6 (enc := enc) (C := Try.checked) false ⟨#[], #[.slice none 0 0], []⟩ 8 (by kernel_rfl) (by kernel_rfl) (by kernel_rfl) (by kernel_rfl)) ?_
  intro W base args ds gs before hval0 hW hcnd _
  have hval : ∀ (j : Nat) t v, Try.f5.params[j]? = some t → args[j]? = some v → Value.okWide Try.prog W .any base t v := hval0
  have hW' := hW
  obtain ⟨p, q, hA0, hV, rfl, hfz, hnd⟩ := hW
  have hA : DataW.TrodAll enc Try.prog W 0 (fun _ => true) true Try.f5.params.toList args.toList ds p := hA0
  rw [Try.params5] at hA hval
  obtain ⟨v0, vs0, d0, ds0, p0, q0, hargs, rfl, rfl, h0, r0⟩ := trodAll_cons hA
  obtain ⟨rfl, rfl, rfl⟩ := trodAll_nil r0
  obtain rfl : args = #[v0] := by cases args; simp_all
  obtain ⟨rfl, rfl⟩ := trodVars_none hV
  have k0 := h0
  have lt0 : ∀ x ∈ p0, x.block < W.heap.size := by obtain ⟨m, hm⟩ := k0; exact DataW.trod_lt m _ _ _ hm
  obtain ⟨A0, n0, c0, l0, rfl, w0⟩ := open_code (hval 0 22 v0 rfl rfl) h0
  clear hA0 hval0
  refine (walk A0 n0 c0 l0 W w0).mono fun e W' ⟨he, bel⟩ => ?_
  subst he
  exact ⟨_, rfl, _, _, _, [], _, [], hW', trodAll_mk1 (shut_bool Try.underlying4 _), (trodAll_cons_mk (Below.trod laidOut (by kernel_rfl) (of_decide_eq_true (by kernel_rfl)) k0 bel lt0) trodAll_mk0), rfl, bel.frame _, fun h => by cases h⟩

theorem over : Rows.fnSinglesOfRow.holds Try.pinned (OpenSpec.ofChange Rows.fnSinglesOfSpec) :=
  OpenClaim.holds_of_wide 5 Try.f5 rfl rfl rfl rfl rfl rfl rfl ⟨rfl, rfl, rfl, rfl, rfl⟩ rfl rfl rfl rfl rfl (by kernel_rfl) Try.func5 (by kernel_rfl)
    (of_decide_eq_true (by kernel_rfl)) (by unfold Func.isWrapper; first | (rw [if_pos (by decide +kernel)]; kernel_rfl) | (rw [if_neg (by decide +kernel)]; exact ⟨rfl, rfl⟩))
    (fun os started H enc _ => lifted os started H enc)

theorem proved : Rows.FnSinglesOfSaid := over
end Go.Proofs.Ytbkfagncoekbkaa.fnSinglesOf
