/-
For every code the law of parts that are all parts returns true.
Conditions: none.
-/
import Derived.Test.YtmahjggkiikmgaaGenW
import Derived.Test.YtmahjggkiikmgaaOpenC
import Derived.Test.YtmahjggkiikmgaaLFlag
import Derived.Test.YtmahjggkiikmgaaLAlgR
import Derived.Test.YtmahjggkiikmgaaLHelp
import Derived.Test.YtmahjggkiikmgaaAlgQ
import Derived.Test.YtmahjggkiikmgaaAlgJ
namespace Go.Proofs.Ytmahjggkiikmgaa.fnPartsOf
open Go.ChangeShapes Go.WideShapes Go.ChangeAt Go.RowKit
open Go.ChangeMaps (open_string shut_string)
set_option linter.unusedVariables false
set_option maxRecDepth 100000

set_option maxHeartbeats 16000000 in
theorem walk (A : Option Addr) (n c : Nat) (zs : List Int) (w : World) (h : SB w w.heap.size A n c zs) :
    Calls Try.prog 8 #[.slice A n c] w fun e w' => e = .returned (.bool true) ∧ Below w.heap.size w w' := by
  have hm := h.max
  have hcap := h.cap
  unfold maxLen at hm
  have HS0 := Lib.hid h
  clear h
  by_cases hbig : 1048576 < (n : Int)
  · go_enter Try.func8, Try.ntmps8
    go_wp2
    go_ret
    exact ⟨rfl, Below.refl _ _⟩
  go_enter Try.func8, Try.ntmps8
  go_wp2_with fail
  refine (drawPartsOf_any A n c zs _ HS0.out).mono ?_
  rintro e w1 ⟨Aa, ca, dsa, ba, xa, rfl, hna, hsma, hbda, hxa, hsa, hb⟩
  have HB_1 := Lib.hid hb
  have Sa_1 := Lib.hid hsa
  have HSMa := Lib.hid hsma
  have HOKa : Hid (∀ d ∈ dsa, d.ok) := Lib.hid (fun d hd => small_ok (hsma d hd))
  have HBDa := Lib.hid hbda
  clear hb hsa hsma hbda
  obtain ⟨w2, hw⟩ : ∃ W : World, W = (w1.alloc (.cells #[.slice Aa dsa.length ca, .int .i64 ba] 25)) := ⟨_, rfl⟩
  have hb : Below w1.heap.size w1 w2 := by rw [hw]; exact ((Below.refl _ _).alloc (by first | exact Nat.le_refl _ | (simp; done) | (simp; omega)) _)
  have Sa_2 := Lib.hid ((Sa_1.out.below hb).call hb.size)
  have HB_2 : Hid (Below w.heap.size w w2) := Lib.hid (HB_1.out.trans (hb.mono HB_1.out.size))
  have ba_2 : w2.cell? ⟨w1.heap.size, 0, none⟩ = some (.slice Aa dsa.length ca) := by rw [hw]; simp [go_sem]
  have va_2 : w2.cell? ⟨w1.heap.size, 1, none⟩ = some (.int .i64 ba) := by rw [hw]; simp [go_sem]
  have lf_ba : (w1.alloc (.cells #[.slice Aa dsa.length ca, .int .i64 ba] 25)).cell? ⟨w1.heap.size, 0, none⟩ = some (.slice Aa dsa.length ca) := by rw [← hw]; exact ba_2
  have lf_va : (w1.alloc (.cells #[.slice Aa dsa.length ca, .int .i64 ba] 25)).cell? ⟨w1.heap.size, 1, none⟩ = some (.int .i64 ba) := by rw [← hw]; exact va_2
  have HW2 : Hid ((w1.alloc (.cells #[.slice Aa dsa.length ca, .int .i64 ba] 25)) = w2) := Lib.hid hw.symm
  clear hb hw Sa_1 HB_1
  obtain ⟨v, hv⟩ : ∃ v, mPartsOk dsa ba xa = v := ⟨_, rfl⟩
  obtain ⟨ms, qm⟩ : ∃ ms : List Int, mParts dsa ba xa = ms := ⟨_, rfl⟩
  have HMI : Hid (∀ (A : Option Addr) (n c : Nat) (w : World), SD w w.heap.size A n c dsa → n ≤ 1048576 → Calls Try.prog 40 #[.agg #[.slice A n c, .int .i64 ba], .int .i64 xa] w (IntsP ms w)) := Lib.hid (by rw [← qm]; exact fun A n c w h hn => implParts_any dsa ba xa A n c w h hn)
  have HMS : Hid (∀ (A : Option Addr) (n c : Nat) (w : World), SD w w.heap.size A n c dsa → Calls Try.prog 42 #[.agg #[.slice A n c, .int .i64 ba], .int .i64 xa] w (IntsP ms w)) := Lib.hid (by rw [← qm]; exact fun A n c w h => specParts_any dsa ba xa A n c w h)
  have OKM : Hid (∀ s ∈ ms, -9223372036854775808 ≤ s ∧ s ≤ 9223372036854775807) := Lib.hid (by rw [← qm]; exact mParts_ok dsa ba xa)
  have hml : ms.length ≤ 4096 := by rw [← qm]; exact mParts_len dsa ba xa
  go_wp2_with fail
  rw [HW2.out]
  clear lf_ba lf_va
  refine (HMI.out _ _ _ _ Sa_2.out (by omega)).mono ?_
  rintro e w3 ⟨Ag, cg, rfl, ho, hb⟩
  have ba_3 := keep1 hb ba_2
  have va_3 := keep1 hb va_2
  have Sa_3 := Lib.hid ((Sa_2.out.below hb).call hb.size)
  have HB_3 : Hid (Below w.heap.size w w3) := Lib.hid (HB_2.out.trans (hb.mono HB_2.out.size))
  have Sg_3 := Lib.hid (si_of_own ho OKM.out)
  clear hb ho ba_2 va_2 Sa_2 HB_2
  cases v
  · skip
    obtain rfl : ms = [] := by rw [← qm]; unfold mParts; rw [hv]; rfl
    clear hv qm
    go_wp2_with fail
    refine (HMS.out _ _ _ _ Sa_3.out).mono ?_
    rintro e w4 ⟨Aw, cw, rfl, ho, hb⟩
    have ba_4 := keep1 hb ba_3
    have va_4 := keep1 hb va_3
    have Sa_4 := Lib.hid ((Sa_3.out.below hb).call hb.size)
    have Sg_4 := Lib.hid ((Sg_3.out.below hb).call hb.size)
    have HB_4 : Hid (Below w.heap.size w w4) := Lib.hid (HB_3.out.trans (hb.mono HB_3.out.size))
    have Sw_4 := Lib.hid (si_of_own ho OKM.out)
    clear hb ho ba_3 va_3 Sa_3 Sg_3 HB_3
    go_wp2_with fail
    refine (equalInts_any [] _ _ _ _ _ _ _ Sg_4.out Sw_4.out).mono ?_
    rintro e w5 ⟨rfl, hb⟩
    have ba_5 := keep1 hb ba_4
    have va_5 := keep1 hb va_4
    have Sa_5 := Lib.hid ((Sa_4.out.below hb).call hb.size)
    have Sg_5 := Lib.hid ((Sg_4.out.below hb).call hb.size)
    have Sw_5 := Lib.hid ((Sw_4.out.below hb).call hb.size)
    have HB_5 : Hid (Below w.heap.size w w5) := Lib.hid (HB_4.out.trans (hb.mono HB_4.out.size))
    clear hb  ba_4 va_4 Sa_4 Sg_4 Sw_4 HB_4
    go_wp2_with fail
    refine (HMS.out _ _ _ _ Sa_5.out).mono ?_
    rintro e w6 ⟨Av, cv, rfl, ho, hb⟩
    have ba_6 := keep1 hb ba_5
    have va_6 := keep1 hb va_5
    have Sa_6 := Lib.hid ((Sa_5.out.below hb).call hb.size)
    have Sg_6 := Lib.hid ((Sg_5.out.below hb).call hb.size)
    have Sw_6 := Lib.hid ((Sw_5.out.below hb).call hb.size)
    have HB_6 : Hid (Below w.heap.size w w6) := Lib.hid (HB_5.out.trans (hb.mono HB_5.out.size))
    have Sv_6 := Lib.hid (si_of_own ho OKM.out)
    clear hb ho ba_5 va_5 Sa_5 Sg_5 Sw_5 HB_5
    go_wp2_with fail
    refine (equalInts_any [] _ _ _ _ _ _ _ Sg_6.out Sv_6.out).mono ?_
    rintro e w7 ⟨rfl, hb⟩
    have ba_7 := keep1 hb ba_6
    have va_7 := keep1 hb va_6
    have Sa_7 := Lib.hid ((Sa_6.out.below hb).call hb.size)
    have Sg_7 := Lib.hid ((Sg_6.out.below hb).call hb.size)
    have Sw_7 := Lib.hid ((Sw_6.out.below hb).call hb.size)
    have Sv_7 := Lib.hid ((Sv_6.out.below hb).call hb.size)
    have HB_7 : Hid (Below w.heap.size w w7) := Lib.hid (HB_6.out.trans (hb.mono HB_6.out.size))
    clear hb  ba_6 va_6 Sa_6 Sg_6 Sw_6 Sv_6 HB_6
    go_wp2
    go_ret
    exact ⟨rfl, HB_7.out⟩
  have hvx : mIsV dsa ba xa = true := by unfold mPartsOk at hv; simp only [Bool.and_eq_true] at hv; exact hv.1
  have hpc : popc xa.toNat ≤ 6 := by unfold mPartsOk at hv; simp only [Bool.and_eq_true, decide_eq_true_eq] at hv; exact hv.2
  obtain ⟨p, rfl, hp⟩ := mIsV_nat hvx
  rw [Int.toNat_natCast] at hpc
  have hms : ms = partsTo p (p + 1) := by rw [← qm]; unfold mParts; rw [hv, if_pos rfl, Int.toNat_natCast]
  have HVp := Lib.hid hvx
  obtain ⟨c, qc⟩ : ∃ c, popc p = c := ⟨_, rfl⟩
  rw [qc] at hpc
  have HCN : Hid (mCount dsa ba (p : Nat) = (c : Int)) := Lib.hid (by unfold mCount; rw [hvx, if_pos rfl, Int.toNat_natCast, qc])
  have HLN : Hid (ms.length = 2 ^ c) := Lib.hid (by rw [hms, parts_len, qc])
  have hml2 : 1 ≤ ms.length := by rw [HLN.out]; exact Nat.two_pow_pos c
  have H0 : Hid (∀ h : 0 < ms.length, ms[0] = 0) := Lib.hid (by subst hms; exact parts_first p)
  have H9 : Hid (∀ h : ms.length - 1 < ms.length, ms[ms.length - 1] = (p : Int)) := Lib.hid (by subst hms; exact parts_last p)
  have HUP : Hid (∀ i (h : i + 1 < ms.length), ms[i] < ms[i + 1]) := Lib.hid (by subst hms; exact parts_up p)
  have HIN : Hid (∀ x ∈ ms, ∃ t : Nat, x = (t : Int) ∧ mHas dsa ba (p : Nat) (t : Nat) = true) := Lib.hid (fun x hx => by
    rw [hms] at hx
    obtain ⟨t, rfl, ht4, htp⟩ := parts_mem hp hx
    have hvt : mIsV dsa ba (t : Nat) = true := by
      refine mIsV_of (mIsV_flag hvx) ht4 ?_
      by_cases h3 : ba = 3
      · exact .inl h3
      · exact .inr (nl_trans htp (mIsV_part hvx h3))
    exact ⟨t, rfl, has_is hvx hvt (decide_eq_true htp)⟩)
  clear hv qm hvx hms qc
  have hnz : ((ms.length : Int) == 0) = false := by rw [beq_eq_false_iff_ne]; omega
  go_wp2_with fail
  refine (HMS.out _ _ _ _ Sa_3.out).mono ?_
  rintro e w4 ⟨Aw, cw, rfl, ho, hb⟩
  have ba_4 := keep1 hb ba_3
  have va_4 := keep1 hb va_3
  have Sa_4 := Lib.hid ((Sa_3.out.below hb).call hb.size)
  have Sg_4 := Lib.hid ((Sg_3.out.below hb).call hb.size)
  have HB_4 : Hid (Below w.heap.size w w4) := Lib.hid (HB_3.out.trans (hb.mono HB_3.out.size))
  have Sw_4 := Lib.hid (si_of_own ho OKM.out)
  clear hb ho ba_3 va_3 Sa_3 Sg_3 HB_3
  go_wp2_with fail
  refine (equalInts_any ms _ _ _ _ _ _ _ Sg_4.out Sw_4.out).mono ?_
  rintro e w5 ⟨rfl, hb⟩
  have ba_5 := keep1 hb ba_4
  have va_5 := keep1 hb va_4
  have Sa_5 := Lib.hid ((Sa_4.out.below hb).call hb.size)
  have Sg_5 := Lib.hid ((Sg_4.out.below hb).call hb.size)
  have Sw_5 := Lib.hid ((Sw_4.out.below hb).call hb.size)
  have HB_5 : Hid (Below w.heap.size w w5) := Lib.hid (HB_4.out.trans (hb.mono HB_4.out.size))
  clear hb  ba_4 va_4 Sa_4 Sg_4 Sw_4 HB_4
  clear Sw_5
  go_wp2_with fail
  refine (implCount_v dsa ba p _ _ _ _ Sa_5.out (by omega) HCN.out).mono ?_
  rintro e w6 ⟨rfl, hb⟩
  have ba_6 := keep1 hb ba_5
  have va_6 := keep1 hb va_5
  have Sa_6 := Lib.hid ((Sa_5.out.below hb).call hb.size)
  have Sg_6 := Lib.hid ((Sg_5.out.below hb).call hb.size)
  have HB_6 : Hid (Below w.heap.size w w6) := Lib.hid (HB_5.out.trans (hb.mono HB_5.out.size))
  clear hb  ba_5 va_5 Sa_5 Sg_5 HB_5
  go_wp2
  go_loop [6, 7] (fun s i => ∃ (j q : Nat), j ≤ c ∧ q ≤ 64 ∧ s = .int .i64 q ∧ i = .int .i64 ((c - j : Nat) : Int) ∧ Hid (q = 2 ^ j)) (fun _ i => (intOf i).toNat)
  case atStart => exact ⟨0, 1, Nat.zero_le _, by omega, rfl, rfl, Lib.hid rfl⟩
  case round =>
    obtain ⟨j, q, hj, hq, rfl, rfl, hq2⟩ := hrel
    by_cases hjc : j < c
    · have HQ2 : Hid (2 * q = 2 ^ (j + 1)) := Lib.hid (by rw [Nat.pow_succ, hq2.out, Nat.mul_comm])
      have hq64 : 2 * q ≤ 64 := by rw [HQ2.out]; exact Nat.pow_le_pow_right (n := 2) (by decide) (show j + 1 ≤ 6 by omega)
      have hpos : (0 : Int) < ((c - j : Nat) : Int) := by omega
      go_wp2
      go_round
      case rel => exact ⟨j + 1, 2 * q, by omega, hq64, by go_num, by go_num, HQ2⟩
      case measure => simp [intOf]; omega
    · obtain rfl : j = c := by omega
      have hz : ((j - j : Nat) : Int) = 0 := by omega
      have hqm : q = ms.length := by rw [hq2.out, HLN.out]
      subst hqm
      clear hq2 HLN
      rw [hz]
      go_wp2
      go_loopw [8] (fun i wr => ∃ (k : Nat), k ≤ ms.length ∧ i = .int .i64 k ∧ Hid (Below w.heap.size w wr) ∧ Hid (wr.cell? ⟨w1.heap.size, 0, none⟩ = some (.slice Aa dsa.length ca)) ∧ Hid (wr.cell? ⟨w1.heap.size, 1, none⟩ = some (.int .i64 ba)) ∧ Hid (SD wr wr.heap.size Aa dsa.length ca dsa) ∧ Hid (SI wr wr.heap.size Ag ms.length cg ms)) (fun i _ => ms.length - (intOf i).toNat)
      case atStart => exact ⟨0, Nat.zero_le _, rfl, HB_6, Lib.hid ba_6, Lib.hid va_6, Sa_6, Sg_6⟩
      case round =>
        obtain ⟨k, hk, rfl, hbel, hca, hcv, hsa, hsg⟩ := hrel
        clear ba_6 va_6 HB_6 Sa_6 Sg_6
        have y1 := hca.out
        have y2 := hcv.out
        clear hca hcv
        by_cases hlt : k < ms.length
        · obtain ⟨b, o2, rfl, hbb, x1⟩ := hsg.out.at_ hlt
          obtain ⟨t, ht1, ht2⟩ := HIN.out _ (List.getElem_mem hlt)
          have HT2 := Lib.hid ht2
          rw [ht1] at x1
          clear ht1 ht2
          have hi1 : (k : Int) < (ms.length : Int) := by omega
          have hi0 : (0 : Int) ≤ (k : Int) := by omega
          obtain ⟨w40, hwn⟩ : ∃ W : World, W = wr := ⟨_, rfl⟩
          subst hwn
          have HB_40 := hbel
          have ba_40 := y1
          have va_40 := y2
          have Sa_40 := hsa
          have Sg_40 := hsg
          have x1_40 := x1
          clear hbel y1 y2 hsa hsg x1
          go_wp2_with fail
          go_region_held3 (fun w' => w'.cell? ⟨w1.heap.size, 0, none⟩ = some (.slice Aa dsa.length ca) ∧ w'.cell? ⟨w1.heap.size, 1, none⟩ = some (.int .i64 ba) ∧ w'.cell? ⟨b, o2 + k, none⟩ = some (.int .i64 (t : Int)))
            (first | go_keep | exact ⟨ba_40, va_40, x1_40⟩ | exact ⟨ba_41, va_41, x1_41⟩)
            (first
              | (go_at_call 31; refine (implHas_v dsa ba p t _ _ _ _ (Sa_40.out.drewN 1) (by omega) HT2.out).mono ?_; rintro e w41 ⟨rfl, hb⟩; replace hb : Below w40.heap.size w40 w41 := (by first | exact hb | exact undrew hb); have ba_41 := keep1 hb ba_40; have va_41 := keep1 hb va_40; have x1_41 := keep1 hb x1_40; have Sa_41 := Lib.hid ((Sa_40.out.below hb).call hb.size); have Sg_41 := Lib.hid ((Sg_40.out.below hb).call hb.size); have HB_41 : Hid (Below w.heap.size w w41) := Lib.hid (HB_40.out.trans (hb.mono HB_40.out.size)); clear hb))
          go_wp2
          go_roundw
          case rel => exact ⟨k + 1, by omega, by go_num, HB_41, Lib.hid ba_41, Lib.hid va_41, Sa_41, Sg_41⟩
          case measure => simp [intOf]; omega
        · obtain rfl : k = ms.length := by omega
          obtain ⟨b, o2, hA, hbb, x0⟩ := hsg.out.at_ (show 0 < ms.length by omega)
          obtain ⟨b', o2', hA', hbb', x9⟩ := hsg.out.at_ (show ms.length - 1 < ms.length by omega)
          rw [H0.out (by omega)] at x0
          rw [H9.out (by omega)] at x9
          have HSG := Lib.hid hsg.out
          subst hA
          cases hA'
          obtain ⟨z, hz9⟩ : ∃ z, ms.length = z + 1 := ⟨ms.length - 1, by omega⟩
          have hl1 : ((ms.length : Int) == (ms.length : Int)) = true := by simp
          rw [show ms.length - 1 = z by omega] at x9
          have hw9 : (ms.length : Int) - 1 = (z : Int) := by omega
          have hi9 : (z : Int) < (ms.length : Int) := by omega
          have hi8 : (0 : Int) < (ms.length : Int) := by omega
          have x0' : wr.cell? ⟨b, o2, none⟩ = some (.int .i64 0) := by simpa using x0
          clear H0 H9 hz9 x0
          go_wp2_with fail
          refine (ascends_any ms _ _ _ _ HSG.out HUP.out).mono ?_
          rintro e w50 ⟨rfl, hb⟩
          have HB50 : Hid (Below w.heap.size w w50) := Lib.hid (hbel.out.trans (hb.mono hbel.out.size))
          clear hb
          go_wp2
          go_ret
          exact ⟨rfl, HB50.out⟩

theorem lifted (os : Os) (started : os.Started) (H : Type) (enc : TypeId × Value → H) :
    ReturnsInHanded {} Try.checked os 8 .any (Rows.fnPartsOfSpec.pre6 enc Try.prog Try.f8 Rows.fnPartsOfRow.domain false) (Rows.fnPartsOfSpec.post enc Try.prog Try.f8 false true false false) := by
  refine returnsInHanded_of_change (C := Try.checked) own started (by kernel_rfl) Try.func8
    (ChangeSpec.witness6 (enc := enc) (C := Try.checked) false ⟨#[], #[.slice none 0 0], []⟩ 8 (by kernel_rfl) (by kernel_rfl) (by kernel_rfl) (by kernel_rfl)) ?_
  intro W base args ds gs before hval0 hW hcnd _
  have hval : ∀ (j : Nat) t v, Try.f8.params[j]? = some t → args[j]? = some v → Value.okWide Try.prog W .any base t v := hval0
  have hW' := hW
  obtain ⟨p, q, hA0, hV, rfl, hfz, hnd⟩ := hW
  have hA : DataW.TrodAll enc Try.prog W 0 (fun _ => true) true Try.f8.params.toList args.toList ds p := hA0
  rw [Try.params8] at hA hval
  obtain ⟨v0, vs0, d0, ds0, p0, q0, hargs, rfl, rfl, h0, r0⟩ := trodAll_cons hA
  obtain ⟨rfl, rfl, rfl⟩ := trodAll_nil r0
  obtain rfl : args = #[v0] := by cases args; simp_all
  obtain ⟨rfl, rfl⟩ := trodVars_none hV
  have k0 := h0
  have lt0 : ∀ x ∈ p0, x.block < W.heap.size := by obtain ⟨m, hm⟩ := k0; exact DataW.trod_lt m _ _ _ hm
  obtain ⟨A0, n0, c0, l0, rfl, w0⟩ := open_code (hval 0 22 v0 rfl rfl) h0
  clear hA0 hval0
  refine (walk A0 n0 c0 l0 W w0).mono fun e W' ⟨he, bel⟩ => ?_
  subst he
  exact ⟨_, rfl, _, _, _, [], _, [], hW', trodAll_mk1 (shut_bool Try.underlying4 _), (trodAll_cons_mk (Below.trod laidOut (by kernel_rfl) (of_decide_eq_true (by kernel_rfl)) k0 bel lt0) trodAll_mk0), rfl, bel.frame _, fun h => by cases h⟩

theorem over : Rows.fnPartsOfRow.holds Try.pinned (OpenSpec.ofChange Rows.fnPartsOfSpec) :=
  OpenClaim.holds_of_wide 8 Try.f8 rfl rfl rfl rfl rfl rfl rfl ⟨rfl, rfl, rfl, rfl, rfl⟩ rfl rfl rfl rfl rfl (by kernel_rfl) Try.func8 (by kernel_rfl)
    (of_decide_eq_true (by kernel_rfl)) (by unfold Func.isWrapper; first | (rw [if_pos (by decide +kernel)]; kernel_rfl) | (rw [if_neg (by decide +kernel)]; exact ⟨rfl, rfl⟩))
    (fun os started H enc _ => lifted os started H enc)

theorem proved : Rows.FnPartsOfSaid := over
end Go.Proofs.Ytmahjggkiikmgaa.fnPartsOf
