/-
For every code the law of bits that are counted once returns true.
Conditions: none.
-/
import Derived.Test.YtmahjggkiikmgaaGenW
import Derived.Test.YtmahjggkiikmgaaOpenC
import Derived.Test.YtmahjggkiikmgaaLFlag
import Derived.Test.YtmahjggkiikmgaaLAlgR
import Derived.Test.YtmahjggkiikmgaaAlgS
import Derived.Test.YtmahjggkiikmgaaAlgJ
namespace Go.Proofs.Ytmahjggkiikmgaa.fnCountBits
open Go.ChangeShapes Go.WideShapes Go.ChangeAt Go.RowKit
open Go.ChangeMaps (open_string shut_string)
set_option linter.unusedVariables false
set_option maxRecDepth 100000

set_option maxHeartbeats 16000000 in
theorem walk (A : Option Addr) (n c : Nat) (zs : List Int) (w : World) (h : SB w w.heap.size A n c zs) :
    Calls Try.prog 6 #[.slice A n c] w fun e w' => e = .returned (.bool true) ∧ Below w.heap.size w w' := by
  have hm := h.max
  have hcap := h.cap
  unfold maxLen at hm
  have HS0 := Lib.hid h
  clear h
  by_cases hbig : 1048576 < (n : Int)
  · go_enter Try.func6, Try.ntmps6
    go_wp2
    go_ret
    exact ⟨rfl, Below.refl _ _⟩
  go_enter Try.func6, Try.ntmps6
  go_wp2_with fail
  refine (drawCountBits_any A n c zs _ HS0.out).mono ?_
  rintro e w1 ⟨Aa, ca, dsa, ba, xa, rfl, hna, hsma, hbda, hxa, hsa, hb⟩
  have HB_1 := Lib.hid hb
  have Sa_1 := Lib.hid hsa
  have HSMa := Lib.hid hsma
  have HOKa : Hid (∀ d ∈ dsa, d.ok) := Lib.hid (fun d hd => small_ok (hsma d hd))
  have HBDa := Lib.hid hbda
  clear hb hsa hsma hbda
  obtain ⟨w2, hw⟩ : ∃ W : World, W = (w1.alloc (.cells #[.slice Aa dsa.length ca, .int .i64 ba] 25)) := ⟨_, rfl⟩
  have hb : Below w1.heap.size w1 w2 := by rw [hw]; exact ((Below.refl _ _).alloc (by first | exact Nat.le_refl _ | (simp; done) | (simp; omega)) _)
  have Sa_2 := Lib.hid ((Sa_1.out.below hb).call hb.size)
  have HB_2 : Hid (Below w.heap.size w w2) := Lib.hid (HB_1.out.trans (hb.mono HB_1.out.size))
  have ba_2 : w2.cell? ⟨w1.heap.size, 0, none⟩ = some (.slice Aa dsa.length ca) := by rw [hw]; simp [go_sem]
  have va_2 : w2.cell? ⟨w1.heap.size, 1, none⟩ = some (.int .i64 ba) := by rw [hw]; simp [go_sem]
  have lf_ba : (w1.alloc (.cells #[.slice Aa dsa.length ca, .int .i64 ba] 25)).cell? ⟨w1.heap.size, 0, none⟩ = some (.slice Aa dsa.length ca) := by rw [← hw]; exact ba_2
  have lf_va : (w1.alloc (.cells #[.slice Aa dsa.length ca, .int .i64 ba] 25)).cell? ⟨w1.heap.size, 1, none⟩ = some (.int .i64 ba) := by rw [← hw]; exact va_2
  have HW2 : Hid ((w1.alloc (.cells #[.slice Aa dsa.length ca, .int .i64 ba] 25)) = w2) := Lib.hid hw.symm
  clear hb hw Sa_1 HB_1
  obtain ⟨r, hr⟩ : ∃ r, mCount dsa ba xa = r := ⟨_, rfl⟩
  have HR := Lib.hid hr
  clear hr
  go_wp2_with fail
  rw [HW2.out]
  clear lf_ba lf_va
  refine (implCount_v dsa ba xa _ _ _ _ Sa_2.out (by omega) HR.out).mono ?_
  rintro e w3 ⟨rfl, hb⟩
  have ba_3 := keep1 hb ba_2
  have va_3 := keep1 hb va_2
  have Sa_3 := Lib.hid ((Sa_2.out.below hb).call hb.size)
  have HB_3 : Hid (Below w.heap.size w w3) := Lib.hid (HB_2.out.trans (hb.mono HB_2.out.size))
  clear hb  ba_2 va_2 Sa_2 HB_2
  go_wp2_with fail
  refine (specCount_v dsa ba xa _ _ _ _ Sa_3.out HR.out).mono ?_
  rintro e w4 ⟨rfl, hb⟩
  have ba_4 := keep1 hb ba_3
  have va_4 := keep1 hb va_3
  have Sa_4 := Lib.hid ((Sa_3.out.below hb).call hb.size)
  have HB_4 : Hid (Below w.heap.size w w4) := Lib.hid (HB_3.out.trans (hb.mono HB_3.out.size))
  clear hb  ba_3 va_3 Sa_3 HB_3
  by_cases h0 : r < 0
  · skip
    go_wp2_with fail
    refine (specCount_v dsa ba xa _ _ _ _ Sa_4.out HR.out).mono ?_
    rintro e w5 ⟨rfl, hb⟩
    have ba_5 := keep1 hb ba_4
    have va_5 := keep1 hb va_4
    have Sa_5 := Lib.hid ((Sa_4.out.below hb).call hb.size)
    have HB_5 : Hid (Below w.heap.size w w5) := Lib.hid (HB_4.out.trans (hb.mono HB_4.out.size))
    clear hb  ba_4 va_4 Sa_4 HB_4
    go_wp2
    go_ret
    exact ⟨rfl, HB_5.out⟩
  have hvx : mIsV dsa ba xa = true := by
    cases h : mIsV dsa ba xa
    · exact absurd (by rw [← HR.out]; unfold mCount; rw [h, if_neg (by decide)]; decide) h0
    · rfl
  obtain ⟨p, rfl, hp⟩ := mIsV_nat hvx
  have HVp := Lib.hid hvx
  have HFL := Lib.hid (mIsV_flag hvx)
  have hcnt : ∀ x : Nat, mIsV dsa ba x = true → mCount dsa ba x = ((popc x : Nat) : Int) := fun x h => by unfold mCount; rw [h, if_pos rfl, Int.toNat_natCast]
  have hpl : ∀ x : Nat, x < 4096 → popc x < 4096 := fun x h => Nat.lt_of_le_of_lt (popc_le x) h
  obtain ⟨m, qm⟩ : ∃ m, mMask dsa = m := ⟨_, rfl⟩
  have hm : m < 4096 := by rw [← qm]; exact mMask_lt12 (vFlag_in HFL.out)
  have HVm : Hid (mIsV dsa ba (m : Nat) = true) := Lib.hid (by rw [← qm]; exact v_mask HFL.out)
  have HMK : Hid (mMaskOf dsa ba = (m : Int)) := Lib.hid (by rw [← qm]; exact if_yes HFL.out)
  obtain ⟨u, qu⟩ : ∃ u, p ||| m = u := ⟨_, rfl⟩
  have hu : u < 4096 := by rw [← qu]; exact or_lt hp hm
  have HVu : Hid (mIsV dsa ba (u : Nat) = true) := Lib.hid (by rw [← qu]; exact v_or HVp.out HVm.out)
  have H1 : Hid (mOp orN dsa ba (p : Nat) (m : Nat) = (u : Int)) := Lib.hid (op_is HVp.out HVm.out (by exact qu))
  obtain ⟨i, qi⟩ : ∃ i, p &&& m = i := ⟨_, rfl⟩
  have hi : i < 4096 := by rw [← qi]; exact and_lt hp
  have HVi : Hid (mIsV dsa ba (i : Nat) = true) := Lib.hid (by rw [← qi]; exact v_and HVp.out HVm.out)
  have H2 : Hid (mOp andN dsa ba (p : Nat) (m : Nat) = (i : Int)) := Lib.hid (op_is HVp.out HVm.out (by exact qi))
  have hsum := popc_or_and p m
  rw [qu, qi] at hsum
  have hz0 := popc_zero_iff p
  have hil := in_len (ds := dsa) hp
  obtain ⟨cp, qcp⟩ : ∃ c, popc p = c := ⟨_, rfl⟩
  have hcp : cp < 4096 := by rw [← qcp]; exact hpl p hp
  have HCp : Hid (mCount dsa ba (p : Nat) = (cp : Int)) := Lib.hid (by rw [← qcp]; exact hcnt p HVp.out)
  obtain ⟨cm, qcm⟩ : ∃ c, popc m = c := ⟨_, rfl⟩
  have hcm : cm < 4096 := by rw [← qcm]; exact hpl m hm
  have HCm : Hid (mCount dsa ba (m : Nat) = (cm : Int)) := Lib.hid (by rw [← qcm]; exact hcnt m HVm.out)
  obtain ⟨cu, qcu⟩ : ∃ c, popc u = c := ⟨_, rfl⟩
  have hcu : cu < 4096 := by rw [← qcu]; exact hpl u hu
  have HCu : Hid (mCount dsa ba (u : Nat) = (cu : Int)) := Lib.hid (by rw [← qcu]; exact hcnt u HVu.out)
  obtain ⟨ci, qci⟩ : ∃ c, popc i = c := ⟨_, rfl⟩
  have hci : ci < 4096 := by rw [← qci]; exact hpl i hi
  have HCi : Hid (mCount dsa ba (i : Nat) = (ci : Int)) := Lib.hid (by rw [← qci]; exact hcnt i HVi.out)
  rw [qcp, qcm, qcu, qci] at hsum
  rw [qcp] at hz0 hil
  obtain rfl : r = (cp : Int) := by rw [← HR.out]; exact HCp.out
  have e1 : ((cp : Int) + (cm : Int) == (cu : Int) + (ci : Int)) = true := by rw [beq_iff_eq]; omega
  obtain ⟨ns, qn⟩ : ∃ ns, mNamesIn dsa ba (p : Nat) = ns := ⟨_, rfl⟩
  have hnl : ns.length ≤ cp := by rw [← qn]; unfold mNamesIn; rw [HVp.out, if_pos rfl, List.length_map, Int.toNat_natCast]; exact hil
  have HNI : Hid (∀ (A : Option Addr) (n c : Nat) (w : World), SD w w.heap.size A n c dsa → n ≤ 1048576 → Calls Try.prog 16 #[.agg #[.slice A n c, .int .i64 ba], .int .i64 p] w (StrsP ns w)) := Lib.hid (by rw [← qn]; exact fun A n c w h hn => implNamesIn_any dsa ba p A n c w h hn)
  clear hsum hil hvx hcnt hpl qn h0
  clear qm qu qi qcp qcm qcu qci
  go_wp2_with fail
  refine (implMaskOf_v dsa ba _ _ _ _ Sa_4.out (by omega) HMK.out).mono ?_
  rintro e w5 ⟨rfl, hb⟩
  have ba_5 := keep1 hb ba_4
  have va_5 := keep1 hb va_4
  have Sa_5 := Lib.hid ((Sa_4.out.below hb).call hb.size)
  have HB_5 : Hid (Below w.heap.size w w5) := Lib.hid (HB_4.out.trans (hb.mono HB_4.out.size))
  clear hb  ba_4 va_4 Sa_4 HB_4
  have hw1 : IntKind.i64.wrap ((cp : Int) + (cm : Int)) = (cp : Int) + (cm : Int) := by rw [IntKind.wrap_i64]; omega
  have hw2 : IntKind.i64.wrap ((cu : Int) + (ci : Int)) = (cu : Int) + (ci : Int) := by rw [IntKind.wrap_i64]; omega
  have e2 : (ns.length : Int) ≤ (cp : Int) := by omega
  by_cases hz : p = 0
  · have e3 : ((p : Int) == 0) = true := by rw [beq_iff_eq]; omega
    have e4 : ((cp : Int) == 0) = true := by rw [beq_iff_eq]; have := hz0.2 hz; omega
    clear hz0 hz
    go_wp2_with fail
    go_region_held3 (fun w' => w'.cell? ⟨w1.heap.size, 0, none⟩ = some (.slice Aa dsa.length ca) ∧ w'.cell? ⟨w1.heap.size, 1, none⟩ = some (.int .i64 ba))
      (first | go_keep | exact ⟨ba_5, va_5⟩ | exact ⟨ba_6, va_6⟩ | exact ⟨ba_7, va_7⟩ | exact ⟨ba_8, va_8⟩ | exact ⟨ba_9, va_9⟩ | exact ⟨ba_10, va_10⟩ | exact ⟨ba_11, va_11⟩)
      (first
        | (go_at_call_of 33 m; refine (implCount_v dsa ba m _ _ _ _ (Sa_5.out.drewN 1) (by omega) HCm.out).mono ?_; rintro e w6 ⟨rfl, hb⟩; replace hb : Below w5.heap.size w5 w6 := (by first | exact hb | exact undrew hb); have ba_6 := keep1 hb ba_5; have va_6 := keep1 hb va_5; have Sa_6 := Lib.hid ((Sa_5.out.below hb).call hb.size); have HB_6 : Hid (Below w.heap.size w w6) := Lib.hid (HB_5.out.trans (hb.mono HB_5.out.size)); clear hb)
        | (go_at_call 25; refine (implOr_v dsa ba p m _ _ _ _ Sa_6.out (by omega) H1.out).mono ?_; rintro e w7 ⟨rfl, hb⟩; have ba_7 := keep1 hb ba_6; have va_7 := keep1 hb va_6; have Sa_7 := Lib.hid ((Sa_6.out.below hb).call hb.size); have HB_7 : Hid (Below w.heap.size w w7) := Lib.hid (HB_6.out.trans (hb.mono HB_6.out.size)); clear hb)
        | (go_at_call_of 33 u; refine (implCount_v dsa ba u _ _ _ _ Sa_7.out (by omega) HCu.out).mono ?_; rintro e w8 ⟨rfl, hb⟩; have ba_8 := keep1 hb ba_7; have va_8 := keep1 hb va_7; have Sa_8 := Lib.hid ((Sa_7.out.below hb).call hb.size); have HB_8 : Hid (Below w.heap.size w w8) := Lib.hid (HB_7.out.trans (hb.mono HB_7.out.size)); clear hb)
        | (go_at_call 22; refine (implAnd_v dsa ba p m _ _ _ _ Sa_8.out (by omega) H2.out).mono ?_; rintro e w9 ⟨rfl, hb⟩; have ba_9 := keep1 hb ba_8; have va_9 := keep1 hb va_8; have Sa_9 := Lib.hid ((Sa_8.out.below hb).call hb.size); have HB_9 : Hid (Below w.heap.size w w9) := Lib.hid (HB_8.out.trans (hb.mono HB_8.out.size)); clear hb)
        | (go_at_call_of 33 i; refine (implCount_v dsa ba i _ _ _ _ Sa_9.out (by omega) HCi.out).mono ?_; rintro e w10 ⟨rfl, hb⟩; have ba_10 := keep1 hb ba_9; have va_10 := keep1 hb va_9; have Sa_10 := Lib.hid ((Sa_9.out.below hb).call hb.size); have HB_10 : Hid (Below w.heap.size w w10) := Lib.hid (HB_9.out.trans (hb.mono HB_9.out.size)); clear hb)
        | (go_at_call 16; refine (HNI.out _ _ _ _ Sa_10.out (by omega)).mono ?_; rintro e w11 ⟨An, cn, rfl, ho, hb⟩; have ba_11 := keep1 hb ba_10; have va_11 := keep1 hb va_10; have Sa_11 := Lib.hid ((Sa_10.out.below hb).call hb.size); have HB_11 : Hid (Below w.heap.size w w11) := Lib.hid (HB_10.out.trans (hb.mono HB_10.out.size)); clear ho; clear hb))
    go_wp2
    go_ret
    exact ⟨rfl, HB_11.out⟩
  · have e3 : ((p : Int) == 0) = false := by rw [beq_eq_false_iff_ne]; omega
    have e4 : ((cp : Int) == 0) = false := by rw [beq_eq_false_iff_ne]; intro h; exact hz (hz0.1 (by omega))
    clear hz0 hz
    go_wp2_with fail
    go_region_held3 (fun w' => w'.cell? ⟨w1.heap.size, 0, none⟩ = some (.slice Aa dsa.length ca) ∧ w'.cell? ⟨w1.heap.size, 1, none⟩ = some (.int .i64 ba))
      (first | go_keep | exact ⟨ba_5, va_5⟩ | exact ⟨ba_6, va_6⟩ | exact ⟨ba_7, va_7⟩ | exact ⟨ba_8, va_8⟩ | exact ⟨ba_9, va_9⟩ | exact ⟨ba_10, va_10⟩ | exact ⟨ba_11, va_11⟩)
      (first
        | (go_at_call_of 33 m; refine (implCount_v dsa ba m _ _ _ _ (Sa_5.out.drewN 1) (by omega) HCm.out).mono ?_; rintro e w6 ⟨rfl, hb⟩; replace hb : Below w5.heap.size w5 w6 := (by first | exact hb | exact undrew hb); have ba_6 := keep1 hb ba_5; have va_6 := keep1 hb va_5; have Sa_6 := Lib.hid ((Sa_5.out.below hb).call hb.size); have HB_6 : Hid (Below w.heap.size w w6) := Lib.hid (HB_5.out.trans (hb.mono HB_5.out.size)); clear hb)
        | (go_at_call 25; refine (implOr_v dsa ba p m _ _ _ _ Sa_6.out (by omega) H1.out).mono ?_; rintro e w7 ⟨rfl, hb⟩; have ba_7 := keep1 hb ba_6; have va_7 := keep1 hb va_6; have Sa_7 := Lib.hid ((Sa_6.out.below hb).call hb.size); have HB_7 : Hid (Below w.heap.size w w7) := Lib.hid (HB_6.out.trans (hb.mono HB_6.out.size)); clear hb)
        | (go_at_call_of 33 u; refine (implCount_v dsa ba u _ _ _ _ Sa_7.out (by omega) HCu.out).mono ?_; rintro e w8 ⟨rfl, hb⟩; have ba_8 := keep1 hb ba_7; have va_8 := keep1 hb va_7; have Sa_8 := Lib.hid ((Sa_7.out.below hb).call hb.size); have HB_8 : Hid (Below w.heap.size w w8) := Lib.hid (HB_7.out.trans (hb.mono HB_7.out.size)); clear hb)
        | (go_at_call 22; refine (implAnd_v dsa ba p m _ _ _ _ Sa_8.out (by omega) H2.out).mono ?_; rintro e w9 ⟨rfl, hb⟩; have ba_9 := keep1 hb ba_8; have va_9 := keep1 hb va_8; have Sa_9 := Lib.hid ((Sa_8.out.below hb).call hb.size); have HB_9 : Hid (Below w.heap.size w w9) := Lib.hid (HB_8.out.trans (hb.mono HB_8.out.size)); clear hb)
        | (go_at_call_of 33 i; refine (implCount_v dsa ba i _ _ _ _ Sa_9.out (by omega) HCi.out).mono ?_; rintro e w10 ⟨rfl, hb⟩; have ba_10 := keep1 hb ba_9; have va_10 := keep1 hb va_9; have Sa_10 := Lib.hid ((Sa_9.out.below hb).call hb.size); have HB_10 : Hid (Below w.heap.size w w10) := Lib.hid (HB_9.out.trans (hb.mono HB_9.out.size)); clear hb)
        | (go_at_call 16; refine (HNI.out _ _ _ _ Sa_10.out (by omega)).mono ?_; rintro e w11 ⟨An, cn, rfl, ho, hb⟩; have ba_11 := keep1 hb ba_10; have va_11 := keep1 hb va_10; have Sa_11 := Lib.hid ((Sa_10.out.below hb).call hb.size); have HB_11 : Hid (Below w.heap.size w w11) := Lib.hid (HB_10.out.trans (hb.mono HB_10.out.size)); clear ho; clear hb))
    go_wp2
    go_ret
    exact ⟨rfl, HB_11.out⟩

theorem lifted (os : Os) (started : os.Started) (H : Type) (enc : TypeId × Value → H) :
    ReturnsInHanded {} Try.checked os 6 .any (Rows.fnCountBitsSpec.pre6 enc Try.prog Try.f6 Rows.fnCountBitsRow.domain false) (Rows.fnCountBitsSpec.post enc Try.prog Try.f6 false true false false) := by
  refine returnsInHanded_of_change (C := Try.checked) own started (by kernel_rfl) Try.func6
    (ChangeSpec.witness6 (enc := enc) (C := Try.checked) false ⟨#[], #[.slice none 0 0], []⟩ 8 (by kernel_rfl) (by kernel_rfl) (by kernel_rfl) (by kernel_rfl)) ?_
  intro W base args ds gs before hval0 hW hcnd _
  have hval : ∀ (j : Nat) t v, Try.f6.params[j]? = some t → args[j]? = some v → Value.okWide Try.prog W .any base t v := hval0
  have hW' := hW
  obtain ⟨p, q, hA0, hV, rfl, hfz, hnd⟩ := hW
  have hA : DataW.TrodAll enc Try.prog W 0 (fun _ => true) true Try.f6.params.toList args.toList ds p := hA0
  rw [Try.params6] at hA hval
  obtain ⟨v0, vs0, d0, ds0, p0, q0, hargs, rfl, rfl, h0, r0⟩ := trodAll_cons hA
  obtain ⟨rfl, rfl, rfl⟩ := trodAll_nil r0
  obtain rfl : args = #[v0] := by cases args; simp_all
  obtain ⟨rfl, rfl⟩ := trodVars_none hV
  have k0 := h0
  have lt0 : ∀ x ∈ p0, x.block < W.heap.size := by obtain ⟨m, hm⟩ := k0; exact DataW.trod_lt m _ _ _ hm
  obtain ⟨A0, n0, c0, l0, rfl, w0⟩ := open_code (hval 0 22 v0 rfl rfl) h0
  clear hA0 hval0
  refine (walk A0 n0 c0 l0 W w0).mono fun e W' ⟨he, bel⟩ => ?_
  subst he
  exact ⟨_, rfl, _, _, _, [], _, [], hW', trodAll_mk1 (shut_bool Try.underlying4 _), (trodAll_cons_mk (Below.trod laidOut (by kernel_rfl) (of_decide_eq_true (by kernel_rfl)) k0 bel lt0) trodAll_mk0), rfl, bel.frame _, fun h => by cases h⟩

theorem over : Rows.fnCountBitsRow.holds Try.pinned (OpenSpec.ofChange Rows.fnCountBitsSpec) :=
  OpenClaim.holds_of_wide 6 Try.f6 rfl rfl rfl rfl rfl rfl rfl ⟨rfl, rfl, rfl, rfl, rfl⟩ rfl rfl rfl rfl rfl (by kernel_rfl) Try.func6 (by kernel_rfl)
    (of_decide_eq_true (by kernel_rfl)) (by unfold Func.isWrapper; first | (rw [if_pos (by decide +kernel)]; kernel_rfl) | (rw [if_neg (by decide +kernel)]; exact ⟨rfl, rfl⟩))
    (fun os started H enc _ => lifted os started H enc)

theorem proved : Rows.FnCountBitsSaid := over
end Go.Proofs.Ytmahjggkiikmgaa.fnCountBits
