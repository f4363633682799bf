/-
For every code the law of converted values that have the same names returns true: the program's ConvertValue answers as its model, it is FromNames of NamesIn, and to the class itself it is the value.
Conditions: none.
-/
import Derived.Test.YtbkfagncoekbkaaGenO
import Derived.Test.YtbkfagncoekbkaaOpenC
import Derived.Test.YtbkfagncoekbkaaLCv
import Derived.Test.YtbkfagncoekbkaaAlgJ
import Derived.Test.YtbkfagncoekbkaaBaseE
namespace Go.Proofs.Ytbkfagncoekbkaa.fnConvertValue
open Go.ChangeShapes Go.WideShapes Go.ChangeAt Go.RowKit
open Go.ChangeMaps (open_string shut_string)
set_option linter.unusedVariables false
set_option linter.unusedSimpArgs false
set_option maxRecDepth 100000

set_option maxHeartbeats 16000000 in
theorem walk (A : Option Addr) (n c : Nat) (zs : List Int) (w : World) (h : SB w w.heap.size A n c zs) :
    Calls Try.prog 14 #[.slice A n c] w fun e w' => e = .returned (.bool true) ∧ Below w.heap.size w w' := by
  have hm := h.max
  have hcap := h.cap
  unfold maxLen at hm
  have HS0 := Lib.hid h
  clear h
  by_cases hbig : 1048576 < (n : Int)
  · go_enter Try.func14, Try.ntmps14
    go_wp2
    go_ret
    exact ⟨rfl, Below.refl _ _⟩
  go_enter Try.func14, Try.ntmps14
  go_wp2_with fail
  refine (drawConvertValue_any A n c zs _ HS0.out).mono ?_
  rintro e w1 ⟨Aa, ca, dsa, ba, Ab, m, cb, dsb, bb, xa, rfl, hna, hmb, hsma, hsmb, hbda, hbdb, hxa, hsa, hsb, hb⟩
  have HB_1 := Lib.hid hb
  have Sa_1 := Lib.hid hsa
  have HSMa := Lib.hid hsma
  have HOKa : Hid (∀ d ∈ dsa, d.ok) := Lib.hid (fun d hd => small_ok (hsma d hd))
  have HBDa := Lib.hid hbda
  have Sb_1 := Lib.hid hsb
  have HSMb := Lib.hid hsmb
  have HOKb : Hid (∀ d ∈ dsb, d.ok) := Lib.hid (fun d hd => small_ok (hsmb d hd))
  have HBDb := Lib.hid hbdb
  obtain rfl : m = dsb.length := Sb_1.out.len.symm
  clear hb hsa hsma hbda hsb hsmb hbdb
  obtain ⟨w2, hw⟩ : ∃ W : World, W = ((w1.alloc (.cells #[.slice Aa dsa.length ca, .int .i64 ba] 25)).alloc (.cells #[.slice Ab dsb.length cb, .int .i64 bb] 25)) := ⟨_, rfl⟩
  have hb : Below w1.heap.size w1 w2 := by rw [hw]; exact (((Below.refl _ _).alloc (by first | exact Nat.le_refl _ | (simp; done) | (simp; omega)) _).alloc (by first | exact Nat.le_refl _ | (simp; done) | (simp; omega)) _)
  have Sa_2 := Lib.hid ((Sa_1.out.below hb).call hb.size)
  have Sb_2 := Lib.hid ((Sb_1.out.below hb).call hb.size)
  have HB_2 : Hid (Below w.heap.size w w2) := Lib.hid (HB_1.out.trans (hb.mono HB_1.out.size))
  have ba_2 : w2.cell? ⟨w1.heap.size, 0, none⟩ = some (.slice Aa dsa.length ca) := by rw [hw]; simp [go_sem]
  have va_2 : w2.cell? ⟨w1.heap.size, 1, none⟩ = some (.int .i64 ba) := by rw [hw]; simp [go_sem]
  have bb_2 : w2.cell? ⟨w1.heap.size + 1, 0, none⟩ = some (.slice Ab dsb.length cb) := by rw [hw]; simp [go_sem]
  have vb_2 : w2.cell? ⟨w1.heap.size + 1, 1, none⟩ = some (.int .i64 bb) := by rw [hw]; simp [go_sem]
  have lf_ba : ((w1.alloc (.cells #[.slice Aa dsa.length ca, .int .i64 ba] 25)).alloc (.cells #[.slice Ab dsb.length cb, .int .i64 bb] 25)).cell? ⟨w1.heap.size, 0, none⟩ = some (.slice Aa dsa.length ca) := by rw [← hw]; exact ba_2
  have lf_va : ((w1.alloc (.cells #[.slice Aa dsa.length ca, .int .i64 ba] 25)).alloc (.cells #[.slice Ab dsb.length cb, .int .i64 bb] 25)).cell? ⟨w1.heap.size, 1, none⟩ = some (.int .i64 ba) := by rw [← hw]; exact va_2
  have lf_bb : ((w1.alloc (.cells #[.slice Aa dsa.length ca, .int .i64 ba] 25)).alloc (.cells #[.slice Ab dsb.length cb, .int .i64 bb] 25)).cell? ⟨w1.heap.size + 1, 0, none⟩ = some (.slice Ab dsb.length cb) := by rw [← hw]; exact bb_2
  have lf_vb : ((w1.alloc (.cells #[.slice Aa dsa.length ca, .int .i64 ba] 25)).alloc (.cells #[.slice Ab dsb.length cb, .int .i64 bb] 25)).cell? ⟨w1.heap.size + 1, 1, none⟩ = some (.int .i64 bb) := by rw [← hw]; exact vb_2
  have HW2 : Hid (((w1.alloc (.cells #[.slice Aa dsa.length ca, .int .i64 ba] 25)).alloc (.cells #[.slice Ab dsb.length cb, .int .i64 bb] 25)) = w2) := Lib.hid hw.symm
  clear hb hw Sa_1 Sb_1 HB_1
  obtain ⟨r, hr⟩ : ∃ r, mConv dsa ba dsb bb xa = r := ⟨_, rfl⟩
  obtain ⟨v, hv⟩ : ∃ v, cvOk dsa ba dsb bb xa = v := ⟨_, rfl⟩
  have HR := Lib.hid hr
  have HV := Lib.hid hv
  clear hr hv
  go_wp2_with fail
  rw [HW2.out]
  clear lf_ba lf_va lf_bb lf_vb
  refine (implConv_v dsa dsb ba bb xa _ _ _ _ _ _ _ Sa_2.out Sb_2.out (by omega) (by omega) HR.out HV.out).mono ?_
  rintro e w3 ⟨rfl, hb⟩
  have ba_3 := keep1 hb ba_2
  have va_3 := keep1 hb va_2
  have bb_3 := keep1 hb bb_2
  have vb_3 := keep1 hb vb_2
  have Sa_3 := Lib.hid ((Sa_2.out.below hb).call hb.size)
  have Sb_3 := Lib.hid ((Sb_2.out.below hb).call hb.size)
  have HB_3 : Hid (Below w.heap.size w w3) := Lib.hid (HB_2.out.trans (hb.mono HB_2.out.size))
  clear hb  ba_2 va_2 bb_2 vb_2 Sa_2 Sb_2 HB_2
  go_wp2_with fail
  refine (specConv_v dsa dsb ba bb xa _ _ _ _ _ _ _ Sa_3.out Sb_3.out HR.out HV.out).mono ?_
  rintro e w4 ⟨rfl, hb⟩
  have ba_4 := keep1 hb ba_3
  have va_4 := keep1 hb va_3
  have bb_4 := keep1 hb bb_3
  have vb_4 := keep1 hb vb_3
  have Sa_4 := Lib.hid ((Sa_3.out.below hb).call hb.size)
  have Sb_4 := Lib.hid ((Sb_3.out.below hb).call hb.size)
  have HB_4 : Hid (Below w.heap.size w w4) := Lib.hid (HB_3.out.trans (hb.mono HB_3.out.size))
  clear hb  ba_3 va_3 bb_3 vb_3 Sa_3 Sb_3 HB_3
  cases v
  · skip
    go_wp2
    go_ret
    exact ⟨by first | rfl | kernel_rfl | (go_simp; done), HB_4.out⟩
  have hF := cv_law HV.out
  rw [HR.out] at hF
  obtain ⟨ns, hns⟩ : ∃ ns, mNamesIn dsa ba xa = ns := ⟨_, rfl⟩
  rw [hns] at hF
  have OKN : Hid (∀ s ∈ ns, s.size ≤ maxLen) := Lib.hid (by rw [← hns]; exact mNamesIn_ok HOKa.out)
  have hn12 : ns.length ≤ 12 := by rw [← hns]; exact mNamesIn_len _ _ _
  have HNI : Hid (∀ (A : Option Addr) (n c : Nat) (w : World), SD w w.heap.size A n c dsa → n ≤ 1048576 → Calls Try.prog 30 #[.agg #[.slice A n c, .int .i64 ba], .int .i64 xa] w (StrsP ns w)) := Lib.hid (by rw [← hns]; exact fun A n c w h hn => implNamesIn_any dsa ba xa A n c w h hn)
  unfold StrsP at HNI
  have HFR := Lib.hid hF.from_
  have HFO := Lib.hid hF.fromOk
  have HSF := Lib.hid hF.self
  have HSO := Lib.hid hF.selfOk
  have HIV := Lib.hid hF.isv
  clear hF hns HR HV
  go_wp2_with fail
  go_region_held3 (fun w' => w'.cell? ⟨w1.heap.size, 0, none⟩ = some (.slice Aa dsa.length ca) ∧ w'.cell? ⟨w1.heap.size, 1, none⟩ = some (.int .i64 ba) ∧ w'.cell? ⟨w1.heap.size + 1, 0, none⟩ = some (.slice Ab dsb.length cb) ∧ w'.cell? ⟨w1.heap.size + 1, 1, none⟩ = some (.int .i64 bb))
    (first | go_keep | exact ⟨ba_4, va_4, bb_4, vb_4⟩ | exact ⟨ba_5, va_5, bb_5, vb_5⟩ | exact ⟨ba_6, va_6, bb_6, vb_6⟩)
    (first
      | (go_at_call 30; refine (HNI.out _ _ _ _ (Sa_4.out.drewN 1) (by omega)).mono ?_; rintro e w5 ⟨An, cn, rfl, ho, hb⟩; replace hb : Below w4.heap.size w4 w5 := (by first | exact hb | exact undrew hb); have ba_5 := keep1 hb ba_4; have va_5 := keep1 hb va_4; have bb_5 := keep1 hb bb_4; have vb_5 := keep1 hb vb_4; have Sa_5 := Lib.hid ((Sa_4.out.below hb).call hb.size); have Sb_5 := Lib.hid ((Sb_4.out.below hb).call hb.size); have HB_5 : Hid (Below w.heap.size w w5) := Lib.hid (HB_4.out.trans (hb.mono HB_4.out.size)); have Sn_5 := Lib.hid (ss_of_own ho OKN.out); clear ho; clear hb)
      | (go_at_call 29; refine (implFrom_v dsb bb ns _ _ _ _ Sb_5.out _ _ _ Sn_5.out (by omega) HFR.out HFO.out).mono ?_; rintro e w6 ⟨rfl, hb⟩; have ba_6 := keep1 hb ba_5; have va_6 := keep1 hb va_5; have bb_6 := keep1 hb bb_5; have vb_6 := keep1 hb vb_5; have Sa_6 := Lib.hid ((Sa_5.out.below hb).call hb.size); have Sb_6 := Lib.hid ((Sb_5.out.below hb).call hb.size); have Sn_6 := Lib.hid ((Sn_5.out.below hb).call hb.size); have HB_6 : Hid (Below w.heap.size w w6) := Lib.hid (HB_5.out.trans (hb.mono HB_5.out.size)); clear hb))
  go_wp2_with fail
  refine (implConv_v dsa dsa ba ba xa _ _ _ _ _ _ _ Sa_6.out Sa_6.out (by omega) (by omega) HSF.out HSO.out).mono ?_
  rintro e w7 ⟨rfl, hb⟩
  have ba_7 := keep1 hb ba_6
  have va_7 := keep1 hb va_6
  have bb_7 := keep1 hb bb_6
  have vb_7 := keep1 hb vb_6
  have Sa_7 := Lib.hid ((Sa_6.out.below hb).call hb.size)
  have Sb_7 := Lib.hid ((Sb_6.out.below hb).call hb.size)
  have Sn_7 := Lib.hid ((Sn_6.out.below hb).call hb.size)
  have HB_7 : Hid (Below w.heap.size w w7) := Lib.hid (HB_6.out.trans (hb.mono HB_6.out.size))
  clear hb  ba_6 va_6 bb_6 vb_6 Sa_6 Sb_6 Sn_6 HB_6
  go_wp2_with fail
  refine (implIsV_v dsb bb r _ _ _ _ Sb_7.out (by omega) HIV.out).mono ?_
  rintro e w8 ⟨rfl, hb⟩
  have ba_8 := keep1 hb ba_7
  have va_8 := keep1 hb va_7
  have bb_8 := keep1 hb bb_7
  have vb_8 := keep1 hb vb_7
  have Sa_8 := Lib.hid ((Sa_7.out.below hb).call hb.size)
  have Sb_8 := Lib.hid ((Sb_7.out.below hb).call hb.size)
  have Sn_8 := Lib.hid ((Sn_7.out.below hb).call hb.size)
  have HB_8 : Hid (Below w.heap.size w w8) := Lib.hid (HB_7.out.trans (hb.mono HB_7.out.size))
  clear hb  ba_7 va_7 bb_7 vb_7 Sa_7 Sb_7 Sn_7 HB_7
  go_wp2
  go_ret
  exact ⟨by first | rfl | kernel_rfl | (go_simp; done), HB_8.out⟩

theorem lifted (os : Os) (started : os.Started) (H : Type) (enc : TypeId × Value → H) :
    ReturnsInHanded {} Try.checked os 14 .any (Rows.fnConvertValueSpec.pre6 enc Try.prog Try.f14 Rows.fnConvertValueRow.domain false) (Rows.fnConvertValueSpec.post enc Try.prog Try.f14 false true false false) := by
  refine returnsInHanded_of_change (C := Try.checked) own started (by kernel_rfl) Try.func14
    (ChangeSpec.witness6 (enc := enc) (C := Try.checked) false ⟨#[], #[.slice none 0 0], []⟩ 8 (by kernel_rfl) (by kernel_rfl) (by kernel_rfl) (by kernel_rfl)) ?_
  intro W base args ds gs before hval0 hW hcnd _
  have hval : ∀ (j : Nat) t v, Try.f14.params[j]? = some t → args[j]? = some v → Value.okWide Try.prog W .any base t v := hval0
  have hW' := hW
  obtain ⟨p, q, hA0, hV, rfl, hfz, hnd⟩ := hW
  have hA : DataW.TrodAll enc Try.prog W 0 (fun _ => true) true Try.f14.params.toList args.toList ds p := hA0
  rw [Try.params14] at hA hval
  obtain ⟨v0, vs0, d0, ds0, p0, q0, hargs, rfl, rfl, h0, r0⟩ := trodAll_cons hA
  obtain ⟨rfl, rfl, rfl⟩ := trodAll_nil r0
  obtain rfl : args = #[v0] := by cases args; simp_all
  obtain ⟨rfl, rfl⟩ := trodVars_none hV
  have k0 := h0
  have lt0 : ∀ x ∈ p0, x.block < W.heap.size := by obtain ⟨m, hm⟩ := k0; exact DataW.trod_lt m _ _ _ hm
  obtain ⟨A0, n0, c0, l0, rfl, w0⟩ := open_code (hval 0 22 v0 rfl rfl) h0
  clear hA0 hval0
  refine (walk A0 n0 c0 l0 W w0).mono fun e W' ⟨he, bel⟩ => ?_
  subst he
  exact ⟨_, rfl, _, _, _, [], _, [], hW', trodAll_mk1 (shut_bool Try.underlying4 _), (trodAll_cons_mk (Below.trod laidOut (by kernel_rfl) (of_decide_eq_true (by kernel_rfl)) k0 bel lt0) trodAll_mk0), rfl, bel.frame _, fun h => by cases h⟩

theorem over : Rows.fnConvertValueRow.holds Try.pinned (OpenSpec.ofChange Rows.fnConvertValueSpec) :=
  OpenClaim.holds_of_wide 14 Try.f14 rfl rfl rfl rfl rfl rfl rfl ⟨rfl, rfl, rfl, rfl, rfl⟩ rfl rfl rfl rfl rfl (by kernel_rfl) Try.func14 (by kernel_rfl)
    (of_decide_eq_true (by kernel_rfl)) (by unfold Func.isWrapper; first | (rw [if_pos (by decide +kernel)]; kernel_rfl) | (rw [if_neg (by decide +kernel)]; exact ⟨rfl, rfl⟩))
    (fun os started H enc _ => lifted os started H enc)

theorem proved : Rows.FnConvertValueSaid := over
end Go.Proofs.Ytbkfagncoekbkaa.fnConvertValue
