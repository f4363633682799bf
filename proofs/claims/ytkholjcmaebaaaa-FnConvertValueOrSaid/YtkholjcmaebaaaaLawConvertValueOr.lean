/-
For every code the law of converting that goes through either returns true: the program's ConvertValue answers as its model, and that of a value is either of those of its bits.
Conditions: none.
-/
import Derived.Test.YtkholjcmaebaaaaGenO
import Derived.Test.YtkholjcmaebaaaaOpenC
import Derived.Test.YtkholjcmaebaaaaLCvOr
import Derived.Test.YtkholjcmaebaaaaAlgJ
import Derived.Test.YtkholjcmaebaaaaAlgI
import Derived.Test.YtkholjcmaebaaaaBaseE
namespace Go.Proofs.Ytkholjcmaebaaaa.fnConvertValueOr
open Go.ChangeShapes Go.WideShapes Go.ChangeAt Go.RowKit
open Go.ChangeMaps (open_string shut_string)
set_option linter.unusedVariables false
set_option linter.unusedSimpArgs false
set_option maxRecDepth 100000

set_option maxHeartbeats 16000000 in
theorem walk (A : Option Addr) (n c : Nat) (zs : List Int) (w : World) (h : SB w w.heap.size A n c zs) :
    Calls Try.prog 3 #[.slice A n c] w fun e w' => e = .returned (.bool true) ∧ Below w.heap.size w w' := by
  have hm := h.max
  have hcap := h.cap
  unfold maxLen at hm
  have HS0 := Lib.hid h
  clear h
  by_cases hbig : 1048576 < (n : Int)
  · go_enter Try.func3, Try.ntmps3
    go_wp2
    go_ret
    exact ⟨rfl, Below.refl _ _⟩
  go_enter Try.func3, Try.ntmps3
  go_wp2_with fail
  refine (drawConvertValue_any A n c zs _ HS0.out).mono ?_
  rintro e w1 ⟨Aa, ca, dsa, ba, Ab, m, cb, dsb, bb, xa, rfl, hna, hmb, hsma, hsmb, hbda, hbdb, hxa, hsa, hsb, hb⟩
  have HB_1 := Lib.hid hb
  have Sa_1 := Lib.hid hsa
  have HSMa := Lib.hid hsma
  have HOKa : Hid (∀ d ∈ dsa, d.ok) := Lib.hid (fun d hd => small_ok (hsma d hd))
  have HBDa := Lib.hid hbda
  have Sb_1 := Lib.hid hsb
  have HSMb := Lib.hid hsmb
  have HOKb : Hid (∀ d ∈ dsb, d.ok) := Lib.hid (fun d hd => small_ok (hsmb d hd))
  have HBDb := Lib.hid hbdb
  obtain rfl : m = dsb.length := Sb_1.out.len.symm
  clear hb hsa hsma hbda hsb hsmb hbdb
  obtain ⟨w2, hw⟩ : ∃ W : World, W = ((w1.alloc (.cells #[.slice Aa dsa.length ca, .int .i64 ba] 25)).alloc (.cells #[.slice Ab dsb.length cb, .int .i64 bb] 25)) := ⟨_, rfl⟩
  have hb : Below w1.heap.size w1 w2 := by rw [hw]; exact (((Below.refl _ _).alloc (by first | exact Nat.le_refl _ | (simp; done) | (simp; omega)) _).alloc (by first | exact Nat.le_refl _ | (simp; done) | (simp; omega)) _)
  have Sa_2 := Lib.hid ((Sa_1.out.below hb).call hb.size)
  have Sb_2 := Lib.hid ((Sb_1.out.below hb).call hb.size)
  have HB_2 : Hid (Below w.heap.size w w2) := Lib.hid (HB_1.out.trans (hb.mono HB_1.out.size))
  have ba_2 : w2.cell? ⟨w1.heap.size, 0, none⟩ = some (.slice Aa dsa.length ca) := by rw [hw]; simp [go_sem]
  have va_2 : w2.cell? ⟨w1.heap.size, 1, none⟩ = some (.int .i64 ba) := by rw [hw]; simp [go_sem]
  have bb_2 : w2.cell? ⟨w1.heap.size + 1, 0, none⟩ = some (.slice Ab dsb.length cb) := by rw [hw]; simp [go_sem]
  have vb_2 : w2.cell? ⟨w1.heap.size + 1, 1, none⟩ = some (.int .i64 bb) := by rw [hw]; simp [go_sem]
  have lf_ba : ((w1.alloc (.cells #[.slice Aa dsa.length ca, .int .i64 ba] 25)).alloc (.cells #[.slice Ab dsb.length cb, .int .i64 bb] 25)).cell? ⟨w1.heap.size, 0, none⟩ = some (.slice Aa dsa.length ca) := by rw [← hw]; exact ba_2
  have lf_va : ((w1.alloc (.cells #[.slice Aa dsa.length ca, .int .i64 ba] 25)).alloc (.cells #[.slice Ab dsb.length cb, .int .i64 bb] 25)).cell? ⟨w1.heap.size, 1, none⟩ = some (.int .i64 ba) := by rw [← hw]; exact va_2
  have lf_bb : ((w1.alloc (.cells #[.slice Aa dsa.length ca, .int .i64 ba] 25)).alloc (.cells #[.slice Ab dsb.length cb, .int .i64 bb] 25)).cell? ⟨w1.heap.size + 1, 0, none⟩ = some (.slice Ab dsb.length cb) := by rw [← hw]; exact bb_2
  have lf_vb : ((w1.alloc (.cells #[.slice Aa dsa.length ca, .int .i64 ba] 25)).alloc (.cells #[.slice Ab dsb.length cb, .int .i64 bb] 25)).cell? ⟨w1.heap.size + 1, 1, none⟩ = some (.int .i64 bb) := by rw [← hw]; exact vb_2
  have HW2 : Hid (((w1.alloc (.cells #[.slice Aa dsa.length ca, .int .i64 ba] 25)).alloc (.cells #[.slice Ab dsb.length cb, .int .i64 bb] 25)) = w2) := Lib.hid hw.symm
  clear hb hw Sa_1 Sb_1 HB_1
  obtain ⟨r, hr⟩ : ∃ r, mConv dsa ba dsb bb xa = r := ⟨_, rfl⟩
  obtain ⟨v, hv⟩ : ∃ v, cvOk dsa ba dsb bb xa = v := ⟨_, rfl⟩
  have HR := Lib.hid hr
  have HV := Lib.hid hv
  clear hr hv
  go_wp2_with fail
  rw [HW2.out]
  clear lf_ba lf_va lf_bb lf_vb
  refine (implConv_v dsa dsb ba bb xa _ _ _ _ _ _ _ Sa_2.out Sb_2.out (by omega) (by omega) HR.out HV.out).mono ?_
  rintro e w3 ⟨rfl, hb⟩
  have ba_3 := keep1 hb ba_2
  have va_3 := keep1 hb va_2
  have bb_3 := keep1 hb bb_2
  have vb_3 := keep1 hb vb_2
  have Sa_3 := Lib.hid ((Sa_2.out.below hb).call hb.size)
  have Sb_3 := Lib.hid ((Sb_2.out.below hb).call hb.size)
  have HB_3 : Hid (Below w.heap.size w w3) := Lib.hid (HB_2.out.trans (hb.mono HB_2.out.size))
  clear hb  ba_2 va_2 bb_2 vb_2 Sa_2 Sb_2 HB_2
  go_wp2_with fail
  refine (specConv_v dsa dsb ba bb xa _ _ _ _ _ _ _ Sa_3.out Sb_3.out HR.out HV.out).mono ?_
  rintro e w4 ⟨rfl, hb⟩
  have ba_4 := keep1 hb ba_3
  have va_4 := keep1 hb va_3
  have bb_4 := keep1 hb bb_3
  have vb_4 := keep1 hb vb_3
  have Sa_4 := Lib.hid ((Sa_3.out.below hb).call hb.size)
  have Sb_4 := Lib.hid ((Sb_3.out.below hb).call hb.size)
  have HB_4 : Hid (Below w.heap.size w w4) := Lib.hid (HB_3.out.trans (hb.mono HB_3.out.size))
  clear hb  ba_3 va_3 bb_3 vb_3 Sa_3 Sb_3 HB_3
  cases v
  · skip
    go_wp2
    go_ret
    exact ⟨by first | rfl | kernel_rfl | (go_simp; done), HB_4.out⟩
  obtain ⟨q, hq, _⟩ := cv_value (by have h := HV.out; unfold cvOk at h; rw [Bool.and_eq_true] at h; exact h.1)
  subst hq
  obtain ⟨hq4, hfl, hF⟩ := cvor_law HV.out
  rw [HR.out] at hF
  obtain ⟨z, hz⟩ : ∃ z : Nat → Nat, (fun j => cvZ dsa dsb (q % 2 ^ j)) = z := ⟨_, rfl⟩
  rw [hz] at hF
  have HFL := Lib.hid hfl
  have HF := Lib.hid hF
  have hz0 : z 0 = 0 := hF.zero
  clear hF hz hfl HR HV
  go_wp2_with fail
  go_loopw [10, 11] (fun nv bv wr => ∃ (j y s : Nat), j ≤ 12 ∧ nv = .int .i64 y ∧ bv = .int .i64 s ∧ Hid (y = z j) ∧ Hid (s = 2 ^ j) ∧ y < 4096 ∧ 1 ≤ s ∧ s ≤ 4096 ∧ Hid (Below w.heap.size w wr) ∧ Hid (wr.cell? ⟨w1.heap.size, 0, none⟩ = some (.slice Aa dsa.length ca)) ∧ Hid (wr.cell? ⟨w1.heap.size, 1, none⟩ = some (.int .i64 ba)) ∧ Hid (wr.cell? ⟨w1.heap.size + 1, 0, none⟩ = some (.slice Ab dsb.length cb)) ∧ Hid (wr.cell? ⟨w1.heap.size + 1, 1, none⟩ = some (.int .i64 bb)) ∧ Hid (SD wr wr.heap.size Aa dsa.length ca dsa) ∧ Hid (SD wr wr.heap.size Ab dsb.length cb dsb)) (fun _ bv _ => 4097 - (intOf bv).toNat)
  case atStart => exact ⟨0, 0, 1, by omega, rfl, rfl, Lib.hid hz0.symm, Lib.hid rfl, by omega, by omega, by omega, HB_4, Lib.hid ba_4, Lib.hid va_4, Lib.hid bb_4, Lib.hid vb_4, Sa_4, Sb_4⟩
  case round =>
    obtain ⟨j, y, s, hj, rfl, rfl, hy, hs, hy4, hs1, hs2, hbel, hca, hcv, hcb, hdv, hsa, hsb⟩ := hrel
    clear ba_4 va_4 bb_4 vb_4 HB_4 Sa_4 Sb_4
    have y1 := hca.out
    have y2 := hcv.out
    have y3 := hcb.out
    have y4 := hdv.out
    clear hca hcv hcb hdv
    by_cases hlt : s ≤ q
    · have hi1 : (s : Int) ≤ (q : Int) := by omega
      have hj11 : j + 1 ≤ 12 := by
        by_cases hc : j < 12
        · omega
        · have : 2 ^ 12 ≤ 2 ^ j := Nat.pow_le_pow_right (by decide) (by omega)
          have := hs.out
          have h12 : 2 ^ 12 = 4096 := by decide
          omega
      have HS2 : Hid (2 * s = 2 ^ (j + 1)) := Lib.hid (by rw [Nat.pow_succ, hs.out]; omega)
      have hs8 : 2 * s ≤ 4096 := by rw [HS2.out]; exact Nat.pow_le_pow_right (n := 2) (by decide) hj11
      obtain ⟨v, hv⟩ : ∃ v, q.testBit j = v := ⟨_, rfl⟩
      have hhas := HF.out.has j (by rw [← hs.out]; exact hlt)
      rw [← hs.out, hv] at hhas
      have HH := Lib.hid hhas
      have HV := Lib.hid hv
      clear hhas hv
      obtain ⟨w40, hwn⟩ : ∃ W : World, W = wr := ⟨_, rfl⟩
      subst hwn
      have HB_40 := hbel
      have ba_40 := y1
      have va_40 := y2
      have bb_40 := y3
      have vb_40 := y4
      have Sa_40 := hsa
      have Sb_40 := hsb
      clear hbel y1 y2 y3 y4 hsa hsb
      go_wp2_with fail
      refine (kept_any dsa ba _ _ _ _ Sa_40.out (by omega) HFL.out).mono ?_
      rintro e w41 ⟨Ak, ck, rfl, ho, hb⟩
      have ba_41 := keep1 hb ba_40
      have va_41 := keep1 hb va_40
      have bb_41 := keep1 hb bb_40
      have vb_41 := keep1 hb vb_40
      have Sa_41 := Lib.hid ((Sa_40.out.below hb).call hb.size)
      have Sb_41 := Lib.hid ((Sb_40.out.below hb).call hb.size)
      have HB_41 : Hid (Below w.heap.size w w41) := Lib.hid (HB_40.out.trans (hb.mono HB_40.out.size))
      have Sk_41 := Lib.hid (sd_of_own ho HOKa.out)
      clear hb ho ba_40 va_40 bb_40 vb_40 Sa_40 Sb_40 HB_40
      go_wp2_with fail
      refine (implHas_v dsa 3 q s _ _ _ _ Sk_41.out (by omega) HH.out).mono ?_
      rintro e w42 ⟨rfl, hb⟩
      have ba_42 := keep1 hb ba_41
      have va_42 := keep1 hb va_41
      have bb_42 := keep1 hb bb_41
      have vb_42 := keep1 hb vb_41
      have Sa_42 := Lib.hid ((Sa_41.out.below hb).call hb.size)
      have Sb_42 := Lib.hid ((Sb_41.out.below hb).call hb.size)
      have Sk_42 := Lib.hid ((Sk_41.out.below hb).call hb.size)
      have HB_42 : Hid (Below w.heap.size w w42) := Lib.hid (HB_41.out.trans (hb.mono HB_41.out.size))
      clear hb  ba_41 va_41 bb_41 vb_41 Sa_41 Sb_41 Sk_41 HB_41
      clear Sk_42
      cases v
      · skip
        have HN : Hid (y = z (j + 1)) := Lib.hid (by rw [HF.out.no j HV.out]; exact hy.out)
        have hw1 : IntKind.i64.wrap (2 * (s : Int)) = ((2 * s : Nat) : Int) := by rw [IntKind.wrap_i64]; omega
        go_wp2
        go_roundw
        case rel => exact ⟨j + 1, y, 2 * s, by omega, rfl, by go_num, HN, HS2, by omega, by omega, by omega, HB_42, Lib.hid ba_42, Lib.hid va_42, Lib.hid bb_42, Lib.hid vb_42, Sa_42, Sb_42⟩
        case measure => simp [intOf]; omega
      obtain ⟨n2, hn4, hok, hcv, hop⟩ := HF.out.yes j HV.out
      rw [← hs.out] at hok hcv
      rw [← hy.out] at hop
      have HOK := Lib.hid hok
      have HCV := Lib.hid hcv
      obtain ⟨y9, hy9⟩ : ∃ y9, z (j + 1) = y9 := ⟨_, rfl⟩
      rw [hy9] at hop
      have hy94 : y9 < 4096 := by rw [← hy9]; exact HF.out.lt (j + 1)
      have HOP := Lib.hid hop
      have HN : Hid (y9 = z (j + 1)) := Lib.hid hy9.symm
      clear hok hcv hop hy9
      go_wp2_with fail
      refine (implConv_v dsa dsb ba bb s _ _ _ _ _ _ _ Sa_42.out Sb_42.out (by omega) (by omega) HCV.out HOK.out).mono ?_
      rintro e w43 ⟨rfl, hb⟩
      have ba_43 := keep1 hb ba_42
      have va_43 := keep1 hb va_42
      have bb_43 := keep1 hb bb_42
      have vb_43 := keep1 hb vb_42
      have Sa_43 := Lib.hid ((Sa_42.out.below hb).call hb.size)
      have Sb_43 := Lib.hid ((Sb_42.out.below hb).call hb.size)
      have HB_43 : Hid (Below w.heap.size w w43) := Lib.hid (HB_42.out.trans (hb.mono HB_42.out.size))
      clear hb  ba_42 va_42 bb_42 vb_42 Sa_42 Sb_42 HB_42
      go_wp2_with fail
      refine (implOr_v dsb bb y n2 _ _ _ _ Sb_43.out (by omega) HOP.out).mono ?_
      rintro e w44 ⟨rfl, hb⟩
      have ba_44 := keep1 hb ba_43
      have va_44 := keep1 hb va_43
      have bb_44 := keep1 hb bb_43
      have vb_44 := keep1 hb vb_43
      have Sa_44 := Lib.hid ((Sa_43.out.below hb).call hb.size)
      have Sb_44 := Lib.hid ((Sb_43.out.below hb).call hb.size)
      have HB_44 : Hid (Below w.heap.size w w44) := Lib.hid (HB_43.out.trans (hb.mono HB_43.out.size))
      clear hb  ba_43 va_43 bb_43 vb_43 Sa_43 Sb_43 HB_43
      have hw1 : IntKind.i64.wrap (2 * (s : Int)) = ((2 * s : Nat) : Int) := by rw [IntKind.wrap_i64]; omega
      go_wp2
      go_roundw
      case rel => exact ⟨j + 1, y9, 2 * s, by omega, rfl, by go_num, HN, HS2, by omega, by omega, by omega, HB_44, Lib.hid ba_44, Lib.hid va_44, Lib.hid bb_44, Lib.hid vb_44, Sa_44, Sb_44⟩
      case measure => simp [intOf]; omega
    · have hi1 : ¬ (s : Int) ≤ (q : Int) := by omega
      have hlast : ((y : Nat) : Int) = r := by rw [hy.out]; exact HF.out.last j (by rw [← hs.out]; omega)
      have e1 : ((y : Int) == r) = true := by rw [beq_iff_eq]; exact hlast
      clear hlast
      go_wp2
      go_ret
      exact ⟨rfl, hbel.out⟩

theorem lifted (os : Os) (started : os.Started) (H : Type) (enc : TypeId × Value → H) :
    ReturnsInHanded {} Try.checked os 3 .any (Rows.fnConvertValueOrSpec.pre6 enc Try.prog Try.f3 Rows.fnConvertValueOrRow.domain false) (Rows.fnConvertValueOrSpec.post enc Try.prog Try.f3 false true false false) := by
  refine returnsInHanded_of_change (C := Try.checked) own started (by kernel_rfl) Try.func3
    (ChangeSpec.witness6 (enc := enc) (C := Try.checked) false ⟨#[], #[.slice none 0 0], []⟩ 8 (by kernel_rfl) (by kernel_rfl) (by kernel_rfl) (by kernel_rfl)) ?_
  intro W base args ds gs before hval0 hW hcnd _
  have hval : ∀ (j : Nat) t v, Try.f3.params[j]? = some t → args[j]? = some v → Value.okWide Try.prog W .any base t v := hval0
  have hW' := hW
  obtain ⟨p, q, hA0, hV, rfl, hfz, hnd⟩ := hW
  have hA : DataW.TrodAll enc Try.prog W 0 (fun _ => true) true Try.f3.params.toList args.toList ds p := hA0
  rw [Try.params3] at hA hval
  obtain ⟨v0, vs0, d0, ds0, p0, q0, hargs, rfl, rfl, h0, r0⟩ := trodAll_cons hA
  obtain ⟨rfl, rfl, rfl⟩ := trodAll_nil r0
  obtain rfl : args = #[v0] := by cases args; simp_all
  obtain ⟨rfl, rfl⟩ := trodVars_none hV
  have k0 := h0
  have lt0 : ∀ x ∈ p0, x.block < W.heap.size := by obtain ⟨m, hm⟩ := k0; exact DataW.trod_lt m _ _ _ hm
  obtain ⟨A0, n0, c0, l0, rfl, w0⟩ := open_code (hval 0 22 v0 rfl rfl) h0
  clear hA0 hval0
  refine (walk A0 n0 c0 l0 W w0).mono fun e W' ⟨he, bel⟩ => ?_
  subst he
  exact ⟨_, rfl, _, _, _, [], _, [], hW', trodAll_mk1 (shut_bool Try.underlying4 _), (trodAll_cons_mk (Below.trod laidOut (by kernel_rfl) (of_decide_eq_true (by kernel_rfl)) k0 bel lt0) trodAll_mk0), rfl, bel.frame _, fun h => by cases h⟩

theorem over : Rows.fnConvertValueOrRow.holds Try.pinned (OpenSpec.ofChange Rows.fnConvertValueOrSpec) :=
  OpenClaim.holds_of_wide 3 Try.f3 rfl rfl rfl rfl rfl rfl rfl ⟨rfl, rfl, rfl, rfl, rfl⟩ rfl rfl rfl rfl rfl (by kernel_rfl) Try.func3 (by kernel_rfl)
    (of_decide_eq_true (by kernel_rfl)) (by unfold Func.isWrapper; first | (rw [if_pos (by decide +kernel)]; kernel_rfl) | (rw [if_neg (by decide +kernel)]; exact ⟨rfl, rfl⟩))
    (fun os started H enc _ => lifted os started H enc)

theorem proved : Rows.FnConvertValueOrSaid := over
end Go.Proofs.Ytkholjcmaebaaaa.fnConvertValueOr
