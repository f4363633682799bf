/-
For every code the law of first arms that come first returns true: the program's FirstArm answers as its model, its arm matches, and none ahead of it does.
Conditions: none.
-/
import Derived.Test.YtkholjcmaebaaaaGenAd
import Derived.Test.YtkholjcmaebaaaaOpenC
import Derived.Test.YtkholjcmaebaaaaLArs
import Derived.Test.YtkholjcmaebaaaaArmV
import Derived.Test.YtkholjcmaebaaaaArmW
import Derived.Test.YtkholjcmaebaaaaArmJ
namespace Go.Proofs.Ytkholjcmaebaaaa.fnFirstArm
open Go.ChangeShapes Go.WideShapes Go.ChangeAt Go.RowKit
open Go.ChangeMaps (open_string shut_string)
set_option linter.unusedVariables false
set_option linter.unusedSimpArgs false
set_option maxRecDepth 100000

set_option maxHeartbeats 16000000 in
theorem walk (A : Option Addr) (n c : Nat) (zs : List Int) (w : World) (h : SB w w.heap.size A n c zs) :
    Calls Try.prog 4 #[.slice A n c] w fun e w' => e = .returned (.bool true) ∧ Below w.heap.size w w' := by
  have hm := h.max
  have hcap := h.cap
  unfold maxLen at hm
  have HS0 := Lib.hid h
  clear h
  by_cases hbig : 1048576 < (n : Int)
  · go_enter Try.func4, Try.ntmps4
    go_wp2
    go_ret
    exact ⟨rfl, Below.refl _ _⟩
  go_enter Try.func4, Try.ntmps4
  go_wp2_with fail
  refine (drawFirstArm_any A n c zs _ HS0.out).mono ?_
  rintro e w1 ⟨Aa, ca, dsa, ba, As, cs, rs, xa, rfl, hna, hsma, hbda, hrl, hrs, hxa, hsa, hss, hb⟩
  have HB_1 := Lib.hid hb
  have Sa_1 := Lib.hid hsa
  have HSMa := Lib.hid hsma
  have HOKa : Hid (∀ d ∈ dsa, d.ok) := Lib.hid (fun d hd => small_ok (hsma d hd))
  have HBDa := Lib.hid hbda
  have Ss_1 := Lib.hid hss
  clear hb hsa hsma hbda hss
  obtain ⟨w2, hw⟩ : ∃ W : World, W = (w1.alloc (.cells #[.slice Aa dsa.length ca, .int .i64 ba] 25)) := ⟨_, rfl⟩
  have hb : Below w1.heap.size w1 w2 := by rw [hw]; exact ((Below.refl _ _).alloc (by first | exact Nat.le_refl _ | (simp; done) | (simp; omega)) _)
  have Sa_2 := Lib.hid ((Sa_1.out.below hb).call hb.size)
  have Ss_2 := Lib.hid ((Ss_1.out.below hb).call hb.size)
  have HB_2 : Hid (Below w.heap.size w w2) := Lib.hid (HB_1.out.trans (hb.mono HB_1.out.size))
  have ba_2 : w2.cell? ⟨w1.heap.size, 0, none⟩ = some (.slice Aa dsa.length ca) := by rw [hw]; simp [go_sem]
  have va_2 : w2.cell? ⟨w1.heap.size, 1, none⟩ = some (.int .i64 ba) := by rw [hw]; simp [go_sem]
  have lf_ba : (w1.alloc (.cells #[.slice Aa dsa.length ca, .int .i64 ba] 25)).cell? ⟨w1.heap.size, 0, none⟩ = some (.slice Aa dsa.length ca) := by rw [← hw]; exact ba_2
  have lf_va : (w1.alloc (.cells #[.slice Aa dsa.length ca, .int .i64 ba] 25)).cell? ⟨w1.heap.size, 1, none⟩ = some (.int .i64 ba) := by rw [← hw]; exact va_2
  have HW2 : Hid ((w1.alloc (.cells #[.slice Aa dsa.length ca, .int .i64 ba] 25)) = w2) := Lib.hid hw.symm
  clear hb hw Sa_1 Ss_1 HB_1
  obtain ⟨r, hr⟩ : ∃ r, mFirst dsa ba rs xa = r := ⟨_, rfl⟩
  have HR := Lib.hid hr
  have OKR : Hid (∀ a ∈ rs, a.ok) := Lib.hid (fun a ha => Ar.small_ok (hrs a ha))
  clear hr hrs
  go_wp2_with fail
  rw [HW2.out]
  clear lf_ba lf_va
  refine (implFirst_v dsa ba rs xa _ _ _ _ Sa_2.out _ _ _ Ss_2.out (by omega) HR.out).mono ?_
  rintro e w3 ⟨rfl, hb⟩
  have ba_3 := keep1 hb ba_2
  have va_3 := keep1 hb va_2
  have Sa_3 := Lib.hid ((Sa_2.out.below hb).call hb.size)
  have Ss_3 := Lib.hid ((Ss_2.out.below hb).call hb.size)
  have HB_3 : Hid (Below w.heap.size w w3) := Lib.hid (HB_2.out.trans (hb.mono HB_2.out.size))
  clear hb  ba_2 va_2 Sa_2 Ss_2 HB_2
  go_wp2_with fail
  refine (specFirst_v dsa ba rs xa _ _ _ _ Sa_3.out _ _ _ Ss_3.out HR.out).mono ?_
  rintro e w4 ⟨rfl, hb⟩
  have ba_4 := keep1 hb ba_3
  have va_4 := keep1 hb va_3
  have Sa_4 := Lib.hid ((Sa_3.out.below hb).call hb.size)
  have Ss_4 := Lib.hid ((Ss_3.out.below hb).call hb.size)
  have HB_4 : Hid (Below w.heap.size w w4) := Lib.hid (HB_3.out.trans (hb.mono HB_3.out.size))
  clear hb  ba_3 va_3 Sa_3 Ss_3 HB_3
  by_cases h2 : r = -2
  · subst h2
    go_wp2_with fail
    refine (specFirst_v dsa ba rs xa _ _ _ _ Sa_4.out _ _ _ Ss_4.out HR.out).mono ?_
    rintro e w5 ⟨rfl, hb⟩
    have ba_5 := keep1 hb ba_4
    have va_5 := keep1 hb va_4
    have Sa_5 := Lib.hid ((Sa_4.out.below hb).call hb.size)
    have Ss_5 := Lib.hid ((Ss_4.out.below hb).call hb.size)
    have HB_5 : Hid (Below w.heap.size w w5) := Lib.hid (HB_4.out.trans (hb.mono HB_4.out.size))
    clear hb  ba_4 va_4 Sa_4 Ss_4 HB_4
    go_wp2
    go_ret
    exact ⟨by first | rfl | kernel_rfl | (go_simp; done), HB_5.out⟩
  have e0 : (r == -2) = false := by rw [beq_eq_false_iff_ne]; exact h2
  have hF := fst_law (by rw [HR.out]; exact h2)
  rw [HR.out] at hF
  have HAT := Lib.hid hF.at_
  have hlast := hF.lt
  clear hF h2 HR
  go_wp2_with fail
  go_loopw [7] (fun i wr => ∃ (k : Nat), k ≤ rs.length ∧ i = .int .i64 k ∧ Hid (Below w.heap.size w wr) ∧ Hid (wr.cell? ⟨w1.heap.size, 0, none⟩ = some (.slice Aa dsa.length ca)) ∧ Hid (wr.cell? ⟨w1.heap.size, 1, none⟩ = some (.int .i64 ba)) ∧ Hid (SD wr wr.heap.size Aa dsa.length ca dsa) ∧ Hid (SA wr wr.heap.size As rs.length cs rs)) (fun i _ => rs.length - (intOf i).toNat)
  case atStart => exact ⟨0, Nat.zero_le _, rfl, HB_4, Lib.hid ba_4, Lib.hid va_4, Sa_4, Ss_4⟩
  case round =>
    obtain ⟨k, hk, rfl, hbel, hca, hcv, hsa, hss⟩ := hrel
    clear ba_4 va_4 HB_4 Sa_4 Ss_4
    have y1 := hca.out
    have y2 := hcv.out
    clear hca hcv
    by_cases hlt : k < rs.length
    · obtain ⟨b, o, hA, hbb, x1, x2⟩ := hss.out.at_ hlt
      subst hA
      obtain ⟨v, hv, hv1, hv2⟩ := HAT.out k hlt
      have HV := Lib.hid hv
      have hok := OKR.out _ (List.getElem_mem hlt)
      obtain ⟨hx8, hy8⟩ := hok
      generalize hrk : rs[k] = a at *
      obtain ⟨x, y⟩ := a
      have HX8 : Hid (I64 x) := Lib.hid hx8
      have HY8 : Hid (I64 y) := Lib.hid hy8
      clear hrk hv hx8 hy8
      have hi1 : (k : Int) < (rs.length : Int) := by omega
      have hi0 : (0 : Int) ≤ (k : Int) := by omega
      obtain ⟨w40, hwn⟩ : ∃ W : World, W = wr := ⟨_, rfl⟩
      subst hwn
      have HB_40 := hbel
      have ba_40 := y1
      have va_40 := y2
      have Sa_40 := hsa
      have Ss_40 := hss
      have x1_40 := x1
      have x2_40 := x2
      clear hbel y1 y2 hsa hss x1 x2
      go_wp2_with fail
      go_region_held3 (fun w' => w'.cell? ⟨w1.heap.size, 0, none⟩ = some (.slice Aa dsa.length ca) ∧ w'.cell? ⟨w1.heap.size, 1, none⟩ = some (.int .i64 ba) ∧ w'.cell? ⟨b, o + k * 2, none⟩ = some (.int .i64 x) ∧ w'.cell? ⟨b, o + k * 2 + 1, none⟩ = some (.int .i64 y))
        (first | go_keep | exact ⟨ba_40, va_40, x1_40, x2_40⟩ | exact ⟨ba_41, va_41, x1_41, x2_41⟩)
        (first
          | (go_at_call 24; refine (implMatchArm_v dsa ba x y xa _ _ _ _ (Sa_40.out.drewN 1) (by omega) HX8.out HY8.out HV.out).mono ?_; rintro e w41 ⟨rfl, hb⟩; replace hb : Below w40.heap.size w40 w41 := (by first | exact hb | exact undrew hb); have ba_41 := keep1 hb ba_40; have va_41 := keep1 hb va_40; have x1_41 := keep1 hb x1_40; have x2_41 := keep1 hb x2_40; have Sa_41 := Lib.hid ((Sa_40.out.below hb).call hb.size); have Ss_41 := Lib.hid ((Ss_40.out.below hb).call hb.size); have HB_41 : Hid (Below w.heap.size w w41) := Lib.hid (HB_40.out.trans (hb.mono HB_40.out.size)); clear hb))
      cases v
      · have e1 := hv1 rfl
        clear hv1 hv2
        go_wp2
        go_roundw
        case rel => exact ⟨k + 1, by omega, by go_num, HB_41, Lib.hid ba_41, Lib.hid va_41, Sa_41, Ss_41⟩
        case measure => simp [intOf]; omega
      · obtain ⟨e2, e3⟩ := hv2 rfl
        clear hv1 hv2
        by_cases hkr : (k : Int) = r
        · have e1 : ((k : Int) == r) = true := by rw [beq_iff_eq]; exact hkr
          clear hkr
          go_wp2
          go_roundw
          case rel => exact ⟨k + 1, by omega, by go_num, HB_41, Lib.hid ba_41, Lib.hid va_41, Sa_41, Ss_41⟩
          case measure => simp [intOf]; omega
        · have e1 : ((k : Int) == r) = false := by rw [beq_eq_false_iff_ne]; exact hkr
          clear hkr
          go_wp2
          go_roundw
          case rel => exact ⟨k + 1, by omega, by go_num, HB_41, Lib.hid ba_41, Lib.hid va_41, Sa_41, Ss_41⟩
          case measure => simp [intOf]; omega
    · obtain rfl : k = rs.length := by omega
      have hi9 : ¬ (rs.length : Int) < (rs.length : Int) := by omega
      go_wp2
      go_ret
      exact ⟨rfl, hbel.out⟩

theorem lifted (os : Os) (started : os.Started) (H : Type) (enc : TypeId × Value → H) :
    ReturnsInHanded {} Try.checked os 4 .any (Rows.fnFirstArmSpec.pre6 enc Try.prog Try.f4 Rows.fnFirstArmRow.domain false) (Rows.fnFirstArmSpec.post enc Try.prog Try.f4 false true false false) := by
  refine returnsInHanded_of_change (C := Try.checked) own started (by kernel_rfl) Try.func4
    (ChangeSpec.witness6 (enc := enc) (C := Try.checked) false ⟨#[], #[.slice none 0 0], []⟩ 8 (by kernel_rfl) (by kernel_rfl) (by kernel_rfl) (by kernel_rfl)) ?_
  intro W base args ds gs before hval0 hW hcnd _
  have hval : ∀ (j : Nat) t v, Try.f4.params[j]? = some t → args[j]? = some v → Value.okWide Try.prog W .any base t v := hval0
  have hW' := hW
  obtain ⟨p, q, hA0, hV, rfl, hfz, hnd⟩ := hW
  have hA : DataW.TrodAll enc Try.prog W 0 (fun _ => true) true Try.f4.params.toList args.toList ds p := hA0
  rw [Try.params4] at hA hval
  obtain ⟨v0, vs0, d0, ds0, p0, q0, hargs, rfl, rfl, h0, r0⟩ := trodAll_cons hA
  obtain ⟨rfl, rfl, rfl⟩ := trodAll_nil r0
  obtain rfl : args = #[v0] := by cases args; simp_all
  obtain ⟨rfl, rfl⟩ := trodVars_none hV
  have k0 := h0
  have lt0 : ∀ x ∈ p0, x.block < W.heap.size := by obtain ⟨m, hm⟩ := k0; exact DataW.trod_lt m _ _ _ hm
  obtain ⟨A0, n0, c0, l0, rfl, w0⟩ := open_code (hval 0 22 v0 rfl rfl) h0
  clear hA0 hval0
  refine (walk A0 n0 c0 l0 W w0).mono fun e W' ⟨he, bel⟩ => ?_
  subst he
  exact ⟨_, rfl, _, _, _, [], _, [], hW', trodAll_mk1 (shut_bool Try.underlying4 _), (trodAll_cons_mk (Below.trod laidOut (by kernel_rfl) (of_decide_eq_true (by kernel_rfl)) k0 bel lt0) trodAll_mk0), rfl, bel.frame _, fun h => by cases h⟩

theorem over : Rows.fnFirstArmRow.holds Try.pinned (OpenSpec.ofChange Rows.fnFirstArmSpec) :=
  OpenClaim.holds_of_wide 4 Try.f4 rfl rfl rfl rfl rfl rfl rfl ⟨rfl, rfl, rfl, rfl, rfl⟩ rfl rfl rfl rfl rfl (by kernel_rfl) Try.func4 (by kernel_rfl)
    (of_decide_eq_true (by kernel_rfl)) (by unfold Func.isWrapper; first | (rw [if_pos (by decide +kernel)]; kernel_rfl) | (rw [if_neg (by decide +kernel)]; exact ⟨rfl, rfl⟩))
    (fun os started H enc _ => lifted os started H enc)

theorem proved : Rows.FnFirstArmSaid := over
end Go.Proofs.Ytkholjcmaebaaaa.fnFirstArm
