/-
For every code the law of old values that are read returns true: the program's ReadsOld answers as its model, holds for an enumeration and itself, and where it holds each value of the first one has a name in the second one.
Conditions: none.
-/
import Derived.Test.YtbkfagncoekbkaaGenEn2
import Derived.Test.YtbkfagncoekbkaaOpenC
import Derived.Test.YtbkfagncoekbkaaLPc
import Derived.Test.YtbkfagncoekbkaaLBase
import Derived.Test.YtbkfagncoekbkaaLConv2
import Derived.Test.YtbkfagncoekbkaaReadS
import Derived.Test.YtbkfagncoekbkaaReadI
import Derived.Test.YtbkfagncoekbkaaBaseB
namespace Go.Proofs.Ytbkfagncoekbkaa.fnReadsOld
open Go.ChangeShapes Go.WideShapes Go.ChangeAt Go.RowKit
open Go.ChangeMaps (open_string shut_string)
set_option linter.unusedVariables false
set_option linter.unusedSimpArgs false
set_option maxRecDepth 100000

set_option maxHeartbeats 16000000 in
theorem walk (A : Option Addr) (n c : Nat) (zs : List Int) (w : World) (h : SB w w.heap.size A n c zs) :
    Calls Try.prog 13 #[.slice A n c] w fun e w' => e = .returned (.bool true) ∧ Below w.heap.size w w' := by
  have hm := h.max
  have hcap := h.cap
  unfold maxLen at hm
  have HS0 := Lib.hid h
  clear h
  by_cases hbig : 1048576 < (n : Int)
  · go_enter Try.func13, Try.ntmps13
    go_wp2
    go_ret
    exact ⟨rfl, Below.refl _ _⟩
  go_enter Try.func13, Try.ntmps13
  go_wp2_with fail
  refine (drawReadsOld_s A n c zs _ HS0.out).mono ?_
  rintro e w1 ⟨Aa, ca, dsa, Ab, cb, dsb, rfl, hna, hnb, hsma, hsmb, hsa, hsb, hb⟩
  have HB_1 := Lib.hid hb
  have Sa_1 := Lib.hid hsa
  have HSMa := Lib.hid hsma
  have HOKa : Hid (∀ d ∈ dsa, d.ok) := Lib.hid (fun d hd => small_ok (hsma d hd))
  have Sb_1 := Lib.hid hsb
  have HSMb := Lib.hid hsmb
  have HOKb : Hid (∀ d ∈ dsb, d.ok) := Lib.hid (fun d hd => small_ok (hsmb d hd))
  clear hb hsa hsma hsb hsmb
  obtain ⟨w2, hw⟩ : ∃ W : World, W = ((w1.alloc (.cells #[.slice Aa dsa.length ca] 58)).alloc (.cells #[.slice Ab dsb.length cb] 58)) := ⟨_, rfl⟩
  have hb : Below w1.heap.size w1 w2 := by rw [hw]; exact (((Below.refl _ _).alloc (by first | exact Nat.le_refl _ | (simp; done) | (simp; omega)) _).alloc (by first | exact Nat.le_refl _ | (simp; done) | (simp; omega)) _)
  have Sa_2 := Lib.hid ((Sa_1.out.below hb).call hb.size)
  have Sb_2 := Lib.hid ((Sb_1.out.below hb).call hb.size)
  have HB_2 : Hid (Below w.heap.size w w2) := Lib.hid (HB_1.out.trans (hb.mono HB_1.out.size))
  have ba_2 : w2.cell? ⟨w1.heap.size, 0, none⟩ = some (.slice Aa dsa.length ca) := by rw [hw]; simp [go_sem]
  have bb_2 : w2.cell? ⟨w1.heap.size + 1, 0, none⟩ = some (.slice Ab dsb.length cb) := by rw [hw]; simp [go_sem]
  have lf_ba : ((w1.alloc (.cells #[.slice Aa dsa.length ca] 58)).alloc (.cells #[.slice Ab dsb.length cb] 58)).cell? ⟨w1.heap.size, 0, none⟩ = some (.slice Aa dsa.length ca) := by rw [← hw]; exact ba_2
  have lf_bb : ((w1.alloc (.cells #[.slice Aa dsa.length ca] 58)).alloc (.cells #[.slice Ab dsb.length cb] 58)).cell? ⟨w1.heap.size + 1, 0, none⟩ = some (.slice Ab dsb.length cb) := by rw [← hw]; exact bb_2
  have HW2 : Hid (((w1.alloc (.cells #[.slice Aa dsa.length ca] 58)).alloc (.cells #[.slice Ab dsb.length cb] 58)) = w2) := Lib.hid hw.symm
  clear hb hw Sa_1 Sb_1 HB_1
  obtain ⟨v, hv⟩ : ∃ v, mReads dsa dsb = v := ⟨_, rfl⟩
  have HV := Lib.hid hv
  have HSP : Hid (∀ (A B : Option Addr) (n c m e : Nat) (w : World), SD w w.heap.size A n c dsa → SD w w.heap.size B m e dsb → Calls Try.prog 65 #[.agg #[.slice A n c], .agg #[.slice B m e]] w (fun en w' => en = .returned (.bool v) ∧ Below w.heap.size w w')) := Lib.hid (by rw [← hv]; exact fun A B n c m e w h1 h2 => specReads_any dsa dsb A B n c m e w h1 h2)
  clear hv
  obtain ⟨va, hva⟩ : ∃ va, vEnum dsa = va := ⟨_, rfl⟩
  obtain ⟨vb, hvb⟩ : ∃ vb, vEnum dsb = vb := ⟨_, rfl⟩
  have HVA := Lib.hid hva
  have HVB := Lib.hid hvb
  clear hva hvb
  go_wp2_with fail
  rw [HW2.out]
  clear lf_ba lf_bb
  refine (implReads_v dsa dsb _ _ _ _ _ _ _ Sa_2.out Sb_2.out HV.out).mono ?_
  rintro e w3 ⟨rfl, hb⟩
  have ba_3 := keep1 hb ba_2
  have bb_3 := keep1 hb bb_2
  have Sa_3 := Lib.hid ((Sa_2.out.below hb).call hb.size)
  have Sb_3 := Lib.hid ((Sb_2.out.below hb).call hb.size)
  have HB_3 : Hid (Below w.heap.size w w3) := Lib.hid (HB_2.out.trans (hb.mono HB_2.out.size))
  clear hb  ba_2 bb_2 Sa_2 Sb_2 HB_2
  go_wp2_with fail
  refine (HSP.out _ _ _ _ _ _ _ Sa_3.out Sb_3.out).mono ?_
  rintro e w4 ⟨rfl, hb⟩
  have ba_4 := keep1 hb ba_3
  have bb_4 := keep1 hb bb_3
  have Sa_4 := Lib.hid ((Sa_3.out.below hb).call hb.size)
  have Sb_4 := Lib.hid ((Sb_3.out.below hb).call hb.size)
  have HB_4 : Hid (Below w.heap.size w w4) := Lib.hid (HB_3.out.trans (hb.mono HB_3.out.size))
  clear hb  ba_3 bb_3 Sa_3 Sb_3 HB_3
  go_wp2_with fail
  refine (implVE_v dsa _ _ _ _ Sa_4.out HVA.out).mono ?_
  rintro e w5 ⟨rfl, hb⟩
  have ba_5 := keep1 hb ba_4
  have bb_5 := keep1 hb bb_4
  have Sa_5 := Lib.hid ((Sa_4.out.below hb).call hb.size)
  have Sb_5 := Lib.hid ((Sb_4.out.below hb).call hb.size)
  have HB_5 : Hid (Below w.heap.size w w5) := Lib.hid (HB_4.out.trans (hb.mono HB_4.out.size))
  clear hb  ba_4 bb_4 Sa_4 Sb_4 HB_4
  cases va
  · skip
    go_wp2_with fail
    refine (HSP.out _ _ _ _ _ _ _ Sa_5.out Sb_5.out).mono ?_
    rintro e w6 ⟨rfl, hb⟩
    have ba_6 := keep1 hb ba_5
    have bb_6 := keep1 hb bb_5
    have Sa_6 := Lib.hid ((Sa_5.out.below hb).call hb.size)
    have Sb_6 := Lib.hid ((Sb_5.out.below hb).call hb.size)
    have HB_6 : Hid (Below w.heap.size w w6) := Lib.hid (HB_5.out.trans (hb.mono HB_5.out.size))
    clear hb  ba_5 bb_5 Sa_5 Sb_5 HB_5
    go_wp2
    go_ret
    exact ⟨by first | rfl | kernel_rfl | (go_simp; done), HB_6.out⟩
  go_wp2_with fail
  refine (implVE_v dsb _ _ _ _ Sb_5.out HVB.out).mono ?_
  rintro e w6 ⟨rfl, hb⟩
  have ba_6 := keep1 hb ba_5
  have bb_6 := keep1 hb bb_5
  have Sa_6 := Lib.hid ((Sa_5.out.below hb).call hb.size)
  have Sb_6 := Lib.hid ((Sb_5.out.below hb).call hb.size)
  have HB_6 : Hid (Below w.heap.size w w6) := Lib.hid (HB_5.out.trans (hb.mono HB_5.out.size))
  clear hb  ba_5 bb_5 Sa_5 Sb_5 HB_5
  cases vb
  · skip
    go_wp2_with fail
    refine (HSP.out _ _ _ _ _ _ _ Sa_6.out Sb_6.out).mono ?_
    rintro e w7 ⟨rfl, hb⟩
    have ba_7 := keep1 hb ba_6
    have bb_7 := keep1 hb bb_6
    have Sa_7 := Lib.hid ((Sa_6.out.below hb).call hb.size)
    have Sb_7 := Lib.hid ((Sb_6.out.below hb).call hb.size)
    have HB_7 : Hid (Below w.heap.size w w7) := Lib.hid (HB_6.out.trans (hb.mono HB_6.out.size))
    clear hb  ba_6 bb_6 Sa_6 Sb_6 HB_6
    go_wp2
    go_ret
    exact ⟨by first | rfl | kernel_rfl | (go_simp; done), HB_7.out⟩
  have HRS := Lib.hid (reads_self HVA.out)
  go_wp2_with fail
  refine (implReads_v dsa dsa _ _ _ _ _ _ _ Sa_6.out Sa_6.out HRS.out).mono ?_
  rintro e w7 ⟨rfl, hb⟩
  have ba_7 := keep1 hb ba_6
  have bb_7 := keep1 hb bb_6
  have Sa_7 := Lib.hid ((Sa_6.out.below hb).call hb.size)
  have Sb_7 := Lib.hid ((Sb_6.out.below hb).call hb.size)
  have HB_7 : Hid (Below w.heap.size w w7) := Lib.hid (HB_6.out.trans (hb.mono HB_6.out.size))
  clear hb  ba_6 bb_6 Sa_6 Sb_6 HB_6
  cases v
  · skip
    go_wp2_with fail
    go_loopw [6] (fun i wr => i = .int .i64 0 ∧ wr = w7) (fun _ _ => 0)
    case atStart => exact ⟨rfl, rfl⟩
    case round =>
      obtain ⟨rfl, rfl⟩ := hrel
      have y1 := ba_7
      go_wp2
      all_goals
        go_ret
        exact ⟨rfl, HB_7.out⟩
  have HG : Hid (∀ d ∈ dsa, ∃ k, ∃ hk : k < dsb.length, fidx (isVal d.val) dsb = (k : Int) ∧ ∃ j, ∃ hj : j < dsa.length, fidx (isNm dsb[k].name) dsa = (j : Int) ∧ dsa[j].val = d.val) := Lib.hid (reads_get HV.out)
  clear HV HSP
  go_wp2_with fail
  go_loopw [6] (fun i wr => ∃ (k : Nat), k ≤ dsa.length ∧ i = .int .i64 k ∧ Hid (Below w.heap.size w wr) ∧ Hid (wr.cell? ⟨w1.heap.size, 0, none⟩ = some (.slice Aa dsa.length ca)) ∧ Hid (wr.cell? ⟨w1.heap.size + 1, 0, none⟩ = some (.slice Ab dsb.length cb)) ∧ Hid (SD wr wr.heap.size Aa dsa.length ca dsa) ∧ Hid (SD wr wr.heap.size Ab dsb.length cb dsb)) (fun i _ => dsa.length - (intOf i).toNat)
  case atStart => exact ⟨0, Nat.zero_le _, rfl, HB_7, Lib.hid ba_7, Lib.hid bb_7, Sa_7, Sb_7⟩
  case round =>
    obtain ⟨k, hk, rfl, hbel, hca, hcb, hsa, hsb⟩ := hrel
    clear ba_7 bb_7 HB_7 Sa_7 Sb_7
    have y1 := hca.out
    have y2 := hcb.out
    clear hca hcb
    by_cases hlt : k < dsa.length
    · obtain ⟨b, o, hA, hbb, x1, x2⟩ := hsa.out.at_ hlt
      subst hA
      obtain ⟨m, hm, hmi, j, hj, hji, hjv⟩ := HG.out _ (List.getElem_mem hlt)
      obtain ⟨b', o', hA, hbb', z1, z2⟩ := hsa.out.at_ hj
      cases hA
      have HMI := Lib.hid hmi
      have HJI := Lib.hid hji
      have HJV := Lib.hid hjv
      rw [hjv] at z2
      clear x1 z1 hmi hji hjv hbb'
      generalize dsa[k].val = vk at *
      have hi1 : (k : Int) < (dsa.length : Int) := by omega
      have hi0 : (0 : Int) ≤ (k : Int) := by omega
      clear z2
      obtain ⟨w40, hwn⟩ : ∃ W : World, W = wr := ⟨_, rfl⟩
      subst hwn
      have HB_40 := hbel
      have ba_40 := y1
      have bb_40 := y2
      have Sa_40 := hsa
      have Sb_40 := hsb
      have x2_40 := x2
      clear hbel y1 y2 hsa hsb x2
      go_wp2_with fail
      go_region_held3 (fun w' => w'.cell? ⟨w1.heap.size, 0, none⟩ = some (.slice (some ⟨b, o, none⟩) dsa.length ca) ∧ w'.cell? ⟨w1.heap.size + 1, 0, none⟩ = some (.slice Ab dsb.length cb) ∧ w'.cell? ⟨b, o + k * 2 + 1, none⟩ = some (.int .i64 vk))
        (first | go_keep | exact ⟨ba_40, bb_40, x2_40⟩ | exact ⟨ba_41, bb_41, x2_41⟩)
        (first
          | (go_at_call 66; refine (implNameOf_yes dsb vk _ _ _ _ (Sb_40.out.drewN 1) HVB.out m hm HMI.out).mono ?_; rintro e w41 ⟨rfl, hb⟩; replace hb : Below w40.heap.size w40 w41 := (by first | exact hb | exact undrew hb); have ba_41 := keep1 hb ba_40; have bb_41 := keep1 hb bb_40; have x2_41 := keep1 hb x2_40; have Sa_41 := Lib.hid ((Sa_40.out.below hb).call hb.size); have Sb_41 := Lib.hid ((Sb_40.out.below hb).call hb.size); have HB_41 : Hid (Below w.heap.size w w41) := Lib.hid (HB_40.out.trans (hb.mono HB_40.out.size)); clear hb))
      go_wp2_with fail
      refine (implValueOf_yes dsa dsb[m].name _ _ _ _ Sa_41.out HVA.out j hj HJI.out).mono ?_
      rintro e w42 ⟨rfl, hb⟩
      have ba_42 := keep1 hb ba_41
      have bb_42 := keep1 hb bb_41
      have x2_42 := keep1 hb x2_41
      have Sa_42 := Lib.hid ((Sa_41.out.below hb).call hb.size)
      have Sb_42 := Lib.hid ((Sb_41.out.below hb).call hb.size)
      have HB_42 : Hid (Below w.heap.size w w42) := Lib.hid (HB_41.out.trans (hb.mono HB_41.out.size))
      clear hb  ba_41 bb_41 x2_41 Sa_41 Sb_41 HB_41
      rw [HJV.out]
      go_wp2
      go_roundw
      case rel => exact ⟨k + 1, by omega, by go_num, HB_42, Lib.hid ba_42, Lib.hid bb_42, Sa_42, Sb_42⟩
      case measure => simp [intOf]; omega
    · obtain rfl : k = dsa.length := by omega
      have hi9 : ¬ (dsa.length : Int) < (dsa.length : Int) := by omega
      go_wp2
      go_ret
      exact ⟨rfl, hbel.out⟩

theorem lifted (os : Os) (started : os.Started) (H : Type) (enc : TypeId × Value → H) :
    ReturnsInHanded {} Try.checked os 13 .any (Rows.fnReadsOldSpec.pre6 enc Try.prog Try.f13 Rows.fnReadsOldRow.domain false) (Rows.fnReadsOldSpec.post enc Try.prog Try.f13 false true false false) := by
  refine returnsInHanded_of_change (C := Try.checked) own started (by kernel_rfl) Try.func13
    (ChangeSpec.witness6 (enc := enc) (C := Try.checked) false ⟨#[], #[.slice none 0 0], []⟩ 8 (by kernel_rfl) (by kernel_rfl) (by kernel_rfl) (by kernel_rfl)) ?_
  intro W base args ds gs before hval0 hW hcnd _
  have hval : ∀ (j : Nat) t v, Try.f13.params[j]? = some t → args[j]? = some v → Value.okWide Try.prog W .any base t v := hval0
  have hW' := hW
  obtain ⟨p, q, hA0, hV, rfl, hfz, hnd⟩ := hW
  have hA : DataW.TrodAll enc Try.prog W 0 (fun _ => true) true Try.f13.params.toList args.toList ds p := hA0
  rw [Try.params13] at hA hval
  obtain ⟨v0, vs0, d0, ds0, p0, q0, hargs, rfl, rfl, h0, r0⟩ := trodAll_cons hA
  obtain ⟨rfl, rfl, rfl⟩ := trodAll_nil r0
  obtain rfl : args = #[v0] := by cases args; simp_all
  obtain ⟨rfl, rfl⟩ := trodVars_none hV
  have k0 := h0
  have lt0 : ∀ x ∈ p0, x.block < W.heap.size := by obtain ⟨m, hm⟩ := k0; exact DataW.trod_lt m _ _ _ hm
  obtain ⟨A0, n0, c0, l0, rfl, w0⟩ := open_code (hval 0 22 v0 rfl rfl) h0
  clear hA0 hval0
  refine (walk A0 n0 c0 l0 W w0).mono fun e W' ⟨he, bel⟩ => ?_
  subst he
  exact ⟨_, rfl, _, _, _, [], _, [], hW', trodAll_mk1 (shut_bool Try.underlying4 _), (trodAll_cons_mk (Below.trod laidOut (by kernel_rfl) (of_decide_eq_true (by kernel_rfl)) k0 bel lt0) trodAll_mk0), rfl, bel.frame _, fun h => by cases h⟩

theorem over : Rows.fnReadsOldRow.holds Try.pinned (OpenSpec.ofChange Rows.fnReadsOldSpec) :=
  OpenClaim.holds_of_wide 13 Try.f13 rfl rfl rfl rfl rfl rfl rfl ⟨rfl, rfl, rfl, rfl, rfl⟩ rfl rfl rfl rfl rfl (by kernel_rfl) Try.func13 (by kernel_rfl)
    (of_decide_eq_true (by kernel_rfl)) (by unfold Func.isWrapper; first | (rw [if_pos (by decide +kernel)]; kernel_rfl) | (rw [if_neg (by decide +kernel)]; exact ⟨rfl, rfl⟩))
    (fun os started H enc _ => lifted os started H enc)

theorem proved : Rows.FnReadsOldSaid := over
end Go.Proofs.Ytbkfagncoekbkaa.fnReadsOld
