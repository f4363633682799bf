/-
For every code the law of dropped names returns true: the program's DropDef answers as its model, the name is gone then, and all others have their values.
Conditions: none.
-/
import Derived.Test.YtiklgghbkkmnaaaGenD
import Derived.Test.YtiklgghbkkmnaaaLFun
import Derived.Test.YtiklgghbkkmnaaaOpenC
import Derived.Test.YtiklgghbkkmnaaaLPa
import Derived.Test.YtiklgghbkkmnaaaLEq
namespace Go.Proofs.Ytiklgghbkkmnaaa.fnDropDef
open Go.ChangeShapes Go.WideShapes Go.ChangeAt Go.RowKit
open Go.ChangeMaps (open_string shut_string)
set_option linter.unusedVariables false
set_option maxRecDepth 100000

set_option maxHeartbeats 16000000 in
theorem walk (A : Option Addr) (n c : Nat) (zs : List Int) (w : World) (h : SB w w.heap.size A n c zs) :
    Calls Try.prog 4 #[.slice A n c] w fun e w' => e = .returned (.bool true) ∧ Below w.heap.size w w' := by
  have hm := h.max
  have hcap := h.cap
  unfold maxLen at hm
  have HS0 := Lib.hid h
  clear h
  by_cases hbig : 1048576 < (n : Int)
  · go_enter Try.func4, Try.ntmps4
    go_wp2
    go_ret
    exact ⟨rfl, Below.refl _ _⟩
  go_enter Try.func4, Try.ntmps4
  go_wp2_with fail
  refine (drawDropDef_any A n c zs _ HS0.out).mono ?_
  rintro e w1 ⟨Aa, ca, dsa, s, rfl, hzs, hn, hsma, hsa, hb⟩
  have HB_1 := Lib.hid hb
  have Sa_1 := Lib.hid hsa
  have HSMa := Lib.hid hsma
  have HOKa : Hid (∀ d ∈ dsa, d.ok) := Lib.hid (fun d hd => small_ok (hsma d hd))
  have HZs := Lib.hid hzs
  clear hb hsa hsma hzs
  obtain ⟨w2, hw⟩ : ∃ W : World, W = (w1.alloc (.cells #[.slice Aa dsa.length ca] 25)) := ⟨_, rfl⟩
  have hb : Below w1.heap.size w1 w2 := by rw [hw]; exact ((Below.refl _ _).alloc (by first | exact Nat.le_refl _ | (simp; done) | (simp; omega)) _)
  have Sa_2 := Lib.hid ((Sa_1.out.below hb).call hb.size)
  have HB_2 : Hid (Below w.heap.size w w2) := Lib.hid (HB_1.out.trans (hb.mono HB_1.out.size))
  have ba_2 : w2.cell? ⟨w1.heap.size, 0, none⟩ = some (.slice Aa dsa.length ca) := by rw [hw]; simp [go_sem]
  have lf_ba : (w1.alloc (.cells #[.slice Aa dsa.length ca] 25)).cell? ⟨w1.heap.size, 0, none⟩ = some (.slice Aa dsa.length ca) := by rw [← hw]; exact ba_2
  have HW2 : Hid ((w1.alloc (.cells #[.slice Aa dsa.length ca] 25)) = w2) := Lib.hid hw.symm
  clear hb hw Sa_1 HB_1
  have OKM0 : ∀ d ∈ (mDrop dsa s).getD [], d.ok := fun d hd => HOKa.out d (mDrop_mem hd)
  have hml := mDrop_len dsa s
  have hfit : ∀ es, mDrop dsa s = some es → DropL dsa s es := fun es h => drop_law h
  have HIM : Hid (∀ (A : Option Addr) (n c : Nat) (w : World), SD w w.heap.size A n c dsa → Calls Try.prog 20 #[.agg #[.slice A n c], .string s] w (EnumP (mDrop dsa s) w)) := Lib.hid fun A n c w h => implDrop_v dsa s A n c w h
  have HSP : Hid (∀ (A : Option Addr) (n c : Nat) (w : World), SD w w.heap.size A n c dsa → Calls Try.prog 22 #[.agg #[.slice A n c], .string s] w (EnumP (mDrop dsa s) w)) := Lib.hid fun A n c w h => specDrop_v dsa s A n c w h
  unfold EnumP at HIM HSP
  have HFIT : Hid ((mDrop dsa s).isSome = true → DropL dsa s ((mDrop dsa s).getD [])) := Lib.hid (fun h => by cases hq : mDrop dsa s with | none => rw [hq] at h; cases h | some es => exact hfit es hq)
  clear hfit
  generalize (mDrop dsa s).getD [] = ms at *
  generalize (mDrop dsa s).isSome = ok at *
  have OKM := Lib.hid OKM0
  clear OKM0
  go_wp2_with fail
  rw [HW2.out]
  clear lf_ba
  refine (HIM.out _ _ _ _ Sa_2.out).mono ?_
  rintro e w3 ⟨Ag, cg, rfl, ho, hb⟩
  have ba_3 := keep1 hb ba_2
  have Sa_3 := Lib.hid ((Sa_2.out.below hb).call hb.size)
  have HB_3 : Hid (Below w.heap.size w w3) := Lib.hid (HB_2.out.trans (hb.mono HB_2.out.size))
  have Sg_3 := Lib.hid (sd_of_own ho OKM.out)
  clear hb ho ba_2 Sa_2 HB_2
  obtain ⟨w4, hw⟩ : ∃ W : World, W = (w3.alloc (.cells #[.slice Ag ms.length cg] 25)) := ⟨_, rfl⟩
  have hb : Below w3.heap.size w3 w4 := by rw [hw]; exact ((Below.refl _ _).alloc (by first | exact Nat.le_refl _ | (simp; done) | (simp; omega)) _)
  have ba_4 := keep1 hb ba_3
  have Sa_4 := Lib.hid ((Sa_3.out.below hb).call hb.size)
  have Sg_4 := Lib.hid ((Sg_3.out.below hb).call hb.size)
  have HB_4 : Hid (Below w.heap.size w w4) := Lib.hid (HB_3.out.trans (hb.mono HB_3.out.size))
  have bg_4 : w4.cell? ⟨w3.heap.size, 0, none⟩ = some (.slice Ag ms.length cg) := by rw [hw]; simp [go_sem]
  have lf_ba : (w3.alloc (.cells #[.slice Ag ms.length cg] 25)).cell? ⟨w1.heap.size, 0, none⟩ = some (.slice Aa dsa.length ca) := by rw [← hw]; exact ba_4
  have lf_bg : (w3.alloc (.cells #[.slice Ag ms.length cg] 25)).cell? ⟨w3.heap.size, 0, none⟩ = some (.slice Ag ms.length cg) := by rw [← hw]; exact bg_4
  have HW4 : Hid ((w3.alloc (.cells #[.slice Ag ms.length cg] 25)) = w4) := Lib.hid hw.symm
  clear hb hw ba_3 Sa_3 Sg_3 HB_3
  go_wp2_with fail
  rw [HW4.out]
  clear lf_ba lf_bg
  refine (HSP.out _ _ _ _ Sa_4.out).mono ?_
  rintro e w5 ⟨Aw, cw, rfl, ho, hb⟩
  have ba_5 := keep1 hb ba_4
  have bg_5 := keep1 hb bg_4
  have Sa_5 := Lib.hid ((Sa_4.out.below hb).call hb.size)
  have Sg_5 := Lib.hid ((Sg_4.out.below hb).call hb.size)
  have HB_5 : Hid (Below w.heap.size w w5) := Lib.hid (HB_4.out.trans (hb.mono HB_4.out.size))
  have Sw_5 := Lib.hid (sd_of_own ho OKM.out)
  clear hb ho ba_4 bg_4 Sa_4 Sg_4 HB_4
  obtain ⟨w6, hw⟩ : ∃ W : World, W = (w5.alloc (.cells #[.slice Aw ms.length cw] 25)) := ⟨_, rfl⟩
  have hb : Below w5.heap.size w5 w6 := by rw [hw]; exact ((Below.refl _ _).alloc (by first | exact Nat.le_refl _ | (simp; done) | (simp; omega)) _)
  have ba_6 := keep1 hb ba_5
  have bg_6 := keep1 hb bg_5
  have Sa_6 := Lib.hid ((Sa_5.out.below hb).call hb.size)
  have Sg_6 := Lib.hid ((Sg_5.out.below hb).call hb.size)
  have Sw_6 := Lib.hid ((Sw_5.out.below hb).call hb.size)
  have HB_6 : Hid (Below w.heap.size w w6) := Lib.hid (HB_5.out.trans (hb.mono HB_5.out.size))
  have bw_6 : w6.cell? ⟨w5.heap.size, 0, none⟩ = some (.slice Aw ms.length cw) := by rw [hw]; simp [go_sem]
  have lf_ba : (w5.alloc (.cells #[.slice Aw ms.length cw] 25)).cell? ⟨w1.heap.size, 0, none⟩ = some (.slice Aa dsa.length ca) := by rw [← hw]; exact ba_6
  have lf_bg : (w5.alloc (.cells #[.slice Aw ms.length cw] 25)).cell? ⟨w3.heap.size, 0, none⟩ = some (.slice Ag ms.length cg) := by rw [← hw]; exact bg_6
  have lf_bw : (w5.alloc (.cells #[.slice Aw ms.length cw] 25)).cell? ⟨w5.heap.size, 0, none⟩ = some (.slice Aw ms.length cw) := by rw [← hw]; exact bw_6
  have HW6 : Hid ((w5.alloc (.cells #[.slice Aw ms.length cw] 25)) = w6) := Lib.hid hw.symm
  clear hb hw ba_5 bg_5 Sa_5 Sg_5 Sw_5 HB_5
  go_wp2_with fail
  rw [HW6.out]
  clear lf_ba lf_bg lf_bw
  refine (equalEnum_any ms _ _ _ _ _ _ _ Sg_6.out Sw_6.out).mono ?_
  rintro e w7 ⟨rfl, hb⟩
  have ba_7 := keep1 hb ba_6
  have bg_7 := keep1 hb bg_6
  have bw_7 := keep1 hb bw_6
  have Sa_7 := Lib.hid ((Sa_6.out.below hb).call hb.size)
  have Sg_7 := Lib.hid ((Sg_6.out.below hb).call hb.size)
  have Sw_7 := Lib.hid ((Sw_6.out.below hb).call hb.size)
  have HB_7 : Hid (Below w.heap.size w w7) := Lib.hid (HB_6.out.trans (hb.mono HB_6.out.size))
  clear hb  ba_6 bg_6 bw_6 Sa_6 Sg_6 Sw_6 HB_6
  cases ok
  · skip
    go_wp2_with fail
    refine (equalEnum_any ms _ _ _ _ _ _ _ Sg_7.out Sw_7.out).mono ?_
    rintro e w8 ⟨rfl, hb⟩
    have ba_8 := keep1 hb ba_7
    have bg_8 := keep1 hb bg_7
    have bw_8 := keep1 hb bw_7
    have Sa_8 := Lib.hid ((Sa_7.out.below hb).call hb.size)
    have Sg_8 := Lib.hid ((Sg_7.out.below hb).call hb.size)
    have Sw_8 := Lib.hid ((Sw_7.out.below hb).call hb.size)
    have HB_8 : Hid (Below w.heap.size w w8) := Lib.hid (HB_7.out.trans (hb.mono HB_7.out.size))
    clear hb  ba_7 bg_7 bw_7 Sa_7 Sg_7 Sw_7 HB_7
    go_wp2
    go_ret
    exact ⟨rfl, HB_8.out⟩
  have HF := Lib.hid (HFIT.out rfl)
  clear HFIT HIM HSP
  clear Sw_7
  clear bw_7
  go_wp2_with fail
  go_loopw [9] (fun i wr => ∃ (k : Nat), k ≤ dsa.length ∧ i = .int .i64 k ∧ Hid (Below w.heap.size w wr) ∧ Hid (wr.cell? ⟨w1.heap.size, 0, none⟩ = some (.slice Aa dsa.length ca)) ∧ Hid (wr.cell? ⟨w3.heap.size, 0, none⟩ = some (.slice Ag ms.length cg)) ∧ Hid (SD wr wr.heap.size Aa dsa.length ca dsa) ∧ Hid (SD wr wr.heap.size Ag ms.length cg ms)) (fun i _ => dsa.length - (intOf i).toNat)
  case atStart => exact ⟨0, Nat.zero_le _, rfl, HB_7, Lib.hid ba_7, Lib.hid bg_7, Sa_7, Sg_7⟩
  case round =>
    obtain ⟨k, hk, rfl, hbel, hca, hcg, hsa, hsg⟩ := hrel
    have y1 := hca.out
    have y2 := hcg.out
    clear ba_7 bg_7 HB_7 Sa_7 Sg_7
    by_cases hlt : k < dsa.length
    · obtain ⟨b, o, rfl, hbb, x1, x2⟩ := hsa.out.at_ hlt
      have hi1 : (k : Int) < (dsa.length : Int) := by omega
      have hi0 : (0 : Int) ≤ (k : Int) := by omega
      by_cases hnm : dsa[k].name = s
      · have HN := Lib.hid (HF.out.no k hlt hnm)
        have hp1 : (dsa[k].name.toList == s.toList) = true := nm_true hnm
        clear hnm
        go_wp2_with fail
        go_region_held3 (fun w' => w'.cell? ⟨w3.heap.size, 0, none⟩ = some (.slice Ag ms.length cg) ∧ w'.cell? ⟨w1.heap.size, 0, none⟩ = some (.slice (some ⟨b, o, none⟩) dsa.length ca) ∧ w'.cell? ⟨b, o + k * 2, none⟩ = some (.string dsa[k].name))
          (first | go_keep | exact ⟨z1, z2, z3⟩)
          (first | (go_at_call 19; refine (implValue_none ms _ _ _ _ _ (hsg.out.drewN 1) HN.out).mono ?_; rintro e w8 ⟨rfl, hb⟩; replace hb : Below wr.heap.size wr w8 := undrew hb; have z1 := keep1 hb y2; have z2 := keep1 hb y1; have z3 := keep1 hb x1; have z4 := keep1 hb x2))
        have HB8 : Hid (Below w.heap.size w w8) := Lib.hid (hbel.out.trans (hb.mono hbel.out.size))
        have HSa8 := Lib.hid ((hsa.out.below hb).call hb.size)
        have HSg8 := Lib.hid ((hsg.out.below hb).call hb.size)
        clear hb hbel hsa hsg y1 y2 x1 x2 hca hcg
        go_wp2
        go_roundw
        case rel => exact ⟨k + 1, by omega, by go_num, HB8, Lib.hid z2, Lib.hid z1, HSa8, HSg8⟩
        case measure => simp [intOf]; omega
      · have HN := Lib.hid (HF.out.yes k hlt hnm)
        have hp1 : (dsa[k].name.toList == s.toList) = false := nm_false hnm
        clear hnm
        go_wp2_with fail
        go_region_held3 (fun w' => w'.cell? ⟨w3.heap.size, 0, none⟩ = some (.slice Ag ms.length cg) ∧ w'.cell? ⟨w1.heap.size, 0, none⟩ = some (.slice (some ⟨b, o, none⟩) dsa.length ca) ∧ w'.cell? ⟨b, o + k * 2, none⟩ = some (.string dsa[k].name))
          (first | go_keep | exact ⟨z1, z2, z3⟩)
          (first | (go_at_call 19; refine (implValue_at ms _ _ _ _ _ (hsg.out.drewN 1) HF.out.ve HN.out).mono ?_; rintro e w8 ⟨rfl, hb⟩; replace hb : Below wr.heap.size wr w8 := undrew hb; have z1 := keep1 hb y2; have z2 := keep1 hb y1; have z3 := keep1 hb x1; have z4 := keep1 hb x2))
        have HB8 : Hid (Below w.heap.size w w8) := Lib.hid (hbel.out.trans (hb.mono hbel.out.size))
        have HSa8 := Lib.hid ((hsa.out.below hb).call hb.size)
        have HSg8 := Lib.hid ((hsg.out.below hb).call hb.size)
        clear hb hbel hsa hsg y1 y2 x1 x2 hca hcg
        go_wp2
        go_roundw
        case rel => exact ⟨k + 1, by omega, by go_num, HB8, Lib.hid z2, Lib.hid z1, HSa8, HSg8⟩
        case measure => simp [intOf]; omega
    · obtain rfl : k = dsa.length := by omega
      have hl : (ms.length : Int) + 1 = dsa.length := by have := HF.out.len; omega
      have hq : ((ms.length : Int) == (dsa.length : Int) - 1) = true := by rw [beq_iff_eq]; omega
      have HV := Lib.hid HF.out.ve
      clear hl
      go_wp2_with fail
      refine (implVE_v ms _ _ _ _ hsg.out HV.out).mono ?_
      rintro e w8 ⟨rfl, hb⟩
      have z1 := keep1 hb y2
      have z2 := keep1 hb y1
      have HB8 : Hid (Below w.heap.size w w8) := Lib.hid (hbel.out.trans (hb.mono hbel.out.size))
      clear hb y1 y2
      go_wp2
      go_ret
      exact ⟨rfl, HB8.out⟩

theorem lifted (os : Os) (started : os.Started) (H : Type) (enc : TypeId × Value → H) :
    ReturnsInHanded {} Try.checked os 4 .any (Rows.fnDropDefSpec.pre6 enc Try.prog Try.f4 Rows.fnDropDefRow.domain false) (Rows.fnDropDefSpec.post enc Try.prog Try.f4 false true false false) := by
  refine returnsInHanded_of_change (C := Try.checked) own started (by kernel_rfl) Try.func4
    (ChangeSpec.witness6 (enc := enc) (C := Try.checked) false ⟨#[], #[.slice none 0 0], []⟩ 8 (by kernel_rfl) (by kernel_rfl) (by kernel_rfl) (by kernel_rfl)) ?_
  intro W base args ds gs before hval0 hW hcnd _
  have hval : ∀ (j : Nat) t v, Try.f4.params[j]? = some t → args[j]? = some v → Value.okWide Try.prog W .any base t v := hval0
  have hW' := hW
  obtain ⟨p, q, hA0, hV, rfl, hfz, hnd⟩ := hW
  have hA : DataW.TrodAll enc Try.prog W 0 (fun _ => true) true Try.f4.params.toList args.toList ds p := hA0
  rw [Try.params4] at hA hval
  obtain ⟨v0, vs0, d0, ds0, p0, q0, hargs, rfl, rfl, h0, r0⟩ := trodAll_cons hA
  obtain ⟨rfl, rfl, rfl⟩ := trodAll_nil r0
  obtain rfl : args = #[v0] := by cases args; simp_all
  obtain ⟨rfl, rfl⟩ := trodVars_none hV
  have k0 := h0
  have lt0 : ∀ x ∈ p0, x.block < W.heap.size := by obtain ⟨m, hm⟩ := k0; exact DataW.trod_lt m _ _ _ hm
  obtain ⟨A0, n0, c0, l0, rfl, w0⟩ := open_code (hval 0 22 v0 rfl rfl) h0
  clear hA0 hval0
  refine (walk A0 n0 c0 l0 W w0).mono fun e W' ⟨he, bel⟩ => ?_
  subst he
  exact ⟨_, rfl, _, _, _, [], _, [], hW', trodAll_mk1 (shut_bool Try.underlying4 _), (trodAll_cons_mk (Below.trod laidOut (by kernel_rfl) (of_decide_eq_true (by kernel_rfl)) k0 bel lt0) trodAll_mk0), rfl, bel.frame _, fun h => by cases h⟩

theorem over : Rows.fnDropDefRow.holds Try.pinned (OpenSpec.ofChange Rows.fnDropDefSpec) :=
  OpenClaim.holds_of_wide 4 Try.f4 rfl rfl rfl rfl rfl rfl rfl ⟨rfl, rfl, rfl, rfl, rfl⟩ rfl rfl rfl rfl rfl (by kernel_rfl) Try.func4 (by kernel_rfl)
    (of_decide_eq_true (by kernel_rfl)) (by unfold Func.isWrapper; first | (rw [if_pos (by decide +kernel)]; kernel_rfl) | (rw [if_neg (by decide +kernel)]; exact ⟨rfl, rfl⟩))
    (fun os started H enc _ => lifted os started H enc)

theorem proved : Rows.FnDropDefSaid := over
end Go.Proofs.Ytiklgghbkkmnaaa.fnDropDef
