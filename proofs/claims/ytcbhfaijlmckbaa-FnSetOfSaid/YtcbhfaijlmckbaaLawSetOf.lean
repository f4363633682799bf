/-
For every code the law of sets returns true: the program's SetOf answers as its model, MembersIn what it answers are the members of the names, each once, and SetOf these is the same.
Conditions: none.
-/
import Derived.Test.YtcbhfaijlmckbaaGenU
import Derived.Test.YtcbhfaijlmckbaaOpenC
import Derived.Test.YtcbhfaijlmckbaaLBase
import Derived.Test.YtcbhfaijlmckbaaLHelp
import Derived.Test.YtcbhfaijlmckbaaLSet
import Derived.Test.YtcbhfaijlmckbaaConvU
import Derived.Test.YtcbhfaijlmckbaaConvJ
import Derived.Test.YtcbhfaijlmckbaaMissI
namespace Go.Proofs.Ytcbhfaijlmckbaa.fnSetOf
open Go.ChangeShapes Go.WideShapes Go.ChangeAt Go.RowKit
open Go.ChangeMaps (open_string shut_string)
set_option linter.unusedVariables false
set_option maxRecDepth 100000

set_option maxHeartbeats 16000000 in
theorem walk (A : Option Addr) (n c : Nat) (zs : List Int) (w : World) (h : SB w w.heap.size A n c zs) :
    Calls Try.prog 5 #[.slice A n c] w fun e w' => e = .returned (.bool true) ∧ Below w.heap.size w w' := by
  have hm := h.max
  have hcap := h.cap
  unfold maxLen at hm
  have HS0 := Lib.hid h
  clear h
  by_cases hbig : 1048576 < (n : Int)
  · go_enter Try.func5, Try.ntmps5
    go_wp2
    go_ret
    exact ⟨rfl, Below.refl _ _⟩
  go_enter Try.func5, Try.ntmps5
  go_wp2_with fail
  refine (drawSetOf_s A n c zs _ HS0.out).mono ?_
  rintro e w1 ⟨Aa, ca, dsa, As, cs, ss, rfl, hna, hsma, hs3, hzz, hsa, hss, hb⟩
  have HB_1 := Lib.hid hb
  have Sa_1 := Lib.hid hsa
  have HSMa := Lib.hid hsma
  have HOKa : Hid (∀ d ∈ dsa, d.ok) := Lib.hid (fun d hd => small_ok (hsma d hd))
  have Ss_1 := Lib.hid hss
  clear hb hsa hsma hss
  obtain ⟨w2, hw⟩ : ∃ W : World, W = (w1.alloc (.cells #[.slice Aa dsa.length ca] 25)) := ⟨_, rfl⟩
  have hb : Below w1.heap.size w1 w2 := by rw [hw]; exact ((Below.refl _ _).alloc (by first | exact Nat.le_refl _ | (simp; done) | (simp; omega)) _)
  have Sa_2 := Lib.hid ((Sa_1.out.below hb).call hb.size)
  have Ss_2 := Lib.hid ((Ss_1.out.below hb).call hb.size)
  have HB_2 : Hid (Below w.heap.size w w2) := Lib.hid (HB_1.out.trans (hb.mono HB_1.out.size))
  have ba_2 : w2.cell? ⟨w1.heap.size, 0, none⟩ = some (.slice Aa dsa.length ca) := by rw [hw]; simp [go_sem]
  have lf_ba : (w1.alloc (.cells #[.slice Aa dsa.length ca] 25)).cell? ⟨w1.heap.size, 0, none⟩ = some (.slice Aa dsa.length ca) := by rw [← hw]; exact ba_2
  have HW2 : Hid ((w1.alloc (.cells #[.slice Aa dsa.length ca] 25)) = w2) := Lib.hid hw.symm
  clear hb hw Sa_1 Ss_1 HB_1
  obtain ⟨x, hx⟩ : ∃ x, mSet dsa ss = x := ⟨_, rfl⟩
  obtain ⟨v, hv⟩ : ∃ v, mSetOk dsa ss = v := ⟨_, rfl⟩
  have HX := Lib.hid hx
  have HV := Lib.hid hv
  clear hzz
  go_wp2_with fail
  rw [HW2.out]
  clear lf_ba
  refine (implSet_v dsa ss _ _ _ _ Sa_2.out _ _ _ Ss_2.out HX.out HV.out).mono ?_
  rintro e w3 ⟨rfl, hb⟩
  have ba_3 := keep1 hb ba_2
  have Sa_3 := Lib.hid ((Sa_2.out.below hb).call hb.size)
  have Ss_3 := Lib.hid ((Ss_2.out.below hb).call hb.size)
  have HB_3 : Hid (Below w.heap.size w w3) := Lib.hid (HB_2.out.trans (hb.mono HB_2.out.size))
  clear hb  ba_2 Sa_2 Ss_2 HB_2
  go_wp2_with fail
  refine (specSet_v dsa ss _ _ _ _ Sa_3.out _ _ _ Ss_3.out HX.out HV.out).mono ?_
  rintro e w4 ⟨rfl, hb⟩
  have ba_4 := keep1 hb ba_3
  have Sa_4 := Lib.hid ((Sa_3.out.below hb).call hb.size)
  have Ss_4 := Lib.hid ((Ss_3.out.below hb).call hb.size)
  have HB_4 : Hid (Below w.heap.size w w4) := Lib.hid (HB_3.out.trans (hb.mono HB_3.out.size))
  clear hb  ba_3 Sa_3 Ss_3 HB_3
  cases v
  · clear hx hv
    go_wp2
    go_ret
    exact ⟨rfl, HB_4.out⟩
  have hF := set_law hv
  rw [hx] at hF
  have HOG : Hid (∀ s ∈ mMemIn dsa x, s.size ≤ maxLen) := Lib.hid (by rw [mMemIn_is]; exact mNamesIn_ok (mBits_ok HOKa.out))
  have HOM : Hid (∀ s ∈ mMissM dsa ss, s.size ≤ maxLen) := Lib.hid (mMissM_ok HOKa.out)
  have HOA : Hid (∀ s ∈ mMembers dsa, s.size ≤ maxLen) := Lib.hid (mMembers_ok HOKa.out)
  have hg12 := memin_len dsa x
  have hm12 := mMissM_len dsa ss
  have ha12 := mMembers_len dsa
  have HGM : Hid (∀ (A : Option Addr) (n c : Nat) (w : World), SD w w.heap.size A n c dsa → Calls Try.prog 24 #[.agg #[.slice A n c], .int .i64 x] w (StrsP (mMemIn dsa x) w)) := Lib.hid fun A n c w h => implMemIn_any dsa x A n c w h
  have HMM : Hid (∀ (A : Option Addr) (n c : Nat) (w : World) (As : Option Addr) (q cs : Nat), SD w w.heap.size A n c dsa → SS w w.heap.size As q cs ss → n ≤ 1048576 → Calls Try.prog 29 #[.agg #[.slice A n c], .slice As q cs] w (StrsP (mMissM dsa ss) w)) := Lib.hid fun A n c w As q cs h1 h2 h3 => implMiss_any dsa ss A n c w h1 As q cs h2 h3
  have HAM : Hid (∀ (A : Option Addr) (n c : Nat) (w : World), SD w w.heap.size A n c dsa → Calls Try.prog 19 #[.agg #[.slice A n c]] w (StrsP (mMembers dsa) w)) := Lib.hid fun A n c w h => implMembersOf_any dsa _ _ _ _ h
  unfold StrsP at HGM HMM HAM
  have HHAS := Lib.hid hF.has
  have HBK := Lib.hid hF.back
  have hlen := hF.len
  clear hF hx hv
  generalize mMemIn dsa x = gs at *
  generalize mMissM dsa ss = ms at *
  generalize mMembers dsa = ns at *
  have HLEN : Hid (((gs.length : Int) + (ms.length : Int) == (ns.length : Int)) = true) := Lib.hid (by rw [beq_iff_eq]; omega)
  clear hlen
  go_wp2_with fail
  refine (HGM.out _ _ _ _ Sa_4.out).mono ?_
  rintro e w5 ⟨Ag, cg, rfl, ho, hb⟩
  have ba_5 := keep1 hb ba_4
  have Sa_5 := Lib.hid ((Sa_4.out.below hb).call hb.size)
  have Ss_5 := Lib.hid ((Ss_4.out.below hb).call hb.size)
  have HB_5 : Hid (Below w.heap.size w w5) := Lib.hid (HB_4.out.trans (hb.mono HB_4.out.size))
  have Xg_5 := Lib.hid (ss_of_own ho HOG.out)
  clear hb ho ba_4 Sa_4 Ss_4 HB_4
  go_wp2_with fail
  refine (HMM.out _ _ _ _ _ _ _ Sa_5.out Ss_5.out (by omega)).mono ?_
  rintro e w6 ⟨Am, cm, rfl, ho, hb⟩
  have ba_6 := keep1 hb ba_5
  have Sa_6 := Lib.hid ((Sa_5.out.below hb).call hb.size)
  have Ss_6 := Lib.hid ((Ss_5.out.below hb).call hb.size)
  have Xg_6 := Lib.hid ((Xg_5.out.below hb).call hb.size)
  have HB_6 : Hid (Below w.heap.size w w6) := Lib.hid (HB_5.out.trans (hb.mono HB_5.out.size))
  have Xm_6 := Lib.hid (ss_of_own ho HOM.out)
  clear hb ho ba_5 Sa_5 Ss_5 Xg_5 HB_5
  go_wp2_with fail
  refine (HAM.out _ _ _ _ Sa_6.out).mono ?_
  rintro e w7 ⟨An, cn, rfl, ho, hb⟩
  have ba_7 := keep1 hb ba_6
  have Sa_7 := Lib.hid ((Sa_6.out.below hb).call hb.size)
  have Ss_7 := Lib.hid ((Ss_6.out.below hb).call hb.size)
  have Xg_7 := Lib.hid ((Xg_6.out.below hb).call hb.size)
  have Xm_7 := Lib.hid ((Xm_6.out.below hb).call hb.size)
  have HB_7 : Hid (Below w.heap.size w w7) := Lib.hid (HB_6.out.trans (hb.mono HB_6.out.size))
  have Xn_7 := Lib.hid (ss_of_own ho HOA.out)
  clear hb ho ba_6 Sa_6 Ss_6 Xg_6 Xm_6 HB_6
  go_wp2_with fail
  go_loopw [12] (fun i wr => ∃ (k : Nat), k ≤ ns.length ∧ i = .int .i64 k ∧ Hid (Below w.heap.size w wr) ∧ Hid (wr.cell? ⟨w1.heap.size, 0, none⟩ = some (.slice Aa dsa.length ca)) ∧ Hid (SD wr wr.heap.size Aa dsa.length ca dsa) ∧ Hid (SS wr wr.heap.size Ag gs.length cg gs) ∧ Hid (SS wr wr.heap.size Am ms.length cm ms) ∧ Hid (SS wr wr.heap.size An ns.length cn ns)) (fun i _ => ns.length - (intOf i).toNat)
  case atStart => exact ⟨0, Nat.zero_le _, rfl, HB_7, Lib.hid ba_7, Sa_7, Xg_7, Xm_7, Xn_7⟩
  case round =>
    obtain ⟨k, hk, rfl, hbel, hca, hsa, hxg, hxm, hxn⟩ := hrel
    clear ba_7 HB_7 Sa_7 Xg_7 Xm_7 Xn_7
    have y1 := hca.out
    clear hca
    by_cases hlt : k < ns.length
    · obtain ⟨b, o, hA, hbb, x1⟩ := hxn.out.at_ hlt
      subst hA
      obtain ⟨u, hu1, hu2⟩ := HHAS.out k hlt
      have HU1 := Lib.hid hu1
      have HU2 := Lib.hid hu2
      clear hu1 hu2
      generalize ns[k] = t at *
      have hi1 : (k : Int) < (ns.length : Int) := by omega
      have hi0 : (0 : Int) ≤ (k : Int) := by omega
      obtain ⟨w40, hwn⟩ : ∃ W : World, W = wr := ⟨_, rfl⟩
      subst hwn
      have HB_40 := hbel
      have ba_40 := y1
      have Sa_40 := hsa
      have Xg_40 := hxg
      have Xm_40 := hxm
      have Xn_40 := hxn
      have x1_40 := x1
      clear hbel y1 hsa hxg hxm hxn x1
      go_wp2_with fail
      go_region_held3 (fun w' => w'.cell? ⟨b, o + k, none⟩ = some (.string t))
        (first | go_keep | exact x1_40 | exact x1_41 | exact x1_42)
        (first
          | (go_at_call_of 30 (Value.slice Ag gs.length cg); refine (hasText_any gs _ _ _ _ _ (Xg_40.out.drewN 1) HU1.out).mono ?_; rintro e w41 ⟨rfl, hb⟩; replace hb : Below w40.heap.size w40 w41 := (by first | exact hb | exact undrew hb); have ba_41 := keep1 hb ba_40; have x1_41 := keep1 hb x1_40; have Sa_41 := Lib.hid ((Sa_40.out.below hb).call hb.size); have Xg_41 := Lib.hid ((Xg_40.out.below hb).call hb.size); have Xm_41 := Lib.hid ((Xm_40.out.below hb).call hb.size); have Xn_41 := Lib.hid ((Xn_40.out.below hb).call hb.size); have HB_41 : Hid (Below w.heap.size w w41) := Lib.hid (HB_40.out.trans (hb.mono HB_40.out.size)); clear hb)
          | (go_at_call_of 30 (Value.slice Am ms.length cm); refine (hasText_any ms _ _ _ _ _ Xm_41.out HU2.out).mono ?_; rintro e w42 ⟨rfl, hb⟩; have ba_42 := keep1 hb ba_41; have x1_42 := keep1 hb x1_41; have Sa_42 := Lib.hid ((Sa_41.out.below hb).call hb.size); have Xg_42 := Lib.hid ((Xg_41.out.below hb).call hb.size); have Xm_42 := Lib.hid ((Xm_41.out.below hb).call hb.size); have Xn_42 := Lib.hid ((Xn_41.out.below hb).call hb.size); have HB_42 : Hid (Below w.heap.size w w42) := Lib.hid (HB_41.out.trans (hb.mono HB_41.out.size)); clear hb))
      cases u
      all_goals
        go_wp2
        go_roundw
        case rel => exact ⟨k + 1, by omega, by go_num, HB_42, Lib.hid ba_42, Sa_42, Xg_42, Xm_42, Xn_42⟩
        case measure => simp [intOf]; omega
    · obtain rfl : k = ns.length := by omega
      obtain ⟨w40, hwn⟩ : ∃ W : World, W = wr := ⟨_, rfl⟩
      subst hwn
      have HB_40 := hbel
      have ba_40 := y1
      have Sa_40 := hsa
      have Xg_40 := hxg
      have Xm_40 := hxm
      have Xn_40 := hxn
      clear hbel y1 hsa hxg hxm hxn
      go_wp2_with fail
      refine (implSet_v dsa gs _ _ _ _ Sa_40.out _ _ _ Xg_40.out HBK.out.1 HBK.out.2).mono ?_
      rintro e w41 ⟨rfl, hb⟩
      have ba_41 := keep1 hb ba_40
      have Sa_41 := Lib.hid ((Sa_40.out.below hb).call hb.size)
      have Xg_41 := Lib.hid ((Xg_40.out.below hb).call hb.size)
      have Xm_41 := Lib.hid ((Xm_40.out.below hb).call hb.size)
      have Xn_41 := Lib.hid ((Xn_40.out.below hb).call hb.size)
      have HB_41 : Hid (Below w.heap.size w w41) := Lib.hid (HB_40.out.trans (hb.mono HB_40.out.size))
      clear hb  ba_40 Sa_40 Xg_40 Xm_40 Xn_40 HB_40
      have hl1 := HLEN.out
      have hw : IntKind.i64.wrap ((gs.length : Int) + (ms.length : Int)) = (gs.length : Int) + (ms.length : Int) := by rw [IntKind.wrap_i64]; omega
      go_wp2
      go_ret
      exact ⟨rfl, HB_41.out⟩

theorem lifted (os : Os) (started : os.Started) (H : Type) (enc : TypeId × Value → H) :
    ReturnsInHanded {} Try.checked os 5 .any (Rows.fnSetOfSpec.pre6 enc Try.prog Try.f5 Rows.fnSetOfRow.domain false) (Rows.fnSetOfSpec.post enc Try.prog Try.f5 false true false false) := by
  refine returnsInHanded_of_change (C := Try.checked) own started (by kernel_rfl) Try.func5
    (ChangeSpec.witness6 (enc := enc) (C := Try.checked) false ⟨#[], #[.slice none 0 0], []⟩ 8 (by kernel_rfl) (by kernel_rfl) (by kernel_rfl) (by kernel_rfl)) ?_
  intro W base args ds gs before hval0 hW hcnd _
  have hval : ∀ (j : Nat) t v, Try.f5.params[j]? = some t → args[j]? = some v → Value.okWide Try.prog W .any base t v := hval0
  have hW' := hW
  obtain ⟨p, q, hA0, hV, rfl, hfz, hnd⟩ := hW
  have hA : DataW.TrodAll enc Try.prog W 0 (fun _ => true) true Try.f5.params.toList args.toList ds p := hA0
  rw [Try.params5] at hA hval
  obtain ⟨v0, vs0, d0, ds0, p0, q0, hargs, rfl, rfl, h0, r0⟩ := trodAll_cons hA
  obtain ⟨rfl, rfl, rfl⟩ := trodAll_nil r0
  obtain rfl : args = #[v0] := by cases args; simp_all
  obtain ⟨rfl, rfl⟩ := trodVars_none hV
  have k0 := h0
  have lt0 : ∀ x ∈ p0, x.block < W.heap.size := by obtain ⟨m, hm⟩ := k0; exact DataW.trod_lt m _ _ _ hm
  obtain ⟨A0, n0, c0, l0, rfl, w0⟩ := open_code (hval 0 22 v0 rfl rfl) h0
  clear hA0 hval0
  refine (walk A0 n0 c0 l0 W w0).mono fun e W' ⟨he, bel⟩ => ?_
  subst he
  exact ⟨_, rfl, _, _, _, [], _, [], hW', trodAll_mk1 (shut_bool Try.underlying4 _), (trodAll_cons_mk (Below.trod laidOut (by kernel_rfl) (of_decide_eq_true (by kernel_rfl)) k0 bel lt0) trodAll_mk0), rfl, bel.frame _, fun h => by cases h⟩

theorem over : Rows.fnSetOfRow.holds Try.pinned (OpenSpec.ofChange Rows.fnSetOfSpec) :=
  OpenClaim.holds_of_wide 5 Try.f5 rfl rfl rfl rfl rfl rfl rfl ⟨rfl, rfl, rfl, rfl, rfl⟩ rfl rfl rfl rfl rfl (by kernel_rfl) Try.func5 (by kernel_rfl)
    (of_decide_eq_true (by kernel_rfl)) (by unfold Func.isWrapper; first | (rw [if_pos (by decide +kernel)]; kernel_rfl) | (rw [if_neg (by decide +kernel)]; exact ⟨rfl, rfl⟩))
    (fun os started H enc _ => lifted os started H enc)

theorem proved : Rows.FnSetOfSaid := over
end Go.Proofs.Ytcbhfaijlmckbaa.fnSetOf
