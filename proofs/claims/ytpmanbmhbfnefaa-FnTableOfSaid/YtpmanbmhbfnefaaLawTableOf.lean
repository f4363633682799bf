/-
For every code the law of tables returns true: the program's TableOf answers as its model, LookUp of each name of the list is its value, and the table is as long as there are members.
Conditions: none.
-/
import Derived.Test.YtpmanbmhbfnefaaGenTb
import Derived.Test.YtpmanbmhbfnefaaOpenC
import Derived.Test.YtpmanbmhbfnefaaLTb
import Derived.Test.YtpmanbmhbfnefaaTabS
import Derived.Test.YtpmanbmhbfnefaaTabI
import Derived.Test.YtpmanbmhbfnefaaConvN
namespace Go.Proofs.Ytpmanbmhbfnefaa.fnTableOf
open Go.ChangeShapes Go.WideShapes Go.ChangeAt Go.RowKit
open Go.ChangeMaps (open_string shut_string)
set_option linter.unusedVariables false
set_option linter.unusedSimpArgs false
set_option maxRecDepth 100000

set_option maxHeartbeats 16000000 in
theorem walk (A : Option Addr) (n c : Nat) (zs : List Int) (w : World) (h : SB w w.heap.size A n c zs) :
    Calls Try.prog 4 #[.slice A n c] w fun e w' => e = .returned (.bool true) ∧ Below w.heap.size w w' := by
  have hm := h.max
  have hcap := h.cap
  unfold maxLen at hm
  have HS0 := Lib.hid h
  clear h
  by_cases hbig : 1048576 < (n : Int)
  · go_enter Try.func4, Try.ntmps4
    go_wp2
    go_ret
    exact ⟨rfl, Below.refl _ _⟩
  go_enter Try.func4, Try.ntmps4
  go_wp2_with fail
  refine (drawTableOf_s A n c zs _ HS0.out).mono ?_
  rintro e w1 ⟨Aa, ca, dsa, AX, cX, xs, rfl, hna, hnx, hsma, hsmx, hsa, hsx, hb⟩
  have HB_1 := Lib.hid hb
  have Sa_1 := Lib.hid hsa
  have HSMa := Lib.hid hsma
  have HOKa : Hid (∀ d ∈ dsa, d.ok) := Lib.hid (fun d hd => small_ok (hsma d hd))
  have Sx_1 := Lib.hid hsx
  clear hb hsa hsma hsx
  obtain ⟨w2, hw⟩ : ∃ W : World, W = (w1.alloc (.cells #[.slice Aa dsa.length ca] 32)) := ⟨_, rfl⟩
  have hb : Below w1.heap.size w1 w2 := by rw [hw]; exact ((Below.refl _ _).alloc (by first | exact Nat.le_refl _ | (simp; done) | (simp; omega)) _)
  have Sa_2 := Lib.hid ((Sa_1.out.below hb).call hb.size)
  have Sx_2 := Lib.hid ((Sx_1.out.below hb).call hb.size)
  have HB_2 : Hid (Below w.heap.size w w2) := Lib.hid (HB_1.out.trans (hb.mono HB_1.out.size))
  have ba_2 : w2.cell? ⟨w1.heap.size, 0, none⟩ = some (.slice Aa dsa.length ca) := by rw [hw]; simp [go_sem]
  have lf_ba : (w1.alloc (.cells #[.slice Aa dsa.length ca] 32)).cell? ⟨w1.heap.size, 0, none⟩ = some (.slice Aa dsa.length ca) := by rw [← hw]; exact ba_2
  have HW2 : Hid ((w1.alloc (.cells #[.slice Aa dsa.length ca] 32)) = w2) := Lib.hid hw.symm
  clear hb hw Sa_1 Sx_1 HB_1
  obtain ⟨ts, hts⟩ : ∃ t, mTab dsa xs = t := ⟨_, rfl⟩
  obtain ⟨ok, hok⟩ : ∃ v, mTabOk dsa xs = v := ⟨_, rfl⟩
  have HIM : Hid (∀ (A B : Option Addr) (n c m e : Nat) (w : World), SD w w.heap.size A n c dsa → SD w w.heap.size B m e xs → Calls Try.prog 12 #[.agg #[.slice A n c], .slice B m e] w (IntsB ts ok w)) := Lib.hid (by rw [← hts, ← hok]; exact fun A B n c m e w h1 h2 => implTab_any dsa xs A B n c m e w h1 h2)
  have HSP : Hid (∀ (A B : Option Addr) (n c m e : Nat) (w : World), SD w w.heap.size A n c dsa → n ≤ 1048576 → SD w w.heap.size B m e xs → Calls Try.prog 9 #[.agg #[.slice A n c], .slice B m e] w (IntsB ts ok w)) := Lib.hid (by rw [← hts, ← hok]; exact fun A B n c m e w h1 h2 h3 => specTab_any dsa xs A B n c m e w h1 h2 h3)
  unfold IntsB at HIM HSP
  have htl : ts.length ≤ 12 := by rw [← hts]; exact mTab_len dsa xs
  have HRG : Hid (∀ z ∈ ts, -9223372036854775808 ≤ z ∧ z ≤ 9223372036854775807) := Lib.hid (by rw [← hts]; exact fun z hz => by have := mTab_rng dsa xs z hz; omega)
  have HFIT : Hid (ok = true → ts.length = (mMembers dsa).length ∧ ∀ k (hk : k < xs.length), mLook dsa ts xs[k].name = xs[k].val ∧ lkOk dsa ts xs[k].name = true) := Lib.hid (by rw [← hts, ← hok]; exact tab_law)
  have HNX := Lib.hid hnx
  clear hts hok hsmx
  go_wp2_with fail
  rw [HW2.out]
  clear lf_ba
  refine (HIM.out _ _ _ _ _ _ _ Sa_2.out Sx_2.out).mono ?_
  rintro e w3 ⟨At, ct, rfl, ho, hb⟩
  have ba_3 := keep1 hb ba_2
  have Sa_3 := Lib.hid ((Sa_2.out.below hb).call hb.size)
  have Sx_3 := Lib.hid ((Sx_2.out.below hb).call hb.size)
  have HB_3 : Hid (Below w.heap.size w w3) := Lib.hid (HB_2.out.trans (hb.mono HB_2.out.size))
  have St_3 := Lib.hid (si_of_own ho HRG.out)
  clear hb ho ba_2 Sa_2 Sx_2 HB_2
  go_wp2_with fail
  refine (HSP.out _ _ _ _ _ _ _ Sa_3.out (by omega) Sx_3.out).mono ?_
  rintro e w4 ⟨Aw, cw, rfl, ho, hb⟩
  have ba_4 := keep1 hb ba_3
  have Sa_4 := Lib.hid ((Sa_3.out.below hb).call hb.size)
  have Sx_4 := Lib.hid ((Sx_3.out.below hb).call hb.size)
  have St_4 := Lib.hid ((St_3.out.below hb).call hb.size)
  have HB_4 : Hid (Below w.heap.size w w4) := Lib.hid (HB_3.out.trans (hb.mono HB_3.out.size))
  have Sw_4 := Lib.hid (si_of_own ho HRG.out)
  clear hb ho ba_3 Sa_3 Sx_3 St_3 HB_3
  go_wp2_with fail
  refine (equalIntsT_any ts _ _ _ _ _ _ _ St_4.out Sw_4.out).mono ?_
  rintro e w5 ⟨rfl, hb⟩
  have ba_5 := keep1 hb ba_4
  have Sa_5 := Lib.hid ((Sa_4.out.below hb).call hb.size)
  have Sx_5 := Lib.hid ((Sx_4.out.below hb).call hb.size)
  have St_5 := Lib.hid ((St_4.out.below hb).call hb.size)
  have Sw_5 := Lib.hid ((Sw_4.out.below hb).call hb.size)
  have HB_5 : Hid (Below w.heap.size w w5) := Lib.hid (HB_4.out.trans (hb.mono HB_4.out.size))
  clear hb  ba_4 Sa_4 Sx_4 St_4 Sw_4 HB_4
  cases ok
  · skip
    go_wp2_with fail
    refine (equalIntsT_any ts _ _ _ _ _ _ _ St_5.out Sw_5.out).mono ?_
    rintro e w6 ⟨rfl, hb⟩
    have ba_6 := keep1 hb ba_5
    have Sa_6 := Lib.hid ((Sa_5.out.below hb).call hb.size)
    have Sx_6 := Lib.hid ((Sx_5.out.below hb).call hb.size)
    have St_6 := Lib.hid ((St_5.out.below hb).call hb.size)
    have Sw_6 := Lib.hid ((Sw_5.out.below hb).call hb.size)
    have HB_6 : Hid (Below w.heap.size w w6) := Lib.hid (HB_5.out.trans (hb.mono HB_5.out.size))
    clear hb  ba_5 Sa_5 Sx_5 St_5 Sw_5 HB_5
    go_wp2
    go_ret
    exact ⟨by first | rfl | kernel_rfl | (go_simp; done), HB_6.out⟩
  have HF := Lib.hid (HFIT.out rfl)
  have HON : Hid (∀ s ∈ mMembers dsa, s.size ≤ maxLen) := Lib.hid (mMembers_ok HOKa.out)
  have HN0 : Hid (mMembers dsa = mMembers dsa) := Lib.hid rfl
  clear HFIT HIM HSP HN0
  clear Sw_5
  go_wp2
  go_loopw [9] (fun i wr => ∃ (k : Nat), k ≤ xs.length ∧ i = .int .i64 k ∧ Hid (Below w.heap.size w wr) ∧ Hid (wr.cell? ⟨w1.heap.size, 0, none⟩ = some (.slice Aa dsa.length ca)) ∧ Hid (SD wr wr.heap.size Aa dsa.length ca dsa) ∧ Hid (SD wr wr.heap.size AX xs.length cX xs) ∧ Hid (SI wr wr.heap.size At ts.length ct ts)) (fun i _ => xs.length - (intOf i).toNat)
  case atStart => exact ⟨0, Nat.zero_le _, rfl, HB_5, Lib.hid ba_5, Sa_5, Sx_5, St_5⟩
  case round =>
    obtain ⟨k, hk, rfl, hbel, hca, hsa, hsx, hst⟩ := hrel
    clear ba_5 HB_5 Sa_5 Sx_5 St_5
    have y1 := hca.out
    clear hca
    by_cases hlt : k < xs.length
    · obtain ⟨b, o, hA, hbb, x1, x2⟩ := hsx.out.at_ hlt
      subst hA
      obtain ⟨hl1, hl2⟩ := HF.out.2 k hlt
      have HL1 := Lib.hid hl1
      have HL2 := Lib.hid hl2
      clear hl1 hl2
      have hsl := hsx.out.max
      have hsc := hsx.out.cap
      unfold maxLen at hsl
      generalize xs[k].name = t at *
      generalize xs[k].val = z at *
      have hi1 : (k : Int) < (xs.length : Int) := by omega
      have hi0 : (0 : Int) ≤ (k : Int) := by omega
      obtain ⟨w40, hwn⟩ : ∃ W : World, W = wr := ⟨_, rfl⟩
      subst hwn
      have HB_40 := hbel
      have ba_40 := y1
      have Sa_40 := hsa
      have Sx_40 := hsx
      have St_40 := hst
      have x1_40 := x1
      have x2_40 := x2
      clear hbel y1 hsa hsx hst x1 x2
      go_wp2_with fail
      go_region_held3 (fun w' => w'.cell? ⟨w1.heap.size, 0, none⟩ = some (.slice Aa dsa.length ca) ∧ w'.cell? ⟨b, o + k * 2, none⟩ = some (.string t))
        (first | go_keep | exact ⟨ba_40, x1_40⟩ | exact ⟨ba_41, x1_41⟩)
        (first
          | (go_at_call 22; refine (implLook_v dsa ts t _ _ _ _ _ _ _ (Sa_40.out.drewN 1) (St_40.out.drewN 1) (by omega) HL1.out HL2.out).mono ?_; rintro e w41 ⟨rfl, hb⟩; replace hb : Below w40.heap.size w40 w41 := (by first | exact hb | exact undrew hb); have ba_41 := keep1 hb ba_40; have x1_41 := keep1 hb x1_40; have x2_41 := keep1 hb x2_40; have Sa_41 := Lib.hid ((Sa_40.out.below hb).call hb.size); have Sx_41 := Lib.hid ((Sx_40.out.below hb).call hb.size); have St_41 := Lib.hid ((St_40.out.below hb).call hb.size); have HB_41 : Hid (Below w.heap.size w w41) := Lib.hid (HB_40.out.trans (hb.mono HB_40.out.size)); clear hb))
      have hx2 := x2_41
      go_wp2
      go_roundw
      case rel => exact ⟨k + 1, by omega, by go_num, HB_41, Lib.hid ba_41, Sa_41, Sx_41, St_41⟩
      case measure => simp [intOf]; omega
    · obtain rfl : k = xs.length := by omega
      obtain ⟨w40, hwn⟩ : ∃ W : World, W = wr := ⟨_, rfl⟩
      subst hwn
      have HB_40 := hbel
      have ba_40 := y1
      have Sa_40 := hsa
      have Sx_40 := hsx
      have St_40 := hst
      clear hbel y1 hsa hsx hst
      have hj9 : ¬ (xs.length : Int) < (xs.length : Int) := by omega
      have hlen := HF.out.1
      have HMD : Hid (∀ (A : Option Addr) (c n : Nat) (w : World), SD w w.heap.size A n c dsa → Calls Try.prog 23 #[.agg #[.slice A n c]] w (StrsP (mMembers dsa) w)) := Lib.hid fun A c n w h => implMembersOf_any dsa A c n w h
      unfold StrsP at HMD
      clear HF
      generalize mMembers dsa = ns at *
      have HLEN : Hid (((ts.length : Int) == (ns.length : Int)) = true) := Lib.hid (by rw [beq_iff_eq]; omega)
      clear hlen
      go_wp2_with fail
      refine (HMD.out _ _ _ _ Sa_40.out).mono ?_
      rintro e w41 ⟨An, cn, rfl, ho, hb⟩
      have ba_41 := keep1 hb ba_40
      have Sa_41 := Lib.hid ((Sa_40.out.below hb).call hb.size)
      have Sx_41 := Lib.hid ((Sx_40.out.below hb).call hb.size)
      have St_41 := Lib.hid ((St_40.out.below hb).call hb.size)
      have HB_41 : Hid (Below w.heap.size w w41) := Lib.hid (HB_40.out.trans (hb.mono HB_40.out.size))
      clear hb ho ba_40 Sa_40 Sx_40 St_40 HB_40
      have hlen2 := HLEN.out
      go_wp2
      go_ret
      exact ⟨by first | rfl | kernel_rfl | (go_simp; done), HB_41.out⟩

theorem lifted (os : Os) (started : os.Started) (H : Type) (enc : TypeId × Value → H) :
    ReturnsInHanded {} Try.checked os 4 .any (Rows.fnTableOfSpec.pre6 enc Try.prog Try.f4 Rows.fnTableOfRow.domain false) (Rows.fnTableOfSpec.post enc Try.prog Try.f4 false true false false) := by
  refine returnsInHanded_of_change (C := Try.checked) own started (by kernel_rfl) Try.func4
    (ChangeSpec.witness6 (enc := enc) (C := Try.checked) false ⟨#[], #[.slice none 0 0], []⟩ 8 (by kernel_rfl) (by kernel_rfl) (by kernel_rfl) (by kernel_rfl)) ?_
  intro W base args ds gs before hval0 hW hcnd _
  have hval : ∀ (j : Nat) t v, Try.f4.params[j]? = some t → args[j]? = some v → Value.okWide Try.prog W .any base t v := hval0
  have hW' := hW
  obtain ⟨p, q, hA0, hV, rfl, hfz, hnd⟩ := hW
  have hA : DataW.TrodAll enc Try.prog W 0 (fun _ => true) true Try.f4.params.toList args.toList ds p := hA0
  rw [Try.params4] at hA hval
  obtain ⟨v0, vs0, d0, ds0, p0, q0, hargs, rfl, rfl, h0, r0⟩ := trodAll_cons hA
  obtain ⟨rfl, rfl, rfl⟩ := trodAll_nil r0
  obtain rfl : args = #[v0] := by cases args; simp_all
  obtain ⟨rfl, rfl⟩ := trodVars_none hV
  have k0 := h0
  have lt0 : ∀ x ∈ p0, x.block < W.heap.size := by obtain ⟨m, hm⟩ := k0; exact DataW.trod_lt m _ _ _ hm
  obtain ⟨A0, n0, c0, l0, rfl, w0⟩ := open_code (hval 0 42 v0 rfl rfl) h0
  clear hA0 hval0
  refine (walk A0 n0 c0 l0 W w0).mono fun e W' ⟨he, bel⟩ => ?_
  subst he
  exact ⟨_, rfl, _, _, _, [], _, [], hW', trodAll_mk1 (shut_bool Try.underlying4 _), (trodAll_cons_mk (Below.trod laidOut (by kernel_rfl) (of_decide_eq_true (by kernel_rfl)) k0 bel lt0) trodAll_mk0), rfl, bel.frame _, fun h => by cases h⟩

theorem over : Rows.fnTableOfRow.holds Try.pinned (OpenSpec.ofChange Rows.fnTableOfSpec) :=
  OpenClaim.holds_of_wide 4 Try.f4 rfl rfl rfl rfl rfl rfl rfl ⟨rfl, rfl, rfl, rfl, rfl⟩ rfl rfl rfl rfl rfl (by kernel_rfl) Try.func4 (by kernel_rfl)
    (of_decide_eq_true (by kernel_rfl)) (by unfold Func.isWrapper; first | (rw [if_pos (by decide +kernel)]; kernel_rfl) | (rw [if_neg (by decide +kernel)]; exact ⟨rfl, rfl⟩))
    (fun os started H enc _ => lifted os started H enc)

theorem proved : Rows.FnTableOfSaid := over
end Go.Proofs.Ytpmanbmhbfnefaa.fnTableOf
