/-
For every code the law of shown values of enumerations returns true: the program's ShowEnum answers as its model, the name of the value or, where it has none, no name.
Conditions: none.
-/
import Derived.Test.YtboehlffbibgmaaDoorGenSe
import Derived.Test.YtboehlffbibgmaaDoorOpenC
import Derived.Test.YtboehlffbibgmaaDoorLShE
import Derived.Test.YtboehlffbibgmaaDoorLEq
import Derived.Test.YtboehlffbibgmaaDoorLHelp
import Derived.Test.YtboehlffbibgmaaDoorShwS
import Derived.Test.YtboehlffbibgmaaDoorShwI
import Derived.Test.YtboehlffbibgmaaDoorShwD
namespace Go.Proofs.YtboehlffbibgmaaDoor.fnShowEnum
open Go.ChangeShapes Go.WideShapes Go.ChangeAt Go.RowKit
open Go.ChangeMaps (open_string shut_string)
set_option linter.unusedVariables false
set_option linter.unusedSimpArgs false
set_option maxRecDepth 100000

set_option maxHeartbeats 16000000 in
theorem walk (A : Option Addr) (n c : Nat) (zs : List Int) (w : World) (h : SB w w.heap.size A n c zs) (hT : TabAt w) :
    Calls Tryd.prog 7 #[.slice A n c] w fun e w' => e = .returned (.bool true) ∧ Below w.heap.size w w' := by
  have hm := h.max
  have hcap := h.cap
  unfold maxLen at hm
  have HS0 := Lib.hid h
  have HTb : Hid (Tb w w.heap.size) := Lib.hid ⟨hT, hT.size⟩
  clear h hT
  by_cases hbig : 1048576 < (n : Int)
  · go_enter Tryd.func7, Tryd.ntmps7
    go_wp2
    go_ret
    exact ⟨rfl, Below.refl _ _⟩
  go_enter Tryd.func7, Tryd.ntmps7
  go_wp2_with fail
  refine (drawShowEnum_any A n c zs _ HS0.out).mono ?_
  rintro e w1 ⟨Aa, ca, dsa, x, rfl, hna, hsma, hx, hsa, hb⟩
  have HB_1 := Lib.hid hb
  have Tb_1 := Lib.hid ((HTb.out.below hb).call hb.size)
  clear HTb
  have Sa_1 := Lib.hid hsa
  have HSMa := Lib.hid hsma
  have HOKa : Hid (∀ d ∈ dsa, d.ok) := Lib.hid (fun d hd => small_ok (hsma d hd))
  clear hb hsa hsma
  obtain ⟨w2, hw⟩ : ∃ W : World, W = (w1.alloc (.cells #[.slice Aa dsa.length ca] 41)) := ⟨_, rfl⟩
  have hb : Below w1.heap.size w1 w2 := by rw [hw]; exact ((Below.refl _ _).alloc (by first | exact Nat.le_refl _ | (simp; done) | (simp; omega)) _)
  have Tb_2 := Lib.hid ((Tb_1.out.below hb).call hb.size)
  have Sa_2 := Lib.hid ((Sa_1.out.below hb).call hb.size)
  have HB_2 : Hid (Below w.heap.size w w2) := Lib.hid (HB_1.out.trans (hb.mono HB_1.out.size))
  have ba_2 : w2.cell? ⟨w1.heap.size, 0, none⟩ = some (.slice Aa dsa.length ca) := by rw [hw]; simp [go_sem]
  have lf_ba : (w1.alloc (.cells #[.slice Aa dsa.length ca] 41)).cell? ⟨w1.heap.size, 0, none⟩ = some (.slice Aa dsa.length ca) := by rw [← hw]; exact ba_2
  have HW2 : Hid ((w1.alloc (.cells #[.slice Aa dsa.length ca] 41)) = w2) := Lib.hid hw.symm
  clear hb hw Tb_1 Sa_1 HB_1
  obtain ⟨s, hs⟩ : ∃ s, mShowE dsa x = s := ⟨_, rfl⟩
  have HS1 := Lib.hid hs
  clear hs
  go_wp2_with fail
  rw [HW2.out]
  clear lf_ba
  refine (implShowE_v dsa x _ _ _ _ Sa_2.out Tb_2.out.at_ Tb_2.out.lt HS1.out).mono ?_
  rintro e w3 ⟨rfl, hb⟩
  have ba_3 := keep1 hb ba_2
  have Tb_3 := Lib.hid ((Tb_2.out.below hb).call hb.size)
  have Sa_3 := Lib.hid ((Sa_2.out.below hb).call hb.size)
  have HB_3 : Hid (Below w.heap.size w w3) := Lib.hid (HB_2.out.trans (hb.mono HB_2.out.size))
  clear hb  ba_2 Tb_2 Sa_2 HB_2
  clear Tb_3
  go_wp2_with fail
  refine (specShowE_v dsa x _ _ _ _ Sa_3.out HS1.out).mono ?_
  rintro e w4 ⟨rfl, hb⟩
  have ba_4 := keep1 hb ba_3
  have Sa_4 := Lib.hid ((Sa_3.out.below hb).call hb.size)
  have HB_4 : Hid (Below w.heap.size w w4) := Lib.hid (HB_3.out.trans (hb.mono HB_3.out.size))
  clear hb  ba_3 Sa_3 HB_3
  by_cases hyes : vEnum dsa = true ∧ -1000 ≤ x ∧ x ≤ 1000
  · obtain ⟨hv, h1, h2⟩ := hyes
    have HV := Lib.hid hv
    rcases fidx_cases (isVal x) dsa with ⟨hx0, hno⟩ | ⟨j, hj, hxj, hp, hno⟩
    · skip
      have hm := showE_num hv h1 h2 (by omega)
      rw [HS1.out] at hm
      have hne : s.toList.isEmpty = false := ne_empty (by rw [hm]; exact itoa_ne x)
      have HNO : Hid (fidx (isNm s) dsa < 0) := Lib.hid (by rw [hm]; exact itoa_none hv x)
      have HX0 := Lib.hid hx0
      clear hm hx0 hno hv
      go_wp2_with fail
      refine (implNameOf_no dsa x _ _ _ _ Sa_4.out ⟨by omega, by omega⟩ HV.out HX0.out (.inr (by omega))).mono ?_
      rintro e w5 ⟨rfl, hb⟩
      have ba_5 := keep1 hb ba_4
      have Sa_5 := Lib.hid ((Sa_4.out.below hb).call hb.size)
      have HB_5 : Hid (Below w.heap.size w w5) := Lib.hid (HB_4.out.trans (hb.mono HB_4.out.size))
      clear hb  ba_4 Sa_4 HB_4
      go_wp2_with fail
      refine (implValueOf_no dsa s _ _ _ _ Sa_5.out HV.out rfl (.inr HNO.out)).mono ?_
      rintro e w6 ⟨rfl, hb⟩
      have ba_6 := keep1 hb ba_5
      have Sa_6 := Lib.hid ((Sa_5.out.below hb).call hb.size)
      have HB_6 : Hid (Below w.heap.size w w6) := Lib.hid (HB_5.out.trans (hb.mono HB_5.out.size))
      clear hb  ba_5 Sa_5 HB_5
      go_wp2
      go_ret
      exact ⟨by first | rfl | kernel_rfl | (go_simp; done), HB_6.out⟩
    · skip
      have hm := showE_name hv h1 h2 hj hxj
      rw [HS1.out] at hm
      have hne : s.toList.isEmpty = false := ne_empty (by rw [hm]; exact name_ne (enum_name hv hj))
      have HNM : Hid (dsa[j].name = s) := Lib.hid hm.symm
      have HXJ := Lib.hid hxj
      have HVJ : Hid (∃ q, ∃ hq : q < dsa.length, fidx (isNm s) dsa = (q : Int) ∧ dsa[q].val = dsa[j].val) := Lib.hid ⟨j, hj, by rw [hm]; exact name_idx hv j hj, rfl⟩
      have HNY : Hid (∀ (A : Option Addr) (c n : Nat) (w : World), SD w w.heap.size A n c dsa → Calls Tryd.prog 23 #[.agg #[.slice A n c], .int .i64 x] w fun e w' => e = .returned (.tuple #[.string s, .bool true]) ∧ Below w.heap.size w w') := Lib.hid (by rw [hm]; exact fun A c n w h => implNameOf_yes dsa x A c n w h hv j hj hxj)
      generalize dsa[j].val = y at HVJ
      clear hm hxj hno hp hv HNM
      go_wp2_with fail
      refine (HNY.out _ _ _ _ Sa_4.out).mono ?_
      rintro e w5 ⟨rfl, hb⟩
      have ba_5 := keep1 hb ba_4
      have Sa_5 := Lib.hid ((Sa_4.out.below hb).call hb.size)
      have HB_5 : Hid (Below w.heap.size w w5) := Lib.hid (HB_4.out.trans (hb.mono HB_4.out.size))
      clear hb  ba_4 Sa_4 HB_4
      go_wp2_with fail
      refine (implValue_at dsa s _ _ _ _ Sa_5.out HV.out HVJ.out).mono ?_
      rintro e w6 ⟨rfl, hb⟩
      have ba_6 := keep1 hb ba_5
      have Sa_6 := Lib.hid ((Sa_5.out.below hb).call hb.size)
      have HB_6 : Hid (Below w.heap.size w w6) := Lib.hid (HB_5.out.trans (hb.mono HB_5.out.size))
      clear hb  ba_5 Sa_5 HB_5
      go_wp2
      go_ret
      exact ⟨by first | rfl | kernel_rfl | (go_simp; done), HB_6.out⟩
  · skip
    have hm : mShowE dsa x = ⟨#[]⟩ := showE_no (by
      cases hv : vEnum dsa
      · exact .inl rfl
      · right
        by_cases h1 : x < -1000
        · exact .inl h1
        · right
          by_cases h2 : 1000 < x
          · exact h2
          · exact absurd ⟨hv, by omega, by omega⟩ hyes)
    obtain rfl : s = ⟨#[]⟩ := HS1.out.symm.trans hm
    clear hm hyes
    go_wp2_with fail
    refine (specShowE_v dsa x _ _ _ _ Sa_4.out HS1.out).mono ?_
    rintro e w5 ⟨rfl, hb⟩
    have ba_5 := keep1 hb ba_4
    have Sa_5 := Lib.hid ((Sa_4.out.below hb).call hb.size)
    have HB_5 : Hid (Below w.heap.size w w5) := Lib.hid (HB_4.out.trans (hb.mono HB_4.out.size))
    clear hb  ba_4 Sa_4 HB_4
    go_wp2
    go_ret
    exact ⟨by first | rfl | kernel_rfl | (go_simp; done), HB_5.out⟩

theorem lifted (os : Os) (started : os.Started) (H : Type) (enc : TypeId × Value → H) :
    ReturnsInHanded {} Tryd.checked os 7 .any (fun w args => (Rows.fnShowEnumSpec.pre enc Tryd.prog Tryd.f7 [] false w args ∧ laidMetH Tryd.prog laidL w) ∧ sizedMet enc Tryd.prog Tryd.f7 (OpenSpec.ofChange Rows.fnShowEnumSpec) false w args) (Rows.fnShowEnumSpec.post enc Tryd.prog Tryd.f7 false true false false) := by
  refine returnsInHanded_of_change_and (C := Tryd.checked) (X := fun w _ => laidMetH Tryd.prog laidL w) (fun _ _ _ hh h => h.of_heap hh) own started (by kernel_rfl) Tryd.func7
    (ChangeSpec.witness_shaped (enc := enc) (C := Tryd.checked) (os := os) (X := fun w _ => laidMetH Tryd.prog laidL w) false (World.doorLaid Tryd.prog 400 os) #[.slice none 0 0] 8 rfl (World.shaped_of_RefB (by kernel_rfl) (by kernel_rfl)) (by kernel_rfl) (by kernel_rfl) (by kernel_rfl) (door_met os _)) ?_
  intro W base args ds gs before hval0 hW hcnd _ hL _
  have hval : ∀ (j : Nat) t v, Tryd.f7.params[j]? = some t → args[j]? = some v → Value.okWide Tryd.prog W .any base t v := hval0
  have hW' := hW
  obtain ⟨p, q, hA0, hV, rfl, hfz, hnd⟩ := hW
  have hA : DataW.TrodAll enc Tryd.prog W 0 (fun _ => true) true Tryd.f7.params.toList args.toList ds p := hA0
  rw [Tryd.params7] at hA hval
  obtain ⟨v0, vs0, d0, ds0, p0, q0, hargs, rfl, rfl, h0, r0⟩ := trodAll_cons hA
  obtain ⟨rfl, rfl, rfl⟩ := trodAll_nil r0
  obtain rfl : args = #[v0] := by cases args; simp_all
  obtain ⟨rfl, rfl⟩ := trodVars_none hV
  have k0 := h0
  have lt0 : ∀ x ∈ p0, x.block < W.heap.size := by obtain ⟨m, hm⟩ := k0; exact DataW.trod_lt m _ _ _ hm
  obtain ⟨A0, n0, c0, l0, rfl, w0⟩ := open_code (hval 0 45 v0 rfl rfl) h0
  clear hA0 hval0
  refine (walk A0 n0 c0 l0 W w0 (tab_of_laid hL)).mono fun e W' ⟨he, bel⟩ => ?_
  subst he
  exact ⟨_, rfl, _, _, _, [], _, [], hW', trodAll_mk1 (shut_bool Tryd.underlying4 _), (trodAll_cons_mk (Below.trod laidOut (by kernel_rfl) (of_decide_eq_true (by kernel_rfl)) k0 bel lt0) trodAll_mk0), rfl, bel.frame _, fun h => by cases h⟩

theorem over : Rows.fnShowEnumRow.holds Tryd.pinned (OpenSpec.ofChange Rows.fnShowEnumSpec) :=
  OpenClaim.holds_of_wide 7 Tryd.f7 rfl rfl rfl rfl rfl rfl rfl ⟨rfl, rfl, rfl, rfl, rfl⟩ rfl rfl rfl rfl rfl (by kernel_rfl) Tryd.func7 (by kernel_rfl)
    (of_decide_eq_true (by kernel_rfl)) (by unfold Func.isWrapper; first | (rw [if_pos (by decide +kernel)]; kernel_rfl) | (rw [if_neg (by decide +kernel)]; exact ⟨rfl, rfl⟩))
    (fun os started H enc _ => lifted os started H enc)

theorem proved : Rows.FnShowEnumCardSaid :=
  Claim7.holds_tied_plain_at .later [] laidK true _ true
    over (fun _ h => by cases h) (by kernel_rfl) (fun _ h => by cases h) fnShowEnum_row_tie rfl ⟨rfl, rfl⟩ (by kernel_rfl) rfl
    (fun f fn hf hfn => by
      obtain rfl : f = 7 := (Option.some.inj ((show Tryd.prog.funcNamed "loop.example/namedflags/laws.FnShowEnum" = some 7 by kernel_rfl).symm.trans hf)).symm
      obtain rfl : fn = Tryd.f7 := (Option.some.inj (Tryd.func7.symm.trans hfn)).symm
      exact ⟨by kernel_rfl, fun j t ht => by
        have hm := Array.mem_of_getElem? ht
        have hall : (List.all (Array.toList Tryd.f7.params) fun u => !Tryd.prog.wantsStandIn u) = true := by kernel_rfl
        exact (show Tryd.prog.wantsStandIn t = false by simpa using List.all_eq_true.1 hall t (by simpa using hm))⟩)
    (by kernel_rfl)
end Go.Proofs.YtboehlffbibgmaaDoor.fnShowEnum
