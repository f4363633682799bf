/-
For every enumeration, every list of numbers and every text the law on exact answers of LookUp returns true: the program's LookUp answers as its model does, and leaves its arguments as they were.
Conditions: none.
-/
import Derived.Test.YthclogcbiekfeaaFlagX
import Derived.Deep.DeepCutAuto
import Derived.Test.YthclogcbiekfeaaConvN
import Derived.Test.YthclogcbiekfeaaOpenS
namespace Go.Proofs.Ythclogcbiekfeaa.fnExactLookUp
open Go.ChangeShapes Go.WideShapes Go.ChangeAt Go.RowKit
open Go.ChangeMaps (open_string shut_string)
set_option linter.unusedVariables false
set_option maxRecDepth 100000

set_option maxHeartbeats 16000000 in
theorem walkV (Aa : Option Addr) (na ca : Nat) (dsa : List D) (Ab : Option Addr) (nb cb : Nat) (ssb : List Int) (sc : ByteArray) (r0 : Int) (r1 : Bool) (w : World) (hra : SD w w.heap.size Aa na ca dsa) (hrb : SI w w.heap.size Ab nb cb ssb) (hsc : sc.size ≤ maxLen)
    (SPC : Hid (∀ (Aa : Option Addr) (na ca : Nat) (Ab : Option Addr) (nb cb : Nat) (w : World), SD w w.heap.size Aa na ca dsa → na ≤ 1048576 → SI w w.heap.size Ab nb cb ssb → nb ≤ 1048576 → Calls Try.prog 51 #[.agg #[.slice Aa na ca], .slice Ab nb cb, .string sc] w (fun e w' => e = .returned (.tuple #[.int .i64 r0, .bool r1]) ∧ Below w.heap.size w w')))
    (IMC : Hid (∀ (Aa : Option Addr) (na ca : Nat) (Ab : Option Addr) (nb cb : Nat) (w : World), SD w w.heap.size Aa na ca dsa → na ≤ 1048576 → SI w w.heap.size Ab nb cb ssb → nb ≤ 1048576 → Calls Try.prog 53 #[.agg #[.slice Aa na ca], .slice Ab nb cb, .string sc] w (fun e w' => e = .returned (.tuple #[.int .i64 r0, .bool r1]) ∧ Below w.heap.size w w'))) :
    Calls Try.prog 11 #[.agg #[.slice Aa na ca], .slice Ab nb cb, .string sc] w fun e w' => e = .returned (.bool true) ∧ Below w.heap.size w w' := by
  obtain ⟨w0, hw⟩ : ∃ W : World, W = (w.alloc (.cells #[.slice Aa na ca] 24)) := ⟨_, rfl⟩
  have hb : Below w.heap.size w w0 := by rw [hw]; exact ((Below.refl _ _).alloc (by first | exact Nat.le_refl _ | (simp; done) | (simp; omega)) _)
  have hs0 : w.heap.size + 1 ≤ w0.heap.size := by rw [hw]; simp
  have pa_0 : w0.cell? ⟨w.heap.size, 0, none⟩ = some (.slice Aa na ca) := by rw [hw]; simp [go_sem]
  have HRa := Lib.hid hra
  clear hra
  have HRb := Lib.hid hrb
  clear hrb
  have HB_0 := Lib.hid hb
  have HW0 : Hid ((w.alloc (.cells #[.slice Aa na ca] 24)) = w0) := Lib.hid hw.symm
  clear hb hw
  by_cases hbigb : 1048576 < (nb : Int)
  · go_enter Try.func11, Try.ntmps11
    go_wp2
    go_ret
    rw [HW0.out]
    exact ⟨rfl, HB_0.out⟩
  have HNb : Hid (nb ≤ 1048576) := Lib.hid (by omega)
  unfold maxLen at hsc
  by_cases hbigc : 1048576 < (sc.size : Int)
  · go_enter Try.func11, Try.ntmps11
    go_wp2
    go_ret
    rw [HW0.out]
    exact ⟨rfl, HB_0.out⟩
  go_enter Try.func11, Try.ntmps11
  go_wp2_with fail
  rw [HW0.out]
  refine (szEnum_any dsa Aa ca na 1048576 _ ((HRa.out.below HB_0.out).call HB_0.out.size) (by omega) (by omega)).mono ?_
  rintro e w1 ⟨ra, rfl, raa, rba, rca, hb⟩
  have hs1 : w0.heap.size ≤ w1.heap.size := hb.size
  have pa_1 := keep1 hb pa_0
  have HB_1 : Hid (Below w.heap.size w w1) := Lib.hid (HB_0.out.trans (hb.mono HB_0.out.size))
  have HQa := Lib.hid rca
  clear hb rca pa_0 HB_0
  by_cases hnega : ra < 0
  · go_wp2
    go_ret
    exact ⟨rfl, HB_1.out⟩
  have HNa : Hid (na ≤ 1048576) := Lib.hid (by have := HQa.out (by omega); omega)
  clear HQa
  go_wp2_with fail
  refine (toEnum_any dsa Aa ca na _ ((HRa.out.below HB_1.out).call HB_1.out.size) HNa.out).mono ?_
  rintro e w2 ⟨gTa, rfl, ho, hb⟩
  have hs2 : w1.heap.size ≤ w2.heap.size := hb.size
  have pa_2 := keep1 hb pa_1
  have HB_2 : Hid (Below w.heap.size w w2) := Lib.hid (HB_1.out.trans (hb.mono HB_1.out.size))
  have Ta_2 : Hid (w2.ownsRow w1.heap.size 76 2 (.slice (some ⟨gTa, 0, none⟩) na na) na (flat dsa)) := Lib.hid ho
  have TaL : Hid (∀ q, (Value.slice (some ⟨gTa, 0, none⟩) na na).ownBlock = some q → w1.heap.size ≤ q ∧ q < w2.heap.size) := Lib.hid (fun q hq => ho.lt q hq)
  clear ho hb pa_1 HB_1
  go_wp2_with fail
  refine (toIntS_any ssb Ab cb nb _ ((HRb.out.below HB_2.out).call HB_2.out.size) HNb.out).mono ?_
  rintro e w3 ⟨rfl, ho, hb⟩
  have hs3 : w2.heap.size ≤ w3.heap.size := hb.size
  have pa_3 := keep1 hb pa_2
  have Ta_3 := Lib.hid (own_below Ta_2.out hb)
  have HB_3 : Hid (Below w.heap.size w w3) := Lib.hid (HB_2.out.trans (hb.mono HB_2.out.size))
  have Tb_3 : Hid (w3.ownsRow w2.heap.size 3 1 (.slice (some ⟨w2.heap.size, 0, none⟩) nb nb) nb (flatI ssb)) := Lib.hid ho
  have TbL : Hid (∀ q, (Value.slice (some ⟨w2.heap.size, 0, none⟩) nb nb).ownBlock = some q → w2.heap.size ≤ q ∧ q < w3.heap.size) := Lib.hid (fun q hq => ho.lt q hq)
  clear ho hb pa_2 Ta_2 HB_2
  go_wp2_with fail
  refine (SPC.out _ _ _ _ _ _ _ (sd_of_own Ta_3.out HRa.out.ok) HNa.out (si_of_own Tb_3.out HRb.out.ok) HNb.out).mono ?_
  rintro e w4 ⟨rfl, hb⟩
  have hs4 : w3.heap.size ≤ w4.heap.size := hb.size
  have pa_4 := keep1 hb pa_3
  have Ta_4 := Lib.hid (own_below Ta_3.out hb)
  have Tb_4 := Lib.hid (own_below Tb_3.out hb)
  have HB_4 : Hid (Below w.heap.size w w4) := Lib.hid (HB_3.out.trans (hb.mono HB_3.out.size))
  clear hb  pa_3 Ta_3 Tb_3 HB_3
  clear Ta_4
  clear Tb_4
  go_wp2_with fail
  refine (toEnum_any dsa Aa ca na _ ((HRa.out.below HB_4.out).call HB_4.out.size) HNa.out).mono ?_
  rintro e w5 ⟨gXa, rfl, ho, hb⟩
  have hs5 : w4.heap.size ≤ w5.heap.size := hb.size
  have pa_5 := keep1 hb pa_4
  have HB_5 : Hid (Below w.heap.size w w5) := Lib.hid (HB_4.out.trans (hb.mono HB_4.out.size))
  have Xa_5 : Hid (w5.ownsRow w4.heap.size 76 2 (.slice (some ⟨gXa, 0, none⟩) na na) na (flat dsa)) := Lib.hid ho
  have XaL : Hid (∀ q, (Value.slice (some ⟨gXa, 0, none⟩) na na).ownBlock = some q → w4.heap.size ≤ q ∧ q < w5.heap.size) := Lib.hid (fun q hq => ho.lt q hq)
  clear ho hb pa_4 HB_4
  obtain ⟨w6, hw⟩ : ∃ W : World, W = (w5.alloc (.cells #[.slice (some ⟨gXa, 0, none⟩) na na] 30)) := ⟨_, rfl⟩
  have hb : Below w5.heap.size w5 w6 := by rw [hw]; exact (Below.refl _ _).alloc (Nat.le_refl _) _
  have hs6 : w5.heap.size + 1 ≤ w6.heap.size := by rw [hw]; simp
  have pa_6 := keep1 hb pa_5
  have Xa_6 := Lib.hid (own_below Xa_5.out hb)
  have HB_6 : Hid (Below w.heap.size w w6) := Lib.hid (HB_5.out.trans (hb.mono HB_5.out.size))
  have xa_6 : w6.cell? ⟨w5.heap.size, 0, none⟩ = some (.slice (some ⟨gXa, 0, none⟩) na na) := by rw [hw]; simp [go_sem]
  have lf_pa : (w5.alloc (.cells #[.slice (some ⟨gXa, 0, none⟩) na na] 30)).cell? ⟨w.heap.size, 0, none⟩ = some (.slice Aa na ca) := by rw [← hw]; exact pa_6
  have lf_xa : (w5.alloc (.cells #[.slice (some ⟨gXa, 0, none⟩) na na] 30)).cell? ⟨w5.heap.size, 0, none⟩ = some (.slice (some ⟨gXa, 0, none⟩) na na) := by rw [← hw]; exact xa_6
  have HW6 : Hid ((w5.alloc (.cells #[.slice (some ⟨gXa, 0, none⟩) na na] 30)) = w6) := Lib.hid hw.symm
  clear hb hw pa_5 Xa_5 HB_5
  go_wp2_with fail
  rw [HW6.out]
  clear lf_pa lf_xa
  refine (toIntS_any ssb Ab cb nb _ ((HRb.out.below HB_6.out).call HB_6.out.size) HNb.out).mono ?_
  rintro e w7 ⟨rfl, ho, hb⟩
  have hs7 : w6.heap.size ≤ w7.heap.size := hb.size
  have pa_7 := keep1 hb pa_6
  have xa_7 := keep1 hb xa_6
  have Xa_7 := Lib.hid (own_below Xa_6.out hb)
  have HB_7 : Hid (Below w.heap.size w w7) := Lib.hid (HB_6.out.trans (hb.mono HB_6.out.size))
  have Xb_7 : Hid (w7.ownsRow w6.heap.size 3 1 (.slice (some ⟨w6.heap.size, 0, none⟩) nb nb) nb (flatI ssb)) := Lib.hid ho
  have XbL : Hid (∀ q, (Value.slice (some ⟨w6.heap.size, 0, none⟩) nb nb).ownBlock = some q → w6.heap.size ≤ q ∧ q < w7.heap.size) := Lib.hid (fun q hq => ho.lt q hq)
  clear ho hb pa_6 xa_6 Xa_6 HB_6
  go_wp2_with fail
  refine (IMC.out _ _ _ _ _ _ _ (sd_of_own Xa_7.out HRa.out.ok) HNa.out (si_of_own Xb_7.out HRb.out.ok) HNb.out).mono ?_
  rintro e w8 ⟨rfl, hb⟩
  have hs8 : w7.heap.size ≤ w8.heap.size := hb.size
  have pa_8 := keep1 hb pa_7
  have xa_8 := keep1 hb xa_7
  have Xa_8 := Lib.hid (own_below Xa_7.out hb)
  have Xb_8 := Lib.hid (own_below Xb_7.out hb)
  have HB_8 : Hid (Below w.heap.size w w8) := Lib.hid (HB_7.out.trans (hb.mono HB_7.out.size))
  clear hb  pa_7 xa_7 Xa_7 Xb_7 HB_7
  go_wp2_with fail
  have hsd : Hid (SD w8 w8.heap.size Aa na ca dsa) := Lib.hid ((HRa.out.below HB_8.out).call HB_8.out.size)
  go_region_held3 (fun w' => w'.cell? ⟨w.heap.size, 0, none⟩ = some (.slice Aa na ca) ∧ w'.cell? ⟨w5.heap.size, 0, none⟩ = some (.slice (some ⟨gXa, 0, none⟩) na na))
    (first
      | go_keep
      | exact ⟨y0, y1⟩ | exact ⟨z0, z1⟩)
    (first
      | (go_at_call 15; refine (toEnum_any dsa Aa ca na _ (by first | exact hsd.out | exact hsd.out.drew | exact hsd.out.drewN _) HNa.out).mono ?_; rintro e w9 ⟨gt, rfl, ho, hb⟩; replace hb : Below w8.heap.size w8 w9 := (by first | exact hb | exact undrew hb); have y0 := keep1 hb pa_8; have y1 := keep1 hb xa_8)
      | (go_at_call 17; refine (eqEnum_any dsa _ _ _ _ _ _ _ (by first | exact sd_of_own (own_below Xa_8.out hb) HRa.out.ok | exact (sd_of_own (own_below Xa_8.out hb) HRa.out.ok).drew) (by first | exact sd_of_own ho HRa.out.ok | exact (sd_of_own ho HRa.out.ok).drew)).mono ?_; rintro e w10 ⟨rfl, hb2⟩; replace hb2 : Below w9.heap.size w9 w10 := (by first | exact hb2 | exact undrew hb2); have z0 := keep1 hb2 y0; have z1 := keep1 hb2 y1))
  have hb3 : Below w8.heap.size w8 w10 := hb.trans (hb2.mono hb.size)
  have hs10 : w8.heap.size ≤ w10.heap.size := hb3.size
  have pa_10 := keep1 hb3 pa_8
  have xa_10 := keep1 hb3 xa_8
  have Xa_10 := Lib.hid (own_below Xa_8.out hb3)
  have Xb_10 := Lib.hid (own_below Xb_8.out hb3)
  have HB_10 : Hid (Below w.heap.size w w10) := Lib.hid (HB_8.out.trans (hb3.mono HB_8.out.size))
  clear hb hb2 hb3 ho y0 z0 y1 z1 hsd pa_8 xa_8 Xa_8 Xb_8 HB_8
  go_wp2_with fail
  refine (toIntS_any ssb Ab cb nb _ ((HRb.out.below HB_10.out).call HB_10.out.size) HNb.out).mono ?_
  rintro e w11 ⟨rfl, ho, hb⟩
  have hs11 : w10.heap.size ≤ w11.heap.size := hb.size
  have pa_11 := keep1 hb pa_10
  have xa_11 := keep1 hb xa_10
  have Xa_11 := Lib.hid (own_below Xa_10.out hb)
  have Xb_11 := Lib.hid (own_below Xb_10.out hb)
  have HB_11 : Hid (Below w.heap.size w w11) := Lib.hid (HB_10.out.trans (hb.mono HB_10.out.size))
  have Vb_11 : Hid (w11.ownsRow w10.heap.size 3 1 (.slice (some ⟨w10.heap.size, 0, none⟩) nb nb) nb (flatI ssb)) := Lib.hid ho
  have VbL : Hid (∀ q, (Value.slice (some ⟨w10.heap.size, 0, none⟩) nb nb).ownBlock = some q → w10.heap.size ≤ q ∧ q < w11.heap.size) := Lib.hid (fun q hq => ho.lt q hq)
  clear ho hb pa_10 xa_10 Xa_10 Xb_10 HB_10
  go_wp2_with fail
  refine (eqIntS_any ssb _ _ _ _ _ _ _ (si_of_own Xb_11.out HRb.out.ok) (si_of_own Vb_11.out HRb.out.ok)).mono ?_
  rintro e w12 ⟨rfl, hb⟩
  have hs12 : w11.heap.size ≤ w12.heap.size := hb.size
  have pa_12 := keep1 hb pa_11
  have xa_12 := keep1 hb xa_11
  have Xa_12 := Lib.hid (own_below Xa_11.out hb)
  have Xb_12 := Lib.hid (own_below Xb_11.out hb)
  have Vb_12 := Lib.hid (own_below Vb_11.out hb)
  have HB_12 : Hid (Below w.heap.size w w12) := Lib.hid (HB_11.out.trans (hb.mono HB_11.out.size))
  clear hb  pa_11 xa_11 Xa_11 Xb_11 Vb_11 HB_11
  clear Vb_12
  go_wp2
  go_ret
  exact ⟨rfl, HB_12.out⟩

theorem walk (Aa : Option Addr) (na ca : Nat) (dsa : List D) (Ab : Option Addr) (nb cb : Nat) (ssb : List Int) (sc : ByteArray) (w : World) (hra : SD w w.heap.size Aa na ca dsa) (hrb : SI w w.heap.size Ab nb cb ssb) (hsc : sc.size ≤ maxLen) :
    Calls Try.prog 11 #[.agg #[.slice Aa na ca], .slice Ab nb cb, .string sc] w fun e w' => e = .returned (.bool true) ∧ Below w.heap.size w w' := by
  exact walkV Aa na ca dsa Ab nb cb ssb sc (mLook dsa ssb sc) (lkOk dsa ssb sc) w hra hrb hsc (Lib.hid fun A n c A2 n2 c2 w h hn h2 hn2 => specLook_v dsa ssb sc A A2 n c n2 c2 w h h2 hn rfl rfl) (Lib.hid fun A n c A2 n2 c2 w h hn h2 hn2 => implLook_v dsa ssb sc A A2 n c n2 c2 w h h2 hn rfl rfl)

set_option maxRecDepth 100000 in
theorem lifted (os : Os) (started : os.Started) (H : Type) (enc : TypeId × Value → H) :
    ReturnsInHanded {} Try.checked os 11 .any (Rows.fnExactLookUpSpec.pre6 enc Try.prog Try.f11 Rows.fnExactLookUpRow.domain false) (Rows.fnExactLookUpSpec.post enc Try.prog Try.f11 false true false false) := by
  refine returnsInHanded_of_change (C := Try.checked) own started (by kernel_rfl) Try.func11
    (ChangeSpec.witness6 (enc := enc) (C := Try.checked) false ⟨#[], #[.agg #[.slice none 0 0], .slice none 0 0, .string ByteArray.empty], []⟩ 8 (by kernel_rfl) (by kernel_rfl) (by kernel_rfl) (by kernel_rfl)) ?_
  intro W base args ds gs before hval0 hW hcnd _
  have hval : ∀ (j : Nat) t v, Try.f11.params[j]? = some t → args[j]? = some v → Value.okWide Try.prog W .any base t v := hval0
  have hW' := hW
  obtain ⟨p, q, hA0, hV, rfl, hfz, hnd⟩ := hW
  have hA : DataW.TrodAll enc Try.prog W 0 (fun _ => true) true Try.f11.params.toList args.toList ds p := hA0
  rw [Try.params11] at hA hval
  obtain ⟨v0, vs0, d0, ds0, p0, q0, hargs, rfl, rfl, h0, r0⟩ := trodAll_cons hA
  obtain ⟨v1, vs1, d1, ds1, p1, q1, rfl, rfl, rfl, h1, r1⟩ := trodAll_cons r0
  obtain ⟨v2, vs2, d2, ds2, p2, q2, rfl, rfl, rfl, h2, r2⟩ := trodAll_cons r1
  obtain ⟨rfl, rfl, rfl⟩ := trodAll_nil r2
  obtain rfl : args = #[v0, v1, v2] := by cases args; simp_all
  obtain ⟨rfl, rfl⟩ := trodVars_none hV
  have k0 := h0
  have lt0 : ∀ x ∈ p0, x.block < W.heap.size := by obtain ⟨m, hm⟩ := k0; exact DataW.trod_lt m _ _ _ hm
  obtain ⟨A0, n0, c0, l0, rfl, w0⟩ := open_enum (hval 0 24 v0 rfl rfl) h0
  have k1 := h1
  have lt1 : ∀ x ∈ p1, x.block < W.heap.size := by obtain ⟨m, hm⟩ := k1; exact DataW.trod_lt m _ _ _ hm
  obtain ⟨A1, n1, c1, l1, rfl, w1⟩ := open_ints (hval 1 58 v1 rfl rfl) h1
  obtain ⟨a2, rfl, rfl, rfl, w2⟩ := open_string Try.underlying9 (hval 2 9 v2 rfl rfl) h2
  clear hA0 hval0
  refine (walk A0 n0 c0 l0 A1 n1 c1 l1 a2 W w0 w1 w2).mono fun e W' ⟨he, bel⟩ => ?_
  subst he
  exact ⟨_, rfl, _, _, _, [], _, [], hW', trodAll_mk1 (shut_bool Try.underlying4 _), (trodAll_cons_mk (Below.trod laidOut (by kernel_rfl) (of_decide_eq_true (by kernel_rfl)) k0 bel lt0) (trodAll_cons_mk (Below.trod laidOut (by kernel_rfl) (of_decide_eq_true (by kernel_rfl)) k1 bel lt1) (trodAll_cons_mk (shut_string Try.underlying9 w2) trodAll_mk0))), rfl, bel.frame _, fun h => by cases h⟩

theorem over : Rows.fnExactLookUpRow.holds Try.pinned (OpenSpec.ofChange Rows.fnExactLookUpSpec) :=
  OpenClaim.holds_of_wide 11 Try.f11 rfl rfl rfl rfl rfl rfl rfl ⟨rfl, rfl, rfl, rfl, rfl⟩ rfl rfl rfl rfl rfl (by kernel_rfl) Try.func11 (by kernel_rfl)
    (of_decide_eq_true (by kernel_rfl)) (by unfold Func.isWrapper; first | (rw [if_pos (by decide +kernel)]; kernel_rfl) | (rw [if_neg (by decide +kernel)]; exact ⟨rfl, rfl⟩))
    (fun os started H enc _ => lifted os started H enc)

theorem proved : Rows.FnExactLookUpSaid := over
end Go.Proofs.Ythclogcbiekfeaa.fnExactLookUp
