/-
For every enumeration and every list of texts the law on exact answers of SetOf returns true: the program's SetOf answers as its model does, and leaves its arguments as they were.
Conditions: none.
-/
import Derived.Test.YthclogcbiekfeaaFlagX
import Derived.Deep.DeepCutAuto
import Derived.Test.YthclogcbiekfeaaConvU
import Derived.Test.YthclogcbiekfeaaConvJ
import Derived.Test.YthclogcbiekfeaaOpenS
namespace Go.Proofs.Ythclogcbiekfeaa.fnExactSetOf
open Go.ChangeShapes Go.WideShapes Go.ChangeAt Go.RowKit
open Go.ChangeMaps (open_string shut_string)
set_option linter.unusedVariables false
set_option maxRecDepth 100000

set_option maxHeartbeats 16000000 in
theorem walkV (Aa : Option Addr) (na ca : Nat) (dsa : List D) (Ab : Option Addr) (nb cb : Nat) (ssb : List ByteArray) (r0 : Int) (r1 : Bool) (w : World) (hra : SD w w.heap.size Aa na ca dsa) (hrb : SS w w.heap.size Ab nb cb ssb)
    (SPC : Hid (∀ (Aa : Option Addr) (na ca : Nat) (Ab : Option Addr) (nb cb : Nat) (w : World), SD w w.heap.size Aa na ca dsa → na ≤ 1048576 → SS w w.heap.size Ab nb cb ssb → nb ≤ 1048576 → Calls Try.prog 30 #[.agg #[.slice Aa na ca], .slice Ab nb cb] w (fun e w' => e = .returned (.tuple #[.int .i64 r0, .bool r1]) ∧ Below w.heap.size w w')))
    (IMC : Hid (∀ (Aa : Option Addr) (na ca : Nat) (Ab : Option Addr) (nb cb : Nat) (w : World), SD w w.heap.size Aa na ca dsa → na ≤ 1048576 → SS w w.heap.size Ab nb cb ssb → nb ≤ 1048576 → Calls Try.prog 32 #[.agg #[.slice Aa na ca], .slice Ab nb cb] w (fun e w' => e = .returned (.tuple #[.int .i64 r0, .bool r1]) ∧ Below w.heap.size w w'))) :
    Calls Try.prog 7 #[.agg #[.slice Aa na ca], .slice Ab nb cb] w fun e w' => e = .returned (.bool true) ∧ Below w.heap.size w w' := by
  obtain ⟨w0, hw⟩ : ∃ W : World, W = (w.alloc (.cells #[.slice Aa na ca] 24)) := ⟨_, rfl⟩
  have hb : Below w.heap.size w w0 := by rw [hw]; exact ((Below.refl _ _).alloc (by first | exact Nat.le_refl _ | (simp; done) | (simp; omega)) _)
  have hs0 : w.heap.size + 1 ≤ w0.heap.size := by rw [hw]; simp
  have pa_0 : w0.cell? ⟨w.heap.size, 0, none⟩ = some (.slice Aa na ca) := by rw [hw]; simp [go_sem]
  have HRa := Lib.hid hra
  clear hra
  have HRb := Lib.hid hrb
  clear hrb
  have HB_0 := Lib.hid hb
  have HW0 : Hid ((w.alloc (.cells #[.slice Aa na ca] 24)) = w0) := Lib.hid hw.symm
  clear hb hw
  go_enter Try.func7, Try.ntmps7
  go_wp2_with fail
  rw [HW0.out]
  refine (szEnum_any dsa Aa ca na 1048576 _ ((HRa.out.below HB_0.out).call HB_0.out.size) (by omega) (by omega)).mono ?_
  rintro e w1 ⟨ra, rfl, raa, rba, rca, hb⟩
  have hs1 : w0.heap.size ≤ w1.heap.size := hb.size
  have pa_1 := keep1 hb pa_0
  have HB_1 : Hid (Below w.heap.size w w1) := Lib.hid (HB_0.out.trans (hb.mono HB_0.out.size))
  have HQa := Lib.hid rca
  clear hb rca pa_0 HB_0
  by_cases hnega : ra < 0
  · go_wp2
    go_ret
    exact ⟨rfl, HB_1.out⟩
  have HNa : Hid (na ≤ 1048576) := Lib.hid (by have := HQa.out (by omega); omega)
  clear HQa
  go_wp2_with fail
  refine (szStringS_any ssb Ab cb nb ra _ ((HRb.out.below HB_1.out).call HB_1.out.size) (by omega) (by omega)).mono ?_
  rintro e w2 ⟨rb, rfl, rab, rbb, rcb, hb⟩
  have hs2 : w1.heap.size ≤ w2.heap.size := hb.size
  have pa_2 := keep1 hb pa_1
  have HB_2 : Hid (Below w.heap.size w w2) := Lib.hid (HB_1.out.trans (hb.mono HB_1.out.size))
  have HQb := Lib.hid rcb
  clear hb rcb pa_1 HB_1
  by_cases hnegb : rb < 0
  · go_wp2
    go_ret
    exact ⟨rfl, HB_2.out⟩
  have HNb : Hid (nb ≤ 1048576) := Lib.hid (by have := HQb.out (by omega); omega)
  clear HQb
  go_wp2_with fail
  refine (toEnum_any dsa Aa ca na _ ((HRa.out.below HB_2.out).call HB_2.out.size) HNa.out).mono ?_
  rintro e w3 ⟨gTa, rfl, ho, hb⟩
  have hs3 : w2.heap.size ≤ w3.heap.size := hb.size
  have pa_3 := keep1 hb pa_2
  have HB_3 : Hid (Below w.heap.size w w3) := Lib.hid (HB_2.out.trans (hb.mono HB_2.out.size))
  have Ta_3 : Hid (w3.ownsRow w2.heap.size 76 2 (.slice (some ⟨gTa, 0, none⟩) na na) na (flat dsa)) := Lib.hid ho
  have TaL : Hid (∀ q, (Value.slice (some ⟨gTa, 0, none⟩) na na).ownBlock = some q → w2.heap.size ≤ q ∧ q < w3.heap.size) := Lib.hid (fun q hq => ho.lt q hq)
  clear ho hb pa_2 HB_2
  go_wp2_with fail
  refine (toStringS_any ssb Ab cb nb _ ((HRb.out.below HB_3.out).call HB_3.out.size) HNb.out).mono ?_
  rintro e w4 ⟨rfl, ho, hb⟩
  have hs4 : w3.heap.size ≤ w4.heap.size := hb.size
  have pa_4 := keep1 hb pa_3
  have Ta_4 := Lib.hid (own_below Ta_3.out hb)
  have HB_4 : Hid (Below w.heap.size w w4) := Lib.hid (HB_3.out.trans (hb.mono HB_3.out.size))
  have Tb_4 : Hid (w4.ownsRow w3.heap.size 9 1 (.slice (some ⟨w3.heap.size, 0, none⟩) nb nb) nb (flatS ssb)) := Lib.hid ho
  have TbL : Hid (∀ q, (Value.slice (some ⟨w3.heap.size, 0, none⟩) nb nb).ownBlock = some q → w3.heap.size ≤ q ∧ q < w4.heap.size) := Lib.hid (fun q hq => ho.lt q hq)
  clear ho hb pa_3 Ta_3 HB_3
  go_wp2_with fail
  refine (SPC.out _ _ _ _ _ _ _ (sd_of_own Ta_4.out HRa.out.ok) HNa.out (ss_of_own Tb_4.out HRb.out.ok) HNb.out).mono ?_
  rintro e w5 ⟨rfl, hb⟩
  have hs5 : w4.heap.size ≤ w5.heap.size := hb.size
  have pa_5 := keep1 hb pa_4
  have Ta_5 := Lib.hid (own_below Ta_4.out hb)
  have Tb_5 := Lib.hid (own_below Tb_4.out hb)
  have HB_5 : Hid (Below w.heap.size w w5) := Lib.hid (HB_4.out.trans (hb.mono HB_4.out.size))
  clear hb  pa_4 Ta_4 Tb_4 HB_4
  clear Ta_5
  clear Tb_5
  go_wp2_with fail
  refine (toEnum_any dsa Aa ca na _ ((HRa.out.below HB_5.out).call HB_5.out.size) HNa.out).mono ?_
  rintro e w6 ⟨gXa, rfl, ho, hb⟩
  have hs6 : w5.heap.size ≤ w6.heap.size := hb.size
  have pa_6 := keep1 hb pa_5
  have HB_6 : Hid (Below w.heap.size w w6) := Lib.hid (HB_5.out.trans (hb.mono HB_5.out.size))
  have Xa_6 : Hid (w6.ownsRow w5.heap.size 76 2 (.slice (some ⟨gXa, 0, none⟩) na na) na (flat dsa)) := Lib.hid ho
  have XaL : Hid (∀ q, (Value.slice (some ⟨gXa, 0, none⟩) na na).ownBlock = some q → w5.heap.size ≤ q ∧ q < w6.heap.size) := Lib.hid (fun q hq => ho.lt q hq)
  clear ho hb pa_5 HB_5
  obtain ⟨w7, hw⟩ : ∃ W : World, W = (w6.alloc (.cells #[.slice (some ⟨gXa, 0, none⟩) na na] 30)) := ⟨_, rfl⟩
  have hb : Below w6.heap.size w6 w7 := by rw [hw]; exact (Below.refl _ _).alloc (Nat.le_refl _) _
  have hs7 : w6.heap.size + 1 ≤ w7.heap.size := by rw [hw]; simp
  have pa_7 := keep1 hb pa_6
  have Xa_7 := Lib.hid (own_below Xa_6.out hb)
  have HB_7 : Hid (Below w.heap.size w w7) := Lib.hid (HB_6.out.trans (hb.mono HB_6.out.size))
  have xa_7 : w7.cell? ⟨w6.heap.size, 0, none⟩ = some (.slice (some ⟨gXa, 0, none⟩) na na) := by rw [hw]; simp [go_sem]
  have lf_pa : (w6.alloc (.cells #[.slice (some ⟨gXa, 0, none⟩) na na] 30)).cell? ⟨w.heap.size, 0, none⟩ = some (.slice Aa na ca) := by rw [← hw]; exact pa_7
  have lf_xa : (w6.alloc (.cells #[.slice (some ⟨gXa, 0, none⟩) na na] 30)).cell? ⟨w6.heap.size, 0, none⟩ = some (.slice (some ⟨gXa, 0, none⟩) na na) := by rw [← hw]; exact xa_7
  have HW7 : Hid ((w6.alloc (.cells #[.slice (some ⟨gXa, 0, none⟩) na na] 30)) = w7) := Lib.hid hw.symm
  clear hb hw pa_6 Xa_6 HB_6
  go_wp2_with fail
  rw [HW7.out]
  clear lf_pa lf_xa
  refine (toStringS_any ssb Ab cb nb _ ((HRb.out.below HB_7.out).call HB_7.out.size) HNb.out).mono ?_
  rintro e w8 ⟨rfl, ho, hb⟩
  have hs8 : w7.heap.size ≤ w8.heap.size := hb.size
  have pa_8 := keep1 hb pa_7
  have xa_8 := keep1 hb xa_7
  have Xa_8 := Lib.hid (own_below Xa_7.out hb)
  have HB_8 : Hid (Below w.heap.size w w8) := Lib.hid (HB_7.out.trans (hb.mono HB_7.out.size))
  have Xb_8 : Hid (w8.ownsRow w7.heap.size 9 1 (.slice (some ⟨w7.heap.size, 0, none⟩) nb nb) nb (flatS ssb)) := Lib.hid ho
  have XbL : Hid (∀ q, (Value.slice (some ⟨w7.heap.size, 0, none⟩) nb nb).ownBlock = some q → w7.heap.size ≤ q ∧ q < w8.heap.size) := Lib.hid (fun q hq => ho.lt q hq)
  clear ho hb pa_7 xa_7 Xa_7 HB_7
  go_wp2_with fail
  refine (IMC.out _ _ _ _ _ _ _ (sd_of_own Xa_8.out HRa.out.ok) HNa.out (ss_of_own Xb_8.out HRb.out.ok) HNb.out).mono ?_
  rintro e w9 ⟨rfl, hb⟩
  have hs9 : w8.heap.size ≤ w9.heap.size := hb.size
  have pa_9 := keep1 hb pa_8
  have xa_9 := keep1 hb xa_8
  have Xa_9 := Lib.hid (own_below Xa_8.out hb)
  have Xb_9 := Lib.hid (own_below Xb_8.out hb)
  have HB_9 : Hid (Below w.heap.size w w9) := Lib.hid (HB_8.out.trans (hb.mono HB_8.out.size))
  clear hb  pa_8 xa_8 Xa_8 Xb_8 HB_8
  go_wp2_with fail
  have hsd : Hid (SD w9 w9.heap.size Aa na ca dsa) := Lib.hid ((HRa.out.below HB_9.out).call HB_9.out.size)
  go_region_held3 (fun w' => w'.cell? ⟨w.heap.size, 0, none⟩ = some (.slice Aa na ca) ∧ w'.cell? ⟨w6.heap.size, 0, none⟩ = some (.slice (some ⟨gXa, 0, none⟩) na na))
    (first
      | go_keep
      | exact ⟨y0, y1⟩ | exact ⟨z0, z1⟩)
    (first
      | (go_at_call 15; refine (toEnum_any dsa Aa ca na _ (by first | exact hsd.out | exact hsd.out.drew | exact hsd.out.drewN _) HNa.out).mono ?_; rintro e w10 ⟨gt, rfl, ho, hb⟩; replace hb : Below w9.heap.size w9 w10 := (by first | exact hb | exact undrew hb); have y0 := keep1 hb pa_9; have y1 := keep1 hb xa_9)
      | (go_at_call 17; refine (eqEnum_any dsa _ _ _ _ _ _ _ (by first | exact sd_of_own (own_below Xa_9.out hb) HRa.out.ok | exact (sd_of_own (own_below Xa_9.out hb) HRa.out.ok).drew) (by first | exact sd_of_own ho HRa.out.ok | exact (sd_of_own ho HRa.out.ok).drew)).mono ?_; rintro e w11 ⟨rfl, hb2⟩; replace hb2 : Below w10.heap.size w10 w11 := (by first | exact hb2 | exact undrew hb2); have z0 := keep1 hb2 y0; have z1 := keep1 hb2 y1))
  have hb3 : Below w9.heap.size w9 w11 := hb.trans (hb2.mono hb.size)
  have hs11 : w9.heap.size ≤ w11.heap.size := hb3.size
  have pa_11 := keep1 hb3 pa_9
  have xa_11 := keep1 hb3 xa_9
  have Xa_11 := Lib.hid (own_below Xa_9.out hb3)
  have Xb_11 := Lib.hid (own_below Xb_9.out hb3)
  have HB_11 : Hid (Below w.heap.size w w11) := Lib.hid (HB_9.out.trans (hb3.mono HB_9.out.size))
  clear hb hb2 hb3 ho y0 z0 y1 z1 hsd pa_9 xa_9 Xa_9 Xb_9 HB_9
  go_wp2_with fail
  refine (toStringS_any ssb Ab cb nb _ ((HRb.out.below HB_11.out).call HB_11.out.size) HNb.out).mono ?_
  rintro e w12 ⟨rfl, ho, hb⟩
  have hs12 : w11.heap.size ≤ w12.heap.size := hb.size
  have pa_12 := keep1 hb pa_11
  have xa_12 := keep1 hb xa_11
  have Xa_12 := Lib.hid (own_below Xa_11.out hb)
  have Xb_12 := Lib.hid (own_below Xb_11.out hb)
  have HB_12 : Hid (Below w.heap.size w w12) := Lib.hid (HB_11.out.trans (hb.mono HB_11.out.size))
  have Vb_12 : Hid (w12.ownsRow w11.heap.size 9 1 (.slice (some ⟨w11.heap.size, 0, none⟩) nb nb) nb (flatS ssb)) := Lib.hid ho
  have VbL : Hid (∀ q, (Value.slice (some ⟨w11.heap.size, 0, none⟩) nb nb).ownBlock = some q → w11.heap.size ≤ q ∧ q < w12.heap.size) := Lib.hid (fun q hq => ho.lt q hq)
  clear ho hb pa_11 xa_11 Xa_11 Xb_11 HB_11
  go_wp2_with fail
  refine (eqStringS_any ssb _ _ _ _ _ _ _ (ss_of_own Xb_12.out HRb.out.ok) (ss_of_own Vb_12.out HRb.out.ok)).mono ?_
  rintro e w13 ⟨rfl, hb⟩
  have hs13 : w12.heap.size ≤ w13.heap.size := hb.size
  have pa_13 := keep1 hb pa_12
  have xa_13 := keep1 hb xa_12
  have Xa_13 := Lib.hid (own_below Xa_12.out hb)
  have Xb_13 := Lib.hid (own_below Xb_12.out hb)
  have Vb_13 := Lib.hid (own_below Vb_12.out hb)
  have HB_13 : Hid (Below w.heap.size w w13) := Lib.hid (HB_12.out.trans (hb.mono HB_12.out.size))
  clear hb  pa_12 xa_12 Xa_12 Xb_12 Vb_12 HB_12
  clear Vb_13
  go_wp2
  go_ret
  exact ⟨rfl, HB_13.out⟩

theorem walk (Aa : Option Addr) (na ca : Nat) (dsa : List D) (Ab : Option Addr) (nb cb : Nat) (ssb : List ByteArray) (w : World) (hra : SD w w.heap.size Aa na ca dsa) (hrb : SS w w.heap.size Ab nb cb ssb) :
    Calls Try.prog 7 #[.agg #[.slice Aa na ca], .slice Ab nb cb] w fun e w' => e = .returned (.bool true) ∧ Below w.heap.size w w' := by
  exact walkV Aa na ca dsa Ab nb cb ssb (mSet dsa ssb) (mSetOk dsa ssb) w hra hrb (Lib.hid fun A n c A2 n2 c2 w h hn h2 hn2 => specSet_v dsa ssb A n c w h A2 n2 c2 h2 rfl rfl) (Lib.hid fun A n c A2 n2 c2 w h hn h2 hn2 => implSet_v dsa ssb A n c w h A2 n2 c2 h2 rfl rfl)

set_option maxRecDepth 100000 in
theorem lifted (os : Os) (started : os.Started) (H : Type) (enc : TypeId × Value → H) :
    ReturnsInHanded {} Try.checked os 7 .any (Rows.fnExactSetOfSpec.pre6 enc Try.prog Try.f7 Rows.fnExactSetOfRow.domain false) (Rows.fnExactSetOfSpec.post enc Try.prog Try.f7 false true false false) := by
  refine returnsInHanded_of_change (C := Try.checked) own started (by kernel_rfl) Try.func7
    (ChangeSpec.witness6 (enc := enc) (C := Try.checked) false ⟨#[], #[.agg #[.slice none 0 0], .slice none 0 0], []⟩ 8 (by kernel_rfl) (by kernel_rfl) (by kernel_rfl) (by kernel_rfl)) ?_
  intro W base args ds gs before hval0 hW hcnd _
  have hval : ∀ (j : Nat) t v, Try.f7.params[j]? = some t → args[j]? = some v → Value.okWide Try.prog W .any base t v := hval0
  have hW' := hW
  obtain ⟨p, q, hA0, hV, rfl, hfz, hnd⟩ := hW
  have hA : DataW.TrodAll enc Try.prog W 0 (fun _ => true) true Try.f7.params.toList args.toList ds p := hA0
  rw [Try.params7] at hA hval
  obtain ⟨v0, vs0, d0, ds0, p0, q0, hargs, rfl, rfl, h0, r0⟩ := trodAll_cons hA
  obtain ⟨v1, vs1, d1, ds1, p1, q1, rfl, rfl, rfl, h1, r1⟩ := trodAll_cons r0
  obtain ⟨rfl, rfl, rfl⟩ := trodAll_nil r1
  obtain rfl : args = #[v0, v1] := by cases args; simp_all
  obtain ⟨rfl, rfl⟩ := trodVars_none hV
  have k0 := h0
  have lt0 : ∀ x ∈ p0, x.block < W.heap.size := by obtain ⟨m, hm⟩ := k0; exact DataW.trod_lt m _ _ _ hm
  obtain ⟨A0, n0, c0, l0, rfl, w0⟩ := open_enum (hval 0 24 v0 rfl rfl) h0
  have k1 := h1
  have lt1 : ∀ x ∈ p1, x.block < W.heap.size := by obtain ⟨m, hm⟩ := k1; exact DataW.trod_lt m _ _ _ hm
  obtain ⟨A1, n1, c1, l1, rfl, w1⟩ := open_strs (hval 1 42 v1 rfl rfl) h1
  clear hA0 hval0
  refine (walk A0 n0 c0 l0 A1 n1 c1 l1 W w0 w1).mono fun e W' ⟨he, bel⟩ => ?_
  subst he
  exact ⟨_, rfl, _, _, _, [], _, [], hW', trodAll_mk1 (shut_bool Try.underlying4 _), (trodAll_cons_mk (Below.trod laidOut (by kernel_rfl) (of_decide_eq_true (by kernel_rfl)) k0 bel lt0) (trodAll_cons_mk (Below.trod laidOut (by kernel_rfl) (of_decide_eq_true (by kernel_rfl)) k1 bel lt1) trodAll_mk0)), rfl, bel.frame _, fun h => by cases h⟩

theorem over : Rows.fnExactSetOfRow.holds Try.pinned (OpenSpec.ofChange Rows.fnExactSetOfSpec) :=
  OpenClaim.holds_of_wide 7 Try.f7 rfl rfl rfl rfl rfl rfl rfl ⟨rfl, rfl, rfl, rfl, rfl⟩ rfl rfl rfl rfl rfl (by kernel_rfl) Try.func7 (by kernel_rfl)
    (of_decide_eq_true (by kernel_rfl)) (by unfold Func.isWrapper; first | (rw [if_pos (by decide +kernel)]; kernel_rfl) | (rw [if_neg (by decide +kernel)]; exact ⟨rfl, rfl⟩))
    (fun os started H enc _ => lifted os started H enc)

theorem proved : Rows.FnExactSetOfSaid := over
end Go.Proofs.Ythclogcbiekfeaa.fnExactSetOf
