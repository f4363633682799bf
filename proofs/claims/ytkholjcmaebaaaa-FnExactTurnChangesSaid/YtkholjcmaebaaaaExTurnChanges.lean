/-
For every list of changes the exact law of TurnChanges returns true: the program's TurnChanges answers as its model, leaves its argument as it was, and shares no memory.
Conditions: none.
-/
import Derived.Test.YtkholjcmaebaaaaOpen
import Derived.Deep.DeepCutAuto
import Derived.Test.YtkholjcmaebaaaaOpenK
import Derived.Test.YtkholjcmaebaaaaChgC
import Derived.Test.YtkholjcmaebaaaaTurnW
import Derived.Test.YtkholjcmaebaaaaTurnJ
import Derived.Test.YtkholjcmaebaaaaBaseC
namespace Go.Proofs.Ytkholjcmaebaaaa.fnExactTurnChanges
open Go.ChangeShapes Go.WideShapes Go.ChangeAt Go.RowKit
open Go.ChangeMaps (open_string shut_string)
set_option linter.unusedVariables false
set_option maxRecDepth 100000

set_option maxHeartbeats 16000000 in
theorem walkV (Aa : Option Addr) (na ca : Nat) (ksa : List Ch) (ks : List Ch) (w : World) (hka : SK w w.heap.size Aa na ca ksa)
    (SPC : Hid (∀ (Aa : Option Addr) (na ca : Nat) (w : World), SK w w.heap.size Aa na ca ksa → na ≤ 1048576 → Calls Try.prog 47 #[.slice Aa na ca] w (FreshK ks w)))
    (IMC : Hid (∀ (Aa : Option Addr) (na ca : Nat) (w : World), SK w w.heap.size Aa na ca ksa → na ≤ 1048576 → Calls Try.prog 42 #[.slice Aa na ca] w (FreshK ks w))) (OKM : Hid (∀ d ∈ ks, d.ok)) (hml : Hid (ks.length = na)) :
    Calls Try.prog 12 #[.slice Aa na ca] w fun e w' => e = .returned (.bool true) ∧ Below w.heap.size w w' := by
  have hb : Below w.heap.size w w := Below.refl _ _
  have hs0 : w.heap.size ≤ w.heap.size := Nat.le_refl _
  have HRa := Lib.hid hka
  clear hka
  have HB_0 := Lib.hid hb
  clear hb
  go_enter Try.func12, Try.ntmps12
  go_wp2_with fail
  refine (szChangeS_any ksa Aa ca na 1048576 _ ((HRa.out.below HB_0.out).call HB_0.out.size) (by omega) (by omega)).mono ?_
  rintro e w1 ⟨ra, rfl, raa, rba, rca, hb⟩
  have hs1 : w.heap.size ≤ w1.heap.size := hb.size
  have HB_1 : Hid (Below w.heap.size w w1) := Lib.hid (HB_0.out.trans (hb.mono HB_0.out.size))
  have HQa := Lib.hid rca
  clear hb rca HB_0
  by_cases hnega : ra < 0
  · go_wp2
    go_ret
    exact ⟨rfl, HB_1.out⟩
  have HNa : Hid (na ≤ 1048576) := Lib.hid (by have := HQa.out (by omega); omega)
  clear HQa
  have hml2 : ks.length ≤ 1048576 := by have := HNa.out; have := hml.out; omega
  clear hml
  go_wp2_with fail
  refine (toChangeS_any ksa Aa ca na _ ((HRa.out.below HB_1.out).call HB_1.out.size) HNa.out).mono ?_
  rintro e w2 ⟨gTa, rfl, ho, hb⟩
  have hs2 : w1.heap.size ≤ w2.heap.size := hb.size
  have HB_2 : Hid (Below w.heap.size w w2) := Lib.hid (HB_1.out.trans (hb.mono HB_1.out.size))
  have Ta_2 : Hid (w2.ownsRow w1.heap.size 137 4 (.slice (some ⟨gTa, 0, none⟩) na na) na (ksa.flatMap encK)) := Lib.hid ho
  have TaL : Hid (∀ q, (Value.slice (some ⟨gTa, 0, none⟩) na na).ownBlock = some q → w1.heap.size ≤ q ∧ q < w2.heap.size) := Lib.hid (fun q hq => ho.lt q hq)
  clear ho hb HB_1
  go_wp2_with fail
  refine (SPC.out _ _ _ _ (sk_of_own Ta_2.out HRa.out.ok) HNa.out).mono ?_
  rintro e w3 ⟨Aw, cw, rfl, ho, hb⟩
  have hs3 : w2.heap.size ≤ w3.heap.size := hb.size
  have Ta_3 := Lib.hid (own_below Ta_2.out hb)
  have HB_3 : Hid (Below w.heap.size w w3) := Lib.hid (HB_2.out.trans (hb.mono HB_2.out.size))
  have Rw_3 : Hid (w3.ownsRow w2.heap.size 137 4 (.slice Aw ks.length cw) ks.length (ks.flatMap encK)) := Lib.hid ho
  have RwL : Hid (∀ q, (Value.slice Aw ks.length cw).ownBlock = some q → w2.heap.size ≤ q ∧ q < w3.heap.size) := Lib.hid (fun q hq => ho.lt q hq)
  clear ho
  clear hb Ta_2 HB_2
  clear Ta_3
  go_wp2_with fail
  refine (toChangeS_any ksa Aa ca na _ ((HRa.out.below HB_3.out).call HB_3.out.size) HNa.out).mono ?_
  rintro e w4 ⟨gXa, rfl, ho, hb⟩
  have hs4 : w3.heap.size ≤ w4.heap.size := hb.size
  have Rw_4 := Lib.hid (own_below Rw_3.out hb)
  have HB_4 : Hid (Below w.heap.size w w4) := Lib.hid (HB_3.out.trans (hb.mono HB_3.out.size))
  have Xa_4 : Hid (w4.ownsRow w3.heap.size 137 4 (.slice (some ⟨gXa, 0, none⟩) na na) na (ksa.flatMap encK)) := Lib.hid ho
  have XaL : Hid (∀ q, (Value.slice (some ⟨gXa, 0, none⟩) na na).ownBlock = some q → w3.heap.size ≤ q ∧ q < w4.heap.size) := Lib.hid (fun q hq => ho.lt q hq)
  clear ho hb Rw_3 HB_3
  go_wp2_with fail
  refine (IMC.out _ _ _ _ (sk_of_own Xa_4.out HRa.out.ok) HNa.out).mono ?_
  rintro e w5 ⟨Ag, cg, rfl, ho, hb⟩
  have hs5 : w4.heap.size ≤ w5.heap.size := hb.size
  have Rw_5 := Lib.hid (own_below Rw_4.out hb)
  have Xa_5 := Lib.hid (own_below Xa_4.out hb)
  have HB_5 : Hid (Below w.heap.size w w5) := Lib.hid (HB_4.out.trans (hb.mono HB_4.out.size))
  have Rg_5 : Hid (w5.ownsRow w4.heap.size 137 4 (.slice Ag ks.length cg) ks.length (ks.flatMap encK)) := Lib.hid ho
  have RgL : Hid (∀ q, (Value.slice Ag ks.length cg).ownBlock = some q → w4.heap.size ≤ q ∧ q < w5.heap.size) := Lib.hid (fun q hq => ho.lt q hq)
  clear ho
  clear hb Rw_4 Xa_4 HB_4
  go_wp2_with fail
  refine (eqChangeS_any ks _ _ _ _ _ _ _ (sk_of_own Rg_5.out OKM.out) (sk_of_own Rw_5.out OKM.out)).mono ?_
  rintro e w6 ⟨rfl, hb⟩
  have hs6 : w5.heap.size ≤ w6.heap.size := hb.size
  have Rw_6 := Lib.hid (own_below Rw_5.out hb)
  have Xa_6 := Lib.hid (own_below Xa_5.out hb)
  have Rg_6 := Lib.hid (own_below Rg_5.out hb)
  have HB_6 : Hid (Below w.heap.size w w6) := Lib.hid (HB_5.out.trans (hb.mono HB_5.out.size))
  clear hb  Rw_5 Xa_5 Rg_5 HB_5
  go_wp2_with fail
  refine (toChangeS_any ksa Aa ca na _ ((HRa.out.below HB_6.out).call HB_6.out.size) HNa.out).mono ?_
  rintro e w7 ⟨gTa, rfl, ho, hb⟩
  have hs7 : w6.heap.size ≤ w7.heap.size := hb.size
  have Rw_7 := Lib.hid (own_below Rw_6.out hb)
  have Xa_7 := Lib.hid (own_below Xa_6.out hb)
  have Rg_7 := Lib.hid (own_below Rg_6.out hb)
  have HB_7 : Hid (Below w.heap.size w w7) := Lib.hid (HB_6.out.trans (hb.mono HB_6.out.size))
  have Ta_7 : Hid (w7.ownsRow w6.heap.size 137 4 (.slice (some ⟨gTa, 0, none⟩) na na) na (ksa.flatMap encK)) := Lib.hid ho
  have TaL : Hid (∀ q, (Value.slice (some ⟨gTa, 0, none⟩) na na).ownBlock = some q → w6.heap.size ≤ q ∧ q < w7.heap.size) := Lib.hid (fun q hq => ho.lt q hq)
  clear ho hb Rw_6 Xa_6 Rg_6 HB_6
  go_wp2_with fail
  refine (eqChangeS_any ksa _ _ _ _ _ _ _ (sk_of_own Xa_7.out HRa.out.ok) (sk_of_own Ta_7.out HRa.out.ok)).mono ?_
  rintro e w8 ⟨rfl, hb⟩
  have hs8 : w7.heap.size ≤ w8.heap.size := hb.size
  have Rw_8 := Lib.hid (own_below Rw_7.out hb)
  have Xa_8 := Lib.hid (own_below Xa_7.out hb)
  have Rg_8 := Lib.hid (own_below Rg_7.out hb)
  have Ta_8 := Lib.hid (own_below Ta_7.out hb)
  have HB_8 : Hid (Below w.heap.size w w8) := Lib.hid (HB_7.out.trans (hb.mono HB_7.out.size))
  clear hb  Rw_7 Xa_7 Rg_7 Ta_7 HB_7
  clear Ta_8
  go_wp2_with fail
  refine (markChangeS_any (1) _ _ _ _ _ _ Xa_8.out (by omega) (by have := HNa.out; omega)).mono ?_
  rintro e w9 ⟨rfl, ho, hg⟩
  have hs9 : w8.heap.size ≤ w9.heap.size := hg.size
  have Rw_9 := Lib.hid (Rw_8.out.kept hg (by
    cases h : (Value.slice Aw ks.length cw).ownBlock with
    | none => exact .inl rfl
    | some q => exact .inr (fun e => by have := RwL.out q h; have := XaL.out q e.symm; omega)))
  have Rg_9 := Lib.hid (Rg_8.out.kept hg (by
    cases h : (Value.slice Ag ks.length cg).ownBlock with
    | none => exact .inl rfl
    | some q => exact .inr (fun e => by have := RgL.out q h; have := XaL.out q e.symm; omega)))
  have HB_9 : Hid (Below w.heap.size w w9) := Lib.hid (HB_8.out.grown hg HB_8.out.size (fun q hq => by have := XaL.out q hq; omega))
  have Xa_9 := Lib.hid ho
  clear ho hg Rw_8 Xa_8 Rg_8 HB_8
  have hkk : ¬ (1 + 4 * (na : Int) < 0) := by omega
  go_wp2_with fail
  refine (eqChangeS_any ks _ _ _ _ _ _ _ (sk_of_own Rg_9.out OKM.out) (sk_of_own Rw_9.out OKM.out)).mono ?_
  rintro e w10 ⟨rfl, hb⟩
  have hs10 : w9.heap.size ≤ w10.heap.size := hb.size
  have Rw_10 := Lib.hid (own_below Rw_9.out hb)
  have Xa_10 := Lib.hid (own_below Xa_9.out hb)
  have Rg_10 := Lib.hid (own_below Rg_9.out hb)
  have HB_10 : Hid (Below w.heap.size w w10) := Lib.hid (HB_9.out.trans (hb.mono HB_9.out.size))
  clear hb  Rw_9 Xa_9 Rg_9 HB_9
  go_wp2_with fail
  refine (markChangeS_any 1 _ _ _ _ _ _ Rg_10.out (by omega) (by omega)).mono ?_
  rintro e w11 ⟨rfl, ho, hg⟩
  have hs11 : w10.heap.size ≤ w11.heap.size := hg.size
  have Rw_11 := Lib.hid (Rw_10.out.kept hg (by
    cases h : (Value.slice Aw ks.length cw).ownBlock with
    | none => exact .inl rfl
    | some q => exact .inr (fun e => by have := RwL.out q h; have := RgL.out q e.symm; omega)))
  have Xa_11 := Lib.hid (Xa_10.out.kept hg (by
    cases h : (Value.slice (some ⟨gXa, 0, none⟩) na na).ownBlock with
    | none => exact .inl rfl
    | some q => exact .inr (fun e => by have := XaL.out q h; have := RgL.out q e.symm; omega)))
  have HB_11 : Hid (Below w.heap.size w w11) := Lib.hid (HB_10.out.grown hg HB_10.out.size (fun q hq => by have := RgL.out q hq; omega))
  have Rg_11 := Lib.hid ho
  clear ho hg Rw_10 Xa_10 Rg_10 HB_10
  go_wp2_with fail
  refine (heldChangeS_any 1 _ _ _ _ _ Rg_11.out (by omega) (by omega)).mono ?_
  rintro e w12 ⟨rfl, hb⟩
  have hs12 : w11.heap.size ≤ w12.heap.size := hb.size
  have Rw_12 := Lib.hid (own_below Rw_11.out hb)
  have Xa_12 := Lib.hid (own_below Xa_11.out hb)
  have Rg_12 := Lib.hid (own_below Rg_11.out hb)
  have HB_12 : Hid (Below w.heap.size w w12) := Lib.hid (HB_11.out.trans (hb.mono HB_11.out.size))
  clear hb  Rw_11 Xa_11 Rg_11 HB_11
  have hqq : ¬ (1 + 4 * (ks.length : Int) < 0) := by omega
  go_wp2_with fail
  refine (toChangeS_any ksa Aa ca na _ ((HRa.out.below HB_12.out).call HB_12.out.size) HNa.out).mono ?_
  rintro e w13 ⟨gTa, rfl, ho, hb⟩
  have hs13 : w12.heap.size ≤ w13.heap.size := hb.size
  have Rw_13 := Lib.hid (own_below Rw_12.out hb)
  have Xa_13 := Lib.hid (own_below Xa_12.out hb)
  have Rg_13 := Lib.hid (own_below Rg_12.out hb)
  have HB_13 : Hid (Below w.heap.size w w13) := Lib.hid (HB_12.out.trans (hb.mono HB_12.out.size))
  have Ta_13 : Hid (w13.ownsRow w12.heap.size 137 4 (.slice (some ⟨gTa, 0, none⟩) na na) na (ksa.flatMap encK)) := Lib.hid ho
  have TaL : Hid (∀ q, (Value.slice (some ⟨gTa, 0, none⟩) na na).ownBlock = some q → w12.heap.size ≤ q ∧ q < w13.heap.size) := Lib.hid (fun q hq => ho.lt q hq)
  clear ho hb Rw_12 Xa_12 Rg_12 HB_12
  go_wp2_with fail
  refine (IMC.out _ _ _ _ (sk_of_own Ta_13.out HRa.out.ok) HNa.out).mono ?_
  rintro e w14 ⟨Ah, ch, rfl, ho, hb⟩
  have hs14 : w13.heap.size ≤ w14.heap.size := hb.size
  have Rw_14 := Lib.hid (own_below Rw_13.out hb)
  have Xa_14 := Lib.hid (own_below Xa_13.out hb)
  have Rg_14 := Lib.hid (own_below Rg_13.out hb)
  have Ta_14 := Lib.hid (own_below Ta_13.out hb)
  have HB_14 : Hid (Below w.heap.size w w14) := Lib.hid (HB_13.out.trans (hb.mono HB_13.out.size))
  have Rh_14 : Hid (w14.ownsRow w13.heap.size 137 4 (.slice Ah ks.length ch) ks.length (ks.flatMap encK)) := Lib.hid ho
  have RhL : Hid (∀ q, (Value.slice Ah ks.length ch).ownBlock = some q → w13.heap.size ≤ q ∧ q < w14.heap.size) := Lib.hid (fun q hq => ho.lt q hq)
  clear ho
  clear hb Rw_13 Xa_13 Rg_13 Ta_13 HB_13
  clear Ta_14
  go_wp2_with fail
  refine (eqChangeS_any ks _ _ _ _ _ _ _ (sk_of_own Rh_14.out OKM.out) (sk_of_own Rw_14.out OKM.out)).mono ?_
  rintro e w15 ⟨rfl, hb⟩
  have hs15 : w14.heap.size ≤ w15.heap.size := hb.size
  have Rw_15 := Lib.hid (own_below Rw_14.out hb)
  have Xa_15 := Lib.hid (own_below Xa_14.out hb)
  have Rg_15 := Lib.hid (own_below Rg_14.out hb)
  have Rh_15 := Lib.hid (own_below Rh_14.out hb)
  have HB_15 : Hid (Below w.heap.size w w15) := Lib.hid (HB_14.out.trans (hb.mono HB_14.out.size))
  clear hb  Rw_14 Xa_14 Rg_14 Rh_14 HB_14
  go_wp2_with fail
  refine (heldChangeS_any 1 _ _ _ _ _ Rg_15.out (by omega) (by omega)).mono ?_
  rintro e w16 ⟨rfl, hb⟩
  have hs16 : w15.heap.size ≤ w16.heap.size := hb.size
  have Rw_16 := Lib.hid (own_below Rw_15.out hb)
  have Xa_16 := Lib.hid (own_below Xa_15.out hb)
  have Rg_16 := Lib.hid (own_below Rg_15.out hb)
  have Rh_16 := Lib.hid (own_below Rh_15.out hb)
  have HB_16 : Hid (Below w.heap.size w w16) := Lib.hid (HB_15.out.trans (hb.mono HB_15.out.size))
  clear hb  Rw_15 Xa_15 Rg_15 Rh_15 HB_15
  go_wp2
  go_ret
  exact ⟨rfl, HB_16.out⟩

theorem walk (Aa : Option Addr) (na ca : Nat) (ksa : List Ch) (w : World) (hb : SK w w.heap.size Aa na ca ksa) :
    Calls Try.prog 12 #[.slice Aa na ca] w fun e w' => e = .returned (.bool true) ∧ Below w.heap.size w w' := by
  exact walkV Aa na ca ksa (mTurn ksa) w hb (Lib.hid fun A n c w h hn => specTurn_any ksa A n c w h hn) (Lib.hid fun A n c w h hn => implTurn_any ksa A n c w h hn)
    (Lib.hid (mTurn_ok hb.ok)) (Lib.hid (by rw [mTurn_len]; exact hb.len))

set_option maxRecDepth 100000 in
theorem lifted (os : Os) (started : os.Started) (H : Type) (enc : TypeId × Value → H) :
    ReturnsInHanded {} Try.checked os 12 .any (Rows.fnExactTurnChangesSpec.pre6 enc Try.prog Try.f12 Rows.fnExactTurnChangesRow.domain false) (Rows.fnExactTurnChangesSpec.post enc Try.prog Try.f12 false true false false) := by
  refine returnsInHanded_of_change (C := Try.checked) own started (by kernel_rfl) Try.func12
    (ChangeSpec.witness6 (enc := enc) (C := Try.checked) false ⟨#[], #[.slice none 0 0], []⟩ 8 (by kernel_rfl) (by kernel_rfl) (by kernel_rfl) (by kernel_rfl)) ?_
  intro W base args ds gs before hval0 hW hcnd _
  have hval : ∀ (j : Nat) t v, Try.f12.params[j]? = some t → args[j]? = some v → Value.okWide Try.prog W .any base t v := hval0
  have hW' := hW
  obtain ⟨p, q, hA0, hV, rfl, hfz, hnd⟩ := hW
  have hA : DataW.TrodAll enc Try.prog W 0 (fun _ => true) true Try.f12.params.toList args.toList ds p := hA0
  rw [Try.params12] at hA hval
  obtain ⟨v0, vs0, d0, ds0, p0, q0, hargs, rfl, rfl, h0, r0⟩ := trodAll_cons hA
  obtain ⟨rfl, rfl, rfl⟩ := trodAll_nil r0
  obtain rfl : args = #[v0] := by cases args; simp_all
  obtain ⟨rfl, rfl⟩ := trodVars_none hV
  have k0 := h0
  have lt0 : ∀ x ∈ p0, x.block < W.heap.size := by obtain ⟨m, hm⟩ := k0; exact DataW.trod_lt m _ _ _ hm
  obtain ⟨A0, n0, c0, l0, rfl, w0⟩ := open_changes (hval 0 64 v0 rfl rfl) h0
  clear hA0 hval0
  refine (walk A0 n0 c0 l0 W w0).mono fun e W' ⟨he, bel⟩ => ?_
  subst he
  exact ⟨_, rfl, _, _, _, [], _, [], hW', trodAll_mk1 (shut_bool Try.underlying4 _), (trodAll_cons_mk (Below.trod laidOut (by kernel_rfl) (of_decide_eq_true (by kernel_rfl)) k0 bel lt0) trodAll_mk0), rfl, bel.frame _, fun h => by cases h⟩

theorem over : Rows.fnExactTurnChangesRow.holds Try.pinned (OpenSpec.ofChange Rows.fnExactTurnChangesSpec) :=
  OpenClaim.holds_of_wide 12 Try.f12 rfl rfl rfl rfl rfl rfl rfl ⟨rfl, rfl, rfl, rfl, rfl⟩ rfl rfl rfl rfl rfl (by kernel_rfl) Try.func12 (by kernel_rfl)
    (of_decide_eq_true (by kernel_rfl)) (by unfold Func.isWrapper; first | (rw [if_pos (by decide +kernel)]; kernel_rfl) | (rw [if_neg (by decide +kernel)]; exact ⟨rfl, rfl⟩))
    (fun os started H enc _ => lifted os started H enc)

theorem proved : Rows.FnExactTurnChangesSaid := over
end Go.Proofs.Ytkholjcmaebaaaa.fnExactTurnChanges
