/-
For every text the law on exact answers of ParseEnum returns true: the program's ParseEnum answers as its model does, and its answer owns its memory.
Conditions: none.
-/
import Derived.Test.YtpfdghbjagdhfaaDoorFlagX
import Derived.Deep.DeepCutAuto
import Derived.Test.YtpfdghbjagdhfaaDoorParD
import Derived.Test.YtpfdghbjagdhfaaDoorBaseJ
namespace Go.Proofs.YtpfdghbjagdhfaaDoor.fnExactParseEnum
open Go.ChangeShapes Go.WideShapes Go.ChangeAt Go.RowKit
open Go.ChangeMaps (open_string shut_string)
set_option linter.unusedVariables false
set_option maxRecDepth 100000

set_option maxHeartbeats 16000000 in
theorem walkV (sa : ByteArray) (ms : List D) (ok : Bool) (w : World) (hsa : sa.size ≤ maxLen)
    (SPC : Hid (∀  (w : World), sa.size ≤ 1048576 → Calls Tryd.prog 18 #[.string sa] w (EnumR ms ok w)))
    (IMC : Hid (∀  (w : World), sa.size ≤ 1048576 → Tb w w.heap.size → Calls Tryd.prog 19 #[.string sa] w (EnumR ms ok w))) (OKM : Hid (∀ d ∈ ms, d.ok)) (hml : ms.length ≤ 1000000) (hTAB : Hid (Tb w w.heap.size)) :
    Calls Tryd.prog 4 #[.string sa] w fun e w' => e = .returned (.bool true) ∧ Below w.heap.size w w' := by
  have hb : Below w.heap.size w w := Below.refl _ _
  have HB_0 := Lib.hid hb
  clear hb
  unfold maxLen at hsa
  by_cases hbiga : 1048576 < (sa.size : Int)
  · go_enter Tryd.func4, Tryd.ntmps4
    go_wp2
    go_ret
    skip
    exact ⟨rfl, HB_0.out⟩
  go_enter Tryd.func4, Tryd.ntmps4
  go_wp2_with fail
  refine (SPC.out  _ (by omega)).mono ?_
  rintro e w1 ⟨Aw, cw, rfl, ho, hb⟩
  have hs1 : w.heap.size ≤ w1.heap.size := hb.size
  have HB_1 : Hid (Below w.heap.size w w1) := Lib.hid (HB_0.out.trans (hb.mono HB_0.out.size))
  have Rw_1 : Hid (w1.ownsRow w.heap.size 98 2 (.slice Aw ms.length cw) ms.length (flat ms)) := Lib.hid ho
  have RwL : Hid (∀ q, (Value.slice Aw ms.length cw).ownBlock = some q → w.heap.size ≤ q ∧ q < w1.heap.size) := Lib.hid (fun q hq => ho.lt q hq)
  clear ho hb HB_0
  obtain ⟨w2, hw⟩ : ∃ W : World, W = (w1.alloc (.cells #[.slice Aw ms.length cw] 38)) := ⟨_, rfl⟩
  have hb : Below w1.heap.size w1 w2 := by rw [hw]; exact (Below.refl _ _).alloc (Nat.le_refl _) _
  have hs2 : w1.heap.size + 1 ≤ w2.heap.size := by rw [hw]; simp
  have Rw_2 := Lib.hid (own_below Rw_1.out hb)
  have HB_2 : Hid (Below w.heap.size w w2) := Lib.hid (HB_1.out.trans (hb.mono HB_1.out.size))
  have cw_2 : w2.cell? ⟨w1.heap.size, 0, none⟩ = some (.slice Aw ms.length cw) := by rw [hw]; simp [go_sem]
  have lf_cw : (w1.alloc (.cells #[.slice Aw ms.length cw] 38)).cell? ⟨w1.heap.size, 0, none⟩ = some (.slice Aw ms.length cw) := by rw [← hw]; exact cw_2
  have HW2 : Hid ((w1.alloc (.cells #[.slice Aw ms.length cw] 38)) = w2) := Lib.hid hw.symm
  clear hb hw Rw_1 HB_1
  go_wp2_with fail
  rw [HW2.out]
  clear lf_cw
  refine (IMC.out  _ (by omega) ((hTAB.out.below HB_2.out).call HB_2.out.size)).mono ?_
  rintro e w3 ⟨Ag, cg, rfl, ho, hb⟩
  have hs3 : w2.heap.size ≤ w3.heap.size := hb.size
  have cw_3 := keep1 hb cw_2
  have Rw_3 := Lib.hid (own_below Rw_2.out hb)
  have HB_3 : Hid (Below w.heap.size w w3) := Lib.hid (HB_2.out.trans (hb.mono HB_2.out.size))
  have Rg_3 : Hid (w3.ownsRow w2.heap.size 98 2 (.slice Ag ms.length cg) ms.length (flat ms)) := Lib.hid ho
  have RgL : Hid (∀ q, (Value.slice Ag ms.length cg).ownBlock = some q → w2.heap.size ≤ q ∧ q < w3.heap.size) := Lib.hid (fun q hq => ho.lt q hq)
  clear ho hb cw_2 Rw_2 HB_2
  obtain ⟨w4, hw⟩ : ∃ W : World, W = (w3.alloc (.cells #[.slice Ag ms.length cg] 38)) := ⟨_, rfl⟩
  have hb : Below w3.heap.size w3 w4 := by rw [hw]; exact (Below.refl _ _).alloc (Nat.le_refl _) _
  have hs4 : w3.heap.size + 1 ≤ w4.heap.size := by rw [hw]; simp
  have cw_4 := keep1 hb cw_3
  have Rw_4 := Lib.hid (own_below Rw_3.out hb)
  have Rg_4 := Lib.hid (own_below Rg_3.out hb)
  have HB_4 : Hid (Below w.heap.size w w4) := Lib.hid (HB_3.out.trans (hb.mono HB_3.out.size))
  have cg_4 : w4.cell? ⟨w3.heap.size, 0, none⟩ = some (.slice Ag ms.length cg) := by rw [hw]; simp [go_sem]
  have lf_cw : (w3.alloc (.cells #[.slice Ag ms.length cg] 38)).cell? ⟨w1.heap.size, 0, none⟩ = some (.slice Aw ms.length cw) := by rw [← hw]; exact cw_4
  have lf_cg : (w3.alloc (.cells #[.slice Ag ms.length cg] 38)).cell? ⟨w3.heap.size, 0, none⟩ = some (.slice Ag ms.length cg) := by rw [← hw]; exact cg_4
  have HW4 : Hid ((w3.alloc (.cells #[.slice Ag ms.length cg] 38)) = w4) := Lib.hid hw.symm
  clear hb hw cw_3 Rw_3 Rg_3 HB_3
  go_wp2_with fail
  rw [HW4.out]
  clear lf_cw lf_cg
  refine (eqEnum_any ms _ _ _ _ _ _ _ (sd_of_own Rg_4.out OKM.out) (sd_of_own Rw_4.out OKM.out)).mono ?_
  rintro e w5 ⟨rfl, hb⟩
  have hs5 : w4.heap.size ≤ w5.heap.size := hb.size
  have cw_5 := keep1 hb cw_4
  have cg_5 := keep1 hb cg_4
  have Rw_5 := Lib.hid (own_below Rw_4.out hb)
  have Rg_5 := Lib.hid (own_below Rg_4.out hb)
  have HB_5 : Hid (Below w.heap.size w w5) := Lib.hid (HB_4.out.trans (hb.mono HB_4.out.size))
  clear hb  cw_4 cg_4 Rw_4 Rg_4 HB_4
  go_wp2_with fail
  refine (markEnum_any 1 _ _ _ _ _ _ Rg_5.out (by omega) (by omega)).mono ?_
  rintro e w6 ⟨rfl, ho, hg⟩
  have hs6 : w5.heap.size ≤ w6.heap.size := hg.size
  have cw_6 := hg.cell cw_5 (by first | exact fun h => RgN.out h.symm | exact fun h => by have := RgL.out _ h.symm; simp only at this; omega)
  have cg_6 := hg.cell cg_5 (by first | exact fun h => RgN.out h.symm | exact fun h => by have := RgL.out _ h.symm; simp only at this; omega)
  have Rw_6 := Lib.hid (Rw_5.out.kept hg (by
    cases h : (Value.slice Aw ms.length cw).ownBlock with
    | none => exact .inl rfl
    | some q => exact .inr (fun e => by have := RwL.out q h; have := RgL.out q e.symm; omega)))
  have HB_6 : Hid (Below w.heap.size w w6) := Lib.hid (HB_5.out.grown hg HB_5.out.size (fun q hq => by have := RgL.out q hq; omega))
  have Rg_6 := Lib.hid ho
  clear ho hg cw_5 cg_5 Rw_5 Rg_5 HB_5
  go_wp2_with fail
  refine (heldEnum_any 1 _ _ _ _ _ Rg_6.out (by omega) (by omega)).mono ?_
  rintro e w7 ⟨rfl, hb⟩
  have hs7 : w6.heap.size ≤ w7.heap.size := hb.size
  have cw_7 := keep1 hb cw_6
  have cg_7 := keep1 hb cg_6
  have Rw_7 := Lib.hid (own_below Rw_6.out hb)
  have Rg_7 := Lib.hid (own_below Rg_6.out hb)
  have HB_7 : Hid (Below w.heap.size w w7) := Lib.hid (HB_6.out.trans (hb.mono HB_6.out.size))
  clear hb  cw_6 cg_6 Rw_6 Rg_6 HB_6
  have hqq : ¬ (1 + 2 * (ms.length : Int) < 0) := by omega
  go_wp2_with fail
  refine (IMC.out  _ (by omega) ((hTAB.out.below HB_7.out).call HB_7.out.size)).mono ?_
  rintro e w8 ⟨Ah, ch, rfl, ho, hb⟩
  have hs8 : w7.heap.size ≤ w8.heap.size := hb.size
  have cw_8 := keep1 hb cw_7
  have cg_8 := keep1 hb cg_7
  have Rw_8 := Lib.hid (own_below Rw_7.out hb)
  have Rg_8 := Lib.hid (own_below Rg_7.out hb)
  have HB_8 : Hid (Below w.heap.size w w8) := Lib.hid (HB_7.out.trans (hb.mono HB_7.out.size))
  have Rh_8 : Hid (w8.ownsRow w7.heap.size 98 2 (.slice Ah ms.length ch) ms.length (flat ms)) := Lib.hid ho
  have RhL : Hid (∀ q, (Value.slice Ah ms.length ch).ownBlock = some q → w7.heap.size ≤ q ∧ q < w8.heap.size) := Lib.hid (fun q hq => ho.lt q hq)
  clear ho hb cw_7 cg_7 Rw_7 Rg_7 HB_7
  obtain ⟨w9, hw⟩ : ∃ W : World, W = (w8.alloc (.cells #[.slice Ah ms.length ch] 38)) := ⟨_, rfl⟩
  have hb : Below w8.heap.size w8 w9 := by rw [hw]; exact (Below.refl _ _).alloc (Nat.le_refl _) _
  have hs9 : w8.heap.size + 1 ≤ w9.heap.size := by rw [hw]; simp
  have cw_9 := keep1 hb cw_8
  have cg_9 := keep1 hb cg_8
  have Rw_9 := Lib.hid (own_below Rw_8.out hb)
  have Rg_9 := Lib.hid (own_below Rg_8.out hb)
  have Rh_9 := Lib.hid (own_below Rh_8.out hb)
  have HB_9 : Hid (Below w.heap.size w w9) := Lib.hid (HB_8.out.trans (hb.mono HB_8.out.size))
  have ch_9 : w9.cell? ⟨w8.heap.size, 0, none⟩ = some (.slice Ah ms.length ch) := by rw [hw]; simp [go_sem]
  have lf_cw : (w8.alloc (.cells #[.slice Ah ms.length ch] 38)).cell? ⟨w1.heap.size, 0, none⟩ = some (.slice Aw ms.length cw) := by rw [← hw]; exact cw_9
  have lf_cg : (w8.alloc (.cells #[.slice Ah ms.length ch] 38)).cell? ⟨w3.heap.size, 0, none⟩ = some (.slice Ag ms.length cg) := by rw [← hw]; exact cg_9
  have lf_ch : (w8.alloc (.cells #[.slice Ah ms.length ch] 38)).cell? ⟨w8.heap.size, 0, none⟩ = some (.slice Ah ms.length ch) := by rw [← hw]; exact ch_9
  have HW9 : Hid ((w8.alloc (.cells #[.slice Ah ms.length ch] 38)) = w9) := Lib.hid hw.symm
  clear hb hw cw_8 cg_8 Rw_8 Rg_8 Rh_8 HB_8
  go_wp2_with fail
  rw [HW9.out]
  clear lf_cw lf_cg lf_ch
  refine (eqEnum_any ms _ _ _ _ _ _ _ (sd_of_own Rh_9.out OKM.out) (sd_of_own Rw_9.out OKM.out)).mono ?_
  rintro e w10 ⟨rfl, hb⟩
  have hs10 : w9.heap.size ≤ w10.heap.size := hb.size
  have cw_10 := keep1 hb cw_9
  have cg_10 := keep1 hb cg_9
  have ch_10 := keep1 hb ch_9
  have Rw_10 := Lib.hid (own_below Rw_9.out hb)
  have Rg_10 := Lib.hid (own_below Rg_9.out hb)
  have Rh_10 := Lib.hid (own_below Rh_9.out hb)
  have HB_10 : Hid (Below w.heap.size w w10) := Lib.hid (HB_9.out.trans (hb.mono HB_9.out.size))
  clear hb  cw_9 cg_9 ch_9 Rw_9 Rg_9 Rh_9 HB_9
  go_wp2_with fail
  refine (heldEnum_any 1 _ _ _ _ _ Rg_10.out (by omega) (by omega)).mono ?_
  rintro e w11 ⟨rfl, hb⟩
  have hs11 : w10.heap.size ≤ w11.heap.size := hb.size
  have cw_11 := keep1 hb cw_10
  have cg_11 := keep1 hb cg_10
  have ch_11 := keep1 hb ch_10
  have Rw_11 := Lib.hid (own_below Rw_10.out hb)
  have Rg_11 := Lib.hid (own_below Rg_10.out hb)
  have Rh_11 := Lib.hid (own_below Rh_10.out hb)
  have HB_11 : Hid (Below w.heap.size w w11) := Lib.hid (HB_10.out.trans (hb.mono HB_10.out.size))
  clear hb  cw_10 cg_10 ch_10 Rw_10 Rg_10 Rh_10 HB_10
  go_wp2
  go_ret
  exact ⟨rfl, HB_11.out⟩

theorem walk (sa : ByteArray) (w : World) (hsa : sa.size ≤ maxLen) (hT : TabAt w) :
    Calls Tryd.prog 4 #[.string sa] w fun e w' => e = .returned (.bool true) ∧ Below w.heap.size w w' := by
  have hl := (mPE_dok sa).2
  exact walkV sa (mPE sa) (okPE sa) w hsa (Lib.hid fun w hs => specPE_v sa w hs) (Lib.hid fun w hs ht => implPE_v sa w hs ht) (Lib.hid (mPE_dok sa).1) (by omega) (Lib.hid hT)

set_option maxRecDepth 100000 in
theorem lifted (os : Os) (started : os.Started) (H : Type) (enc : TypeId × Value → H) :
    ReturnsInHanded {} Tryd.checked os 4 .any (fun w args => (Rows.fnExactParseEnumSpec.pre enc Tryd.prog Tryd.f4 [] false w args ∧ laidMetH Tryd.prog laidL w) ∧ sizedMet enc Tryd.prog Tryd.f4 (OpenSpec.ofChange Rows.fnExactParseEnumSpec) false w args) (Rows.fnExactParseEnumSpec.post enc Tryd.prog Tryd.f4 false true false false) := by
  refine handed_shaped (C := Tryd.checked) (X := fun w _ => laidMetH Tryd.prog laidL w) (fun _ _ _ hh h => h.of_heap hh) own started (by kernel_rfl) Tryd.func4
    (ChangeSpec.witness_shaped (enc := enc) (C := Tryd.checked) (os := os) (X := fun w _ => laidMetH Tryd.prog laidL w) false (World.laidAll Tryd.prog os laidL) #[.string ByteArray.empty] 8 (World.laidAll_os _ _ _) (World.shaped_of_ZipB (by kernel_rfl) (by kernel_rfl)) (by kernel_rfl) (by kernel_rfl) (by kernel_rfl) (door_met os _)) ?_
  intro W base args ds gs before hval0 hW hcnd hL hsh
  have hval : ∀ (j : Nat) t v, Tryd.f4.params[j]? = some t → args[j]? = some v → Value.okWide Tryd.prog W .any base t v := hval0
  have hW' := hW
  obtain ⟨p, q, hA0, hV, rfl, hfz, hnd⟩ := hW
  have hA : DataW.TrodAll enc Tryd.prog W 0 (fun _ => true) true Tryd.f4.params.toList args.toList ds p := hA0
  rw [Tryd.params4] at hA hval
  obtain ⟨v0, vs0, d0, ds0, p0, q0, hargs, rfl, rfl, h0, r0⟩ := trodAll_cons hA
  obtain ⟨rfl, rfl, rfl⟩ := trodAll_nil r0
  obtain rfl : args = #[v0] := by cases args; simp_all
  obtain ⟨rfl, rfl⟩ := trodVars_none hV
  obtain ⟨a0, rfl, rfl, rfl, w0⟩ := open_string Tryd.underlying9 (hval 0 9 v0 rfl rfl) h0
  clear hA0 hval0
  refine (walk a0 W w0 (tab_of_laid hL hsh)).mono fun e W' ⟨he, bel⟩ => ?_
  subst he
  exact ⟨_, rfl, _, _, _, [], _, [], hW', trodAll_mk1 (shut_bool Tryd.underlying4 _), (trodAll_cons_mk (shut_string Tryd.underlying9 w0) trodAll_mk0), rfl, bel.frame _, fun h => by cases h⟩

theorem over : Rows.fnExactParseEnumRow.holds Tryd.pinned (OpenSpec.ofChange Rows.fnExactParseEnumSpec) :=
  OpenClaim.holds_of_wide 4 Tryd.f4 rfl rfl rfl rfl rfl rfl rfl ⟨rfl, rfl, rfl, rfl, rfl⟩ rfl rfl rfl rfl rfl (by kernel_rfl) Tryd.func4 (by kernel_rfl)
    (of_decide_eq_true (by kernel_rfl)) (by unfold Func.isWrapper; first | (rw [if_pos (by decide +kernel)]; kernel_rfl) | (rw [if_neg (by decide +kernel)]; exact ⟨rfl, rfl⟩))
    (fun os started H enc _ => lifted os started H enc)

theorem proved : Rows.FnExactParseEnumCardSaid :=
  Claim7.holds_tied_plain_at .later [] laidK true _ true
    over (fun _ h => by cases h) (by kernel_rfl) (fun _ h => by cases h) fnExactParseEnum_row_tie rfl ⟨rfl, rfl⟩ (by kernel_rfl) rfl
    (fun f fn hf hfn => by
      obtain rfl : f = 4 := (Option.some.inj ((show Tryd.prog.funcNamed "loop.example/namedflags/laws.FnExactParseEnum" = some 4 by kernel_rfl).symm.trans hf)).symm
      obtain rfl : fn = Tryd.f4 := (Option.some.inj (Tryd.func4.symm.trans hfn)).symm
      exact ⟨by kernel_rfl, fun j t ht => by
        have hm := Array.mem_of_getElem? ht
        have hall : (List.all (Array.toList Tryd.f4.params) fun u => !Tryd.prog.wantsStandIn u) = true := by kernel_rfl
        exact (show Tryd.prog.wantsStandIn t = false by simpa using List.all_eq_true.1 hall t (by simpa using hm))⟩)
    (by kernel_rfl)
end Go.Proofs.YtpfdghbjagdhfaaDoor.fnExactParseEnum
