/-
For every code the law of masks that have all bits returns true.
Conditions: none.
-/
import Derived.Test.YtnaojafidhloeaaGenG
import Derived.Test.YtnaojafidhloeaaOpenC
import Derived.Test.YtnaojafidhloeaaLFlag
import Derived.Test.YtnaojafidhloeaaLAlgN
import Derived.Test.YtnaojafidhloeaaAlgJ
import Derived.Test.YtnaojafidhloeaaFlagS
import Derived.Test.YtnaojafidhloeaaLKept
namespace Go.Proofs.Ytnaojafidhloeaa.fnMaskOf
open Go.ChangeShapes Go.WideShapes Go.ChangeAt Go.RowKit
open Go.ChangeMaps (open_string shut_string)
set_option linter.unusedVariables false
set_option maxRecDepth 100000

set_option maxHeartbeats 16000000 in
theorem walk (A : Option Addr) (n c : Nat) (zs : List Int) (w : World) (h : SB w w.heap.size A n c zs) :
    Calls Try.prog 3 #[.slice A n c] w fun e w' => e = .returned (.bool true) ∧ Below w.heap.size w w' := by
  have hm := h.max
  have hcap := h.cap
  unfold maxLen at hm
  have HS0 := Lib.hid h
  clear h
  by_cases hbig : 1048576 < (n : Int)
  · go_enter Try.func3, Try.ntmps3
    go_wp2
    go_ret
    exact ⟨rfl, Below.refl _ _⟩
  go_enter Try.func3, Try.ntmps3
  go_wp2_with fail
  refine (drawMaskOf_any A n c zs _ HS0.out).mono ?_
  rintro e w1 ⟨Aa, ca, dsa, ba, rfl, hna, hsma, hbda, hsa, hb⟩
  have HB_1 := Lib.hid hb
  have Sa_1 := Lib.hid hsa
  have HSMa := Lib.hid hsma
  have HOKa : Hid (∀ d ∈ dsa, d.ok) := Lib.hid (fun d hd => small_ok (hsma d hd))
  have HBDa := Lib.hid hbda
  clear hb hsa hsma hbda
  obtain ⟨w2, hw⟩ : ∃ W : World, W = (w1.alloc (.cells #[.slice Aa dsa.length ca, .int .i64 ba] 25)) := ⟨_, rfl⟩
  have hb : Below w1.heap.size w1 w2 := by rw [hw]; exact ((Below.refl _ _).alloc (by first | exact Nat.le_refl _ | (simp; done) | (simp; omega)) _)
  have Sa_2 := Lib.hid ((Sa_1.out.below hb).call hb.size)
  have HB_2 : Hid (Below w.heap.size w w2) := Lib.hid (HB_1.out.trans (hb.mono HB_1.out.size))
  have ba_2 : w2.cell? ⟨w1.heap.size, 0, none⟩ = some (.slice Aa dsa.length ca) := by rw [hw]; simp [go_sem]
  have va_2 : w2.cell? ⟨w1.heap.size, 1, none⟩ = some (.int .i64 ba) := by rw [hw]; simp [go_sem]
  have lf_ba : (w1.alloc (.cells #[.slice Aa dsa.length ca, .int .i64 ba] 25)).cell? ⟨w1.heap.size, 0, none⟩ = some (.slice Aa dsa.length ca) := by rw [← hw]; exact ba_2
  have lf_va : (w1.alloc (.cells #[.slice Aa dsa.length ca, .int .i64 ba] 25)).cell? ⟨w1.heap.size, 1, none⟩ = some (.int .i64 ba) := by rw [← hw]; exact va_2
  have HW2 : Hid ((w1.alloc (.cells #[.slice Aa dsa.length ca, .int .i64 ba] 25)) = w2) := Lib.hid hw.symm
  clear hb hw Sa_1 HB_1
  obtain ⟨r, hr⟩ : ∃ r, mMaskOf dsa ba = r := ⟨_, rfl⟩
  have HR := Lib.hid hr
  clear hr
  go_wp2_with fail
  rw [HW2.out]
  clear lf_ba lf_va
  refine (implMaskOf_v dsa ba _ _ _ _ Sa_2.out (by omega) HR.out).mono ?_
  rintro e w3 ⟨rfl, hb⟩
  have ba_3 := keep1 hb ba_2
  have va_3 := keep1 hb va_2
  have Sa_3 := Lib.hid ((Sa_2.out.below hb).call hb.size)
  have HB_3 : Hid (Below w.heap.size w w3) := Lib.hid (HB_2.out.trans (hb.mono HB_2.out.size))
  clear hb  ba_2 va_2 Sa_2 HB_2
  go_wp2_with fail
  refine (specMaskOf_v dsa ba _ _ _ _ Sa_3.out HR.out).mono ?_
  rintro e w4 ⟨rfl, hb⟩
  have ba_4 := keep1 hb ba_3
  have va_4 := keep1 hb va_3
  have Sa_4 := Lib.hid ((Sa_3.out.below hb).call hb.size)
  have HB_4 : Hid (Below w.heap.size w w4) := Lib.hid (HB_3.out.trans (hb.mono HB_3.out.size))
  clear hb  ba_3 va_3 Sa_3 HB_3
  by_cases h0 : r < 0
  · skip
    go_wp2_with fail
    refine (specMaskOf_v dsa ba _ _ _ _ Sa_4.out HR.out).mono ?_
    rintro e w5 ⟨rfl, hb⟩
    have ba_5 := keep1 hb ba_4
    have va_5 := keep1 hb va_4
    have Sa_5 := Lib.hid ((Sa_4.out.below hb).call hb.size)
    have HB_5 : Hid (Below w.heap.size w w5) := Lib.hid (HB_4.out.trans (hb.mono HB_4.out.size))
    clear hb  ba_4 va_4 Sa_4 HB_4
    go_wp2
    go_ret
    exact ⟨rfl, HB_5.out⟩
  have hv : vFlag dsa ba = true := by
    cases h : vFlag dsa ba
    · exact absurd (by rw [← HR.out]; unfold mMaskOf; rw [h, if_neg (by decide)]; decide) h0
    · rfl
  have HFL := Lib.hid hv
  have HIN := Lib.hid (vFlag_in hv)
  obtain ⟨m, qm⟩ : ∃ m, mMask dsa = m := ⟨_, rfl⟩
  have hm : m < 4096 := by rw [← qm]; exact mMask_lt12 HIN.out
  obtain rfl : r = (m : Int) := by rw [← HR.out]; unfold mMaskOf; rw [hv, if_pos rfl, qm]
  have HHA : Hid (∀ (x : Nat), x < 4096 → (∃ d ∈ dsa, d.val = x) → mHas dsa 3 (m : Nat) (x : Nat) = true) := Lib.hid fun x hx ⟨d, hd, he⟩ => has_is (mIsV_of (vFlag_3 HFL.out) hm (.inl rfl)) (mIsV_of (vFlag_3 HFL.out) hx (.inl rfl)) (decide_eq_true (by
    rw [nl_zero]; intro i hi
    rw [← qm, mMask_tb, List.any_eq_true]
    exact ⟨d, hd, by rw [he, Int.toNat_natCast]; exact hi⟩))
  have HFN : Hid (mFrom dsa ba (dsa.map (·.name)) = (m : Int) ∧ mFromOk dsa ba (dsa.map (·.name)) = true) := Lib.hid (by have := from_names hv dsa (fun _ h => h); rw [qm] at this; exact this)
  have HVm : Hid (mIsV dsa ba (m : Nat) = true) := Lib.hid (by rw [← qm]; exact v_mask hv)
  have HNL : Hid (∀ s ∈ dsa.map (·.name), s.size ≤ maxLen) := Lib.hid (by intro s hs; obtain ⟨d, hd, rfl⟩ := List.mem_map.1 hs; exact (HOKa.out d hd).1)
  clear hv qm h0 HR
  go_wp2_with fail
  obtain ⟨W, hW⟩ : ∃ W : World, W = w4.alloc (.cells #[] 9) := ⟨_, rfl⟩
  have hb : Below w4.heap.size w4 W := by rw [hW]; exact (Below.refl _ _).alloc (Nat.le_refl _) _
  have HOs : Hid (W.ownsRow w4.heap.size 9 1 (.slice (some ⟨w4.heap.size, 0, none⟩) 0 0) 0 (flatS ((dsa.take 0).map (·.name)))) := Lib.hid (by rw [hW]; exact World.ownsRow_made w4 #[] 0 (Nat.le_refl _) (by unfold maxLen; omega) rfl)
  have HBs : Hid (Below w.heap.size w W) := Lib.hid (HB_4.out.trans (hb.mono HB_4.out.size))
  have HSs : Hid (SD W w4.heap.size Aa dsa.length ca dsa) := Lib.hid (Sa_4.out.below hb)
  have HAs : Hid (W.cell? ⟨w1.heap.size, 0, none⟩ = some (.slice Aa dsa.length ca) ∧ W.cell? ⟨w1.heap.size, 1, none⟩ = some (.int .i64 ba)) := Lib.hid ⟨keep1 hb ba_4, keep1 hb va_4⟩
  have HZs : Hid (w4.heap.size ≤ W.heap.size) := Lib.hid hb.size
  have hlow : w1.heap.size < w4.heap.size := World.block_lt_of_cell? _ _ ba_4
  have hbG : w.heap.size ≤ w4.heap.size := HB_4.out.size
  rw [← hW]
  clear hb hW Sa_4 HB_4 ba_4 va_4
  generalize w4.heap.size = G at *
  go_wp2
  go_loopw [5, 6] (fun v i wr => ∃ k : Nat, k ≤ dsa.length ∧ i = .int .i64 k ∧ Hid (wr.ownsRow G 9 1 v k (flatS ((dsa.take k).map (·.name)))) ∧ Hid (Below w.heap.size w wr) ∧ Hid (SD wr G Aa dsa.length ca dsa) ∧ Hid (wr.cell? ⟨w1.heap.size, 0, none⟩ = some (.slice Aa dsa.length ca) ∧ wr.cell? ⟨w1.heap.size, 1, none⟩ = some (.int .i64 ba)) ∧ Hid (G ≤ wr.heap.size)) (fun _ i _ => dsa.length - (intOf i).toNat)
  case atStart => exact ⟨0, Nat.zero_le _, rfl, HOs, HBs, HSs, HAs, HZs⟩
  case round =>
    clear HOs HBs HSs HAs HZs
    obtain ⟨k, hk, rfl, hown, hbel, hsd, hcl, hz⟩ := hrel
    obtain ⟨x0, x1⟩ := hcl.out
    by_cases hlt : k < dsa.length
    · obtain ⟨b0, o0, hA, hbb, c1, c2⟩ := hsd.out.at_ hlt
      subst hA
      obtain ⟨x, hx⟩ : ∃ x : Nat, dsa[k].val = x := ⟨dsa[k].val.toNat, (Int.toNat_of_nonneg (HIN.out _ (List.getElem_mem hlt)).1).symm⟩
      have hx4 : x < 4096 := by have := (HIN.out _ (List.getElem_mem hlt)).2; omega
      have HH := Lib.hid (HHA.out x hx4 ⟨_, List.getElem_mem hlt, hx⟩)
      have hi1 : (k : Int) < (dsa.length : Int) := by omega
      have HT : Hid (flatS ((dsa.take (k + 1)).map (·.name)) = flatS ((dsa.take k).map (·.name)) ++ [.string dsa[k].name]) := Lib.hid (by rw [List.take_succ_eq_append_getElem hlt]; unfold flatS; rw [List.map_append, List.map_append]; rfl)
      rw [hx] at c2
      clear hx
      go_wp2_with (at_builtin; refine wpList_app_S rfl _ _ rfl G _ _ _ rfl hown.out _ _ _ rfl (by first | rfl | simp) (by omega) hz.out ?_; intro v' w6 ho1 hb1; have HO6 := Lib.hid ho1; have HB6 := Lib.hid hb1; clear ho1 hb1)
      have x0_6 := (HB6.out.cell (p := ⟨w1.heap.size, 0, none⟩) hlow).trans x0
      have x1_6 := (HB6.out.cell (p := ⟨w1.heap.size, 1, none⟩) hlow).trans x1
      have c2_6 := (HB6.out.cell (p := ⟨b0, o0 + k * 2 + 1, none⟩) hbb).trans c2
      have HZ6 : Hid (G ≤ w6.heap.size) := Lib.hid (Nat.le_trans hz.out HB6.out.size)
      have HS6 := Lib.hid (hsd.out.below HB6.out)
      have HS6c := Lib.hid (HS6.out.call HZ6.out)
      have HBw6 : Hid (Below w.heap.size w w6) := Lib.hid (hbel.out.trans (HB6.out.mono hbG))
      clear x0 x1 c1 c2 hown hbel hsd hcl hz
      go_region_held3 (fun w' => w'.cell? ⟨w1.heap.size, 0, none⟩ = some (.slice (some ⟨b0, o0, none⟩) dsa.length ca) ∧ w'.cell? ⟨w1.heap.size, 1, none⟩ = some (.int .i64 ba) ∧ w'.cell? ⟨b0, o0 + k * 2 + 1, none⟩ = some (.int .i64 x))
        (first | go_keep | exact ⟨x0_6, x1_6, c2_6⟩ | exact ⟨y0, y1, y2⟩ | exact ⟨z0, z1, z2⟩)
        (first
          | (go_at_call 19; refine (kept_any dsa ba _ _ _ _ (HS6c.out.drewN 1) (by omega) HFL.out).mono ?_; rintro e w7 ⟨Ak, ck, rfl, ho2, hb⟩; replace hb : Below w6.heap.size w6 w7 := (by first | exact hb | exact undrew hb); have y0 := keep1 hb x0_6; have y1 := keep1 hb x1_6; have y2 := keep1 hb c2_6)
          | (go_at_call 18; refine (implHas_v dsa 3 m x _ _ _ _ (by first | exact sd_of_own ho2 HOKa.out | exact (sd_of_own ho2 HOKa.out).drew) (by omega) HH.out).mono ?_; rintro e w8 ⟨rfl, hb2⟩; replace hb2 : Below w7.heap.size w7 w8 := (by first | exact hb2 | exact undrew hb2); have z0 := keep1 hb2 y0; have z1 := keep1 hb2 y1; have z2 := keep1 hb2 y2))
      have hb3 : Below w6.heap.size w6 w8 := hb.trans (hb2.mono hb.size)
      clear hb hb2 ho2 y0 y1 y2 z0 z1 z2
      go_wp2
      go_roundw
      case rel => exact ⟨k + 1, by omega, by go_num, Lib.hid (by rw [HT.out]; exact own_below HO6.out hb3), Lib.hid (HBw6.out.trans (hb3.mono HBw6.out.size)), Lib.hid (HS6.out.below' hb3 HZ6.out), Lib.hid ⟨keep1 hb3 x0_6, keep1 hb3 x1_6⟩, Lib.hid (Nat.le_trans HZ6.out hb3.size)⟩
      case measure => simp [intOf]; omega
    · obtain rfl : k = dsa.length := by omega
      obtain ⟨As, cs, hform⟩ := own_form hown.out
      subst hform
      have hml : (dsa.map (·.name)).length = dsa.length := List.length_map ..
      have HSS : Hid (SS wr wr.heap.size As dsa.length cs (dsa.map (·.name))) := Lib.hid (ss_of_own (by have := hown.out; rwa [List.take_of_length_le (Nat.le_refl _)] at this) HNL.out)
      have HSD := Lib.hid (hsd.out.call hz.out)
      have HML := Lib.hid hml
      clear hown hsd hcl hml
      go_wp2_with fail
      refine (implFrom_v dsa ba (dsa.map (·.name)) _ _ _ _ HSD.out _ _ _ HSS.out (by omega) HFN.out.1 HFN.out.2).mono ?_
      rintro e w9 ⟨rfl, hb⟩
      have x0_9 := keep1 hb x0
      have x1_9 := keep1 hb x1
      have HS9 := Lib.hid ((HSD.out.below hb).call hb.size)
      have HB9 : Hid (Below w.heap.size w w9) := Lib.hid (hbel.out.trans (hb.mono hbel.out.size))
      clear hb x0 x1
      go_wp2_with fail
      refine (implIsV_v dsa ba m _ _ _ _ HS9.out (by omega) HVm.out).mono ?_
      rintro e w10 ⟨rfl, hb⟩
      have HB10 : Hid (Below w.heap.size w w10) := Lib.hid (HB9.out.trans (hb.mono HB9.out.size))
      clear hb
      go_wp2
      go_ret
      exact ⟨rfl, HB10.out⟩

theorem lifted (os : Os) (started : os.Started) (H : Type) (enc : TypeId × Value → H) :
    ReturnsInHanded {} Try.checked os 3 .any (Rows.fnMaskOfSpec.pre6 enc Try.prog Try.f3 Rows.fnMaskOfRow.domain false) (Rows.fnMaskOfSpec.post enc Try.prog Try.f3 false true false false) := by
  refine returnsInHanded_of_change (C := Try.checked) own started (by kernel_rfl) Try.func3
    (ChangeSpec.witness6 (enc := enc) (C := Try.checked) false ⟨#[], #[.slice none 0 0], []⟩ 8 (by kernel_rfl) (by kernel_rfl) (by kernel_rfl) (by kernel_rfl)) ?_
  intro W base args ds gs before hval0 hW hcnd _
  have hval : ∀ (j : Nat) t v, Try.f3.params[j]? = some t → args[j]? = some v → Value.okWide Try.prog W .any base t v := hval0
  have hW' := hW
  obtain ⟨p, q, hA0, hV, rfl, hfz, hnd⟩ := hW
  have hA : DataW.TrodAll enc Try.prog W 0 (fun _ => true) true Try.f3.params.toList args.toList ds p := hA0
  rw [Try.params3] at hA hval
  obtain ⟨v0, vs0, d0, ds0, p0, q0, hargs, rfl, rfl, h0, r0⟩ := trodAll_cons hA
  obtain ⟨rfl, rfl, rfl⟩ := trodAll_nil r0
  obtain rfl : args = #[v0] := by cases args; simp_all
  obtain ⟨rfl, rfl⟩ := trodVars_none hV
  have k0 := h0
  have lt0 : ∀ x ∈ p0, x.block < W.heap.size := by obtain ⟨m, hm⟩ := k0; exact DataW.trod_lt m _ _ _ hm
  obtain ⟨A0, n0, c0, l0, rfl, w0⟩ := open_code (hval 0 22 v0 rfl rfl) h0
  clear hA0 hval0
  refine (walk A0 n0 c0 l0 W w0).mono fun e W' ⟨he, bel⟩ => ?_
  subst he
  exact ⟨_, rfl, _, _, _, [], _, [], hW', trodAll_mk1 (shut_bool Try.underlying4 _), (trodAll_cons_mk (Below.trod laidOut (by kernel_rfl) (of_decide_eq_true (by kernel_rfl)) k0 bel lt0) trodAll_mk0), rfl, bel.frame _, fun h => by cases h⟩

theorem over : Rows.fnMaskOfRow.holds Try.pinned (OpenSpec.ofChange Rows.fnMaskOfSpec) :=
  OpenClaim.holds_of_wide 3 Try.f3 rfl rfl rfl rfl rfl rfl rfl ⟨rfl, rfl, rfl, rfl, rfl⟩ rfl rfl rfl rfl rfl (by kernel_rfl) Try.func3 (by kernel_rfl)
    (of_decide_eq_true (by kernel_rfl)) (by unfold Func.isWrapper; first | (rw [if_pos (by decide +kernel)]; kernel_rfl) | (rw [if_neg (by decide +kernel)]; exact ⟨rfl, rfl⟩))
    (fun os started H enc _ => lifted os started H enc)

theorem proved : Rows.FnMaskOfSaid := over
end Go.Proofs.Ytnaojafidhloeaa.fnMaskOf
