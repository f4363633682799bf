/-
For every code the law of bounds that differ only in bits without a name returns true.
Conditions: none.
-/
import Derived.Test.YtbkfagncoekbkaaGenG
import Derived.Test.YtbkfagncoekbkaaOpenC
import Derived.Test.YtbkfagncoekbkaaLFlag
import Derived.Test.YtbkfagncoekbkaaLAlg
import Derived.Test.YtbkfagncoekbkaaAlgI
import Derived.Test.YtbkfagncoekbkaaFlagT
import Derived.Test.YtbkfagncoekbkaaLKept
namespace Go.Proofs.Ytbkfagncoekbkaa.fnMakeValueBounds
open Go.ChangeShapes Go.WideShapes Go.ChangeAt Go.RowKit
open Go.ChangeMaps (open_string shut_string)
set_option linter.unusedVariables false
set_option maxRecDepth 100000

theorem vFlag_k {ds : List D} {b : Int} (hv : vFlag ds b = true) {k : Nat} (hk : k ≤ 3) : vFlag ds (k : Int) = true := by
  unfold vFlag; rw [vFlag_defs hv, decide_eq_true (show (0 : Int) ≤ (k : Int) by omega), decide_eq_true (show (k : Int) ≤ 3 by omega)]; rfl
theorem with_k {ds : List D} {b : Int} (hv : vFlag ds b = true) {k : Nat} (hk : k ≤ 3) : mWith ds b (k : Int) = true ∧ WithQ ds (k : Int) true ds (k : Int) := by
  refine ⟨?_, .inl ⟨rfl, rfl, rfl⟩⟩
  unfold mWith; rw [hv, vFlag_k hv hk]; rfl
theorem made_at {ds : List D} {k q : Nat} (hv : vFlag ds (k : Int) = true) (hq : q < 4096) : mValue ds (k : Int) (q : Int) = if q &&& mMask ds = q ∨ k = 3 then ((q : Int), 0) else if k = 1 then (((q &&& mMask ds : Nat) : Int), 0) else if k = 0 then (0, 2) else ((q : Int), 1) := by
  have hb := vFlag_bound hv
  rw [mValue_of hv (by omega) (by omega)]
  unfold mMade
  rw [if_neg (show ¬ (q : Int) < 0 by omega), Int.toNat_natCast]
  have h1 : nl q (mMask ds) = 0 ↔ q &&& mMask ds = q := by rw [has_and, Nat.and_comm]
  by_cases hz : q &&& mMask ds = q
  · rw [if_pos (h1.2 hz), if_pos (.inl hz)]
  · rw [if_neg (fun h => hz (h1.1 h))]
    rcases (show k = 0 ∨ k = 1 ∨ k = 2 ∨ k = 3 by omega) with rfl | rfl | rfl | rfl <;> simp [hz]

set_option maxHeartbeats 16000000 in
theorem walk (A : Option Addr) (n c : Nat) (zs : List Int) (w : World) (h : SB w w.heap.size A n c zs) :
    Calls Try.prog 7 #[.slice A n c] w fun e w' => e = .returned (.bool true) ∧ Below w.heap.size w w' := by
  have hm := h.max
  have hcap := h.cap
  unfold maxLen at hm
  have HS0 := Lib.hid h
  clear h
  by_cases hbig : 1048576 < (n : Int)
  · go_enter Try.func7, Try.ntmps7
    go_wp2
    go_ret
    exact ⟨rfl, Below.refl _ _⟩
  go_enter Try.func7, Try.ntmps7
  go_wp2_with fail
  refine (drawMakeValue_any A n c zs _ HS0.out).mono ?_
  rintro e w1 ⟨Aa, ca, dsa, ba, nb, rfl, hna, hsma, hbda, hnb, hsa, hb⟩
  have HB_1 := Lib.hid hb
  have Sa_1 := Lib.hid hsa
  have HSMa := Lib.hid hsma
  have HOKa : Hid (∀ d ∈ dsa, d.ok) := Lib.hid (fun d hd => small_ok (hsma d hd))
  have HBDa := Lib.hid hbda
  clear hb hsa hsma hbda
  obtain ⟨w2, hw⟩ : ∃ W : World, W = (w1.alloc (.cells #[.slice Aa dsa.length ca, .int .i64 ba] 25)) := ⟨_, rfl⟩
  have hb : Below w1.heap.size w1 w2 := by rw [hw]; exact ((Below.refl _ _).alloc (by first | exact Nat.le_refl _ | (simp; done) | (simp; omega)) _)
  have Sa_2 := Lib.hid ((Sa_1.out.below hb).call hb.size)
  have HB_2 : Hid (Below w.heap.size w w2) := Lib.hid (HB_1.out.trans (hb.mono HB_1.out.size))
  have ba_2 : w2.cell? ⟨w1.heap.size, 0, none⟩ = some (.slice Aa dsa.length ca) := by rw [hw]; simp [go_sem]
  have va_2 : w2.cell? ⟨w1.heap.size, 1, none⟩ = some (.int .i64 ba) := by rw [hw]; simp [go_sem]
  have lf_ba : (w1.alloc (.cells #[.slice Aa dsa.length ca, .int .i64 ba] 25)).cell? ⟨w1.heap.size, 0, none⟩ = some (.slice Aa dsa.length ca) := by rw [← hw]; exact ba_2
  have lf_va : (w1.alloc (.cells #[.slice Aa dsa.length ca, .int .i64 ba] 25)).cell? ⟨w1.heap.size, 1, none⟩ = some (.int .i64 ba) := by rw [← hw]; exact va_2
  have HW2 : Hid ((w1.alloc (.cells #[.slice Aa dsa.length ca, .int .i64 ba] 25)) = w2) := Lib.hid hw.symm
  clear hb hw Sa_1 HB_1
  obtain ⟨x, hx⟩ : ∃ x, (mValue dsa ba nb).1 = x := ⟨_, rfl⟩
  obtain ⟨y, hy⟩ : ∃ y, (mValue dsa ba nb).2 = y := ⟨_, rfl⟩
  obtain ⟨vf, hvf⟩ : ∃ vf, vFlag dsa ba = vf := ⟨_, rfl⟩
  have HX := Lib.hid hx
  have HY := Lib.hid hy
  have HF := Lib.hid hvf
  clear hx hy hvf
  go_wp2_with fail
  rw [HW2.out]
  clear lf_ba lf_va
  refine (implMake_v dsa ba nb _ _ _ _ Sa_2.out (by omega) HX.out HY.out).mono ?_
  rintro e w3 ⟨rfl, hb⟩
  have ba_3 := keep1 hb ba_2
  have va_3 := keep1 hb va_2
  have Sa_3 := Lib.hid ((Sa_2.out.below hb).call hb.size)
  have HB_3 : Hid (Below w.heap.size w w3) := Lib.hid (HB_2.out.trans (hb.mono HB_2.out.size))
  clear hb  ba_2 va_2 Sa_2 HB_2
  go_wp2_with fail
  refine (specMake_v dsa ba nb _ _ _ _ Sa_3.out HX.out HY.out).mono ?_
  rintro e w4 ⟨rfl, hb⟩
  have ba_4 := keep1 hb ba_3
  have va_4 := keep1 hb va_3
  have Sa_4 := Lib.hid ((Sa_3.out.below hb).call hb.size)
  have HB_4 : Hid (Below w.heap.size w w4) := Lib.hid (HB_3.out.trans (hb.mono HB_3.out.size))
  clear hb  ba_3 va_3 Sa_3 HB_3
  go_wp2_with fail
  refine (implVF_v dsa ba _ _ _ _ Sa_4.out (by omega) HF.out).mono ?_
  rintro e w5 ⟨rfl, hb⟩
  have ba_5 := keep1 hb ba_4
  have va_5 := keep1 hb va_4
  have Sa_5 := Lib.hid ((Sa_4.out.below hb).call hb.size)
  have HB_5 : Hid (Below w.heap.size w w5) := Lib.hid (HB_4.out.trans (hb.mono HB_4.out.size))
  clear hb  ba_4 va_4 Sa_4 HB_4
  cases vf
  · skip
    go_wp2
    go_ret
    exact ⟨rfl, HB_5.out⟩
  by_cases h1 : nb < 0
  · skip
    go_wp2
    go_ret
    exact ⟨rfl, HB_5.out⟩
  by_cases h2 : 4095 < nb
  · skip
    go_wp2
    go_ret
    exact ⟨rfl, HB_5.out⟩
  obtain ⟨q, rfl⟩ : ∃ q : Nat, nb = q := ⟨nb.toNat, by omega⟩
  have hq : q < 4096 := by omega
  obtain ⟨m, qm⟩ : ∃ m, mMask dsa = m := ⟨_, rfl⟩
  have hm : m < 4096 := by rw [← qm]; exact mMask_lt12 (vFlag_in HF.out)
  have HMK : Hid (mMaskOf dsa ba = (m : Int)) := Lib.hid (by rw [← qm]; exact if_yes HF.out)
  obtain ⟨z, qz⟩ : ∃ z, q &&& m = z := ⟨_, rfl⟩
  have HAN : Hid (mOp andN dsa 3 (q : Nat) (m : Nat) = (z : Int)) := Lib.hid (op_is (mIsV_of (vFlag_3 HF.out) hq (.inl rfl)) (mIsV_of (vFlag_3 HF.out) hm (.inl rfl)) qz)
  have HAT : Hid (∀ k : Nat, k ≤ 3 → mValue dsa (k : Int) (q : Int) = if z = q ∨ k = 3 then ((q : Int), 0) else if k = 1 then ((z : Int), 0) else if k = 0 then (0, 2) else ((q : Int), 1)) := Lib.hid (fun k hk => by rw [← qz, ← qm]; exact made_at (vFlag_k HF.out hk) hq)
  clear qm qz HX HY
  go_wp2_with fail
  go_region_held3 (fun w' => w'.cell? ⟨w1.heap.size, 0, none⟩ = some (.slice Aa dsa.length ca) ∧ w'.cell? ⟨w1.heap.size, 1, none⟩ = some (.int .i64 ba))
    (first | go_keep | exact ⟨ba_5, va_5⟩ | exact ⟨ba_6, va_6⟩ | exact ⟨ba_7, va_7⟩ | exact ⟨ba_8, va_8⟩)
    (first
      | (go_at_call 24; refine (kept_any dsa ba _ _ _ _ (Sa_5.out.drewN 1) (by omega) HF.out).mono ?_; rintro e w6 ⟨Ak, ck, rfl, ho2, hb⟩; replace hb : Below w5.heap.size w5 w6 := (by first | exact hb | exact undrew hb); have ba_6 := keep1 hb ba_5; have va_6 := keep1 hb va_5; have Sa_6 := Lib.hid ((Sa_5.out.below hb).call hb.size); have HB_6 : Hid (Below w.heap.size w w6) := Lib.hid (HB_5.out.trans (hb.mono HB_5.out.size)); have Sk_6 := Lib.hid (sd_of_own ho2 HOKa.out); clear hb)
      | (go_at_call 31; refine (implMaskOf_v dsa ba _ _ _ _ Sa_6.out (by omega) HMK.out).mono ?_; rintro e w7 ⟨rfl, hb⟩; have ba_7 := keep1 hb ba_6; have va_7 := keep1 hb va_6; have Sa_7 := Lib.hid ((Sa_6.out.below hb).call hb.size); have Sk_7 := Lib.hid ((Sk_6.out.below hb).call hb.size); have HB_7 : Hid (Below w.heap.size w w7) := Lib.hid (HB_6.out.trans (hb.mono HB_6.out.size)); clear hb)
      | (go_at_call 39; refine (implAnd_v dsa 3 q m _ _ _ _ Sk_7.out (by omega) HAN.out).mono ?_; rintro e w8 ⟨rfl, hb⟩; have ba_8 := keep1 hb ba_7; have va_8 := keep1 hb va_7; have Sa_8 := Lib.hid ((Sa_7.out.below hb).call hb.size); have Sk_8 := Lib.hid ((Sk_7.out.below hb).call hb.size); have HB_8 : Hid (Below w.heap.size w w8) := Lib.hid (HB_7.out.trans (hb.mono HB_7.out.size)); clear hb))
  clear Sk_8
  go_wp2_with fail
  go_loopw [10] (fun i wr => ∃ (k : Nat), k ≤ 4 ∧ i = .int .i64 k ∧ Hid (Below w.heap.size w wr) ∧ Hid (wr.cell? ⟨w1.heap.size, 0, none⟩ = some (.slice Aa dsa.length ca)) ∧ Hid (wr.cell? ⟨w1.heap.size, 1, none⟩ = some (.int .i64 ba)) ∧ Hid (SD wr wr.heap.size Aa dsa.length ca dsa)) (fun i _ => 4 - (intOf i).toNat)
  case atStart => exact ⟨0, Nat.zero_le _, rfl, HB_8, Lib.hid ba_8, Lib.hid va_8, Sa_8⟩
  case round =>
    obtain ⟨k, hk, rfl, hbel, hca, hcv, hsa⟩ := hrel
    clear ba_8 va_8 HB_8 Sa_8
    have y1 := hca.out
    have y2 := hcv.out
    clear hca hcv
    by_cases hlt : k ≤ 3
    · have hi1 : (k : Int) ≤ 3 := by omega
      obtain ⟨hm1, hm2⟩ := with_k HF.out hlt
      have HM1 := Lib.hid hm1
      have HM2 := Lib.hid hm2
      have HVK := Lib.hid (vFlag_k HF.out hlt)
      clear hm1 hm2
      obtain ⟨x2, hx2⟩ : ∃ x2, (mValue dsa (k : Int) (q : Int)).1 = x2 := ⟨_, rfl⟩
      obtain ⟨y2', hy2⟩ : ∃ y2, (mValue dsa (k : Int) (q : Int)).2 = y2 := ⟨_, rfl⟩
      have HX2 := Lib.hid hx2
      have HY2 := Lib.hid hy2
      clear hx2 hy2
      obtain ⟨w40, hwn⟩ : ∃ W : World, W = wr := ⟨_, rfl⟩
      subst hwn
      have HB_40 := hbel
      have ba_40 := y1
      have va_40 := y2
      have Sa_40 := hsa
      clear hbel y1 y2 hsa
      go_wp2_with fail
      refine (implWith_any dsa ba k _ _ _ _ Sa_40.out (by omega) HM1.out HM2.out).mono ?_
      rintro e w41 ⟨Ag, cg, rfl, ho, hb⟩
      have ba_41 := keep1 hb ba_40
      have va_41 := keep1 hb va_40
      have Sa_41 := Lib.hid ((Sa_40.out.below hb).call hb.size)
      have HB_41 : Hid (Below w.heap.size w w41) := Lib.hid (HB_40.out.trans (hb.mono HB_40.out.size))
      have Sg_41 := Lib.hid (sd_of_own ho HOKa.out)
      clear hb ho ba_40 va_40 Sa_40 HB_40
      obtain ⟨w42, hw⟩ : ∃ W : World, W = (w41.alloc (.cells #[.slice Ag dsa.length cg, .int .i64 k] 25)) := ⟨_, rfl⟩
      have hb : Below w41.heap.size w41 w42 := by rw [hw]; exact ((Below.refl _ _).alloc (by first | exact Nat.le_refl _ | (simp; done) | (simp; omega)) _)
      have ba_42 := keep1 hb ba_41
      have va_42 := keep1 hb va_41
      have Sa_42 := Lib.hid ((Sa_41.out.below hb).call hb.size)
      have Sg_42 := Lib.hid ((Sg_41.out.below hb).call hb.size)
      have HB_42 : Hid (Below w.heap.size w w42) := Lib.hid (HB_41.out.trans (hb.mono HB_41.out.size))
      have bg_42 : w42.cell? ⟨w41.heap.size, 0, none⟩ = some (.slice Ag dsa.length cg) := by rw [hw]; simp [go_sem]
      have vg_42 : w42.cell? ⟨w41.heap.size, 1, none⟩ = some (.int .i64 k) := by rw [hw]; simp [go_sem]
      have lf_ba : (w41.alloc (.cells #[.slice Ag dsa.length cg, .int .i64 k] 25)).cell? ⟨w1.heap.size, 0, none⟩ = some (.slice Aa dsa.length ca) := by rw [← hw]; exact ba_42
      have lf_va : (w41.alloc (.cells #[.slice Ag dsa.length cg, .int .i64 k] 25)).cell? ⟨w1.heap.size, 1, none⟩ = some (.int .i64 ba) := by rw [← hw]; exact va_42
      have lf_bg : (w41.alloc (.cells #[.slice Ag dsa.length cg, .int .i64 k] 25)).cell? ⟨w41.heap.size, 0, none⟩ = some (.slice Ag dsa.length cg) := by rw [← hw]; exact bg_42
      have lf_vg : (w41.alloc (.cells #[.slice Ag dsa.length cg, .int .i64 k] 25)).cell? ⟨w41.heap.size, 1, none⟩ = some (.int .i64 k) := by rw [← hw]; exact vg_42
      have HW42 : Hid ((w41.alloc (.cells #[.slice Ag dsa.length cg, .int .i64 k] 25)) = w42) := Lib.hid hw.symm
      clear hb hw ba_41 va_41 Sa_41 Sg_41 HB_41
      go_wp2_with fail
      rw [HW42.out]
      clear lf_ba lf_va lf_bg lf_vg
      refine (implMake_v dsa k q _ _ _ _ Sg_42.out (by omega) HX2.out HY2.out).mono ?_
      rintro e w43 ⟨rfl, hb⟩
      have ba_43 := keep1 hb ba_42
      have va_43 := keep1 hb va_42
      have bg_43 := keep1 hb bg_42
      have vg_43 := keep1 hb vg_42
      have Sa_43 := Lib.hid ((Sa_42.out.below hb).call hb.size)
      have Sg_43 := Lib.hid ((Sg_42.out.below hb).call hb.size)
      have HB_43 : Hid (Below w.heap.size w w43) := Lib.hid (HB_42.out.trans (hb.mono HB_42.out.size))
      clear hb  ba_42 va_42 bg_42 vg_42 Sa_42 Sg_42 HB_42
      have hat := HAT.out k hlt
      by_cases hz : z = q
      · rw [if_pos (.inl hz)] at hat
        obtain rfl : x2 = (q : Int) := by rw [← HX2.out, hat]
        obtain rfl : y2' = 0 := by rw [← HY2.out, hat]
        have e1 : ((z : Int) == (q : Int)) = true := by rw [beq_iff_eq]; omega
        clear hat hz
        go_wp2
        go_roundw
        case rel => exact ⟨k + 1, by omega, by go_num, HB_43, Lib.hid ba_43, Lib.hid va_43, Sa_43⟩
        case measure => simp [intOf]; omega
      · have e1 : ((z : Int) == (q : Int)) = false := by rw [beq_eq_false_iff_ne]; omega
        have hc := (show k = 0 ∨ k = 1 ∨ k = 2 ∨ k = 3 by omega)
        rcases hc with rfl | rfl | rfl | rfl
        · simp [hz] at hat
          obtain rfl : x2 = 0 := by rw [← HX2.out]; first | rw [hat] | exact congrArg Prod.fst hat
          obtain rfl : y2' = 2 := by rw [← HY2.out]; first | rw [hat] | exact congrArg Prod.snd hat
          clear hat hz
          go_wp2
          go_roundw
          case rel => exact ⟨1, by omega, by go_num, HB_43, Lib.hid ba_43, Lib.hid va_43, Sa_43⟩
          case measure => simp [intOf]
        · simp [hz] at hat
          obtain rfl : x2 = (z : Int) := by rw [← HX2.out]; first | rw [hat] | exact congrArg Prod.fst hat
          obtain rfl : y2' = 0 := by rw [← HY2.out]; first | rw [hat] | exact congrArg Prod.snd hat
          clear hat hz
          go_wp2
          go_roundw
          case rel => exact ⟨2, by omega, by go_num, HB_43, Lib.hid ba_43, Lib.hid va_43, Sa_43⟩
          case measure => simp [intOf]
        · simp [hz] at hat
          obtain rfl : x2 = (q : Int) := by rw [← HX2.out]; first | rw [hat] | exact congrArg Prod.fst hat
          obtain rfl : y2' = 1 := by rw [← HY2.out]; first | rw [hat] | exact congrArg Prod.snd hat
          clear hat hz
          go_wp2
          go_roundw
          case rel => exact ⟨3, by omega, by go_num, HB_43, Lib.hid ba_43, Lib.hid va_43, Sa_43⟩
          case measure => simp [intOf]
        · simp [hz] at hat
          obtain rfl : x2 = (q : Int) := by rw [← HX2.out]; first | rw [hat] | exact congrArg Prod.fst hat
          obtain rfl : y2' = 0 := by rw [← HY2.out]; first | rw [hat] | exact congrArg Prod.snd hat
          clear hat hz
          go_wp2
          go_roundw
          case rel => exact ⟨4, by omega, by go_num, HB_43, Lib.hid ba_43, Lib.hid va_43, Sa_43⟩
          case measure => simp [intOf]
    · obtain rfl : k = 4 := by omega
      have hi1 : ¬ ((4 : Nat) : Int) ≤ 3 := by omega
      go_wp2
      go_ret
      exact ⟨rfl, hbel.out⟩

theorem lifted (os : Os) (started : os.Started) (H : Type) (enc : TypeId × Value → H) :
    ReturnsInHanded {} Try.checked os 7 .any (Rows.fnMakeValueBoundsSpec.pre6 enc Try.prog Try.f7 Rows.fnMakeValueBoundsRow.domain false) (Rows.fnMakeValueBoundsSpec.post enc Try.prog Try.f7 false true false false) := by
  refine returnsInHanded_of_change (C := Try.checked) own started (by kernel_rfl) Try.func7
    (ChangeSpec.witness6 (enc := enc) (C := Try.checked) false ⟨#[], #[.slice none 0 0], []⟩ 8 (by kernel_rfl) (by kernel_rfl) (by kernel_rfl) (by kernel_rfl)) ?_
  intro W base args ds gs before hval0 hW hcnd _
  have hval : ∀ (j : Nat) t v, Try.f7.params[j]? = some t → args[j]? = some v → Value.okWide Try.prog W .any base t v := hval0
  have hW' := hW
  obtain ⟨p, q, hA0, hV, rfl, hfz, hnd⟩ := hW
  have hA : DataW.TrodAll enc Try.prog W 0 (fun _ => true) true Try.f7.params.toList args.toList ds p := hA0
  rw [Try.params7] at hA hval
  obtain ⟨v0, vs0, d0, ds0, p0, q0, hargs, rfl, rfl, h0, r0⟩ := trodAll_cons hA
  obtain ⟨rfl, rfl, rfl⟩ := trodAll_nil r0
  obtain rfl : args = #[v0] := by cases args; simp_all
  obtain ⟨rfl, rfl⟩ := trodVars_none hV
  have k0 := h0
  have lt0 : ∀ x ∈ p0, x.block < W.heap.size := by obtain ⟨m, hm⟩ := k0; exact DataW.trod_lt m _ _ _ hm
  obtain ⟨A0, n0, c0, l0, rfl, w0⟩ := open_code (hval 0 22 v0 rfl rfl) h0
  clear hA0 hval0
  refine (walk A0 n0 c0 l0 W w0).mono fun e W' ⟨he, bel⟩ => ?_
  subst he
  exact ⟨_, rfl, _, _, _, [], _, [], hW', trodAll_mk1 (shut_bool Try.underlying4 _), (trodAll_cons_mk (Below.trod laidOut (by kernel_rfl) (of_decide_eq_true (by kernel_rfl)) k0 bel lt0) trodAll_mk0), rfl, bel.frame _, fun h => by cases h⟩

theorem over : Rows.fnMakeValueBoundsRow.holds Try.pinned (OpenSpec.ofChange Rows.fnMakeValueBoundsSpec) :=
  OpenClaim.holds_of_wide 7 Try.f7 rfl rfl rfl rfl rfl rfl rfl ⟨rfl, rfl, rfl, rfl, rfl⟩ rfl rfl rfl rfl rfl (by kernel_rfl) Try.func7 (by kernel_rfl)
    (of_decide_eq_true (by kernel_rfl)) (by unfold Func.isWrapper; first | (rw [if_pos (by decide +kernel)]; kernel_rfl) | (rw [if_neg (by decide +kernel)]; exact ⟨rfl, rfl⟩))
    (fun os started H enc _ => lifted os started H enc)

theorem proved : Rows.FnMakeValueBoundsSaid := over
end Go.Proofs.Ytbkfagncoekbkaa.fnMakeValueBounds
