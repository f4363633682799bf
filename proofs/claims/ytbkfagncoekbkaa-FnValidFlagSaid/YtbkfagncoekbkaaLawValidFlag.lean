/-
For every code the law of classes of flags that can have all bounds returns true: the program's ValidFlag answers as its model; a valid class is valid with each bound, and with its last name left out.
Conditions: none.
-/
import Derived.Test.YtbkfagncoekbkaaGenG
import Derived.Test.YtbkfagncoekbkaaOpenC
import Derived.Test.YtbkfagncoekbkaaLFlag
import Derived.Test.YtbkfagncoekbkaaLSpc
namespace Go.Proofs.Ytbkfagncoekbkaa.fnValidFlag
open Go.ChangeShapes Go.WideShapes Go.ChangeAt Go.RowKit
open Go.ChangeMaps (open_string shut_string)
set_option linter.unusedVariables false
set_option maxRecDepth 100000

theorem vFlag_k {ds : List D} {b : Int} (hv : vFlag ds b = true) {k : Nat} (hk : k ≤ 3) : vFlag ds (k : Int) = true := by
  unfold vFlag; rw [vFlag_defs hv, decide_eq_true (show (0 : Int) ≤ (k : Int) by omega), decide_eq_true (show (k : Int) ≤ 3 by omega)]; rfl
theorem with_k {ds : List D} {b : Int} (hv : vFlag ds b = true) {k : Nat} (hk : k ≤ 3) : mWith ds b (k : Int) = true ∧ WithQ ds (k : Int) true ds (k : Int) := by
  refine ⟨?_, .inl ⟨rfl, rfl, rfl⟩⟩
  unfold mWith; rw [hv, vFlag_k hv hk]; rfl
theorem vFlag_take {ds : List D} {b : Int} (h : vFlag ds b = true) (k : Nat) : vFlag (ds.take k) b = true := by
  have hd := vFlag_defs h
  have hl := vDefs_len hd
  have hg := vDefs_good hd
  have hb := vFlag_bound h
  unfold vFlag vDefs
  rw [decide_eq_true (show (ds.take k).length ≤ 12 by simp; omega), decide_eq_true hb.1, decide_eq_true hb.2, Bool.and_true, Bool.and_true, Bool.and_true, decide_eq_true_eq]
  intro i hi _
  have hi2 : i < k ∧ i < ds.length := by simp at hi; omega
  have := hg i hi2.2 hi2.2
  rw [List.getElem_take]
  unfold goodAt at this ⊢
  rw [List.take_take, Nat.min_eq_left (by omega)]
  exact this

set_option maxHeartbeats 16000000 in
theorem walk (A : Option Addr) (n c : Nat) (zs : List Int) (w : World) (h : SB w w.heap.size A n c zs) :
    Calls Try.prog 3 #[.slice A n c] w fun e w' => e = .returned (.bool true) ∧ Below w.heap.size w w' := by
  have hm := h.max
  have hcap := h.cap
  unfold maxLen at hm
  have HS0 := Lib.hid h
  clear h
  by_cases hbig : 1048576 < (n : Int)
  · go_enter Try.func3, Try.ntmps3
    go_wp2
    go_ret
    exact ⟨rfl, Below.refl _ _⟩
  go_enter Try.func3, Try.ntmps3
  go_wp2_with fail
  refine (drawValidFlag_any A n c zs _ HS0.out).mono ?_
  rintro e w1 ⟨Aa, ca, dsa, ba, rfl, hna, hsma, hbda, hsa, hb⟩
  have HB_1 := Lib.hid hb
  have Sa_1 := Lib.hid hsa
  have HSMa := Lib.hid hsma
  have HOKa : Hid (∀ d ∈ dsa, d.ok) := Lib.hid (fun d hd => small_ok (hsma d hd))
  have HBDa := Lib.hid hbda
  clear hb hsa hsma hbda
  obtain ⟨w2, hw⟩ : ∃ W : World, W = (w1.alloc (.cells #[.slice Aa dsa.length ca, .int .i64 ba] 25)) := ⟨_, rfl⟩
  have hb : Below w1.heap.size w1 w2 := by rw [hw]; exact ((Below.refl _ _).alloc (by first | exact Nat.le_refl _ | (simp; done) | (simp; omega)) _)
  have Sa_2 := Lib.hid ((Sa_1.out.below hb).call hb.size)
  have HB_2 : Hid (Below w.heap.size w w2) := Lib.hid (HB_1.out.trans (hb.mono HB_1.out.size))
  have ba_2 : w2.cell? ⟨w1.heap.size, 0, none⟩ = some (.slice Aa dsa.length ca) := by rw [hw]; simp [go_sem]
  have va_2 : w2.cell? ⟨w1.heap.size, 1, none⟩ = some (.int .i64 ba) := by rw [hw]; simp [go_sem]
  have lf_ba : (w1.alloc (.cells #[.slice Aa dsa.length ca, .int .i64 ba] 25)).cell? ⟨w1.heap.size, 0, none⟩ = some (.slice Aa dsa.length ca) := by rw [← hw]; exact ba_2
  have lf_va : (w1.alloc (.cells #[.slice Aa dsa.length ca, .int .i64 ba] 25)).cell? ⟨w1.heap.size, 1, none⟩ = some (.int .i64 ba) := by rw [← hw]; exact va_2
  have HW2 : Hid ((w1.alloc (.cells #[.slice Aa dsa.length ca, .int .i64 ba] 25)) = w2) := Lib.hid hw.symm
  clear hb hw Sa_1 HB_1
  obtain ⟨vf, hvf⟩ : ∃ vf, vFlag dsa ba = vf := ⟨_, rfl⟩
  have HF := Lib.hid hvf
  clear hvf
  go_wp2_with fail
  rw [HW2.out]
  clear lf_ba lf_va
  refine (implVF_v dsa ba _ _ _ _ Sa_2.out (by omega) HF.out).mono ?_
  rintro e w3 ⟨rfl, hb⟩
  have ba_3 := keep1 hb ba_2
  have va_3 := keep1 hb va_2
  have Sa_3 := Lib.hid ((Sa_2.out.below hb).call hb.size)
  have HB_3 : Hid (Below w.heap.size w w3) := Lib.hid (HB_2.out.trans (hb.mono HB_2.out.size))
  clear hb  ba_2 va_2 Sa_2 HB_2
  go_wp2_with fail
  refine (specVF_w dsa ba _ _ _ _ Sa_3.out HF.out).mono ?_
  rintro e w4 ⟨rfl, hb⟩
  have ba_4 := keep1 hb ba_3
  have va_4 := keep1 hb va_3
  have Sa_4 := Lib.hid ((Sa_3.out.below hb).call hb.size)
  have HB_4 : Hid (Below w.heap.size w w4) := Lib.hid (HB_3.out.trans (hb.mono HB_3.out.size))
  clear hb  ba_3 va_3 Sa_3 HB_3
  cases vf
  · skip
    go_wp2_with fail
    refine (specVF_w dsa ba _ _ _ _ Sa_4.out HF.out).mono ?_
    rintro e w5 ⟨rfl, hb⟩
    have ba_5 := keep1 hb ba_4
    have va_5 := keep1 hb va_4
    have Sa_5 := Lib.hid ((Sa_4.out.below hb).call hb.size)
    have HB_5 : Hid (Below w.heap.size w w5) := Lib.hid (HB_4.out.trans (hb.mono HB_4.out.size))
    clear hb  ba_4 va_4 Sa_4 HB_4
    go_wp2
    go_ret
    exact ⟨rfl, HB_5.out⟩
  have HT := Lib.hid (vFlag_take HF.out (dsa.length - 1))
  go_wp2_with fail
  go_loopw [5] (fun i wr => ∃ (k : Nat), k ≤ 4 ∧ i = .int .i64 k ∧ Hid (Below w.heap.size w wr) ∧ Hid (wr.cell? ⟨w1.heap.size, 0, none⟩ = some (.slice Aa dsa.length ca)) ∧ Hid (wr.cell? ⟨w1.heap.size, 1, none⟩ = some (.int .i64 ba)) ∧ Hid (SD wr wr.heap.size Aa dsa.length ca dsa)) (fun i _ => 4 - (intOf i).toNat)
  case atStart => exact ⟨0, Nat.zero_le _, rfl, HB_4, Lib.hid ba_4, Lib.hid va_4, Sa_4⟩
  case round =>
    obtain ⟨k, hk, rfl, hbel, hca, hcv, hsa⟩ := hrel
    clear ba_4 va_4 HB_4 Sa_4
    have y1 := hca.out
    have y2 := hcv.out
    clear hca hcv
    by_cases hlt : k ≤ 3
    · have hi1 : (k : Int) ≤ 3 := by omega
      obtain ⟨hm1, hm2⟩ := with_k HF.out hlt
      have HM1 := Lib.hid hm1
      have HM2 := Lib.hid hm2
      have HVK := Lib.hid (vFlag_k HF.out hlt)
      clear hm1 hm2
      obtain ⟨w40, hwn⟩ : ∃ W : World, W = wr := ⟨_, rfl⟩
      subst hwn
      have HB_40 := hbel
      have ba_40 := y1
      have va_40 := y2
      have Sa_40 := hsa
      clear hbel y1 y2 hsa
      go_wp2_with fail
      refine (implWith_any dsa ba k _ _ _ _ Sa_40.out (by omega) HM1.out HM2.out).mono ?_
      rintro e w41 ⟨Ag, cg, rfl, ho, hb⟩
      have ba_41 := keep1 hb ba_40
      have va_41 := keep1 hb va_40
      have Sa_41 := Lib.hid ((Sa_40.out.below hb).call hb.size)
      have HB_41 : Hid (Below w.heap.size w w41) := Lib.hid (HB_40.out.trans (hb.mono HB_40.out.size))
      have Sg_41 := Lib.hid (sd_of_own ho HOKa.out)
      clear hb ho ba_40 va_40 Sa_40 HB_40
      obtain ⟨w42, hw⟩ : ∃ W : World, W = (w41.alloc (.cells #[.slice Ag dsa.length cg, .int .i64 k] 25)) := ⟨_, rfl⟩
      have hb : Below w41.heap.size w41 w42 := by rw [hw]; exact ((Below.refl _ _).alloc (by first | exact Nat.le_refl _ | (simp; done) | (simp; omega)) _)
      have ba_42 := keep1 hb ba_41
      have va_42 := keep1 hb va_41
      have Sa_42 := Lib.hid ((Sa_41.out.below hb).call hb.size)
      have Sg_42 := Lib.hid ((Sg_41.out.below hb).call hb.size)
      have HB_42 : Hid (Below w.heap.size w w42) := Lib.hid (HB_41.out.trans (hb.mono HB_41.out.size))
      have bg_42 : w42.cell? ⟨w41.heap.size, 0, none⟩ = some (.slice Ag dsa.length cg) := by rw [hw]; simp [go_sem]
      have vg_42 : w42.cell? ⟨w41.heap.size, 1, none⟩ = some (.int .i64 k) := by rw [hw]; simp [go_sem]
      have lf_ba : (w41.alloc (.cells #[.slice Ag dsa.length cg, .int .i64 k] 25)).cell? ⟨w1.heap.size, 0, none⟩ = some (.slice Aa dsa.length ca) := by rw [← hw]; exact ba_42
      have lf_va : (w41.alloc (.cells #[.slice Ag dsa.length cg, .int .i64 k] 25)).cell? ⟨w1.heap.size, 1, none⟩ = some (.int .i64 ba) := by rw [← hw]; exact va_42
      have lf_bg : (w41.alloc (.cells #[.slice Ag dsa.length cg, .int .i64 k] 25)).cell? ⟨w41.heap.size, 0, none⟩ = some (.slice Ag dsa.length cg) := by rw [← hw]; exact bg_42
      have lf_vg : (w41.alloc (.cells #[.slice Ag dsa.length cg, .int .i64 k] 25)).cell? ⟨w41.heap.size, 1, none⟩ = some (.int .i64 k) := by rw [← hw]; exact vg_42
      have HW42 : Hid ((w41.alloc (.cells #[.slice Ag dsa.length cg, .int .i64 k] 25)) = w42) := Lib.hid hw.symm
      clear hb hw ba_41 va_41 Sa_41 Sg_41 HB_41
      go_wp2_with fail
      rw [HW42.out]
      clear lf_ba lf_va lf_bg lf_vg
      refine (implVF_v dsa k _ _ _ _ Sg_42.out (by omega) HVK.out).mono ?_
      rintro e w43 ⟨rfl, hb⟩
      have ba_43 := keep1 hb ba_42
      have va_43 := keep1 hb va_42
      have bg_43 := keep1 hb bg_42
      have vg_43 := keep1 hb vg_42
      have Sa_43 := Lib.hid ((Sa_42.out.below hb).call hb.size)
      have Sg_43 := Lib.hid ((Sg_42.out.below hb).call hb.size)
      have HB_43 : Hid (Below w.heap.size w w43) := Lib.hid (HB_42.out.trans (hb.mono HB_42.out.size))
      clear hb  ba_42 va_42 bg_42 vg_42 Sa_42 Sg_42 HB_42
      go_wp2
      go_roundw
      case rel => exact ⟨k + 1, by omega, by go_num, HB_43, Lib.hid ba_43, Lib.hid va_43, Sa_43⟩
      case measure => simp [intOf]; omega
    · obtain rfl : k = 4 := by omega
      have hi1 : ¬ ((4 : Nat) : Int) ≤ 3 := by omega
      by_cases hz : dsa.length = 0
      · have hz1 : ((dsa.length : Int) == 0) = true := by rw [beq_iff_eq]; omega
        clear hz
        go_wp2
        go_quiet (fail)
        go_wp2
        go_ret
        exact ⟨rfl, below_drewN hbel.out _⟩
      · have hz1 : ((dsa.length : Int) == 0) = false := by rw [beq_eq_false_iff_ne]; omega
        obtain ⟨m, hm⟩ : ∃ m, dsa.length = m + 1 := ⟨dsa.length - 1, by omega⟩
        have hw : IntKind.i64.wrap ((dsa.length : Int) - 1) = (m : Int) := by rw [IntKind.wrap_i64]; have := hsa.out.max; unfold maxLen at this; omega
        have hle : (m : Int) ≤ (ca : Int) := by have := hsa.out.cap; omega
        have hle0 : (0 : Int) ≤ (m : Int) := by omega
        have HTK := Lib.hid (hsa.out.take_ m (by omega))
        have HT2 : Hid (vFlag (dsa.take m) ba = true) := Lib.hid (by have := HT.out; rwa [show dsa.length - 1 = m by omega] at this)
        have hm12 : m ≤ 12 := by omega
        clear hm
        clear hz
        obtain ⟨w40, hwn⟩ : ∃ W : World, W = wr := ⟨_, rfl⟩
        subst hwn
        have HB_40 := hbel
        have ba_40 := y1
        have va_40 := y2
        have Sa_40 := hsa
        have Sk_40 := HTK
        clear hbel y1 y2 hsa HTK
        go_wp2_with fail
        go_region_held3 (fun w' => w'.cell? ⟨w1.heap.size, 0, none⟩ = some (.slice Aa dsa.length ca) ∧ w'.cell? ⟨w1.heap.size, 1, none⟩ = some (.int .i64 ba))
          (first | go_keep | exact ⟨ba_40, va_40⟩ | exact ⟨ba_41, va_41⟩)
          (first
            | (go_at_call 16; refine (implVF_v (dsa.take m) ba _ _ _ _ (Sk_40.out.drewN 1) (by omega) HT2.out).mono ?_; rintro e w41 ⟨rfl, hb⟩; replace hb : Below w40.heap.size w40 w41 := (by first | exact hb | exact undrew hb); have ba_41 := keep1 hb ba_40; have va_41 := keep1 hb va_40; have Sa_41 := Lib.hid ((Sa_40.out.below hb).call hb.size); have Sk_41 := Lib.hid ((Sk_40.out.below hb).call hb.size); have HB_41 : Hid (Below w.heap.size w w41) := Lib.hid (HB_40.out.trans (hb.mono HB_40.out.size)); clear hb))
        go_wp2
        go_ret
        exact ⟨rfl, HB_41.out⟩

theorem lifted (os : Os) (started : os.Started) (H : Type) (enc : TypeId × Value → H) :
    ReturnsInHanded {} Try.checked os 3 .any (Rows.fnValidFlagSpec.pre6 enc Try.prog Try.f3 Rows.fnValidFlagRow.domain false) (Rows.fnValidFlagSpec.post enc Try.prog Try.f3 false true false false) := by
  refine returnsInHanded_of_change (C := Try.checked) own started (by kernel_rfl) Try.func3
    (ChangeSpec.witness6 (enc := enc) (C := Try.checked) false ⟨#[], #[.slice none 0 0], []⟩ 8 (by kernel_rfl) (by kernel_rfl) (by kernel_rfl) (by kernel_rfl)) ?_
  intro W base args ds gs before hval0 hW hcnd _
  have hval : ∀ (j : Nat) t v, Try.f3.params[j]? = some t → args[j]? = some v → Value.okWide Try.prog W .any base t v := hval0
  have hW' := hW
  obtain ⟨p, q, hA0, hV, rfl, hfz, hnd⟩ := hW
  have hA : DataW.TrodAll enc Try.prog W 0 (fun _ => true) true Try.f3.params.toList args.toList ds p := hA0
  rw [Try.params3] at hA hval
  obtain ⟨v0, vs0, d0, ds0, p0, q0, hargs, rfl, rfl, h0, r0⟩ := trodAll_cons hA
  obtain ⟨rfl, rfl, rfl⟩ := trodAll_nil r0
  obtain rfl : args = #[v0] := by cases args; simp_all
  obtain ⟨rfl, rfl⟩ := trodVars_none hV
  have k0 := h0
  have lt0 : ∀ x ∈ p0, x.block < W.heap.size := by obtain ⟨m, hm⟩ := k0; exact DataW.trod_lt m _ _ _ hm
  obtain ⟨A0, n0, c0, l0, rfl, w0⟩ := open_code (hval 0 22 v0 rfl rfl) h0
  clear hA0 hval0
  refine (walk A0 n0 c0 l0 W w0).mono fun e W' ⟨he, bel⟩ => ?_
  subst he
  exact ⟨_, rfl, _, _, _, [], _, [], hW', trodAll_mk1 (shut_bool Try.underlying4 _), (trodAll_cons_mk (Below.trod laidOut (by kernel_rfl) (of_decide_eq_true (by kernel_rfl)) k0 bel lt0) trodAll_mk0), rfl, bel.frame _, fun h => by cases h⟩

theorem over : Rows.fnValidFlagRow.holds Try.pinned (OpenSpec.ofChange Rows.fnValidFlagSpec) :=
  OpenClaim.holds_of_wide 3 Try.f3 rfl rfl rfl rfl rfl rfl rfl ⟨rfl, rfl, rfl, rfl, rfl⟩ rfl rfl rfl rfl rfl (by kernel_rfl) Try.func3 (by kernel_rfl)
    (of_decide_eq_true (by kernel_rfl)) (by unfold Func.isWrapper; first | (rw [if_pos (by decide +kernel)]; kernel_rfl) | (rw [if_neg (by decide +kernel)]; exact ⟨rfl, rfl⟩))
    (fun os started H enc _ => lifted os started H enc)

theorem proved : Rows.FnValidFlagSaid := over
end Go.Proofs.Ytbkfagncoekbkaa.fnValidFlag
