/-
For every code the law of names taken in two parts returns true.
Conditions: none.
-/
import Derived.Test.YtmahjggkiikmgaaGenL
import Derived.Test.YtmahjggkiikmgaaOpenC
import Derived.Test.YtmahjggkiikmgaaLFlag
import Derived.Test.YtmahjggkiikmgaaLAlgR
import Derived.Test.YtmahjggkiikmgaaLAlgT
import Derived.Test.YtmahjggkiikmgaaAlgS
import Derived.Test.YtmahjggkiikmgaaAlgQ
import Derived.Test.YtmahjggkiikmgaaAlgJ
namespace Go.Proofs.Ytmahjggkiikmgaa.fnFromNames
open Go.ChangeShapes Go.WideShapes Go.ChangeAt Go.RowKit
open Go.ChangeMaps (open_string shut_string)
set_option linter.unusedVariables false
set_option maxRecDepth 100000

theorem rd_drop {w : World} {B b o : Nat} {ss : List ByteArray} (h : Rd w B 1 encS (some ⟨b, o, none⟩) ss) (k : Nat) : Rd w B 1 encS (some ⟨b, o + k, none⟩) (ss.drop k) := by
  rcases h with rfl | ⟨b', o', hA, hb, hc⟩
  · exact .inl (by simp)
  · cases hA
    refine .inr ⟨b, o + k, rfl, hb, fun i x hi j v hj => ?_⟩
    rw [List.getElem?_drop] at hi
    have := hc (k + i) x hi j v hj
    rw [show o + k + i * 1 + j = o + (k + i) * 1 + j by omega]
    exact this
theorem ss_take {w : World} {B n c k : Nat} {A : Option Addr} {ss : List ByteArray} (h : SS w B A n c ss) (hk : k ≤ n) : SS w B A k c (ss.take k) :=
  ⟨Rd.take_ h.rd k, by rw [List.length_take, h.len]; omega, by have := h.cap; omega, h.max, fun s hs => h.ok s (List.mem_of_mem_take hs)⟩
theorem ss_drop {w : World} {B b o n c k : Nat} {ss : List ByteArray} (h : SS w B (some ⟨b, o, none⟩) n c ss) (hk : k ≤ n) : SS w B (some ⟨b, o + k, none⟩) (n - k) (c - k) (ss.drop k) :=
  ⟨rd_drop h.rd k, by rw [List.length_drop, h.len], by have := h.cap; omega, by have := h.max; omega, fun s hs => h.ok s (List.mem_of_mem_drop hs)⟩
theorem ss_dropN {w : World} {B n c k : Nat} {ss : List ByteArray} (h : SS w B none n c ss) (hk : k ≤ n) : SS w B none (n - k) (c - k) (ss.drop k) := by
  refine ⟨.inl ?_, by rw [List.length_drop, h.len], by have := h.cap; omega, by have := h.max; omega, fun s hs => h.ok s (List.mem_of_mem_drop hs)⟩
  rcases h.rd with h1 | ⟨b', o', hA, _⟩
  · rw [h1]; simp
  · cases hA
theorem ss_nil {w : World} {B : Nat} {A : Option Addr} : SS w B A 0 0 [] := ⟨.inl rfl, rfl, Nat.le_refl _, by unfold maxLen; omega, by simp⟩
theorem ss_dropA {w : World} {B n c k : Nat} {a : Addr} {ss : List ByteArray} (h : SS w B (some a) n c ss) (hk : k ≤ n) : SS w B (some (a.add k)) (n - k) (c - k) (ss.drop k) := by
  refine ⟨?_, by rw [List.length_drop, h.len], by have := h.cap; omega, by have := h.max; omega, fun s hs => h.ok s (List.mem_of_mem_drop hs)⟩
  rcases h.rd with h1 | ⟨b', o', hA, hb, hrd⟩
  · rw [h1]; exact .inl (by simp)
  · cases hA
    have := rd_drop (.inr ⟨b', o', rfl, hb, hrd⟩ : Rd w B 1 encS (some ⟨b', o', none⟩) ss) k
    by_cases hk0 : k = 0
    · subst hk0; simpa [Addr.add] using this
    · simpa [Addr.add, hk0] using this
theorem from_ok {ds : List D} {b : Int} {ss : List ByteArray} (h : mFromOk ds b ss = true) (k : Nat) : mFromOk ds b (ss.take k) = true ∧ mFromOk ds b (ss.drop k) = true := by
  unfold mFromOk allN at *
  simp only [Bool.and_eq_true, List.all_eq_true] at *
  exact ⟨⟨h.1, fun s hs => h.2 s (List.mem_of_mem_take hs)⟩, ⟨h.1, fun s hs => h.2 s (List.mem_of_mem_drop hs)⟩⟩
theorem from_is {ds : List D} {b : Int} {ss : List ByteArray} (h : mFromOk ds b ss = true) : mFrom ds b ss = ((fromTo ds ss : Nat) : Int) ∧ mIsV ds b ((fromTo ds ss : Nat) : Int) = true := by
  refine ⟨by unfold mFrom; rw [h, if_pos rfl], ?_⟩
  unfold mFromOk at h
  rw [Bool.and_eq_true] at h
  exact mIsV_of h.1 (fromTo_lt (vFlag_in h.1) ss) (.inr (fromTo_part h.2))

set_option maxHeartbeats 16000000 in
theorem walk (A : Option Addr) (n c : Nat) (zs : List Int) (w : World) (h : SB w w.heap.size A n c zs) :
    Calls Try.prog 9 #[.slice A n c] w fun e w' => e = .returned (.bool true) ∧ Below w.heap.size w w' := by
  have hm := h.max
  have hcap := h.cap
  unfold maxLen at hm
  have HS0 := Lib.hid h
  clear h
  by_cases hbig : 1048576 < (n : Int)
  · go_enter Try.func9, Try.ntmps9
    go_wp2
    go_ret
    exact ⟨rfl, Below.refl _ _⟩
  go_enter Try.func9, Try.ntmps9
  go_wp2_with fail
  refine (drawFromNames_any A n c zs _ HS0.out).mono ?_
  rintro e w1 ⟨Aa, ca, dsa, ba, As, cs, ss, rfl, hna, hsma, hbda, hs3, hzz, hsa, hss, hb⟩
  have HB_1 := Lib.hid hb
  have Sa_1 := Lib.hid hsa
  have HSMa := Lib.hid hsma
  have HOKa : Hid (∀ d ∈ dsa, d.ok) := Lib.hid (fun d hd => small_ok (hsma d hd))
  have HBDa := Lib.hid hbda
  have Ss_1 := Lib.hid hss
  clear hb hsa hsma hbda hss
  obtain ⟨w2, hw⟩ : ∃ W : World, W = (w1.alloc (.cells #[.slice Aa dsa.length ca, .int .i64 ba] 25)) := ⟨_, rfl⟩
  have hb : Below w1.heap.size w1 w2 := by rw [hw]; exact ((Below.refl _ _).alloc (by first | exact Nat.le_refl _ | (simp; done) | (simp; omega)) _)
  have Sa_2 := Lib.hid ((Sa_1.out.below hb).call hb.size)
  have Ss_2 := Lib.hid ((Ss_1.out.below hb).call hb.size)
  have HB_2 : Hid (Below w.heap.size w w2) := Lib.hid (HB_1.out.trans (hb.mono HB_1.out.size))
  have ba_2 : w2.cell? ⟨w1.heap.size, 0, none⟩ = some (.slice Aa dsa.length ca) := by rw [hw]; simp [go_sem]
  have va_2 : w2.cell? ⟨w1.heap.size, 1, none⟩ = some (.int .i64 ba) := by rw [hw]; simp [go_sem]
  have lf_ba : (w1.alloc (.cells #[.slice Aa dsa.length ca, .int .i64 ba] 25)).cell? ⟨w1.heap.size, 0, none⟩ = some (.slice Aa dsa.length ca) := by rw [← hw]; exact ba_2
  have lf_va : (w1.alloc (.cells #[.slice Aa dsa.length ca, .int .i64 ba] 25)).cell? ⟨w1.heap.size, 1, none⟩ = some (.int .i64 ba) := by rw [← hw]; exact va_2
  have HW2 : Hid ((w1.alloc (.cells #[.slice Aa dsa.length ca, .int .i64 ba] 25)) = w2) := Lib.hid hw.symm
  clear hb hw Sa_1 Ss_1 HB_1
  obtain ⟨r, hr⟩ : ∃ r, mFrom dsa ba ss = r := ⟨_, rfl⟩
  obtain ⟨v, hv⟩ : ∃ v, mFromOk dsa ba ss = v := ⟨_, rfl⟩
  have HR := Lib.hid hr
  have HV := Lib.hid hv
  clear hr hv hzz
  go_wp2_with fail
  rw [HW2.out]
  clear lf_ba lf_va
  refine (implFrom_v dsa ba ss _ _ _ _ Sa_2.out _ _ _ Ss_2.out (by omega) HR.out HV.out).mono ?_
  rintro e w3 ⟨rfl, hb⟩
  have ba_3 := keep1 hb ba_2
  have va_3 := keep1 hb va_2
  have Sa_3 := Lib.hid ((Sa_2.out.below hb).call hb.size)
  have Ss_3 := Lib.hid ((Ss_2.out.below hb).call hb.size)
  have HB_3 : Hid (Below w.heap.size w w3) := Lib.hid (HB_2.out.trans (hb.mono HB_2.out.size))
  clear hb  ba_2 va_2 Sa_2 Ss_2 HB_2
  go_wp2_with fail
  refine (specFrom_v dsa ba ss _ _ _ _ Sa_3.out _ _ _ Ss_3.out HR.out HV.out).mono ?_
  rintro e w4 ⟨rfl, hb⟩
  have ba_4 := keep1 hb ba_3
  have va_4 := keep1 hb va_3
  have Sa_4 := Lib.hid ((Sa_3.out.below hb).call hb.size)
  have Ss_4 := Lib.hid ((Ss_3.out.below hb).call hb.size)
  have HB_4 : Hid (Below w.heap.size w w4) := Lib.hid (HB_3.out.trans (hb.mono HB_3.out.size))
  clear hb  ba_3 va_3 Sa_3 Ss_3 HB_3
  cases v
  · skip
    go_wp2
    go_ret
    exact ⟨rfl, HB_4.out⟩
  obtain ⟨k, hk⟩ : ∃ k, ss.length / 2 = k := ⟨_, rfl⟩
  have hkl : k ≤ ss.length := by omega
  have hcl : ss.length ≤ cs := Ss_4.out.cap
  obtain ⟨h1, h2⟩ := from_ok HV.out k
  obtain ⟨f0, g0⟩ := from_is HV.out
  obtain ⟨f1, g1⟩ := from_is h1
  obtain ⟨f2, g2⟩ := from_is h2
  have happ := fromTo_app dsa (ss.take k) (ss.drop k)
  rw [List.take_append_drop] at happ
  rw [HR.out] at f0
  generalize fromTo dsa ss = t0 at *
  generalize fromTo dsa (ss.take k) = t1 at *
  generalize fromTo dsa (ss.drop k) = t2 at *
  have hk2 : 2 * (k : Int) ≤ (ss.length : Int) := by omega
  have hdv : (ss.length : Int).tdiv 2 = (k : Int) := by rw [Int.tdiv_eq_ediv_of_nonneg (by omega)]; omega
  have HT1 := Lib.hid f1
  have HT2 := Lib.hid f2
  have HO1 := Lib.hid h1
  have HO2 := Lib.hid h2
  have HG0 := Lib.hid g0
  have H1 : Hid (mOp orN dsa ba (t1 : Nat) (t2 : Nat) = (t0 : Int)) := Lib.hid (op_is g1 g2 happ.symm)
  subst f0
  clear hk h1 h2 f1 f2 g0 g1 g2 happ
  have hi1 : (k : Int) ≤ (ss.length : Int) := by omega
  have hi2 : (ss.length : Int) ≤ (cs : Int) := by omega
  have hi3 : (k : Int) ≤ (cs : Int) := by omega
  have hi0 : (0 : Int) ≤ (k : Int) := by omega
  go_wp2_with fail
  go_region_held3 (fun w' => w'.cell? ⟨w1.heap.size, 0, none⟩ = some (.slice Aa dsa.length ca) ∧ w'.cell? ⟨w1.heap.size, 1, none⟩ = some (.int .i64 ba))
    (first | go_keep | exact ⟨ba_4, va_4⟩ | exact ⟨ba_5, va_5⟩)
    (first
      | (go_at_call 20; refine (implFrom_v dsa ba (ss.take k) _ _ _ _ (Sa_4.out.drewN 1) _ _ _ (ss_take (Ss_4.out.drewN 1) hkl) (by omega) HT1.out HO1.out).mono ?_; rintro e w5 ⟨rfl, hb⟩; replace hb : Below w4.heap.size w4 w5 := (by first | exact hb | exact undrew hb); have ba_5 := keep1 hb ba_4; have va_5 := keep1 hb va_4; have Sa_5 := Lib.hid ((Sa_4.out.below hb).call hb.size); have Ss_5 := Lib.hid ((Ss_4.out.below hb).call hb.size); have HB_5 : Hid (Below w.heap.size w w5) := Lib.hid (HB_4.out.trans (hb.mono HB_4.out.size)); clear hb))
  cases As
  · skip
    go_wp2_with fail
    go_region_held3 (fun w' => w'.cell? ⟨w1.heap.size, 0, none⟩ = some (.slice Aa dsa.length ca) ∧ w'.cell? ⟨w1.heap.size, 1, none⟩ = some (.int .i64 ba))
      (first | go_keep | exact ⟨ba_5, va_5⟩ | exact ⟨ba_6, va_6⟩)
      (first
        | (go_at_call 20; refine (implFrom_v dsa ba (ss.drop k) _ _ _ _ (Sa_5.out.drewN 1) _ _ _ (ss_dropN (Ss_5.out.drewN 1) hkl) (by omega) HT2.out HO2.out).mono ?_; rintro e w6 ⟨rfl, hb⟩; replace hb : Below w5.heap.size w5 w6 := (by first | exact hb | exact undrew hb); have ba_6 := keep1 hb ba_5; have va_6 := keep1 hb va_5; have Sa_6 := Lib.hid ((Sa_5.out.below hb).call hb.size); have Ss_6 := Lib.hid ((Ss_5.out.below hb).call hb.size); have HB_6 : Hid (Below w.heap.size w w6) := Lib.hid (HB_5.out.trans (hb.mono HB_5.out.size)); clear hb))
    go_wp2_with fail
    refine (implOr_v dsa ba t1 t2 _ _ _ _ Sa_6.out (by omega) H1.out).mono ?_
    rintro e w7 ⟨rfl, hb⟩
    have ba_7 := keep1 hb ba_6
    have va_7 := keep1 hb va_6
    have Sa_7 := Lib.hid ((Sa_6.out.below hb).call hb.size)
    have Ss_7 := Lib.hid ((Ss_6.out.below hb).call hb.size)
    have HB_7 : Hid (Below w.heap.size w w7) := Lib.hid (HB_6.out.trans (hb.mono HB_6.out.size))
    clear hb  ba_6 va_6 Sa_6 Ss_6 HB_6
    go_wp2_with fail
    refine (implIsV_v dsa ba t0 _ _ _ _ Sa_7.out (by omega) HG0.out).mono ?_
    rintro e w8 ⟨rfl, hb⟩
    have ba_8 := keep1 hb ba_7
    have va_8 := keep1 hb va_7
    have Sa_8 := Lib.hid ((Sa_7.out.below hb).call hb.size)
    have Ss_8 := Lib.hid ((Ss_7.out.below hb).call hb.size)
    have HB_8 : Hid (Below w.heap.size w w8) := Lib.hid (HB_7.out.trans (hb.mono HB_7.out.size))
    clear hb  ba_7 va_7 Sa_7 Ss_7 HB_7
    go_wp2
    go_ret
    exact ⟨rfl, HB_8.out⟩
  rename_i aa
  by_cases hck : cs = k
  · obtain rfl : k = 0 := by omega
    obtain rfl : cs = 0 := hck
    have hnil : ss = [] := List.eq_nil_of_length_eq_zero (by omega)
    subst hnil
    clear hi1 hi2 hi3 hi0 hdv
    go_wp2_with fail
    go_region_held3 (fun w' => w'.cell? ⟨w1.heap.size, 0, none⟩ = some (.slice Aa dsa.length ca) ∧ w'.cell? ⟨w1.heap.size, 1, none⟩ = some (.int .i64 ba))
      (first | go_keep | exact ⟨ba_5, va_5⟩ | exact ⟨ba_6, va_6⟩)
      (first
        | (go_at_call 20; refine (implFrom_v dsa ba (List.drop 0 []) _ _ _ _ (Sa_5.out.drewN 1) _ _ _ ss_nil (by omega) HT2.out HO2.out).mono ?_; rintro e w6 ⟨rfl, hb⟩; replace hb : Below w5.heap.size w5 w6 := (by first | exact hb | exact undrew hb); have ba_6 := keep1 hb ba_5; have va_6 := keep1 hb va_5; have Sa_6 := Lib.hid ((Sa_5.out.below hb).call hb.size); have Ss_6 := Lib.hid ((Ss_5.out.below hb).call hb.size); have HB_6 : Hid (Below w.heap.size w w6) := Lib.hid (HB_5.out.trans (hb.mono HB_5.out.size)); clear hb))
    go_wp2_with fail
    refine (implOr_v dsa ba t1 t2 _ _ _ _ Sa_6.out (by omega) H1.out).mono ?_
    rintro e w7 ⟨rfl, hb⟩
    have ba_7 := keep1 hb ba_6
    have va_7 := keep1 hb va_6
    have Sa_7 := Lib.hid ((Sa_6.out.below hb).call hb.size)
    have Ss_7 := Lib.hid ((Ss_6.out.below hb).call hb.size)
    have HB_7 : Hid (Below w.heap.size w w7) := Lib.hid (HB_6.out.trans (hb.mono HB_6.out.size))
    clear hb  ba_6 va_6 Sa_6 Ss_6 HB_6
    go_wp2_with fail
    refine (implIsV_v dsa ba t0 _ _ _ _ Sa_7.out (by omega) HG0.out).mono ?_
    rintro e w8 ⟨rfl, hb⟩
    have ba_8 := keep1 hb ba_7
    have va_8 := keep1 hb va_7
    have Sa_8 := Lib.hid ((Sa_7.out.below hb).call hb.size)
    have Ss_8 := Lib.hid ((Ss_7.out.below hb).call hb.size)
    have HB_8 : Hid (Below w.heap.size w w8) := Lib.hid (HB_7.out.trans (hb.mono HB_7.out.size))
    clear hb  ba_7 va_7 Sa_7 Ss_7 HB_7
    go_wp2
    go_ret
    exact ⟨rfl, HB_8.out⟩
  go_wp2_with fail
  go_region_held3 (fun w' => w'.cell? ⟨w1.heap.size, 0, none⟩ = some (.slice Aa dsa.length ca) ∧ w'.cell? ⟨w1.heap.size, 1, none⟩ = some (.int .i64 ba))
    (first | go_keep | exact ⟨ba_5, va_5⟩ | exact ⟨ba_6, va_6⟩)
    (first
      | (go_at_call 20; refine (implFrom_v dsa ba (ss.drop k) _ _ _ _ (Sa_5.out.drewN 1) _ _ _ (ss_dropA (Ss_5.out.drewN 1) hkl) (by omega) HT2.out HO2.out).mono ?_; rintro e w6 ⟨rfl, hb⟩; replace hb : Below w5.heap.size w5 w6 := (by first | exact hb | exact undrew hb); have ba_6 := keep1 hb ba_5; have va_6 := keep1 hb va_5; have Sa_6 := Lib.hid ((Sa_5.out.below hb).call hb.size); have Ss_6 := Lib.hid ((Ss_5.out.below hb).call hb.size); have HB_6 : Hid (Below w.heap.size w w6) := Lib.hid (HB_5.out.trans (hb.mono HB_5.out.size)); clear hb))
  go_wp2_with fail
  refine (implOr_v dsa ba t1 t2 _ _ _ _ Sa_6.out (by omega) H1.out).mono ?_
  rintro e w7 ⟨rfl, hb⟩
  have ba_7 := keep1 hb ba_6
  have va_7 := keep1 hb va_6
  have Sa_7 := Lib.hid ((Sa_6.out.below hb).call hb.size)
  have Ss_7 := Lib.hid ((Ss_6.out.below hb).call hb.size)
  have HB_7 : Hid (Below w.heap.size w w7) := Lib.hid (HB_6.out.trans (hb.mono HB_6.out.size))
  clear hb  ba_6 va_6 Sa_6 Ss_6 HB_6
  go_wp2_with fail
  refine (implIsV_v dsa ba t0 _ _ _ _ Sa_7.out (by omega) HG0.out).mono ?_
  rintro e w8 ⟨rfl, hb⟩
  have ba_8 := keep1 hb ba_7
  have va_8 := keep1 hb va_7
  have Sa_8 := Lib.hid ((Sa_7.out.below hb).call hb.size)
  have Ss_8 := Lib.hid ((Ss_7.out.below hb).call hb.size)
  have HB_8 : Hid (Below w.heap.size w w8) := Lib.hid (HB_7.out.trans (hb.mono HB_7.out.size))
  clear hb  ba_7 va_7 Sa_7 Ss_7 HB_7
  go_wp2
  go_ret
  exact ⟨rfl, HB_8.out⟩

theorem lifted (os : Os) (started : os.Started) (H : Type) (enc : TypeId × Value → H) :
    ReturnsInHanded {} Try.checked os 9 .any (Rows.fnFromNamesSpec.pre6 enc Try.prog Try.f9 Rows.fnFromNamesRow.domain false) (Rows.fnFromNamesSpec.post enc Try.prog Try.f9 false true false false) := by
  refine returnsInHanded_of_change (C := Try.checked) own started (by kernel_rfl) Try.func9
    (ChangeSpec.witness6 (enc := enc) (C := Try.checked) false ⟨#[], #[.slice none 0 0], []⟩ 8 (by kernel_rfl) (by kernel_rfl) (by kernel_rfl) (by kernel_rfl)) ?_
  intro W base args ds gs before hval0 hW hcnd _
  have hval : ∀ (j : Nat) t v, Try.f9.params[j]? = some t → args[j]? = some v → Value.okWide Try.prog W .any base t v := hval0
  have hW' := hW
  obtain ⟨p, q, hA0, hV, rfl, hfz, hnd⟩ := hW
  have hA : DataW.TrodAll enc Try.prog W 0 (fun _ => true) true Try.f9.params.toList args.toList ds p := hA0
  rw [Try.params9] at hA hval
  obtain ⟨v0, vs0, d0, ds0, p0, q0, hargs, rfl, rfl, h0, r0⟩ := trodAll_cons hA
  obtain ⟨rfl, rfl, rfl⟩ := trodAll_nil r0
  obtain rfl : args = #[v0] := by cases args; simp_all
  obtain ⟨rfl, rfl⟩ := trodVars_none hV
  have k0 := h0
  have lt0 : ∀ x ∈ p0, x.block < W.heap.size := by obtain ⟨m, hm⟩ := k0; exact DataW.trod_lt m _ _ _ hm
  obtain ⟨A0, n0, c0, l0, rfl, w0⟩ := open_code (hval 0 22 v0 rfl rfl) h0
  clear hA0 hval0
  refine (walk A0 n0 c0 l0 W w0).mono fun e W' ⟨he, bel⟩ => ?_
  subst he
  exact ⟨_, rfl, _, _, _, [], _, [], hW', trodAll_mk1 (shut_bool Try.underlying4 _), (trodAll_cons_mk (Below.trod laidOut (by kernel_rfl) (of_decide_eq_true (by kernel_rfl)) k0 bel lt0) trodAll_mk0), rfl, bel.frame _, fun h => by cases h⟩

theorem over : Rows.fnFromNamesRow.holds Try.pinned (OpenSpec.ofChange Rows.fnFromNamesSpec) :=
  OpenClaim.holds_of_wide 9 Try.f9 rfl rfl rfl rfl rfl rfl rfl ⟨rfl, rfl, rfl, rfl, rfl⟩ rfl rfl rfl rfl rfl (by kernel_rfl) Try.func9 (by kernel_rfl)
    (of_decide_eq_true (by kernel_rfl)) (by unfold Func.isWrapper; first | (rw [if_pos (by decide +kernel)]; kernel_rfl) | (rw [if_neg (by decide +kernel)]; exact ⟨rfl, rfl⟩))
    (fun os started H enc _ => lifted os started H enc)

theorem proved : Rows.FnFromNamesSaid := over
end Go.Proofs.Ytmahjggkiikmgaa.fnFromNames
