/-
For every code the law of exact names returns true: the program's ExactName answers as its model, and the value of the name is the number.
Conditions: none.
-/
import Derived.Test.YtboehlffbibgmaaGenEx
import Derived.Test.YtboehlffbibgmaaOpenC
import Derived.Test.YtboehlffbibgmaaLSg
import Derived.Test.YtboehlffbibgmaaLHelp
import Derived.Test.YtboehlffbibgmaaShowA
import Derived.Test.YtboehlffbibgmaaAlgJ
namespace Go.Proofs.Ytboehlffbibgmaa.fnExactName
open Go.ChangeShapes Go.WideShapes Go.ChangeAt Go.RowKit
open Go.ChangeMaps (open_string shut_string)
set_option linter.unusedVariables false
set_option linter.unusedSimpArgs false
set_option maxRecDepth 100000

theorem nam_law {ds : List D} {b x : Int} (h : mExOk ds b x = true) : mFrom ds b [mExN ds b x] = x ∧ mFromOk ds b [mExN ds b x] = true := by
  unfold mExOk at h
  rw [Bool.and_eq_true] at h
  obtain ⟨hfl, hj0⟩ := h
  have hj0 := of_decide_eq_true hj0
  rcases fidx_cases (isVal x) ds with ⟨h1, _⟩ | ⟨j, hj, h1, h2, h3⟩
  · omega
  have hv : ds[j].val = x := by unfold isVal at h2; simpa using h2
  have hin := vFlag_in hfl _ (List.getElem_mem hj)
  rw [(mEx_yes hfl hj h1).2]
  obtain ⟨e1, e2⟩ := from_one hfl (List.getElem_mem hj)
  refine ⟨?_, e2⟩
  rw [e1, Int.toNat_of_nonneg hin.1, hv]

set_option maxHeartbeats 16000000 in
theorem walk (A : Option Addr) (n c : Nat) (zs : List Int) (w : World) (h : SB w w.heap.size A n c zs) :
    Calls Try.prog 3 #[.slice A n c] w fun e w' => e = .returned (.bool true) ∧ Below w.heap.size w w' := by
  have hm := h.max
  have hcap := h.cap
  unfold maxLen at hm
  have HS0 := Lib.hid h
  clear h
  by_cases hbig : 1048576 < (n : Int)
  · go_enter Try.func3, Try.ntmps3
    go_wp2
    go_ret
    exact ⟨rfl, Below.refl _ _⟩
  go_enter Try.func3, Try.ntmps3
  go_wp2_with fail
  refine (drawExactName_any A n c zs _ HS0.out).mono ?_
  rintro e w1 ⟨Aa, ca, dsa, ba, x, rfl, hna, hsma, hbda, hx, hsa, hb⟩
  have HB_1 := Lib.hid hb
  have Sa_1 := Lib.hid hsa
  have HSMa := Lib.hid hsma
  have HOKa : Hid (∀ d ∈ dsa, d.ok) := Lib.hid (fun d hd => small_ok (hsma d hd))
  have HBDa := Lib.hid hbda
  clear hb hsa hsma hbda
  obtain ⟨w2, hw⟩ : ∃ W : World, W = (w1.alloc (.cells #[.slice Aa dsa.length ca, .int .i64 ba] 25)) := ⟨_, rfl⟩
  have hb : Below w1.heap.size w1 w2 := by rw [hw]; exact ((Below.refl _ _).alloc (by first | exact Nat.le_refl _ | (simp; done) | (simp; omega)) _)
  have Sa_2 := Lib.hid ((Sa_1.out.below hb).call hb.size)
  have HB_2 : Hid (Below w.heap.size w w2) := Lib.hid (HB_1.out.trans (hb.mono HB_1.out.size))
  have ba_2 : w2.cell? ⟨w1.heap.size, 0, none⟩ = some (.slice Aa dsa.length ca) := by rw [hw]; simp [go_sem]
  have va_2 : w2.cell? ⟨w1.heap.size, 1, none⟩ = some (.int .i64 ba) := by rw [hw]; simp [go_sem]
  have lf_ba : (w1.alloc (.cells #[.slice Aa dsa.length ca, .int .i64 ba] 25)).cell? ⟨w1.heap.size, 0, none⟩ = some (.slice Aa dsa.length ca) := by rw [← hw]; exact ba_2
  have lf_va : (w1.alloc (.cells #[.slice Aa dsa.length ca, .int .i64 ba] 25)).cell? ⟨w1.heap.size, 1, none⟩ = some (.int .i64 ba) := by rw [← hw]; exact va_2
  have HW2 : Hid ((w1.alloc (.cells #[.slice Aa dsa.length ca, .int .i64 ba] 25)) = w2) := Lib.hid hw.symm
  clear hb hw Sa_1 HB_1
  obtain ⟨s, hs⟩ : ∃ s, mExN dsa ba x = s := ⟨_, rfl⟩
  obtain ⟨v, hv⟩ : ∃ v, mExOk dsa ba x = v := ⟨_, rfl⟩
  have HS1 := Lib.hid hs
  have HV1 := Lib.hid hv
  have HSZ : Hid (s.size ≤ maxLen) := Lib.hid (by rw [← hs]; exact mExN_ok HOKa.out)
  clear hs hv
  go_wp2_with fail
  rw [HW2.out]
  clear lf_ba lf_va
  refine (implExact_v dsa ba x _ _ _ _ Sa_2.out (by omega) (by omega) HS1.out HV1.out).mono ?_
  rintro e w3 ⟨rfl, hb⟩
  have ba_3 := keep1 hb ba_2
  have va_3 := keep1 hb va_2
  have Sa_3 := Lib.hid ((Sa_2.out.below hb).call hb.size)
  have HB_3 : Hid (Below w.heap.size w w3) := Lib.hid (HB_2.out.trans (hb.mono HB_2.out.size))
  clear hb  ba_2 va_2 Sa_2 HB_2
  go_wp2_with fail
  refine (specExact_v dsa ba x _ _ _ _ Sa_3.out HS1.out HV1.out).mono ?_
  rintro e w4 ⟨rfl, hb⟩
  have ba_4 := keep1 hb ba_3
  have va_4 := keep1 hb va_3
  have Sa_4 := Lib.hid ((Sa_3.out.below hb).call hb.size)
  have HB_4 : Hid (Below w.heap.size w w4) := Lib.hid (HB_3.out.trans (hb.mono HB_3.out.size))
  clear hb  ba_3 va_3 Sa_3 HB_3
  cases v
  · skip
    go_wp2
    go_ret
    exact ⟨by first | rfl | kernel_rfl | (go_simp; done), HB_4.out⟩
  have hf := nam_law HV1.out
  rw [HS1.out] at hf
  have HF1 := Lib.hid hf.1
  have HF2 := Lib.hid hf.2
  clear hf
  have hbA : Below w4.heap.size w4 (w4.alloc (.cells #[.string s] 9)) := (Below.refl _ _).alloc (Nat.le_refl _) _
  have HLT : Hid (SS (w4.alloc (.cells #[.string s] 9)) (w4.alloc (.cells #[.string s] 9)).heap.size (some ⟨w4.heap.size, 0, none⟩) 1 1 [s]) := Lib.hid (ss_of_own (World.ownsRow_lit (e := 9) (size := 1) (base := w4.heap.size) w4 #[.string s] 1 (Nat.le_refl _) (by unfold maxLen; omega) rfl) (by intro t ht; rw [List.mem_singleton.1 ht]; exact HSZ.out))
  have HGG := Lib.hid ((Sa_4.out.below hbA).call hbA.size)
  go_wp2_with fail
  refine (implFrom_v dsa ba [s] _ _ _ _ HGG.out _ _ _ HLT.out (by omega) HF1.out HF2.out).mono ?_
  rintro e w90 ⟨rfl, hb⟩
  have HB_90 : Hid (Below w.heap.size w w90) := Lib.hid (HB_4.out.trans ((hbA.trans (hb.mono hbA.size)).mono HB_4.out.size))
  clear hb hbA
  go_wp2
  go_ret
  exact ⟨by first | rfl | kernel_rfl | (go_simp; done), HB_90.out⟩

theorem lifted (os : Os) (started : os.Started) (H : Type) (enc : TypeId × Value → H) :
    ReturnsInHanded {} Try.checked os 3 .any (Rows.fnExactNameSpec.pre6 enc Try.prog Try.f3 Rows.fnExactNameRow.domain false) (Rows.fnExactNameSpec.post enc Try.prog Try.f3 false true false false) := by
  refine returnsInHanded_of_change (C := Try.checked) own started (by kernel_rfl) Try.func3
    (ChangeSpec.witness6 (enc := enc) (C := Try.checked) false ⟨#[], #[.slice none 0 0], []⟩ 8 (by kernel_rfl) (by kernel_rfl) (by kernel_rfl) (by kernel_rfl)) ?_
  intro W base args ds gs before hval0 hW hcnd _
  have hval : ∀ (j : Nat) t v, Try.f3.params[j]? = some t → args[j]? = some v → Value.okWide Try.prog W .any base t v := hval0
  have hW' := hW
  obtain ⟨p, q, hA0, hV, rfl, hfz, hnd⟩ := hW
  have hA : DataW.TrodAll enc Try.prog W 0 (fun _ => true) true Try.f3.params.toList args.toList ds p := hA0
  rw [Try.params3] at hA hval
  obtain ⟨v0, vs0, d0, ds0, p0, q0, hargs, rfl, rfl, h0, r0⟩ := trodAll_cons hA
  obtain ⟨rfl, rfl, rfl⟩ := trodAll_nil r0
  obtain rfl : args = #[v0] := by cases args; simp_all
  obtain ⟨rfl, rfl⟩ := trodVars_none hV
  have k0 := h0
  have lt0 : ∀ x ∈ p0, x.block < W.heap.size := by obtain ⟨m, hm⟩ := k0; exact DataW.trod_lt m _ _ _ hm
  obtain ⟨A0, n0, c0, l0, rfl, w0⟩ := open_code (hval 0 22 v0 rfl rfl) h0
  clear hA0 hval0
  refine (walk A0 n0 c0 l0 W w0).mono fun e W' ⟨he, bel⟩ => ?_
  subst he
  exact ⟨_, rfl, _, _, _, [], _, [], hW', trodAll_mk1 (shut_bool Try.underlying4 _), (trodAll_cons_mk (Below.trod laidOut (by kernel_rfl) (of_decide_eq_true (by kernel_rfl)) k0 bel lt0) trodAll_mk0), rfl, bel.frame _, fun h => by cases h⟩

theorem over : Rows.fnExactNameRow.holds Try.pinned (OpenSpec.ofChange Rows.fnExactNameSpec) :=
  OpenClaim.holds_of_wide 3 Try.f3 rfl rfl rfl rfl rfl rfl rfl ⟨rfl, rfl, rfl, rfl, rfl⟩ rfl rfl rfl rfl rfl (by kernel_rfl) Try.func3 (by kernel_rfl)
    (of_decide_eq_true (by kernel_rfl)) (by unfold Func.isWrapper; first | (rw [if_pos (by decide +kernel)]; kernel_rfl) | (rw [if_neg (by decide +kernel)]; exact ⟨rfl, rfl⟩))
    (fun os started H enc _ => lifted os started H enc)

theorem proved : Rows.FnExactNameSaid := over
end Go.Proofs.Ytboehlffbibgmaa.fnExactName
