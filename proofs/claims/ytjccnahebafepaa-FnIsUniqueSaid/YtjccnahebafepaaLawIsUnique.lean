/-
For every code the law of unique enumerations returns true: a drawn enumeration is unique, as its model says, exactly if its members are as many as its names.
Conditions: none.
-/
import Derived.Test.YtjccnahebafepaaLBase
namespace Go.Proofs.Ytjccnahebafepaa.fnIsUnique
open Go.ChangeShapes Go.WideShapes Go.ChangeAt Go.RowKit
open Go.ChangeMaps (open_string shut_string)
set_option linter.unusedVariables false

set_option maxHeartbeats 8000000 in
theorem walk (A : Option Addr) (n c : Nat) (zs : List Int) (w : World) (h : SB w w.heap.size A n c zs) :
    Calls Try.prog 11 #[.slice A n c] w fun e w' => e = .returned (.bool true) ∧ Below w.heap.size w w' := by
  have hm := h.max
  have hcap := h.cap
  unfold maxLen at hm
  have HS0 := Lib.hid h
  clear h
  by_cases hbig : 1048576 < (n : Int)
  · go_enter Try.func11, Try.ntmps11
    go_wp2
    go_ret
    exact ⟨rfl, Below.refl _ _⟩
  go_enter Try.func11, Try.ntmps11
  go_wp2_with fail
  refine (drawIsUnique_any A n c zs _ HS0.out).mono ?_
  rintro e w1 ⟨Ae, ce, ds, rfl, hn, hsm, hs, hb⟩
  have c2 : (w1.alloc (.cells #[.slice Ae ds.length ce] 28)).cell? ⟨w1.heap.size, 0, none⟩ = some (.slice Ae ds.length ce) := by simp [go_sem]
  have HB2 : Hid (Below w.heap.size w (w1.alloc (.cells #[.slice Ae ds.length ce] 28))) := Lib.hid (hb.alloc hb.size _)
  have HS2 : Hid (SD (w1.alloc (.cells #[.slice Ae ds.length ce] 28)) (w1.alloc (.cells #[.slice Ae ds.length ce] 28)).heap.size Ae ds.length ce ds) := Lib.hid ((hs.alloc (Nat.le_refl _) _).call (by simp))
  have HSM := Lib.hid hsm
  have HOK : Hid (∀ d ∈ ds, d.ok) := Lib.hid (fun d hd => small_ok (hsm d hd))
  clear hb hs hsm
  cases hv : vEnum ds
  · have HV := Lib.hid hv
    have HQ : Hid (mUniq ds = false) := Lib.hid (by unfold mUniq; rw [hv]; rfl)
    clear hv
    go_wp2_with fail
    refine (implIsUnique_v ds _ _ _ _ HS2.out HQ.out).mono ?_
    rintro e w3 ⟨rfl, hb⟩
    have c3 := keep1 hb c2
    have HB3 : Hid (Below w.heap.size w w3) := Lib.hid (HB2.out.trans (hb.mono HB2.out.size))
    have HS3 := Lib.hid ((HS2.out.below hb).call hb.size)
    clear hb c2 HB2 HS2
    go_wp2_with fail
    refine (specIsUnique_v ds _ _ _ _ HS3.out HQ.out).mono ?_
    rintro e w4 ⟨rfl, hb⟩
    have c4 := keep1 hb c3
    have HB4 : Hid (Below w.heap.size w w4) := Lib.hid (HB3.out.trans (hb.mono HB3.out.size))
    have HS4 := Lib.hid ((HS3.out.below hb).call hb.size)
    clear hb c3 HB3 HS3
    go_wp2_with fail
    refine (implVE_v ds _ _ _ _ HS4.out HV.out).mono ?_
    rintro e w5 ⟨rfl, hb⟩
    have c5 := keep1 hb c4
    have HB5 : Hid (Below w.heap.size w w5) := Lib.hid (HB4.out.trans (hb.mono HB4.out.size))
    have HS5 := Lib.hid ((HS4.out.below hb).call hb.size)
    clear hb c4 HB4 HS4
    go_wp2_with fail
    refine (specIsUnique_v ds _ _ _ _ HS5.out HQ.out).mono ?_
    rintro e w6 ⟨rfl, hb⟩
    have c6 := keep1 hb c5
    have HB6 : Hid (Below w.heap.size w w6) := Lib.hid (HB5.out.trans (hb.mono HB5.out.size))
    have HS6 := Lib.hid ((HS5.out.below hb).call hb.size)
    clear hb c5 HB5 HS5
    go_wp2
    go_ret
    exact ⟨rfl, HB6.out⟩

  have HL : Hid ((mMembers ds).length = (mems ds).length) := Lib.hid (by unfold mMembers; rw [if_pos hv]; simp)
  have HV := Lib.hid hv
  have hM : (mems ds).length ≤ ds.length := mems_len
  by_cases hq : (mems ds).length = ds.length
  · have HQ : Hid (mUniq ds = true) := Lib.hid (by unfold mUniq; rw [hv, decide_eq_true hq]; rfl)
    have hz : (((mMembers ds).length : Int) == (ds.length : Int)) = true := by rw [HL.out, beq_iff_eq]; omega
    clear hv hq hM
    generalize hms : mMembers ds = ms at *
    have HMS := Lib.hid hms
    clear hms
    go_wp2_with fail
    refine (implIsUnique_v ds _ _ _ _ HS2.out HQ.out).mono ?_
    rintro e w3 ⟨rfl, hb⟩
    have c3 := keep1 hb c2
    have HB3 : Hid (Below w.heap.size w w3) := Lib.hid (HB2.out.trans (hb.mono HB2.out.size))
    have HS3 := Lib.hid ((HS2.out.below hb).call hb.size)
    clear hb c2 HB2 HS2
    go_wp2_with fail
    refine (specIsUnique_v ds _ _ _ _ HS3.out HQ.out).mono ?_
    rintro e w4 ⟨rfl, hb⟩
    have c4 := keep1 hb c3
    have HB4 : Hid (Below w.heap.size w w4) := Lib.hid (HB3.out.trans (hb.mono HB3.out.size))
    have HS4 := Lib.hid ((HS3.out.below hb).call hb.size)
    clear hb c3 HB3 HS3
    go_wp2_with fail
    refine (implVE_v ds _ _ _ _ HS4.out HV.out).mono ?_
    rintro e w5 ⟨rfl, hb⟩
    have c5 := keep1 hb c4
    have HB5 : Hid (Below w.heap.size w w5) := Lib.hid (HB4.out.trans (hb.mono HB4.out.size))
    have HS5 := Lib.hid ((HS4.out.below hb).call hb.size)
    clear hb c4 HB4 HS4

    go_wp2_with fail
    go_region_held3 (fun w' => w'.cell? ⟨w1.heap.size, 0, none⟩ = some (.slice Ae ds.length ce)) (first | go_keep | exact x3)
      (first | (go_at_call 21; refine (implMembersOf_v ds _ _ _ _ (HS5.out.drewN 1) HMS.out).mono ?_; rintro e w6 ⟨A6, c6, rfl, ho, hb⟩; replace hb : Below w5.heap.size w5 w6 := undrew hb; have x3 := keep1 hb c5))
    have HB6 : Hid (Below w.heap.size w w6) := Lib.hid (HB5.out.trans (hb.mono HB5.out.size))
    go_wp2
    go_ret
    exact ⟨rfl, HB6.out⟩
  · have HQ : Hid (mUniq ds = false) := Lib.hid (by unfold mUniq; rw [hv, decide_eq_false hq]; rfl)
    have hz : (((mMembers ds).length : Int) == (ds.length : Int)) = false := by rw [HL.out, beq_eq_false_iff_ne]; omega
    clear hv hq hM
    generalize hms : mMembers ds = ms at *
    have HMS := Lib.hid hms
    clear hms
    go_wp2_with fail
    refine (implIsUnique_v ds _ _ _ _ HS2.out HQ.out).mono ?_
    rintro e w3 ⟨rfl, hb⟩
    have c3 := keep1 hb c2
    have HB3 : Hid (Below w.heap.size w w3) := Lib.hid (HB2.out.trans (hb.mono HB2.out.size))
    have HS3 := Lib.hid ((HS2.out.below hb).call hb.size)
    clear hb c2 HB2 HS2
    go_wp2_with fail
    refine (specIsUnique_v ds _ _ _ _ HS3.out HQ.out).mono ?_
    rintro e w4 ⟨rfl, hb⟩
    have c4 := keep1 hb c3
    have HB4 : Hid (Below w.heap.size w w4) := Lib.hid (HB3.out.trans (hb.mono HB3.out.size))
    have HS4 := Lib.hid ((HS3.out.below hb).call hb.size)
    clear hb c3 HB3 HS3
    go_wp2_with fail
    refine (implVE_v ds _ _ _ _ HS4.out HV.out).mono ?_
    rintro e w5 ⟨rfl, hb⟩
    have c5 := keep1 hb c4
    have HB5 : Hid (Below w.heap.size w w5) := Lib.hid (HB4.out.trans (hb.mono HB4.out.size))
    have HS5 := Lib.hid ((HS4.out.below hb).call hb.size)
    clear hb c4 HB4 HS4

    go_wp2_with fail
    go_region_held3 (fun w' => w'.cell? ⟨w1.heap.size, 0, none⟩ = some (.slice Ae ds.length ce)) (first | go_keep | exact x3)
      (first | (go_at_call 21; refine (implMembersOf_v ds _ _ _ _ (HS5.out.drewN 1) HMS.out).mono ?_; rintro e w6 ⟨A6, c6, rfl, ho, hb⟩; replace hb : Below w5.heap.size w5 w6 := undrew hb; have x3 := keep1 hb c5))
    have HB6 : Hid (Below w.heap.size w w6) := Lib.hid (HB5.out.trans (hb.mono HB5.out.size))
    go_wp2
    go_ret
    exact ⟨rfl, HB6.out⟩
set_option maxRecDepth 100000 in
theorem lifted (os : Os) (started : os.Started) (H : Type) (enc : TypeId × Value → H) :
    ReturnsInHanded {} Try.checked os 11 .any (Rows.fnIsUniqueSpec.pre6 enc Try.prog Try.f11 Rows.fnIsUniqueRow.domain false) (Rows.fnIsUniqueSpec.post enc Try.prog Try.f11 false true false false) := by
  refine returnsInHanded_of_change (C := Try.checked) own started (by kernel_rfl) Try.func11
    (ChangeSpec.witness6 (enc := enc) (C := Try.checked) false ⟨#[], #[.slice none 0 0], []⟩ 8 (by kernel_rfl) (by kernel_rfl) (by kernel_rfl) (by kernel_rfl)) ?_
  intro W base args ds gs before hval0 hW hcnd _
  have hval : ∀ (j : Nat) t v, Try.f11.params[j]? = some t → args[j]? = some v → Value.okWide Try.prog W .any base t v := hval0
  have hW' := hW
  obtain ⟨p, q, hA0, hV, rfl, hfz, hnd⟩ := hW
  have hA : DataW.TrodAll enc Try.prog W 0 (fun _ => true) true Try.f11.params.toList args.toList ds p := hA0
  rw [Try.params11] at hA hval
  obtain ⟨v0, vs0, d0, ds0, p0, q0, hargs, rfl, rfl, h0, r0⟩ := trodAll_cons hA
  obtain ⟨rfl, rfl, rfl⟩ := trodAll_nil r0
  obtain rfl : args = #[v0] := by cases args; simp_all
  obtain ⟨rfl, rfl⟩ := trodVars_none hV
  have k0 := h0
  have lt0 : ∀ x ∈ p0, x.block < W.heap.size := by obtain ⟨m, hm⟩ := k0; exact DataW.trod_lt m _ _ _ hm
  obtain ⟨A0, n0, c0, l0, rfl, w0⟩ := open_code (hval 0 22 v0 rfl rfl) h0
  clear hA0 hval0
  refine (walk A0 n0 c0 l0 W w0).mono fun e W' ⟨he, bel⟩ => ?_
  subst he
  exact ⟨_, rfl, _, _, _, [], _, [], hW', trodAll_mk1 (shut_bool Try.underlying4 _), (trodAll_cons_mk (Below.trod laidOut (by kernel_rfl) (of_decide_eq_true (by kernel_rfl)) k0 bel lt0) trodAll_mk0), rfl, bel.frame _, fun h => by cases h⟩

theorem over : Rows.fnIsUniqueRow.holds Try.pinned (OpenSpec.ofChange Rows.fnIsUniqueSpec) :=
  OpenClaim.holds_of_wide 11 Try.f11 rfl rfl rfl rfl rfl rfl rfl ⟨rfl, rfl, rfl, rfl, rfl⟩ rfl rfl rfl rfl rfl (by kernel_rfl) Try.func11 (by kernel_rfl)
    (of_decide_eq_true (by kernel_rfl)) (by unfold Func.isWrapper; first | (rw [if_pos (by decide +kernel)]; kernel_rfl) | (rw [if_neg (by decide +kernel)]; exact ⟨rfl, rfl⟩))
    (fun os started H enc _ => lifted os started H enc)

theorem proved : Rows.FnIsUniqueSaid := over
end Go.Proofs.Ytjccnahebafepaa.fnIsUnique
