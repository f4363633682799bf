/-
For every code the law of members with a value returns true: the program's NameOf answers as its model, with a member that has the value.
Conditions: none.
-/
import Derived.Test.YtjccnahebafepaaLBase
import Derived.Test.YtjccnahebafepaaNmOf
import Derived.Test.YtjccnahebafepaaGenM
namespace Go.Proofs.Ytjccnahebafepaa.fnNameOf
open Go.ChangeShapes Go.WideShapes Go.ChangeAt Go.RowKit
open Go.ChangeMaps (open_string shut_string)
set_option linter.unusedVariables false

set_option maxHeartbeats 8000000 in
theorem walk (A : Option Addr) (n c : Nat) (zs : List Int) (w : World) (h : SB w w.heap.size A n c zs) :
    Calls Try.prog 8 #[.slice A n c] w fun e w' => e = .returned (.bool true) ∧ Below w.heap.size w w' := by
  have hm := h.max
  have hcap := h.cap
  unfold maxLen at hm
  have HS0 := Lib.hid h
  clear h
  by_cases hbig : 1048576 < (n : Int)
  · go_enter Try.func8, Try.ntmps8
    go_wp2
    go_ret
    exact ⟨rfl, Below.refl _ _⟩
  go_enter Try.func8, Try.ntmps8
  go_wp2_with fail
  refine (drawNameOf_any A n c zs _ HS0.out).mono ?_
  rintro e w1 ⟨Ae, ce, ds, v, rfl, hv0, hv1, hn, hsm, hs, hb⟩
  have c2 : (w1.alloc (.cells #[.slice Ae ds.length ce] 28)).cell? ⟨w1.heap.size, 0, none⟩ = some (.slice Ae ds.length ce) := by simp [go_sem]
  have HB2 : Hid (Below w.heap.size w (w1.alloc (.cells #[.slice Ae ds.length ce] 28))) := Lib.hid (hb.alloc hb.size _)
  have HS2 : Hid (SD (w1.alloc (.cells #[.slice Ae ds.length ce] 28)) (w1.alloc (.cells #[.slice Ae ds.length ce] 28)).heap.size Ae ds.length ce ds) := Lib.hid ((hs.alloc (Nat.le_refl _) _).call (by simp))
  have HSM := Lib.hid hsm
  have HOK : Hid (∀ d ∈ ds, d.ok) := Lib.hid (fun d hd => small_ok (hsm d hd))
  clear hb hs hsm
  have HV01 : Hid (-5000 ≤ v ∧ v ≤ 5000) := Lib.hid ⟨hv0, hv1⟩
  by_cases hbad : vEnum ds = false ∨ fidx (isVal v) ds < 0
  · generalize hv : vEnum ds = vb at hbad
    generalize hx : fidx (isVal v) ds = x at hbad
    have HV := Lib.hid hv
    have HX := Lib.hid hx
    have HH := Lib.hid hbad
    clear hv hx hbad
    go_wp2_with fail
    refine (implNameOf_no ds v _ _ _ _ HS2.out (by have := HV01.out; omega) HV.out HX.out HH.out).mono ?_
    rintro e w3 ⟨rfl, hb⟩
    have c3 := keep1 hb c2
    have HB3 : Hid (Below w.heap.size w w3) := Lib.hid (HB2.out.trans (hb.mono HB2.out.size))
    have HS3 := Lib.hid ((HS2.out.below hb).call hb.size)
    clear hb c2 HB2 HS2
    go_wp2_with fail
    refine (specNameOf_no ds v _ _ _ _ HS3.out HV.out HX.out HH.out).mono ?_
    rintro e w4 ⟨rfl, hb⟩
    have c4 := keep1 hb c3
    have HB4 : Hid (Below w.heap.size w w4) := Lib.hid (HB3.out.trans (hb.mono HB3.out.size))
    have HS4 := Lib.hid ((HS3.out.below hb).call hb.size)
    clear hb c3 HB3 HS3
    go_wp2
    go_ret
    exact ⟨rfl, HB4.out⟩

  have hv : vEnum ds = true := by cases h : vEnum ds; exact absurd (.inl h) hbad; rfl
  obtain ⟨k, hk, hx⟩ : ∃ k : Nat, ∃ hk : k < ds.length, fidx (isVal v) ds = (k : Int) := by
    rcases fidx_cases (isVal v) ds with ⟨h1, _⟩ | ⟨k, hk, h1, _⟩
    · exact absurd (.inr (by omega)) hbad
    · exact ⟨k, hk, h1⟩
  have e1 := val_idx hk hx
  have hx2 : fidx (isVal ds[k].val) ds = (k : Int) := by rw [e1]; exact hx
  have HV := Lib.hid hv
  have HX := Lib.hid hx
  have HN := Lib.hid (name_idx hv k hk)
  have q1 : (ds[k].val == v) = true := by rw [beq_iff_eq]; exact e1
  have HAny : Hid ((mMembers ds).any (hT ds[k].name) = true) := Lib.hid (by rw [mMembers_yes hv, List.any_eq_true]; exact ⟨_, List.mem_map.2 ⟨_, mems_has k hk hx2, rfl⟩, hT_iff.2 rfl⟩)
  generalize hms : mMembers ds = ms at HAny
  have HMS := Lib.hid hms
  have HOM : Hid (∀ t ∈ ms, t.size ≤ maxLen) := Lib.hid (by rw [← hms]; exact mMembers_ok HOK.out)
  clear hv hx hbad e1 hx2 hms
  go_wp2_with fail
  refine (implNameOf_yes ds v _ _ _ _ HS2.out HV.out k hk HX.out).mono ?_
  rintro e w3 ⟨rfl, hb⟩
  have c3 := keep1 hb c2
  have HB3 : Hid (Below w.heap.size w w3) := Lib.hid (HB2.out.trans (hb.mono HB2.out.size))
  have HS3 := Lib.hid ((HS2.out.below hb).call hb.size)
  clear hb c2 HB2 HS2
  go_wp2_with fail
  refine (specNameOf_yes ds v _ _ _ _ HS3.out HV.out k hk HX.out).mono ?_
  rintro e w4 ⟨rfl, hb⟩
  have c4 := keep1 hb c3
  have HB4 : Hid (Below w.heap.size w w4) := Lib.hid (HB3.out.trans (hb.mono HB3.out.size))
  have HS4 := Lib.hid ((HS3.out.below hb).call hb.size)
  clear hb c3 HB3 HS3
  go_wp2_with fail
  refine (implValueOf_yes ds _ _ _ _ _ HS4.out HV.out k hk HN.out).mono ?_
  rintro e w5 ⟨rfl, hb⟩
  have c5 := keep1 hb c4
  have HB5 : Hid (Below w.heap.size w w5) := Lib.hid (HB4.out.trans (hb.mono HB4.out.size))
  have HS5 := Lib.hid ((HS4.out.below hb).call hb.size)
  clear hb c4 HB4 HS4
  go_wp2_with fail
  refine (implMembersOf_v ds _ _ _ _ HS5.out HMS.out).mono ?_
  rintro e w6 ⟨A6, c6, rfl, ho, hb⟩
  have HB6 : Hid (Below w.heap.size w w6) := Lib.hid (HB5.out.trans (hb.mono HB5.out.size))
  have HX6 := Lib.hid (ss_of_own ho HOM.out)
  clear ho hb
  go_wp2_with fail
  refine (hasText_any ms _ _ _ _ _ HX6.out HAny.out).mono ?_
  rintro e w7 ⟨rfl, hb⟩
  have HB7 : Hid (Below w.heap.size w w7) := Lib.hid (HB6.out.trans (hb.mono HB6.out.size))
  clear hb
  go_wp2
  go_ret
  exact ⟨rfl, HB7.out⟩

set_option maxRecDepth 100000 in
theorem lifted (os : Os) (started : os.Started) (H : Type) (enc : TypeId × Value → H) :
    ReturnsInHanded {} Try.checked os 8 .any (Rows.fnNameOfSpec.pre6 enc Try.prog Try.f8 Rows.fnNameOfRow.domain false) (Rows.fnNameOfSpec.post enc Try.prog Try.f8 false true false false) := by
  refine returnsInHanded_of_change (C := Try.checked) own started (by kernel_rfl) Try.func8
    (ChangeSpec.witness6 (enc := enc) (C := Try.checked) false ⟨#[], #[.slice none 0 0], []⟩ 8 (by kernel_rfl) (by kernel_rfl) (by kernel_rfl) (by kernel_rfl)) ?_
  intro W base args ds gs before hval0 hW hcnd _
  have hval : ∀ (j : Nat) t v, Try.f8.params[j]? = some t → args[j]? = some v → Value.okWide Try.prog W .any base t v := hval0
  have hW' := hW
  obtain ⟨p, q, hA0, hV, rfl, hfz, hnd⟩ := hW
  have hA : DataW.TrodAll enc Try.prog W 0 (fun _ => true) true Try.f8.params.toList args.toList ds p := hA0
  rw [Try.params8] at hA hval
  obtain ⟨v0, vs0, d0, ds0, p0, q0, hargs, rfl, rfl, h0, r0⟩ := trodAll_cons hA
  obtain ⟨rfl, rfl, rfl⟩ := trodAll_nil r0
  obtain rfl : args = #[v0] := by cases args; simp_all
  obtain ⟨rfl, rfl⟩ := trodVars_none hV
  have k0 := h0
  have lt0 : ∀ x ∈ p0, x.block < W.heap.size := by obtain ⟨m, hm⟩ := k0; exact DataW.trod_lt m _ _ _ hm
  obtain ⟨A0, n0, c0, l0, rfl, w0⟩ := open_code (hval 0 22 v0 rfl rfl) h0
  clear hA0 hval0
  refine (walk A0 n0 c0 l0 W w0).mono fun e W' ⟨he, bel⟩ => ?_
  subst he
  exact ⟨_, rfl, _, _, _, [], _, [], hW', trodAll_mk1 (shut_bool Try.underlying4 _), (trodAll_cons_mk (Below.trod laidOut (by kernel_rfl) (of_decide_eq_true (by kernel_rfl)) k0 bel lt0) trodAll_mk0), rfl, bel.frame _, fun h => by cases h⟩

theorem over : Rows.fnNameOfRow.holds Try.pinned (OpenSpec.ofChange Rows.fnNameOfSpec) :=
  OpenClaim.holds_of_wide 8 Try.f8 rfl rfl rfl rfl rfl rfl rfl ⟨rfl, rfl, rfl, rfl, rfl⟩ rfl rfl rfl rfl rfl (by kernel_rfl) Try.func8 (by kernel_rfl)
    (of_decide_eq_true (by kernel_rfl)) (by unfold Func.isWrapper; first | (rw [if_pos (by decide +kernel)]; kernel_rfl) | (rw [if_neg (by decide +kernel)]; exact ⟨rfl, rfl⟩))
    (fun os started H enc _ => lifted os started H enc)

theorem proved : Rows.FnNameOfSaid := over
end Go.Proofs.Ytjccnahebafepaa.fnNameOf
