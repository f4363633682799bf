/-
For every code the law of changes turned twice returns true: the program's TurnChanges answers as its model, and of its own answer it is the list.
Conditions: none.
-/
import Derived.Test.YtkholjcmaebaaaaGenAp
import Derived.Test.YtkholjcmaebaaaaOpenC
import Derived.Test.YtkholjcmaebaaaaLPb
import Derived.Test.YtkholjcmaebaaaaLEq
import Derived.Test.YtkholjcmaebaaaaTurnJ
namespace Go.Proofs.Ytkholjcmaebaaaa.fnTurnChanges
open Go.ChangeShapes Go.WideShapes Go.ChangeAt Go.RowKit
open Go.ChangeMaps (open_string shut_string)
set_option linter.unusedVariables false
set_option linter.unusedSimpArgs false
set_option maxRecDepth 100000

set_option maxHeartbeats 16000000 in
theorem walk (A : Option Addr) (n c : Nat) (zs : List Int) (w : World) (h : SB w w.heap.size A n c zs) :
    Calls Try.prog 11 #[.slice A n c] w fun e w' => e = .returned (.bool true) ∧ Below w.heap.size w w' := by
  have hm := h.max
  have hcap := h.cap
  unfold maxLen at hm
  have HS0 := Lib.hid h
  clear h
  by_cases hbig : 1048576 < (n : Int)
  · go_enter Try.func11, Try.ntmps11
    go_wp2
    go_ret
    exact ⟨rfl, Below.refl _ _⟩
  go_enter Try.func11, Try.ntmps11
  go_wp2_with fail
  refine (drawTurnChanges_s A n c zs _ HS0.out).mono ?_
  rintro e w1 ⟨As, ck, ks, rfl, hkl, hks, hss, hb⟩
  have HB_1 := Lib.hid hb
  have Ss_1 := Lib.hid hss
  clear hb hss
  obtain ⟨ts, hts⟩ : ∃ ts, mTurn ks = ts := ⟨_, rfl⟩
  have OKS := Lib.hid hks
  have OKT : Hid (∀ a ∈ ts, a.ok) := Lib.hid (by rw [← hts]; exact mTurn_ok hks)
  have he : ((ts.length : Int) == (ks.length : Int)) = true := by rw [← hts, mTurn_len]; simp
  have hl2 : ts.length ≤ 80 := by rw [← hts, mTurn_len]; exact hkl
  have HIM : Hid (∀ (A : Option Addr) (n c : Nat) (w : World), SK w w.heap.size A n c ks → n ≤ 1048576 → Calls Try.prog 42 #[.slice A n c] w (FreshK ts w)) := Lib.hid (by rw [← hts]; exact fun A n c w h hn => implTurn_any ks A n c w h hn)
  have HSP : Hid (∀ (A : Option Addr) (n c : Nat) (w : World), SK w w.heap.size A n c ks → n ≤ 1048576 → Calls Try.prog 47 #[.slice A n c] w (FreshK ts w)) := Lib.hid (by rw [← hts]; exact fun A n c w h hn => specTurn_any ks A n c w h hn)
  have HI2 : Hid (∀ (A : Option Addr) (n c : Nat) (w : World), SK w w.heap.size A n c ts → n ≤ 1048576 → Calls Try.prog 42 #[.slice A n c] w (FreshK ks w)) := Lib.hid (fun A n c w h hn => by have := implTurn_any ts A n c w h hn; rw [show mTurn ts = ks from by rw [← hts]; exact mTurn_two ks] at this; exact this)
  unfold FreshK at HIM HSP HI2
  clear hts hks
  go_wp2_with fail
  refine (HIM.out _ _ _ _ Ss_1.out (by omega)).mono ?_
  rintro e w2 ⟨At, ct, rfl, ho, hb⟩
  have Ss_2 := Lib.hid ((Ss_1.out.below hb).call hb.size)
  have HB_2 : Hid (Below w.heap.size w w2) := Lib.hid (HB_1.out.trans (hb.mono HB_1.out.size))
  have St_2 := Lib.hid (sk_of_own ho OKT.out)
  clear hb ho Ss_1 HB_1
  go_wp2_with fail
  refine (HSP.out _ _ _ _ Ss_2.out (by omega)).mono ?_
  rintro e w3 ⟨Aw, cw, rfl, ho, hb⟩
  have Ss_3 := Lib.hid ((Ss_2.out.below hb).call hb.size)
  have St_3 := Lib.hid ((St_2.out.below hb).call hb.size)
  have HB_3 : Hid (Below w.heap.size w w3) := Lib.hid (HB_2.out.trans (hb.mono HB_2.out.size))
  have Sw_3 := Lib.hid (sk_of_own ho OKT.out)
  clear hb ho Ss_2 St_2 HB_2
  go_wp2_with fail
  refine (equalChanges_any ts _ _ _ _ _ _ _ St_3.out Sw_3.out).mono ?_
  rintro e w4 ⟨rfl, hb⟩
  have Ss_4 := Lib.hid ((Ss_3.out.below hb).call hb.size)
  have St_4 := Lib.hid ((St_3.out.below hb).call hb.size)
  have Sw_4 := Lib.hid ((Sw_3.out.below hb).call hb.size)
  have HB_4 : Hid (Below w.heap.size w w4) := Lib.hid (HB_3.out.trans (hb.mono HB_3.out.size))
  clear hb  Ss_3 St_3 Sw_3 HB_3
  go_wp2_with fail
  refine (HI2.out _ _ _ _ St_4.out (by omega)).mono ?_
  rintro e w5 ⟨Az, cz, rfl, ho, hb⟩
  have Ss_5 := Lib.hid ((Ss_4.out.below hb).call hb.size)
  have St_5 := Lib.hid ((St_4.out.below hb).call hb.size)
  have Sw_5 := Lib.hid ((Sw_4.out.below hb).call hb.size)
  have HB_5 : Hid (Below w.heap.size w w5) := Lib.hid (HB_4.out.trans (hb.mono HB_4.out.size))
  have Sz_5 := Lib.hid (sk_of_own ho OKS.out)
  clear hb ho Ss_4 St_4 Sw_4 HB_4
  go_wp2_with fail
  refine (equalChanges_any ks _ _ _ _ _ _ _ Sz_5.out Ss_5.out).mono ?_
  rintro e w6 ⟨rfl, hb⟩
  have Ss_6 := Lib.hid ((Ss_5.out.below hb).call hb.size)
  have St_6 := Lib.hid ((St_5.out.below hb).call hb.size)
  have Sw_6 := Lib.hid ((Sw_5.out.below hb).call hb.size)
  have Sz_6 := Lib.hid ((Sz_5.out.below hb).call hb.size)
  have HB_6 : Hid (Below w.heap.size w w6) := Lib.hid (HB_5.out.trans (hb.mono HB_5.out.size))
  clear hb  Ss_5 St_5 Sw_5 Sz_5 HB_5
  go_wp2
  go_ret
  exact ⟨by first | rfl | kernel_rfl | (go_simp; done), HB_6.out⟩

theorem lifted (os : Os) (started : os.Started) (H : Type) (enc : TypeId × Value → H) :
    ReturnsInHanded {} Try.checked os 11 .any (Rows.fnTurnChangesSpec.pre6 enc Try.prog Try.f11 Rows.fnTurnChangesRow.domain false) (Rows.fnTurnChangesSpec.post enc Try.prog Try.f11 false true false false) := by
  refine returnsInHanded_of_change (C := Try.checked) own started (by kernel_rfl) Try.func11
    (ChangeSpec.witness6 (enc := enc) (C := Try.checked) false ⟨#[], #[.slice none 0 0], []⟩ 8 (by kernel_rfl) (by kernel_rfl) (by kernel_rfl) (by kernel_rfl)) ?_
  intro W base args ds gs before hval0 hW hcnd _
  have hval : ∀ (j : Nat) t v, Try.f11.params[j]? = some t → args[j]? = some v → Value.okWide Try.prog W .any base t v := hval0
  have hW' := hW
  obtain ⟨p, q, hA0, hV, rfl, hfz, hnd⟩ := hW
  have hA : DataW.TrodAll enc Try.prog W 0 (fun _ => true) true Try.f11.params.toList args.toList ds p := hA0
  rw [Try.params11] at hA hval
  obtain ⟨v0, vs0, d0, ds0, p0, q0, hargs, rfl, rfl, h0, r0⟩ := trodAll_cons hA
  obtain ⟨rfl, rfl, rfl⟩ := trodAll_nil r0
  obtain rfl : args = #[v0] := by cases args; simp_all
  obtain ⟨rfl, rfl⟩ := trodVars_none hV
  have k0 := h0
  have lt0 : ∀ x ∈ p0, x.block < W.heap.size := by obtain ⟨m, hm⟩ := k0; exact DataW.trod_lt m _ _ _ hm
  obtain ⟨A0, n0, c0, l0, rfl, w0⟩ := open_code (hval 0 22 v0 rfl rfl) h0
  clear hA0 hval0
  refine (walk A0 n0 c0 l0 W w0).mono fun e W' ⟨he, bel⟩ => ?_
  subst he
  exact ⟨_, rfl, _, _, _, [], _, [], hW', trodAll_mk1 (shut_bool Try.underlying4 _), (trodAll_cons_mk (Below.trod laidOut (by kernel_rfl) (of_decide_eq_true (by kernel_rfl)) k0 bel lt0) trodAll_mk0), rfl, bel.frame _, fun h => by cases h⟩

theorem over : Rows.fnTurnChangesRow.holds Try.pinned (OpenSpec.ofChange Rows.fnTurnChangesSpec) :=
  OpenClaim.holds_of_wide 11 Try.f11 rfl rfl rfl rfl rfl rfl rfl ⟨rfl, rfl, rfl, rfl, rfl⟩ rfl rfl rfl rfl rfl (by kernel_rfl) Try.func11 (by kernel_rfl)
    (of_decide_eq_true (by kernel_rfl)) (by unfold Func.isWrapper; first | (rw [if_pos (by decide +kernel)]; kernel_rfl) | (rw [if_neg (by decide +kernel)]; exact ⟨rfl, rfl⟩))
    (fun os started H enc _ => lifted os started H enc)

theorem proved : Rows.FnTurnChangesSaid := over
end Go.Proofs.Ytkholjcmaebaaaa.fnTurnChanges
