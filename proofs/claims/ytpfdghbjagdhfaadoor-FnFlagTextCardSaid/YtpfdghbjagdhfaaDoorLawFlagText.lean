/-
For every code the law of texts of classes of flags returns true: the program's FlagText answers as its model, and ParseFlag of it is the class.
Conditions: none.
-/
import Derived.Test.YtpfdghbjagdhfaaDoorBaseL
import Derived.Test.YtpfdghbjagdhfaaDoorOpenC
import Derived.Test.YtpfdghbjagdhfaaDoorBaseK
import Derived.Test.YtpfdghbjagdhfaaDoorBaseM
import Derived.Test.YtpfdghbjagdhfaaDoorBaseJ
import Derived.Test.YtpfdghbjagdhfaaDoorParD
namespace Go.Proofs.YtpfdghbjagdhfaaDoor.fnFlagText
open Go.ChangeShapes Go.WideShapes Go.ChangeAt Go.RowKit
open Go.ChangeMaps (open_string shut_string)
set_option linter.unusedVariables false
set_option linter.unusedSimpArgs false
set_option maxRecDepth 100000

set_option maxHeartbeats 16000000 in
theorem walk (A : Option Addr) (n c : Nat) (zs : List Int) (w : World) (h : SB w w.heap.size A n c zs) (hT : TabAt w) :
    Calls Tryd.prog 7 #[.slice A n c] w fun e w' => e = .returned (.bool true) ∧ Below w.heap.size w w' := by
  have hm := h.max
  have hcap := h.cap
  unfold maxLen at hm
  have HS0 := Lib.hid h
  have HTb : Hid (Tb w w.heap.size) := Lib.hid hT
  clear h hT
  by_cases hbig : 1048576 < (n : Int)
  · go_enter Tryd.func7, Tryd.ntmps7
    go_wp2
    go_ret
    exact ⟨rfl, Below.refl _ _⟩
  go_enter Tryd.func7, Tryd.ntmps7
  go_wp2_with fail
  refine (drawFlagText_any A n c zs _ HS0.out).mono ?_
  rintro e w1 ⟨Aa, ca, dsa, ba, rfl, hna, hsma, hbda, hsa, hb⟩
  have HB_1 := Lib.hid hb
  have Tb_1 := Lib.hid ((HTb.out.below hb).call hb.size)
  clear HTb
  have Sa_1 := Lib.hid hsa
  have HSMa := Lib.hid hsma
  have HOKa : Hid (∀ d ∈ dsa, d.ok) := Lib.hid (fun d hd => small_ok (hsma d hd))
  have HBDa := Lib.hid hbda
  clear hb hsa hsma hbda
  obtain ⟨w2, hw⟩ : ∃ W : World, W = (w1.alloc (.cells #[.slice Aa dsa.length ca, .int .i64 ba] 32)) := ⟨_, rfl⟩
  have hb : Below w1.heap.size w1 w2 := by rw [hw]; exact ((Below.refl _ _).alloc (by first | exact Nat.le_refl _ | (simp; done) | (simp; omega)) _)
  have Tb_2 := Lib.hid ((Tb_1.out.below hb).call hb.size)
  have Sa_2 := Lib.hid ((Sa_1.out.below hb).call hb.size)
  have HB_2 : Hid (Below w.heap.size w w2) := Lib.hid (HB_1.out.trans (hb.mono HB_1.out.size))
  have ba_2 : w2.cell? ⟨w1.heap.size, 0, none⟩ = some (.slice Aa dsa.length ca) := by rw [hw]; simp [go_sem]
  have va_2 : w2.cell? ⟨w1.heap.size, 1, none⟩ = some (.int .i64 ba) := by rw [hw]; simp [go_sem]
  have lf_ba : (w1.alloc (.cells #[.slice Aa dsa.length ca, .int .i64 ba] 32)).cell? ⟨w1.heap.size, 0, none⟩ = some (.slice Aa dsa.length ca) := by rw [← hw]; exact ba_2
  have lf_va : (w1.alloc (.cells #[.slice Aa dsa.length ca, .int .i64 ba] 32)).cell? ⟨w1.heap.size, 1, none⟩ = some (.int .i64 ba) := by rw [← hw]; exact va_2
  have HW2 : Hid ((w1.alloc (.cells #[.slice Aa dsa.length ca, .int .i64 ba] 32)) = w2) := Lib.hid hw.symm
  clear hb hw Tb_1 Sa_1 HB_1
  obtain ⟨s, hs⟩ : ∃ s, mFlagT dsa ba = s := ⟨_, rfl⟩
  have HS1 := Lib.hid hs
  have HIM : Hid (∀ (A : Option Addr) (n c : Nat) (w : World), SD w w.heap.size A n c dsa → n ≤ 1048576 → Tb w w.heap.size → Calls Tryd.prog 33 #[.agg #[.slice A n c, .int .i64 ba]] w fun e w' => e = .returned (.string s) ∧ Below w.heap.size w w') := Lib.hid (fun A n c w h hn ht => by rw [← hs]; exact implFlagT_v dsa ba A n c w h hn ht.p10 ht.lp)
  have HSP : Hid (∀ (A : Option Addr) (n c : Nat) (w : World), SD w w.heap.size A n c dsa → Calls Tryd.prog 34 #[.agg #[.slice A n c, .int .i64 ba]] w fun e w' => e = .returned (.string s) ∧ Below w.heap.size w w') := Lib.hid (fun A n c w h => by rw [← hs]; exact specFlagT_v dsa ba A n c w h)
  clear hs
  go_wp2_with fail
  rw [HW2.out]
  clear lf_ba lf_va
  refine (HIM.out _ _ _ _ Sa_2.out (by omega) Tb_2.out).mono ?_
  rintro e w3 ⟨rfl, hb⟩
  have ba_3 := keep1 hb ba_2
  have va_3 := keep1 hb va_2
  have Tb_3 := Lib.hid ((Tb_2.out.below hb).call hb.size)
  have Sa_3 := Lib.hid ((Sa_2.out.below hb).call hb.size)
  have HB_3 : Hid (Below w.heap.size w w3) := Lib.hid (HB_2.out.trans (hb.mono HB_2.out.size))
  clear hb  ba_2 va_2 Tb_2 Sa_2 HB_2
  go_wp2_with fail
  refine (HSP.out _ _ _ _ Sa_3.out).mono ?_
  rintro e w4 ⟨rfl, hb⟩
  have ba_4 := keep1 hb ba_3
  have va_4 := keep1 hb va_3
  have Tb_4 := Lib.hid ((Tb_3.out.below hb).call hb.size)
  have Sa_4 := Lib.hid ((Sa_3.out.below hb).call hb.size)
  have HB_4 : Hid (Below w.heap.size w w4) := Lib.hid (HB_3.out.trans (hb.mono HB_3.out.size))
  clear hb  ba_3 va_3 Tb_3 Sa_3 HB_3
  by_cases hs0 : s = ⟨#[]⟩
  · skip
    subst hs0
    go_wp2_with fail
    refine (HSP.out _ _ _ _ Sa_4.out).mono ?_
    rintro e w5 ⟨rfl, hb⟩
    have ba_5 := keep1 hb ba_4
    have va_5 := keep1 hb va_4
    have Tb_5 := Lib.hid ((Tb_4.out.below hb).call hb.size)
    have Sa_5 := Lib.hid ((Sa_4.out.below hb).call hb.size)
    have HB_5 : Hid (Below w.heap.size w w5) := Lib.hid (HB_4.out.trans (hb.mono HB_4.out.size))
    clear hb  ba_4 va_4 Tb_4 Sa_4 HB_4
    go_wp2
    go_ret
    exact ⟨by first | rfl | kernel_rfl | (go_simp; done), HB_5.out⟩
  have hlaw := ft_law HS1.out hs0
  have hne : (s.toList == []) = false := nil_no hs0
  have hsz := hlaw.size
  have hnl := hlaw.nl
  have hml := hlaw.len
  have HPE : Hid (∀ (w : World), Tb w w.heap.size → Calls Tryd.prog 24 #[.string s] w (FlagR dsa ba true w)) := Lib.hid (fun w ht => by have h := implPF_v s w (by omega) ht; rw [hlaw.pf, hlaw.bd, hlaw.ok] at h; exact h)
  unfold FlagR at HPE
  obtain ⟨q, hq⟩ : ∃ q : Nat, nls s = q := ⟨_, rfl⟩
  have HQ := Lib.hid hq
  have hw1 : IntKind.i64.wrap ((dsa.length : Int) + 1) = (q : Int) := by rw [IntKind.wrap_i64]; omega
  have eq : ((q : Int) == (q : Int)) = true := beq_self_eq_true _
  clear hlaw hs0 HS1 HIM HSP hnl hq
  go_wp2_with fail
  refine (HPE.out _ Tb_4.out).mono ?_
  rintro e w5 ⟨Ak, ck, rfl, ho, hb⟩
  have ba_5 := keep1 hb ba_4
  have va_5 := keep1 hb va_4
  have Tb_5 := Lib.hid ((Tb_4.out.below hb).call hb.size)
  have Sa_5 := Lib.hid ((Sa_4.out.below hb).call hb.size)
  have HB_5 : Hid (Below w.heap.size w w5) := Lib.hid (HB_4.out.trans (hb.mono HB_4.out.size))
  have Sk_5 := Lib.hid (sd_of_own ho HOKa.out)
  clear hb ho ba_4 va_4 Tb_4 Sa_4 HB_4
  obtain ⟨w6, hw⟩ : ∃ W : World, W = (w5.alloc (.cells #[.slice Ak dsa.length ck, .int .i64 ba] 32)) := ⟨_, rfl⟩
  have hb : Below w5.heap.size w5 w6 := by rw [hw]; exact ((Below.refl _ _).alloc (by first | exact Nat.le_refl _ | (simp; done) | (simp; omega)) _)
  have ba_6 := keep1 hb ba_5
  have va_6 := keep1 hb va_5
  have Tb_6 := Lib.hid ((Tb_5.out.below hb).call hb.size)
  have Sa_6 := Lib.hid ((Sa_5.out.below hb).call hb.size)
  have Sk_6 := Lib.hid ((Sk_5.out.below hb).call hb.size)
  have HB_6 : Hid (Below w.heap.size w w6) := Lib.hid (HB_5.out.trans (hb.mono HB_5.out.size))
  have bk_6 : w6.cell? ⟨w5.heap.size, 0, none⟩ = some (.slice Ak dsa.length ck) := by rw [hw]; simp [go_sem]
  have vk_6 : w6.cell? ⟨w5.heap.size, 1, none⟩ = some (.int .i64 ba) := by rw [hw]; simp [go_sem]
  have lf_ba : (w5.alloc (.cells #[.slice Ak dsa.length ck, .int .i64 ba] 32)).cell? ⟨w1.heap.size, 0, none⟩ = some (.slice Aa dsa.length ca) := by rw [← hw]; exact ba_6
  have lf_va : (w5.alloc (.cells #[.slice Ak dsa.length ck, .int .i64 ba] 32)).cell? ⟨w1.heap.size, 1, none⟩ = some (.int .i64 ba) := by rw [← hw]; exact va_6
  have lf_bk : (w5.alloc (.cells #[.slice Ak dsa.length ck, .int .i64 ba] 32)).cell? ⟨w5.heap.size, 0, none⟩ = some (.slice Ak dsa.length ck) := by rw [← hw]; exact bk_6
  have lf_vk : (w5.alloc (.cells #[.slice Ak dsa.length ck, .int .i64 ba] 32)).cell? ⟨w5.heap.size, 1, none⟩ = some (.int .i64 ba) := by rw [← hw]; exact vk_6
  have HW6 : Hid ((w5.alloc (.cells #[.slice Ak dsa.length ck, .int .i64 ba] 32)) = w6) := Lib.hid hw.symm
  clear hb hw ba_5 va_5 Tb_5 Sa_5 Sk_5 HB_5
  clear Tb_6
  go_wp2_with fail
  rw [HW6.out]
  clear lf_ba lf_va lf_bk lf_vk
  go_region_held3 (fun w' => w'.cell? ⟨w5.heap.size, 0, none⟩ = some (.slice Ak dsa.length ck) ∧ w'.cell? ⟨w5.heap.size, 1, none⟩ = some (.int .i64 ba) ∧ w'.cell? ⟨w1.heap.size, 0, none⟩ = some (.slice Aa dsa.length ca) ∧ w'.cell? ⟨w1.heap.size, 1, none⟩ = some (.int .i64 ba))
    (first | go_keep | exact ⟨bk_6, vk_6, ba_6, va_6⟩ | exact ⟨bk_7, vk_7, ba_7, va_7⟩ | exact ⟨bk_8, vk_8, ba_8, va_8⟩)
    (first
      | (go_at_call 35; refine (equalFlag_any dsa ba _ _ _ _ _ _ _ (Sk_6.out.drewN 1) (Sa_6.out.drewN 1)).mono ?_; rintro e w7 ⟨rfl, hb⟩; replace hb : Below w6.heap.size w6 w7 := (by first | exact hb | exact undrew hb); have ba_7 := keep1 hb ba_6; have va_7 := keep1 hb va_6; have bk_7 := keep1 hb bk_6; have vk_7 := keep1 hb vk_6; have Sa_7 := Lib.hid ((Sa_6.out.below hb).call hb.size); have Sk_7 := Lib.hid ((Sk_6.out.below hb).call hb.size); have HB_7 : Hid (Below w.heap.size w w7) := Lib.hid (HB_6.out.trans (hb.mono HB_6.out.size)); clear hb)
      | (go_at_call 31; refine (newlines_w s _ (by omega) HQ.out).mono ?_; rintro e w8 ⟨rfl, hb⟩; have ba_8 := keep1 hb ba_7; have va_8 := keep1 hb va_7; have bk_8 := keep1 hb bk_7; have vk_8 := keep1 hb vk_7; have Sa_8 := Lib.hid ((Sa_7.out.below hb).call hb.size); have Sk_8 := Lib.hid ((Sk_7.out.below hb).call hb.size); have HB_8 : Hid (Below w.heap.size w w8) := Lib.hid (HB_7.out.trans (hb.mono HB_7.out.size)); clear hb))
  go_wp2
  go_ret
  exact ⟨by first | rfl | kernel_rfl | (go_simp; done), HB_8.out⟩

theorem lifted (os : Os) (started : os.Started) (H : Type) (enc : TypeId × Value → H) :
    ReturnsInHanded {} Tryd.checked os 7 .any (fun w args => (Rows.fnFlagTextSpec.pre enc Tryd.prog Tryd.f7 [] false w args ∧ laidMetH Tryd.prog laidL w) ∧ sizedMet enc Tryd.prog Tryd.f7 (OpenSpec.ofChange Rows.fnFlagTextSpec) false w args) (Rows.fnFlagTextSpec.post enc Tryd.prog Tryd.f7 false true false false) := by
  refine handed_shaped (C := Tryd.checked) (X := fun w _ => laidMetH Tryd.prog laidL w) (fun _ _ _ hh h => h.of_heap hh) own started (by kernel_rfl) Tryd.func7
    (ChangeSpec.witness_shaped (enc := enc) (C := Tryd.checked) (os := os) (X := fun w _ => laidMetH Tryd.prog laidL w) false (World.laidAll Tryd.prog os laidL) #[.slice none 0 0] 8 (World.laidAll_os _ _ _) (World.shaped_of_ZipB (by kernel_rfl) (by kernel_rfl)) (by kernel_rfl) (by kernel_rfl) (by kernel_rfl) (door_met os _)) ?_
  intro W base args ds gs before hval0 hW hcnd hL hsh
  have hval : ∀ (j : Nat) t v, Tryd.f7.params[j]? = some t → args[j]? = some v → Value.okWide Tryd.prog W .any base t v := hval0
  have hW' := hW
  obtain ⟨p, q, hA0, hV, rfl, hfz, hnd⟩ := hW
  have hA : DataW.TrodAll enc Tryd.prog W 0 (fun _ => true) true Tryd.f7.params.toList args.toList ds p := hA0
  rw [Tryd.params7] at hA hval
  obtain ⟨v0, vs0, d0, ds0, p0, q0, hargs, rfl, rfl, h0, r0⟩ := trodAll_cons hA
  obtain ⟨rfl, rfl, rfl⟩ := trodAll_nil r0
  obtain rfl : args = #[v0] := by cases args; simp_all
  obtain ⟨rfl, rfl⟩ := trodVars_none hV
  have k0 := h0
  have lt0 : ∀ x ∈ p0, x.block < W.heap.size := by obtain ⟨m, hm⟩ := k0; exact DataW.trod_lt m _ _ _ hm
  obtain ⟨A0, n0, c0, l0, rfl, w0⟩ := open_code (hval 0 47 v0 rfl rfl) h0
  clear hA0 hval0
  refine (walk A0 n0 c0 l0 W w0 (tab_of_laid hL hsh)).mono fun e W' ⟨he, bel⟩ => ?_
  subst he
  exact ⟨_, rfl, _, _, _, [], _, [], hW', trodAll_mk1 (shut_bool Tryd.underlying4 _), (trodAll_cons_mk (Below.trod laidOut (by kernel_rfl) (of_decide_eq_true (by kernel_rfl)) k0 bel lt0) trodAll_mk0), rfl, bel.frame _, fun h => by cases h⟩

theorem over : Rows.fnFlagTextRow.holds Tryd.pinned (OpenSpec.ofChange Rows.fnFlagTextSpec) :=
  OpenClaim.holds_of_wide 7 Tryd.f7 rfl rfl rfl rfl rfl rfl rfl ⟨rfl, rfl, rfl, rfl, rfl⟩ rfl rfl rfl rfl rfl (by kernel_rfl) Tryd.func7 (by kernel_rfl)
    (of_decide_eq_true (by kernel_rfl)) (by unfold Func.isWrapper; first | (rw [if_pos (by decide +kernel)]; kernel_rfl) | (rw [if_neg (by decide +kernel)]; exact ⟨rfl, rfl⟩))
    (fun os started H enc _ => lifted os started H enc)

theorem proved : Rows.FnFlagTextCardSaid :=
  Claim7.holds_tied_plain_at .later [] laidK true _ true
    over (fun _ h => by cases h) (by kernel_rfl) (fun _ h => by cases h) fnFlagText_row_tie rfl ⟨rfl, rfl⟩ (by kernel_rfl) rfl
    (fun f fn hf hfn => by
      obtain rfl : f = 7 := (Option.some.inj ((show Tryd.prog.funcNamed "loop.example/namedflags/laws.FnFlagText" = some 7 by kernel_rfl).symm.trans hf)).symm
      obtain rfl : fn = Tryd.f7 := (Option.some.inj (Tryd.func7.symm.trans hfn)).symm
      exact ⟨by kernel_rfl, fun j t ht => by
        have hm := Array.mem_of_getElem? ht
        have hall : (List.all (Array.toList Tryd.f7.params) fun u => !Tryd.prog.wantsStandIn u) = true := by kernel_rfl
        exact (show Tryd.prog.wantsStandIn t = false by simpa using List.all_eq_true.1 hall t (by simpa using hm))⟩)
    (by kernel_rfl)
end Go.Proofs.YtpfdghbjagdhfaaDoor.fnFlagText
