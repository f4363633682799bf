/-
For every code the law of arms that are read returns true: the program's ParseArm answers as its model, and ArmText of it is the text.
Conditions: none.
-/
import Derived.Test.YtpfdghbjagdhfaaDoorGenPa
import Derived.Test.YtpfdghbjagdhfaaDoorOpenC
import Derived.Test.YtpfdghbjagdhfaaDoorLAt
import Derived.Test.YtpfdghbjagdhfaaDoorBaseM
import Derived.Test.YtpfdghbjagdhfaaDoorBaseR
import Derived.Test.YtpfdghbjagdhfaaDoorBaseO
import Derived.Test.YtpfdghbjagdhfaaDoorArmD
namespace Go.Proofs.YtpfdghbjagdhfaaDoor.fnParseArm
open Go.ChangeShapes Go.WideShapes Go.ChangeAt Go.RowKit
open Go.ChangeMaps (open_string shut_string)
set_option linter.unusedVariables false
set_option linter.unusedSimpArgs false
set_option maxRecDepth 100000

set_option maxHeartbeats 16000000 in
theorem walk (A : Option Addr) (n c : Nat) (zs : List Int) (w : World) (h : SB w w.heap.size A n c zs) (hT : TabAt w) :
    Calls Tryd.prog 9 #[.slice A n c] w fun e w' => e = .returned (.bool true) ∧ Below w.heap.size w w' := by
  have hm := h.max
  have hcap := h.cap
  unfold maxLen at hm
  have HS0 := Lib.hid h
  have HTb : Hid (Tb w w.heap.size) := Lib.hid hT
  clear h hT
  by_cases hbig : 1048576 < (n : Int)
  · go_enter Tryd.func9, Tryd.ntmps9
    go_wp2
    go_ret
    exact ⟨rfl, Below.refl _ _⟩
  go_enter Tryd.func9, Tryd.ntmps9
  go_wp2_with fail
  refine (drawParseArm_any A n c zs _ HS0.out).mono ?_
  rintro e w1 ⟨Aa, ca, dsa, ba, t, rfl, hna, hsma, hbda, ht, hsa, hb⟩
  have HB_1 := Lib.hid hb
  have Tb_1 := Lib.hid ((HTb.out.below hb).call hb.size)
  clear HTb
  have Sa_1 := Lib.hid hsa
  have HSMa := Lib.hid hsma
  have HOKa : Hid (∀ d ∈ dsa, d.ok) := Lib.hid (fun d hd => small_ok (hsma d hd))
  have HBDa := Lib.hid hbda
  clear hb hsa hsma hbda
  obtain ⟨w2, hw⟩ : ∃ W : World, W = (w1.alloc (.cells #[.slice Aa dsa.length ca, .int .i64 ba] 32)) := ⟨_, rfl⟩
  have hb : Below w1.heap.size w1 w2 := by rw [hw]; exact ((Below.refl _ _).alloc (by first | exact Nat.le_refl _ | (simp; done) | (simp; omega)) _)
  have Tb_2 := Lib.hid ((Tb_1.out.below hb).call hb.size)
  have Sa_2 := Lib.hid ((Sa_1.out.below hb).call hb.size)
  have HB_2 : Hid (Below w.heap.size w w2) := Lib.hid (HB_1.out.trans (hb.mono HB_1.out.size))
  have ba_2 : w2.cell? ⟨w1.heap.size, 0, none⟩ = some (.slice Aa dsa.length ca) := by rw [hw]; simp [go_sem]
  have va_2 : w2.cell? ⟨w1.heap.size, 1, none⟩ = some (.int .i64 ba) := by rw [hw]; simp [go_sem]
  have lf_ba : (w1.alloc (.cells #[.slice Aa dsa.length ca, .int .i64 ba] 32)).cell? ⟨w1.heap.size, 0, none⟩ = some (.slice Aa dsa.length ca) := by rw [← hw]; exact ba_2
  have lf_va : (w1.alloc (.cells #[.slice Aa dsa.length ca, .int .i64 ba] 32)).cell? ⟨w1.heap.size, 1, none⟩ = some (.int .i64 ba) := by rw [← hw]; exact va_2
  have HW2 : Hid ((w1.alloc (.cells #[.slice Aa dsa.length ca, .int .i64 ba] 32)) = w2) := Lib.hid hw.symm
  clear hb hw Tb_1 Sa_1 HB_1
  obtain ⟨x, y, v, hR⟩ : ∃ (x y : Nat) (v : Bool), ArR (mPar dsa ba t) x y v := ⟨_, _, _, arR_of _⟩
  have HR := Lib.hid hR
  clear hR
  go_wp2_with fail
  rw [HW2.out]
  clear lf_ba lf_va
  refine (implParse_v dsa ba t _ _ _ _ Sa_2.out (by omega) (by omega) Tb_2.out HR.out).mono ?_
  rintro e w3 ⟨rfl, hb⟩
  have ba_3 := keep1 hb ba_2
  have va_3 := keep1 hb va_2
  have Tb_3 := Lib.hid ((Tb_2.out.below hb).call hb.size)
  have Sa_3 := Lib.hid ((Sa_2.out.below hb).call hb.size)
  have HB_3 : Hid (Below w.heap.size w w3) := Lib.hid (HB_2.out.trans (hb.mono HB_2.out.size))
  clear hb  ba_2 va_2 Tb_2 Sa_2 HB_2
  obtain ⟨w4, hw⟩ : ∃ W : World, W = (w3.alloc (.cells #[.int .i64 (x : Int), .int .i64 (y : Int)] 27)) := ⟨_, rfl⟩
  have hb : Below w3.heap.size w3 w4 := by rw [hw]; exact ((Below.refl _ _).alloc (by first | exact Nat.le_refl _ | (simp; done) | (simp; omega)) _)
  have ba_4 := keep1 hb ba_3
  have va_4 := keep1 hb va_3
  have Tb_4 := Lib.hid ((Tb_3.out.below hb).call hb.size)
  have Sa_4 := Lib.hid ((Sa_3.out.below hb).call hb.size)
  have HB_4 : Hid (Below w.heap.size w w4) := Lib.hid (HB_3.out.trans (hb.mono HB_3.out.size))
  have pg_4 : w4.cell? ⟨w3.heap.size, 0, none⟩ = some (.int .i64 (x : Int)) := by rw [hw]; simp [go_sem]
  have qg_4 : w4.cell? ⟨w3.heap.size, 1, none⟩ = some (.int .i64 (y : Int)) := by rw [hw]; simp [go_sem]
  have lf_ba : (w3.alloc (.cells #[.int .i64 (x : Int), .int .i64 (y : Int)] 27)).cell? ⟨w1.heap.size, 0, none⟩ = some (.slice Aa dsa.length ca) := by rw [← hw]; exact ba_4
  have lf_va : (w3.alloc (.cells #[.int .i64 (x : Int), .int .i64 (y : Int)] 27)).cell? ⟨w1.heap.size, 1, none⟩ = some (.int .i64 ba) := by rw [← hw]; exact va_4
  have lf_pg : (w3.alloc (.cells #[.int .i64 (x : Int), .int .i64 (y : Int)] 27)).cell? ⟨w3.heap.size, 0, none⟩ = some (.int .i64 (x : Int)) := by rw [← hw]; exact pg_4
  have lf_qg : (w3.alloc (.cells #[.int .i64 (x : Int), .int .i64 (y : Int)] 27)).cell? ⟨w3.heap.size, 1, none⟩ = some (.int .i64 (y : Int)) := by rw [← hw]; exact qg_4
  have HW4 : Hid ((w3.alloc (.cells #[.int .i64 (x : Int), .int .i64 (y : Int)] 27)) = w4) := Lib.hid hw.symm
  clear hb hw ba_3 va_3 Tb_3 Sa_3 HB_3
  go_wp2_with fail
  rw [HW4.out]
  clear lf_ba lf_va lf_pg lf_qg
  refine (specParse_v dsa ba t _ _ _ _ Sa_4.out (by omega) HR.out).mono ?_
  rintro e w5 ⟨rfl, hb⟩
  have ba_5 := keep1 hb ba_4
  have va_5 := keep1 hb va_4
  have pg_5 := keep1 hb pg_4
  have qg_5 := keep1 hb qg_4
  have Tb_5 := Lib.hid ((Tb_4.out.below hb).call hb.size)
  have Sa_5 := Lib.hid ((Sa_4.out.below hb).call hb.size)
  have HB_5 : Hid (Below w.heap.size w w5) := Lib.hid (HB_4.out.trans (hb.mono HB_4.out.size))
  clear hb  ba_4 va_4 pg_4 qg_4 Tb_4 Sa_4 HB_4
  obtain ⟨w6, hw⟩ : ∃ W : World, W = (w5.alloc (.cells #[.int .i64 (x : Int), .int .i64 (y : Int)] 27)) := ⟨_, rfl⟩
  have hb : Below w5.heap.size w5 w6 := by rw [hw]; exact ((Below.refl _ _).alloc (by first | exact Nat.le_refl _ | (simp; done) | (simp; omega)) _)
  have ba_6 := keep1 hb ba_5
  have va_6 := keep1 hb va_5
  have pg_6 := keep1 hb pg_5
  have qg_6 := keep1 hb qg_5
  have Tb_6 := Lib.hid ((Tb_5.out.below hb).call hb.size)
  have Sa_6 := Lib.hid ((Sa_5.out.below hb).call hb.size)
  have HB_6 : Hid (Below w.heap.size w w6) := Lib.hid (HB_5.out.trans (hb.mono HB_5.out.size))
  have pw_6 : w6.cell? ⟨w5.heap.size, 0, none⟩ = some (.int .i64 (x : Int)) := by rw [hw]; simp [go_sem]
  have qw_6 : w6.cell? ⟨w5.heap.size, 1, none⟩ = some (.int .i64 (y : Int)) := by rw [hw]; simp [go_sem]
  have lf_ba : (w5.alloc (.cells #[.int .i64 (x : Int), .int .i64 (y : Int)] 27)).cell? ⟨w1.heap.size, 0, none⟩ = some (.slice Aa dsa.length ca) := by rw [← hw]; exact ba_6
  have lf_va : (w5.alloc (.cells #[.int .i64 (x : Int), .int .i64 (y : Int)] 27)).cell? ⟨w1.heap.size, 1, none⟩ = some (.int .i64 ba) := by rw [← hw]; exact va_6
  have lf_pg : (w5.alloc (.cells #[.int .i64 (x : Int), .int .i64 (y : Int)] 27)).cell? ⟨w3.heap.size, 0, none⟩ = some (.int .i64 (x : Int)) := by rw [← hw]; exact pg_6
  have lf_qg : (w5.alloc (.cells #[.int .i64 (x : Int), .int .i64 (y : Int)] 27)).cell? ⟨w3.heap.size, 1, none⟩ = some (.int .i64 (y : Int)) := by rw [← hw]; exact qg_6
  have lf_pw : (w5.alloc (.cells #[.int .i64 (x : Int), .int .i64 (y : Int)] 27)).cell? ⟨w5.heap.size, 0, none⟩ = some (.int .i64 (x : Int)) := by rw [← hw]; exact pw_6
  have lf_qw : (w5.alloc (.cells #[.int .i64 (x : Int), .int .i64 (y : Int)] 27)).cell? ⟨w5.heap.size, 1, none⟩ = some (.int .i64 (y : Int)) := by rw [← hw]; exact qw_6
  have HW6 : Hid ((w5.alloc (.cells #[.int .i64 (x : Int), .int .i64 (y : Int)] 27)) = w6) := Lib.hid hw.symm
  clear hb hw ba_5 va_5 pg_5 qg_5 Tb_5 Sa_5 HB_5
  go_wp2_with fail
  rw [HW6.out]
  clear lf_ba lf_va lf_pg lf_qg lf_pw lf_qw
  refine (equalArm_any _ _ _).mono ?_
  rintro e w7 ⟨rfl, hb⟩
  have ba_7 := keep1 hb ba_6
  have va_7 := keep1 hb va_6
  have pg_7 := keep1 hb pg_6
  have qg_7 := keep1 hb qg_6
  have pw_7 := keep1 hb pw_6
  have qw_7 := keep1 hb qw_6
  have Tb_7 := Lib.hid ((Tb_6.out.below hb).call hb.size)
  have Sa_7 := Lib.hid ((Sa_6.out.below hb).call hb.size)
  have HB_7 : Hid (Below w.heap.size w w7) := Lib.hid (HB_6.out.trans (hb.mono HB_6.out.size))
  clear hb  ba_6 va_6 pg_6 qg_6 pw_6 qw_6 Tb_6 Sa_6 HB_6
  cases v
  · skip
    go_wp2_with fail
    refine (equalArm_any _ _ _).mono ?_
    rintro e w8 ⟨rfl, hb⟩
    have ba_8 := keep1 hb ba_7
    have va_8 := keep1 hb va_7
    have pg_8 := keep1 hb pg_7
    have qg_8 := keep1 hb qg_7
    have pw_8 := keep1 hb pw_7
    have qw_8 := keep1 hb qw_7
    have Tb_8 := Lib.hid ((Tb_7.out.below hb).call hb.size)
    have Sa_8 := Lib.hid ((Sa_7.out.below hb).call hb.size)
    have HB_8 : Hid (Below w.heap.size w w8) := Lib.hid (HB_7.out.trans (hb.mono HB_7.out.size))
    clear hb  ba_7 va_7 pg_7 qg_7 pw_7 qw_7 Tb_7 Sa_7 HB_7
    go_wp2
    go_ret
    exact ⟨by first | rfl | kernel_rfl | (go_simp; done), HB_8.out⟩
  obtain ⟨h1, h2⟩ := par_law HR.out
  have HV := Lib.hid h2
  have I1 : I64 (x : Int) := by have := (arR_small HR.out).1; unfold I64; omega
  have I2 : I64 (y : Int) := by have := (arR_small HR.out).2; unfold I64; omega
  have HIM : Hid (∀ (A : Option Addr) (m c : Nat) (w : World), SD w w.heap.size A m c dsa → m ≤ 1048576 → Calls Tryd.prog 37 #[.agg #[.slice A m c, .int .i64 ba], .agg #[.int .i64 x, .int .i64 y]] w (fun e w' => e = .returned (.string t) ∧ Below w.heap.size w w')) := Lib.hid (fun A m c w h hn => by have h3 := implArmT_v dsa ba x y A m c w h hn I1 I2; rw [h1] at h3; exact h3)
  have et : (t.toList == t.toList) = true := beq_self_eq_true _
  clear h1 h2 HR
  go_wp2_with fail
  refine (HIM.out _ _ _ _ Sa_7.out (by omega)).mono ?_
  rintro e w8 ⟨rfl, hb⟩
  have ba_8 := keep1 hb ba_7
  have va_8 := keep1 hb va_7
  have pg_8 := keep1 hb pg_7
  have qg_8 := keep1 hb qg_7
  have pw_8 := keep1 hb pw_7
  have qw_8 := keep1 hb qw_7
  have Tb_8 := Lib.hid ((Tb_7.out.below hb).call hb.size)
  have Sa_8 := Lib.hid ((Sa_7.out.below hb).call hb.size)
  have HB_8 : Hid (Below w.heap.size w w8) := Lib.hid (HB_7.out.trans (hb.mono HB_7.out.size))
  clear hb  ba_7 va_7 pg_7 qg_7 pw_7 qw_7 Tb_7 Sa_7 HB_7
  go_wp2_with fail
  refine (implValidArm_v dsa ba x y _ _ _ _ Sa_8.out (by omega) I1 I2 HV.out).mono ?_
  rintro e w9 ⟨rfl, hb⟩
  have ba_9 := keep1 hb ba_8
  have va_9 := keep1 hb va_8
  have pg_9 := keep1 hb pg_8
  have qg_9 := keep1 hb qg_8
  have pw_9 := keep1 hb pw_8
  have qw_9 := keep1 hb qw_8
  have Tb_9 := Lib.hid ((Tb_8.out.below hb).call hb.size)
  have Sa_9 := Lib.hid ((Sa_8.out.below hb).call hb.size)
  have HB_9 : Hid (Below w.heap.size w w9) := Lib.hid (HB_8.out.trans (hb.mono HB_8.out.size))
  clear hb  ba_8 va_8 pg_8 qg_8 pw_8 qw_8 Tb_8 Sa_8 HB_8
  go_wp2
  go_ret
  exact ⟨by first | rfl | kernel_rfl | (go_simp; done), HB_9.out⟩

theorem lifted (os : Os) (started : os.Started) (H : Type) (enc : TypeId × Value → H) :
    ReturnsInHanded {} Tryd.checked os 9 .any (fun w args => (Rows.fnParseArmSpec.pre enc Tryd.prog Tryd.f9 [] false w args ∧ laidMetH Tryd.prog laidL w) ∧ sizedMet enc Tryd.prog Tryd.f9 (OpenSpec.ofChange Rows.fnParseArmSpec) false w args) (Rows.fnParseArmSpec.post enc Tryd.prog Tryd.f9 false true false false) := by
  refine handed_shaped (C := Tryd.checked) (X := fun w _ => laidMetH Tryd.prog laidL w) (fun _ _ _ hh h => h.of_heap hh) own started (by kernel_rfl) Tryd.func9
    (ChangeSpec.witness_shaped (enc := enc) (C := Tryd.checked) (os := os) (X := fun w _ => laidMetH Tryd.prog laidL w) false (World.laidAll Tryd.prog os laidL) #[.slice none 0 0] 8 (World.laidAll_os _ _ _) (World.shaped_of_ZipB (by kernel_rfl) (by kernel_rfl)) (by kernel_rfl) (by kernel_rfl) (by kernel_rfl) (door_met os _)) ?_
  intro W base args ds gs before hval0 hW hcnd hL hsh
  have hval : ∀ (j : Nat) t v, Tryd.f9.params[j]? = some t → args[j]? = some v → Value.okWide Tryd.prog W .any base t v := hval0
  have hW' := hW
  obtain ⟨p, q, hA0, hV, rfl, hfz, hnd⟩ := hW
  have hA : DataW.TrodAll enc Tryd.prog W 0 (fun _ => true) true Tryd.f9.params.toList args.toList ds p := hA0
  rw [Tryd.params9] at hA hval
  obtain ⟨v0, vs0, d0, ds0, p0, q0, hargs, rfl, rfl, h0, r0⟩ := trodAll_cons hA
  obtain ⟨rfl, rfl, rfl⟩ := trodAll_nil r0
  obtain rfl : args = #[v0] := by cases args; simp_all
  obtain ⟨rfl, rfl⟩ := trodVars_none hV
  have k0 := h0
  have lt0 : ∀ x ∈ p0, x.block < W.heap.size := by obtain ⟨m, hm⟩ := k0; exact DataW.trod_lt m _ _ _ hm
  obtain ⟨A0, n0, c0, l0, rfl, w0⟩ := open_code (hval 0 47 v0 rfl rfl) h0
  clear hA0 hval0
  refine (walk A0 n0 c0 l0 W w0 (tab_of_laid hL hsh)).mono fun e W' ⟨he, bel⟩ => ?_
  subst he
  exact ⟨_, rfl, _, _, _, [], _, [], hW', trodAll_mk1 (shut_bool Tryd.underlying4 _), (trodAll_cons_mk (Below.trod laidOut (by kernel_rfl) (of_decide_eq_true (by kernel_rfl)) k0 bel lt0) trodAll_mk0), rfl, bel.frame _, fun h => by cases h⟩

theorem over : Rows.fnParseArmRow.holds Tryd.pinned (OpenSpec.ofChange Rows.fnParseArmSpec) :=
  OpenClaim.holds_of_wide 9 Tryd.f9 rfl rfl rfl rfl rfl rfl rfl ⟨rfl, rfl, rfl, rfl, rfl⟩ rfl rfl rfl rfl rfl (by kernel_rfl) Tryd.func9 (by kernel_rfl)
    (of_decide_eq_true (by kernel_rfl)) (by unfold Func.isWrapper; first | (rw [if_pos (by decide +kernel)]; kernel_rfl) | (rw [if_neg (by decide +kernel)]; exact ⟨rfl, rfl⟩))
    (fun os started H enc _ => lifted os started H enc)

theorem proved : Rows.FnParseArmCardSaid :=
  Claim7.holds_tied_plain_at .later [] laidK true _ true
    over (fun _ h => by cases h) (by kernel_rfl) (fun _ h => by cases h) fnParseArm_row_tie rfl ⟨rfl, rfl⟩ (by kernel_rfl) rfl
    (fun f fn hf hfn => by
      obtain rfl : f = 9 := (Option.some.inj ((show Tryd.prog.funcNamed "loop.example/namedflags/laws.FnParseArm" = some 9 by kernel_rfl).symm.trans hf)).symm
      obtain rfl : fn = Tryd.f9 := (Option.some.inj (Tryd.func9.symm.trans hfn)).symm
      exact ⟨by kernel_rfl, fun j t ht => by
        have hm := Array.mem_of_getElem? ht
        have hall : (List.all (Array.toList Tryd.f9.params) fun u => !Tryd.prog.wantsStandIn u) = true := by kernel_rfl
        exact (show Tryd.prog.wantsStandIn t = false by simpa using List.all_eq_true.1 hall t (by simpa using hm))⟩)
    (by kernel_rfl)
end Go.Proofs.YtpfdghbjagdhfaaDoor.fnParseArm
