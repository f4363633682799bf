/-
For every code the law of texts of arms returns true: the program's ArmText answers as its model, and ParseArm of it is the arm.
Conditions: none.
-/
import Derived.Test.YtpfdghbjagdhfaaDoorGenY
import Derived.Test.YtpfdghbjagdhfaaDoorOpenC
import Derived.Test.YtpfdghbjagdhfaaDoorLAt
import Derived.Test.YtpfdghbjagdhfaaDoorBaseM
import Derived.Test.YtpfdghbjagdhfaaDoorBaseO
import Derived.Test.YtpfdghbjagdhfaaDoorBaseR
import Derived.Test.YtpfdghbjagdhfaaDoorArmD
namespace Go.Proofs.YtpfdghbjagdhfaaDoor.fnArmText
open Go.ChangeShapes Go.WideShapes Go.ChangeAt Go.RowKit
open Go.ChangeMaps (open_string shut_string)
set_option linter.unusedVariables false
set_option linter.unusedSimpArgs false
set_option maxRecDepth 100000

set_option maxHeartbeats 16000000 in
theorem walk (A : Option Addr) (n c : Nat) (zs : List Int) (w : World) (h : SB w w.heap.size A n c zs) (hT : TabAt w) :
    Calls Tryd.prog 8 #[.slice A n c] w fun e w' => e = .returned (.bool true) ∧ Below w.heap.size w w' := by
  have hm := h.max
  have hcap := h.cap
  unfold maxLen at hm
  have HS0 := Lib.hid h
  have HTb : Hid (Tb w w.heap.size) := Lib.hid hT
  clear h hT
  by_cases hbig : 1048576 < (n : Int)
  · go_enter Tryd.func8, Tryd.ntmps8
    go_wp2
    go_ret
    exact ⟨rfl, Below.refl _ _⟩
  go_enter Tryd.func8, Tryd.ntmps8
  go_wp2_with fail
  refine (drawArmText_any A n c zs _ HS0.out).mono ?_
  rintro e w1 ⟨Aa, ca, dsa, ba, x1, y1, rfl, hna, hsma, hbda, hx1, hy1, hsa, hb⟩
  have HB_1 := Lib.hid hb
  have Tb_1 := Lib.hid ((HTb.out.below hb).call hb.size)
  clear HTb
  have Sa_1 := Lib.hid hsa
  have HSMa := Lib.hid hsma
  have HOKa : Hid (∀ d ∈ dsa, d.ok) := Lib.hid (fun d hd => small_ok (hsma d hd))
  have HBDa := Lib.hid hbda
  have I11 : I64 x1 := by unfold I64; omega
  have I12 : I64 y1 := by unfold I64; omega
  clear hb hsa hsma hbda
  obtain ⟨w2, hw⟩ : ∃ W : World, W = ((w1.alloc (.cells #[.slice Aa dsa.length ca, .int .i64 ba] 32)).alloc (.cells #[.int .i64 x1, .int .i64 y1] 27)) := ⟨_, rfl⟩
  have hb : Below w1.heap.size w1 w2 := by rw [hw]; exact (((Below.refl _ _).alloc (by first | exact Nat.le_refl _ | (simp; done) | (simp; omega)) _).alloc (by first | exact Nat.le_refl _ | (simp; done) | (simp; omega)) _)
  have Tb_2 := Lib.hid ((Tb_1.out.below hb).call hb.size)
  have Sa_2 := Lib.hid ((Sa_1.out.below hb).call hb.size)
  have HB_2 : Hid (Below w.heap.size w w2) := Lib.hid (HB_1.out.trans (hb.mono HB_1.out.size))
  have ba_2 : w2.cell? ⟨w1.heap.size, 0, none⟩ = some (.slice Aa dsa.length ca) := by rw [hw]; simp [go_sem]
  have va_2 : w2.cell? ⟨w1.heap.size, 1, none⟩ = some (.int .i64 ba) := by rw [hw]; simp [go_sem]
  have p1_2 : w2.cell? ⟨w1.heap.size + 1, 0, none⟩ = some (.int .i64 x1) := by rw [hw]; simp [go_sem]
  have q1_2 : w2.cell? ⟨w1.heap.size + 1, 1, none⟩ = some (.int .i64 y1) := by rw [hw]; simp [go_sem]
  have lf_ba : ((w1.alloc (.cells #[.slice Aa dsa.length ca, .int .i64 ba] 32)).alloc (.cells #[.int .i64 x1, .int .i64 y1] 27)).cell? ⟨w1.heap.size, 0, none⟩ = some (.slice Aa dsa.length ca) := by rw [← hw]; exact ba_2
  have lf_va : ((w1.alloc (.cells #[.slice Aa dsa.length ca, .int .i64 ba] 32)).alloc (.cells #[.int .i64 x1, .int .i64 y1] 27)).cell? ⟨w1.heap.size, 1, none⟩ = some (.int .i64 ba) := by rw [← hw]; exact va_2
  have lf_p1 : ((w1.alloc (.cells #[.slice Aa dsa.length ca, .int .i64 ba] 32)).alloc (.cells #[.int .i64 x1, .int .i64 y1] 27)).cell? ⟨w1.heap.size + 1, 0, none⟩ = some (.int .i64 x1) := by rw [← hw]; exact p1_2
  have lf_q1 : ((w1.alloc (.cells #[.slice Aa dsa.length ca, .int .i64 ba] 32)).alloc (.cells #[.int .i64 x1, .int .i64 y1] 27)).cell? ⟨w1.heap.size + 1, 1, none⟩ = some (.int .i64 y1) := by rw [← hw]; exact q1_2
  have HW2 : Hid (((w1.alloc (.cells #[.slice Aa dsa.length ca, .int .i64 ba] 32)).alloc (.cells #[.int .i64 x1, .int .i64 y1] 27)) = w2) := Lib.hid hw.symm
  clear hb hw Tb_1 Sa_1 HB_1
  have HIM : Hid (∀ (A : Option Addr) (m c : Nat) (w : World), SD w w.heap.size A m c dsa → m ≤ 1048576 → Calls Tryd.prog 37 #[.agg #[.slice A m c, .int .i64 ba], .agg #[.int .i64 x1, .int .i64 y1]] w (fun e w' => e = .returned (.string (mArmT dsa ba ⟨x1, y1⟩)) ∧ Below w.heap.size w w')) := Lib.hid (fun A m c w h hn => implArmT_v dsa ba x1 y1 A m c w h hn I11 I12)
  have HSP : Hid (∀ (A : Option Addr) (m c : Nat) (w : World), SD w w.heap.size A m c dsa → Calls Tryd.prog 38 #[.agg #[.slice A m c, .int .i64 ba], .agg #[.int .i64 x1, .int .i64 y1]] w (fun e w' => e = .returned (.string (mArmT dsa ba ⟨x1, y1⟩)) ∧ Below w.heap.size w w')) := Lib.hid (fun A m c w h => specArmT_v dsa ba x1 y1 A m c w h)
  obtain ⟨s, hs⟩ : ∃ s, mArmT dsa ba ⟨x1, y1⟩ = s := ⟨_, rfl⟩
  have HS1 := Lib.hid hs
  rw [hs] at HIM HSP
  clear hs
  go_wp2_with fail
  rw [HW2.out]
  clear lf_ba lf_va lf_p1 lf_q1
  refine (HIM.out _ _ _ _ Sa_2.out (by omega)).mono ?_
  rintro e w3 ⟨rfl, hb⟩
  have ba_3 := keep1 hb ba_2
  have va_3 := keep1 hb va_2
  have p1_3 := keep1 hb p1_2
  have q1_3 := keep1 hb q1_2
  have Tb_3 := Lib.hid ((Tb_2.out.below hb).call hb.size)
  have Sa_3 := Lib.hid ((Sa_2.out.below hb).call hb.size)
  have HB_3 : Hid (Below w.heap.size w w3) := Lib.hid (HB_2.out.trans (hb.mono HB_2.out.size))
  clear hb  ba_2 va_2 p1_2 q1_2 Tb_2 Sa_2 HB_2
  go_wp2_with fail
  refine (HSP.out _ _ _ _ Sa_3.out).mono ?_
  rintro e w4 ⟨rfl, hb⟩
  have ba_4 := keep1 hb ba_3
  have va_4 := keep1 hb va_3
  have p1_4 := keep1 hb p1_3
  have q1_4 := keep1 hb q1_3
  have Tb_4 := Lib.hid ((Tb_3.out.below hb).call hb.size)
  have Sa_4 := Lib.hid ((Sa_3.out.below hb).call hb.size)
  have HB_4 : Hid (Below w.heap.size w w4) := Lib.hid (HB_3.out.trans (hb.mono HB_3.out.size))
  clear hb  ba_3 va_3 p1_3 q1_3 Tb_3 Sa_3 HB_3
  by_cases hs0 : s = ⟨#[]⟩
  · skip
    subst hs0
    go_wp2_with fail
    refine (HSP.out _ _ _ _ Sa_4.out).mono ?_
    rintro e w5 ⟨rfl, hb⟩
    have ba_5 := keep1 hb ba_4
    have va_5 := keep1 hb va_4
    have p1_5 := keep1 hb p1_4
    have q1_5 := keep1 hb q1_4
    have Tb_5 := Lib.hid ((Tb_4.out.below hb).call hb.size)
    have Sa_5 := Lib.hid ((Sa_4.out.below hb).call hb.size)
    have HB_5 : Hid (Below w.heap.size w w5) := Lib.hid (HB_4.out.trans (hb.mono HB_4.out.size))
    clear hb  ba_4 va_4 p1_4 q1_4 Tb_4 Sa_4 HB_4
    go_wp2
    go_ret
    exact ⟨by first | rfl | kernel_rfl | (go_simp; done), HB_5.out⟩
  obtain ⟨p, q, rfl, rfl, hR, hsz⟩ := arm_law HS1.out hs0
  have HR := Lib.hid hR
  have hne : (s.toList == []) = false := nilNo hs0
  have ex : ((p : Int) == (p : Int)) = true := beq_self_eq_true _
  have ey : ((q : Int) == (q : Int)) = true := beq_self_eq_true _
  clear hR hs0 HS1 HIM HSP
  go_wp2_with fail
  refine (implParse_v dsa ba s _ _ _ _ Sa_4.out (by omega) (by omega) Tb_4.out HR.out).mono ?_
  rintro e w5 ⟨rfl, hb⟩
  have ba_5 := keep1 hb ba_4
  have va_5 := keep1 hb va_4
  have p1_5 := keep1 hb p1_4
  have q1_5 := keep1 hb q1_4
  have Tb_5 := Lib.hid ((Tb_4.out.below hb).call hb.size)
  have Sa_5 := Lib.hid ((Sa_4.out.below hb).call hb.size)
  have HB_5 : Hid (Below w.heap.size w w5) := Lib.hid (HB_4.out.trans (hb.mono HB_4.out.size))
  clear hb  ba_4 va_4 p1_4 q1_4 Tb_4 Sa_4 HB_4
  obtain ⟨w6, hw⟩ : ∃ W : World, W = (w5.alloc (.cells #[.int .i64 (p : Int), .int .i64 (q : Int)] 27)) := ⟨_, rfl⟩
  have hb : Below w5.heap.size w5 w6 := by rw [hw]; exact ((Below.refl _ _).alloc (by first | exact Nat.le_refl _ | (simp; done) | (simp; omega)) _)
  have ba_6 := keep1 hb ba_5
  have va_6 := keep1 hb va_5
  have p1_6 := keep1 hb p1_5
  have q1_6 := keep1 hb q1_5
  have Tb_6 := Lib.hid ((Tb_5.out.below hb).call hb.size)
  have Sa_6 := Lib.hid ((Sa_5.out.below hb).call hb.size)
  have HB_6 : Hid (Below w.heap.size w w6) := Lib.hid (HB_5.out.trans (hb.mono HB_5.out.size))
  have pb_6 : w6.cell? ⟨w5.heap.size, 0, none⟩ = some (.int .i64 (p : Int)) := by rw [hw]; simp [go_sem]
  have qb_6 : w6.cell? ⟨w5.heap.size, 1, none⟩ = some (.int .i64 (q : Int)) := by rw [hw]; simp [go_sem]
  have lf_ba : (w5.alloc (.cells #[.int .i64 (p : Int), .int .i64 (q : Int)] 27)).cell? ⟨w1.heap.size, 0, none⟩ = some (.slice Aa dsa.length ca) := by rw [← hw]; exact ba_6
  have lf_va : (w5.alloc (.cells #[.int .i64 (p : Int), .int .i64 (q : Int)] 27)).cell? ⟨w1.heap.size, 1, none⟩ = some (.int .i64 ba) := by rw [← hw]; exact va_6
  have lf_p1 : (w5.alloc (.cells #[.int .i64 (p : Int), .int .i64 (q : Int)] 27)).cell? ⟨w1.heap.size + 1, 0, none⟩ = some (.int .i64 (p : Int)) := by rw [← hw]; exact p1_6
  have lf_q1 : (w5.alloc (.cells #[.int .i64 (p : Int), .int .i64 (q : Int)] 27)).cell? ⟨w1.heap.size + 1, 1, none⟩ = some (.int .i64 (q : Int)) := by rw [← hw]; exact q1_6
  have lf_pb : (w5.alloc (.cells #[.int .i64 (p : Int), .int .i64 (q : Int)] 27)).cell? ⟨w5.heap.size, 0, none⟩ = some (.int .i64 (p : Int)) := by rw [← hw]; exact pb_6
  have lf_qb : (w5.alloc (.cells #[.int .i64 (p : Int), .int .i64 (q : Int)] 27)).cell? ⟨w5.heap.size, 1, none⟩ = some (.int .i64 (q : Int)) := by rw [← hw]; exact qb_6
  have HW6 : Hid ((w5.alloc (.cells #[.int .i64 (p : Int), .int .i64 (q : Int)] 27)) = w6) := Lib.hid hw.symm
  clear hb hw ba_5 va_5 p1_5 q1_5 Tb_5 Sa_5 HB_5
  go_wp2
  go_ret
  rw [HW6.out]
  exact ⟨by first | rfl | kernel_rfl | (go_simp; done), HB_6.out⟩

theorem lifted (os : Os) (started : os.Started) (H : Type) (enc : TypeId × Value → H) :
    ReturnsInHanded {} Tryd.checked os 8 .any (fun w args => (Rows.fnArmTextSpec.pre enc Tryd.prog Tryd.f8 [] false w args ∧ laidMetH Tryd.prog laidL w) ∧ sizedMet enc Tryd.prog Tryd.f8 (OpenSpec.ofChange Rows.fnArmTextSpec) false w args) (Rows.fnArmTextSpec.post enc Tryd.prog Tryd.f8 false true false false) := by
  refine handed_shaped (C := Tryd.checked) (X := fun w _ => laidMetH Tryd.prog laidL w) (fun _ _ _ hh h => h.of_heap hh) own started (by kernel_rfl) Tryd.func8
    (ChangeSpec.witness_shaped (enc := enc) (C := Tryd.checked) (os := os) (X := fun w _ => laidMetH Tryd.prog laidL w) false (World.laidAll Tryd.prog os laidL) #[.slice none 0 0] 8 (World.laidAll_os _ _ _) (World.shaped_of_ZipB (by kernel_rfl) (by kernel_rfl)) (by kernel_rfl) (by kernel_rfl) (by kernel_rfl) (door_met os _)) ?_
  intro W base args ds gs before hval0 hW hcnd hL hsh
  have hval : ∀ (j : Nat) t v, Tryd.f8.params[j]? = some t → args[j]? = some v → Value.okWide Tryd.prog W .any base t v := hval0
  have hW' := hW
  obtain ⟨p, q, hA0, hV, rfl, hfz, hnd⟩ := hW
  have hA : DataW.TrodAll enc Tryd.prog W 0 (fun _ => true) true Tryd.f8.params.toList args.toList ds p := hA0
  rw [Tryd.params8] at hA hval
  obtain ⟨v0, vs0, d0, ds0, p0, q0, hargs, rfl, rfl, h0, r0⟩ := trodAll_cons hA
  obtain ⟨rfl, rfl, rfl⟩ := trodAll_nil r0
  obtain rfl : args = #[v0] := by cases args; simp_all
  obtain ⟨rfl, rfl⟩ := trodVars_none hV
  have k0 := h0
  have lt0 : ∀ x ∈ p0, x.block < W.heap.size := by obtain ⟨m, hm⟩ := k0; exact DataW.trod_lt m _ _ _ hm
  obtain ⟨A0, n0, c0, l0, rfl, w0⟩ := open_code (hval 0 47 v0 rfl rfl) h0
  clear hA0 hval0
  refine (walk A0 n0 c0 l0 W w0 (tab_of_laid hL hsh)).mono fun e W' ⟨he, bel⟩ => ?_
  subst he
  exact ⟨_, rfl, _, _, _, [], _, [], hW', trodAll_mk1 (shut_bool Tryd.underlying4 _), (trodAll_cons_mk (Below.trod laidOut (by kernel_rfl) (of_decide_eq_true (by kernel_rfl)) k0 bel lt0) trodAll_mk0), rfl, bel.frame _, fun h => by cases h⟩

theorem over : Rows.fnArmTextRow.holds Tryd.pinned (OpenSpec.ofChange Rows.fnArmTextSpec) :=
  OpenClaim.holds_of_wide 8 Tryd.f8 rfl rfl rfl rfl rfl rfl rfl ⟨rfl, rfl, rfl, rfl, rfl⟩ rfl rfl rfl rfl rfl (by kernel_rfl) Tryd.func8 (by kernel_rfl)
    (of_decide_eq_true (by kernel_rfl)) (by unfold Func.isWrapper; first | (rw [if_pos (by decide +kernel)]; kernel_rfl) | (rw [if_neg (by decide +kernel)]; exact ⟨rfl, rfl⟩))
    (fun os started H enc _ => lifted os started H enc)

theorem proved : Rows.FnArmTextCardSaid :=
  Claim7.holds_tied_plain_at .later [] laidK true _ true
    over (fun _ h => by cases h) (by kernel_rfl) (fun _ h => by cases h) fnArmText_row_tie rfl ⟨rfl, rfl⟩ (by kernel_rfl) rfl
    (fun f fn hf hfn => by
      obtain rfl : f = 8 := (Option.some.inj ((show Tryd.prog.funcNamed "loop.example/namedflags/laws.FnArmText" = some 8 by kernel_rfl).symm.trans hf)).symm
      obtain rfl : fn = Tryd.f8 := (Option.some.inj (Tryd.func8.symm.trans hfn)).symm
      exact ⟨by kernel_rfl, fun j t ht => by
        have hm := Array.mem_of_getElem? ht
        have hall : (List.all (Array.toList Tryd.f8.params) fun u => !Tryd.prog.wantsStandIn u) = true := by kernel_rfl
        exact (show Tryd.prog.wantsStandIn t = false by simpa using List.all_eq_true.1 hall t (by simpa using hm))⟩)
    (by kernel_rfl)
end Go.Proofs.YtpfdghbjagdhfaaDoor.fnArmText
