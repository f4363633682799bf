import Derived.Test.YtpfdghbjagdhfaaDoorAuQ
import Derived.Test.YtpfdghbjagdhfaaDoorParI
namespace Go.Proofs.YtpfdghbjagdhfaaDoor
open Go.RowKit Go.Maps
set_option linter.unusedVariables false
set_option linter.unusedSimpArgs false
set_option maxRecDepth 100000

theorem text_no {s t : ByteArray} (h : t ≠ s) : (t.toList == s.toList) = false := by
  rw [beq_eq_false_iff_ne]
  exact fun e => h (nm_inj e)

set_option maxHeartbeats 16000000 in
theorem implParse_v (ds : List D) (b : Int) (s : ByteArray) (A : Option Addr) (m c : Nat) (w : World) (hr : SD w w.heap.size A m c ds) (hn : m ≤ 1048576) (hs : s.size ≤ 1048576) (hT : MT w w.heap.size) {x y : Nat} {v : Bool} (hm : ArR (mPar ds b s) x y v) :
    Calls Tryd.prog 15 #[.agg #[.slice A m c, .int .i64 b], .string s] w fun e w' => e = .returned (.tuple #[.agg #[.int .i64 x, .int .i64 y], .bool v]) ∧ Below w.heap.size w w' := by
  have HF := Lib.hid ((FB.start hr b).alloc (.cells #[.int .i64 0, .int .i64 0] 27))
  have HC : Hid (C2 ((w.alloc (.cells #[.slice A m c, .int .i64 b] 32)).alloc (.cells #[.int .i64 0, .int .i64 0] 27)) (w.heap.size + 1) (.int .i64 0) (.int .i64 0)) := Lib.hid (c2New' _ _ _ _ _)
  have HOK := Lib.hid (mSg_ok hr.ok)
  have HT := Lib.hid hT
  have HMR := Lib.hid hm
  clear hr hT hm
  obtain ⟨w0, hw⟩ : ∃ W : World, W = ((w.alloc (.cells #[.slice A m c, .int .i64 b] 32)).alloc (.cells #[.int .i64 0, .int .i64 0] 27)) := ⟨_, rfl⟩
  have f0 : ((w.alloc (.cells #[.slice A m c, .int .i64 b] 32)).alloc (.cells #[.int .i64 0, .int .i64 0] 27)).cell? ⟨w.heap.size, 0, none⟩ = some (.slice A m c) := HF.out.c0
  have f1 : ((w.alloc (.cells #[.slice A m c, .int .i64 b] 32)).alloc (.cells #[.int .i64 0, .int .i64 0] 27)).cell? ⟨w.heap.size, 1, none⟩ = some (.int .i64 b) := HF.out.c1
  rw [← hw] at HF HC
  have HW := Lib.hid hw.symm
  clear hw
  cases hv : vFlag ds b
  · have HV := Lib.hid hv
    obtain ⟨rfl, rfl, rfl⟩ := HMR.out.no (by unfold mPar; rw [hv]; rfl)
    clear hv HMR
    go_enter Tryd.func15, Tryd.ntmps15
    go_wp2_with fail
    rw [HW.out]
    clear HW f0 f1
    refine (classOf_no ds b _ _ _ _ HF.out.sd hn HV.out).mono ?_
    rintro e w1 ⟨rfl, hb⟩
    have HB1 := Lib.hid (HF.out.after hb)
    have hst := st_nilFunc
    obtain ⟨r0, r1, rf0, rf1⟩ := (HC.out.below hb).below ((Below.refl _ _).alloc (Nat.le_refl _) (.cells #[.slice none 0 0, .nilFunc, .int .i64 0] 68))
    clear hb
    go_wp2
    exact bodyPost_ret (v := .tuple #[.agg #[.int .i64 0, .int .i64 0], .bool false]) (by simp [results, Tryd.results15, go_sem, r0, r1]) rfl ⟨rfl, ((HB1.out.alloc HB1.out.size _).setCell (by show w.heap.size ≤ w.heap.size + 1; omega) _).setCell (by show w.heap.size ≤ w.heap.size + 1; omega) _⟩
  have HV := Lib.hid hv
  have HIN := Lib.hid (mSg_in (vFlag_in hv))
  have HSG := Lib.hid (fun (A : Option Addr) (n c : Nat) (w : World) (hr : SD w w.heap.size A n c ds) => implSg_any ds A n c w hr)
  unfold DefsP at HSG
  obtain ⟨x1, hx1⟩ : ∃ t, ((arV (mSg ds) s).getD (0, 0)).1 = t := ⟨_, rfl⟩
  obtain ⟨y1, hy1⟩ : ∃ t, ((arV (mSg ds) s).getD (0, 0)).2 = t := ⟨_, rfl⟩
  obtain ⟨v1, hv1⟩ : ∃ t, (arV (mSg ds) s).isSome = t := ⟨_, rfl⟩
  have HAR := Lib.hid (arR_of (arV (mSg ds) s))
  rw [hx1, hy1, hv1] at HAR
  obtain ⟨hxl, hyl⟩ := arR_lt HIN.out HAR.out
  have HNO : Hid (v1 = false → x = 0 ∧ y = 0 ∧ v = false) := Lib.hid fun e => HMR.out.no (par_no hv (by rw [← e]; exact HAR.out))
  have HYES : Hid (v1 = true → mPar ds b s = if mArmT ds b ⟨x1, y1⟩ = s then some (x1, y1) else none) := Lib.hid fun e => par_yes hv (by rw [← e]; exact HAR.out)
  have HATX := Lib.hid (fun (A : Option Addr) (m c : Nat) (w : World) (hr : SD w w.heap.size A m c ds) (hn : m ≤ 1048576) => implArmT_v ds b (x1 : Int) (y1 : Int) A m c w hr hn (by unfold I64; omega) (by unfold I64; omega))
  obtain ⟨tx, htx⟩ : ∃ tx, mArmT ds b ⟨(x1 : Int), (y1 : Int)⟩ = tx := ⟨_, rfl⟩
  rw [htx] at HATX HYES
  clear hv hx1 hy1 hv1 htx
  obtain ⟨fid, hfid⟩ := bdF_form b
  obtain ⟨wh, hwh⟩ : ∃ wh, mWhole ds b = wh := ⟨_, rfl⟩
  have HFID := Lib.hid hfid
  have HWH := Lib.hid hwh
  clear hfid hwh
  generalize mSg ds = ms at *
  go_enter Tryd.func15, Tryd.ntmps15
  go_wp2_with fail
  rw [HW.out]
  clear HW f0 f1
  refine (classOf_x ds b _ _ _ _ HF.out.sd HV.out HFID.out HWH.out).mono ?_
  rintro e w1 ⟨rfl, hb⟩
  have HF1 := Lib.hid (HF.out.call hb)
  have HK := Lib.hid (FC.start HF1.out fid wh)
  have HFK := Lib.hid (HF1.out.alloc (.cells #[.slice A m c, .func (.func fid) #[] #[], .int .i64 wh] 68))
  have HCK : Hid (C2 (w1.alloc (.cells #[.slice A m c, .func (.func fid) #[] #[], .int .i64 wh] 68)) (w.heap.size + 1) (.int .i64 0) (.int .i64 0)) := Lib.hid ((HC.out.below hb).below ((Below.refl _ _).alloc (Nat.le_refl _) _))
  have hst := st_func
  have g0 := HK.out.c0
  clear hb HF HC HF1
  go_wp2_with fail
  generalize (w1.alloc (.cells #[.slice A m c, .func (.func fid) #[] #[], .int .i64 wh] 68)) = wk at *
  refine (HSG.out _ _ _ _ HK.out.sd).mono ?_
  rintro e w2 ⟨As, cs, rfl, ho, hb⟩
  have HS2 := Lib.hid (sd_of_own ho HOK.out)
  have HC2 := Lib.hid (HCK.out.below hb)
  have HF2 := Lib.hid (HFK.out.call hb)
  clear hb ho HSG HK HCK HFK g0
  go_wp2_with fail
  refine (implReadArm_v ms s _ _ _ _ HS2.out HIN.out hs (HT.out.call HF2.out.bel) HAR.out).mono ?_
  rintro e w3 ⟨rfl, hb⟩
  have HC3 := Lib.hid ((HC2.out.below hb).below ((Below.refl _ _).alloc (Nat.le_refl _) (.cells #[.int .i64 (x1 : Int), .int .i64 (y1 : Int)] 27)))
  have HF3 := Lib.hid ((HF2.out.call hb).alloc (.cells #[.int .i64 (x1 : Int), .int .i64 (y1 : Int)] 27))
  have HA3 : Hid (C2 (w3.alloc (.cells #[.int .i64 (x1 : Int), .int .i64 (y1 : Int)] 27)) w3.heap.size (.int .i64 (x1 : Int)) (.int .i64 (y1 : Int))) := Lib.hid (c2New _ _ _ _)
  clear hb HS2 HC2 HF2
  cases v1
  · obtain ⟨rfl, rfl, rfl⟩ := HNO.out (by first | rfl | trivial)
    obtain ⟨r0, r1, rf0, rf1⟩ := HC3.out
    have HB3 := Lib.hid HF3.out.bel
    go_wp2
    exact bodyPost_ret (v := .tuple #[.agg #[.int .i64 0, .int .i64 0], .bool false]) (by simp [results, Tryd.results15, go_sem, r0, r1]) rfl ⟨rfl, (HB3.out.setCell (by show w.heap.size ≤ w.heap.size + 1; omega) _).setCell (by show w.heap.size ≤ w.heap.size + 1; omega) _⟩
  have c0 := HF3.out.c0
  have c1 := HF3.out.c1
  have a0 := HA3.out.c0
  have a1 := HA3.out.c1
  go_wp2_with fail
  generalize (w3.alloc (.cells #[.int .i64 (x1 : Int), .int .i64 (y1 : Int)] 27)) = w4 at *
  refine (HATX.out _ _ _ _ HF3.out.sd hn).mono ?_
  rintro e w5 ⟨rfl, hb⟩
  have k0 := keep1 hb a0
  have k1 := keep1 hb a1
  obtain ⟨r0, r1, rf0, rf1⟩ := HC3.out.below hb
  have HB5 := Lib.hid (HF3.out.after hb)
  clear hb c0 c1 a0 a1 HC3 HF3 HA3
  by_cases htx : tx = s
  · obtain ⟨rfl, rfl, rfl⟩ := HMR.out.yes x1 y1 (by rw [HYES.out (by first | rfl | trivial), if_pos htx])
    subst htx
    go_wp2
    exact bodyPost_ret (v := .tuple #[.agg #[.int .i64 x, .int .i64 y], .bool true]) (by simp [results, Tryd.results15, go_sem, r0, r1, k0, k1]) rfl ⟨rfl, (HB5.out.setCell (by show w.heap.size ≤ w.heap.size + 1; omega) _).setCell (by show w.heap.size ≤ w.heap.size + 1; omega) _⟩
  · obtain ⟨rfl, rfl, rfl⟩ := HMR.out.no (by rw [HYES.out (by first | rfl | trivial), if_neg htx])
    have hne := text_no htx
    clear HYES HMR HNO
    go_wp2
    exact bodyPost_ret (v := .tuple #[.agg #[.int .i64 0, .int .i64 0], .bool false]) (by simp [results, Tryd.results15, go_sem, r0, r1]) rfl ⟨rfl, (HB5.out.setCell (by show w.heap.size ≤ w.heap.size + 1; omega) _).setCell (by show w.heap.size ≤ w.heap.size + 1; omega) _⟩
end Go.Proofs.YtpfdghbjagdhfaaDoor
