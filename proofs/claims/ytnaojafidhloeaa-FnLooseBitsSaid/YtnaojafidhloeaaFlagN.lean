import Derived.Test.YtnaojafidhloeaaFlagM
import Derived.Test.YtnaojafidhloeaaEdit
import Derived.Deep.RegionHeld3
namespace Go.Proofs.Ytnaojafidhloeaa
open Go.RowKit Go.Maps
set_option linter.unusedVariables false
set_option maxRecDepth 100000

/-! ### the program's LooseBits -/
set_option maxHeartbeats 4000000 in
theorem implLooseOf_v (ds : List D) (b : Int) (A : Option Addr) (n c : Nat) (w : World) (hr : SD w w.heap.size A n c ds) (hn : n ≤ 1048576) {r : Int} (hm : mLooseOf ds b = r) :
    Calls Try.prog 23 #[.agg #[.slice A n c, .int .i64 b]] w fun e w' => e = .returned (.int .i64 r) ∧ Below w.heap.size w w' := by
  subst hm
  have HF := Lib.hid (FB.start hr b)
  have HOK := Lib.hid hr.ok
  clear hr
  cases hv : vFlag ds b
  · have HV := Lib.hid hv
    have HM : Hid (mLooseOf ds b = -1) := Lib.hid (if_no hv)
    clear hv
    go_enter Try.func23, Try.ntmps23
    go_wp2_with fail
    refine (classOf_no ds b _ _ _ _ HF.out.sd hn HV.out).mono ?_
    rintro e w1 ⟨rfl, hb⟩
    have HB1 := Lib.hid (HF.out.after hb)
    have hst := st_nilFunc
    clear hb
    go_wp2
    go_ret
    exact ⟨by rw [HM.out]; first | done | rfl, HB1.out.alloc HB1.out.size _⟩
  · have HV := Lib.hid hv
    have HM : Hid (mLooseOf ds b = ((mLoose ds : Nat) : Int)) := Lib.hid (if_yes hv)
    have HIN := Lib.hid (small40 (vFlag_in hv))
    have HIS := Lib.hid (small40 (mSg_in (vFlag_in hv)))
    have h1 := mMask_lt12 (vFlag_in hv)
    have h2 := mMask_lt12 (mSg_in (vFlag_in hv))
    clear hv
    unfold mLoose at HM
    obtain ⟨x, hx⟩ : ∃ x, mMask ds = x := ⟨_, rfl⟩
    obtain ⟨y, hy⟩ : ∃ y, mMask (mSg ds) = y := ⟨_, rfl⟩
    rw [hx, hy] at HM
    rw [hx] at h1
    rw [hy] at h2
    have HX := Lib.hid hx
    have HY := Lib.hid hy
    have hnl := i64_andNot_nat x y (by omega) (by omega)
    generalize nl x y = z at *
    obtain ⟨fid, hfid⟩ := bdF_form b
    obtain ⟨wh, hwh⟩ : ∃ wh, mWhole ds b = wh := ⟨_, rfl⟩
    have HFID := Lib.hid hfid
    have HWH := Lib.hid hwh
    clear hfid hwh hx hy
    go_enter Try.func23, Try.ntmps23
    go_wp2_with fail
    refine (classOf_x ds b _ _ _ _ HF.out.sd HV.out HFID.out HWH.out).mono ?_
    rintro e w1 ⟨rfl, hb⟩
    have HF1 := Lib.hid (HF.out.call hb)
    have HK := Lib.hid (FC.start HF1.out fid wh)
    have hst := st_func
    clear hb HF
    go_wp2_with fail
    have d0 := HK.out.c0
    have HS := Lib.hid HK.out.sd
    have HBK := Lib.hid HK.out.bel
    have hgs : w1.heap.size + 1 ≤ (w1.alloc (.cells #[.slice A n c, .func (.func fid) #[] #[], .int .i64 wh] 52)).heap.size := by simp
    clear HK hst
    generalize (w1.alloc (.cells #[.slice A n c, .func (.func fid) #[] #[], .int .i64 wh] 52)) = W at *
    generalize w1.heap.size = G at *
    have hb0 : Below W.heap.size W W := Below.refl _ _
    go_region_held3 (fun w' => Below W.heap.size W w' ∧ w'.cell? ⟨G, 0, none⟩ = some (.slice A n c))
      (first | exact ⟨hb0, d0⟩ | exact ⟨hb0.drew, d0⟩ | exact ⟨hbM, keep1 hbM d0⟩ | exact ⟨hbS, keep1 hbS d0⟩ | exact ⟨hbT, keep1 hbT d0⟩ | (have hh := ‹Below W.heap.size W _ ∧ _›.1; exact ⟨hh, keep1 hh d0⟩))
      (first
        | (go_at_call_of 53 (Value.slice A n c); have hh := ‹Below W.heap.size W _ ∧ _›.1; refine (implMask_v ds _ _ _ _ ((HS.out.below hh).call hh.size) HIN.out HX.out).mono ?_; rintro e wm ⟨rfl, hb⟩; have hbM : Below W.heap.size W wm := hh.trans (hb.mono hh.size); (try (have ho := own_below ho hb)); clear hh)
        | (go_at_call 61; have hh := ‹Below W.heap.size W _ ∧ _›.1; refine (implSg_any ds _ _ _ _ ((HS.out.below hh).call hh.size)).mono ?_; rintro e ws ⟨A2, k2, rfl, ho, hb⟩; have hbS : Below W.heap.size W ws := hh.trans (hb.mono hh.size); clear hh hb)
        | (go_at_call 53; have hh := ‹Below W.heap.size W _ ∧ _›.1; refine (implMask_v (mSg ds) _ _ _ _ (by first | exact sdCall ho (mSg_ok HOK.out) (Below.refl _ _) | exact sdCall ho (mSg_ok HOK.out) (Below.refl _ _).drew) HIS.out HY.out).mono ?_; rintro e wt ⟨rfl, hb⟩; have hbT : Below W.heap.size W wt := hh.trans (hb.mono hh.size); clear hh))
    all_goals
      go_wp2
      go_ret
      refine ⟨by rw [HM.out]; first | done | rfl, HBK.out.trans ?_⟩
      first | exact hbT.mono HBK.out.size | exact hbM.mono HBK.out.size
end Go.Proofs.Ytnaojafidhloeaa
