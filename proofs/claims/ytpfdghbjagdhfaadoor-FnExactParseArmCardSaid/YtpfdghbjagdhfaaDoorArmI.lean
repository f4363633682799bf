import Derived.Test.YtpfdghbjagdhfaaDoorArmP
import Derived.Test.YtpfdghbjagdhfaaDoorAlgI
import Derived.Test.YtpfdghbjagdhfaaDoorCel
namespace Go.Proofs.YtpfdghbjagdhfaaDoor
open Go.RowKit Go.Maps
set_option linter.unusedVariables false
set_option maxRecDepth 100000

/-! ### the program's functions on bits, at any numbers -/
set_option maxHeartbeats 400000 in
theorem bsLess_w (a b : Int) (w : World) {v : Int} (hv : bits .andNot .i64 a b = v) :
    Calls Tryd.prog 148 #[.int .i64 a, .int .i64 b] w fun e w' => e = .returned (.int .i64 v) ∧ w = w' := by
  go_enter Tryd.func148, Tryd.ntmps148
  go_wp2
  go_ret
  exact ⟨by rw [← hv]; first | done | rfl, rfl⟩
set_option maxHeartbeats 400000 in
theorem bsHas_w (a b : Int) (w : World) {v : Bool} (hv : decide (bits .andNot .i64 b a = 0) = v) :
    Calls Tryd.prog 123 #[.int .i64 a, .int .i64 b] w fun e w' => e = .returned (.bool v) ∧ w = w' := by
  subst hv
  obtain ⟨z, hz⟩ : ∃ z, bits .andNot .i64 b a = z := ⟨_, rfl⟩
  rw [hz]
  have HZ := Lib.hid hz
  clear hz
  go_enter Tryd.func123, Tryd.ntmps123
  go_wp2_with (go_at_call 148; refine (bsLess_w b a _ HZ.out).mono ?_; rintro e w' ⟨rfl, rfl⟩)
  go_ret
  exact ⟨ret_bool (by rw [Bool.eq_iff_iff]; simp), rfl⟩

set_option maxHeartbeats 1000000 in
theorem armFits_v (x y : Int) (m : Nat) (w : World) (hx : I64 x) (hy : I64 y) (hm : m < 4096) {v : Bool} (hv : fitsA m ⟨x, y⟩ = v) :
    Calls Tryd.prog 73 #[.agg #[.int .i64 x, .int .i64 y], .int .i64 m] w fun e w' => e = .returned (.bool v) ∧ Below w.heap.size w w' := by
  subst hv
  obtain ⟨z, hz⟩ : ∃ z, bits .or .i64 x y = z := ⟨_, rfl⟩
  have HZR := or_i64 x y
  rw [hz] at HZR
  unfold I64 at HZR
  by_cases hu : bits .andNot .i64 z (m : Int) = 0
  · obtain ⟨⟨p, q, rfl, rfl, hp, hq⟩, hf⟩ := fitsA_wild hx hy hm (by rw [hz]; exact hu)
    have HU : Hid (decide (bits .andNot .i64 z (m : Int) = 0) = true) := Lib.hid (decide_eq_true hu)
    have hand := i64_and_nat p q (by omega) (by omega)
    obtain ⟨r, hr⟩ : ∃ r, p &&& q = r := ⟨_, rfl⟩
    rw [hr] at hand
    have HM : Hid (fitsA m ⟨p, q⟩ = decide (r = 0)) := Lib.hid (by rw [hf, Int.toNat_natCast, Int.toNat_natCast, hr])
    clear hf hr hu
    have HB0 : Hid (Below w.heap.size w (w.alloc (.cells #[.int .i64 p, .int .i64 q] 27))) := Lib.hid ((Below.refl _ _).alloc (Nat.le_refl _) _)
    go_enter Tryd.func73, Tryd.ntmps73
    go_wp2_with (go_at_call 123; refine (bsHas_w m z _ HU.out).mono ?_; rintro e w' ⟨rfl, rfl⟩)
    go_ret
    exact ⟨ret_bool (by rw [HM.out, Bool.eq_iff_iff]; simp), HB0.out⟩
  · have HU : Hid (decide (bits .andNot .i64 z (m : Int) = 0) = false) := Lib.hid (decide_eq_false hu)
    have HM : Hid (fitsA m ⟨x, y⟩ = false) := Lib.hid (fitsA_wild_no hx hy hm (by rw [hz]; exact hu))
    clear hu
    have HB0 : Hid (Below w.heap.size w (w.alloc (.cells #[.int .i64 x, .int .i64 y] 27))) := Lib.hid ((Below.refl _ _).alloc (Nat.le_refl _) _)
    go_enter Tryd.func73, Tryd.ntmps73
    go_wp2_with (go_at_call 123; refine (bsHas_w m z _ HU.out).mono ?_; rintro e w' ⟨rfl, rfl⟩)
    go_ret
    exact ⟨by rw [HM.out]; first | done | rfl, HB0.out⟩

theorem sa_one (w : World) (x y : Int) (t : TypeId) (hx : I64 x) (hy : I64 y) : SA (w.alloc (.cells #[.int .i64 x, .int .i64 y] t)) (w.heap.size + 1) (some ⟨w.heap.size, 0, none⟩) 1 1 [⟨x, y⟩] := by
  refine ⟨.inr ⟨w.heap.size, 0, rfl, by omega, fun i a hi j v hj => ?_⟩, rfl, Nat.le_refl _, by unfold maxLen; omega, fun d hd => ?_⟩
  · obtain ⟨hil, rfl⟩ := List.getElem?_eq_some_iff.1 hi
    have h0 : i = 0 := by simpa using hil
    subst h0
    match j, hj with
    | 0, hj => simp [encA] at hj; subst hj; simp [go_sem]
    | 1, hj => simp [encA] at hj; subst hj; simp [go_sem]
    | j + 2, hj => simp [encA] at hj
  · simp at hd; subst hd; exact ⟨hx, hy⟩
theorem sa_len {w : World} {B : Nat} {A : Option Addr} {n c : Nat} {ks : List Ar} (h : SA w B A n c ks) : ks.length = n := h.len

set_option maxHeartbeats 4000000 in
theorem armsMask_v (ds : List D) (b : Int) (rs : List Ar) (A : Option Addr) (m c : Nat) (w : World) (hr : SD w w.heap.size A m c ds) (As : Option Addr) (q cs : Nat) (hs : SA w w.heap.size As q cs rs) (hn : m ≤ 1048576) {r : Int} {v0 : Bool} (hm : mArms ds b rs = v0) (hr2 : (if mArms ds b rs then ((mMask ds : Nat) : Int) else 0) = r) :
    Calls Tryd.prog 82 #[.agg #[.slice A m c, .int .i64 b], .slice As q cs] w (fun e w' => e = .returned (.tuple #[.int .i64 r, .bool v0]) ∧ Below w.heap.size w w') := by
  have HMV := Lib.hid hm
  have HRV := Lib.hid hr2
  have HNO : Hid (mArms ds b rs = false → r = 0 ∧ v0 = false) := Lib.hid (fun h => ⟨by rw [← hr2, h]; rfl, by rw [← hm]; exact h⟩)
  have HYES : Hid (mArms ds b rs = true → r = ((mMask ds : Nat) : Int) ∧ v0 = true) := Lib.hid (fun h => ⟨by rw [← hr2, h]; rfl, by rw [← hm]; exact h⟩)
  clear hm hr2 HMV HRV
  have hl := hs.max
  have hl2 := hs.cap
  unfold maxLen at hl
  obtain rfl := hs.len
  have HF := Lib.hid (FB.start hr b)
  have HSA : Hid (SA (w.alloc (.cells #[.slice A m c, .int .i64 b] 32)) w.heap.size As rs.length cs rs) := Lib.hid (hs.below ((Below.refl _ _).alloc (Nat.le_refl _) _))
  clear hr hs
  cases hv : vFlag ds b
  · have HV := Lib.hid hv
    have HM : Hid (mArms ds b rs = false) := Lib.hid (by unfold mArms; rw [hv]; rfl)
    clear hv
    go_enter Tryd.func82, Tryd.ntmps82
    go_wp2_with fail
    refine (classOf_no ds b _ _ _ _ HF.out.sd hn HV.out).mono ?_
    rintro e w1 ⟨rfl, hb⟩
    have HB1 := Lib.hid (HF.out.after hb)
    have hst := st_nilFunc
    clear hb
    go_wp2
    go_ret2
    exact ⟨by rw [(HNO.out HM.out).1, (HNO.out HM.out).2]; first | done | rfl, HB1.out.alloc HB1.out.size _⟩
  have HV := Lib.hid hv
  have HIN := Lib.hid (small40 (vFlag_in hv))
  have hM : mArms ds b rs = (rs.all (fitsA (mMask ds)) && decide (rs.length ≤ 10)) := by unfold mArms; rw [hv]; rfl
  obtain ⟨k, hk⟩ : ∃ k, mMask ds = k := ⟨_, rfl⟩
  have hk4 : k < 4096 := by rw [← hk]; exact mMask_lt12 (vFlag_in hv)
  have HX := Lib.hid hk
  rw [hk] at hM
  clear hv hk
  obtain ⟨fid, hfid⟩ := bdF_form b
  obtain ⟨wh, hwh⟩ : ∃ wh, mWhole ds b = wh := ⟨_, rfl⟩
  have HFID := Lib.hid hfid
  have HWH := Lib.hid hwh
  clear hfid hwh
  by_cases h10 : rs.length ≤ 10
  · have hlen : ¬ (10 : Int) < (rs.length : Int) := by omega
    have HM : Hid (mArms ds b rs = rs.all (fitsA k)) := Lib.hid (by rw [hM, decide_eq_true h10, Bool.and_true])
    clear hM
    go_enter Tryd.func82, Tryd.ntmps82
    go_wp2_with fail
    refine (classOf_x ds b _ _ _ _ HF.out.sd HV.out HFID.out HWH.out).mono ?_
    rintro e w1 ⟨rfl, hb⟩
    have HF1 := Lib.hid (HF.out.call hb)
    have HK := Lib.hid (FC.start HF1.out fid wh)
    have HS1 : Hid (SA (w1.alloc (.cells #[.slice A m c, .func (.func fid) #[] #[], .int .i64 wh] 68)) w.heap.size As rs.length cs rs) := Lib.hid ((HSA.out.below' hb HF.out.bel.size).alloc HF1.out.bel.size _)
    have hst := st_func
    clear hb HF HSA
    go_wp2_with fail
    generalize hW : (w1.alloc (.cells #[.slice A m c, .func (.func fid) #[] #[], .int .i64 wh] 68)) = w2 at *
    generalize hG : w1.heap.size = G at *
    clear hW hG HF1
    refine (implMask_v ds _ _ _ _ HK.out.sd HIN.out HX.out).mono ?_
    rintro e w3 ⟨rfl, hb⟩
    have HB3 := Lib.hid (HK.out.after hb)
    have HS3 := Lib.hid (HS1.out.below' hb HK.out.bel.size)
    clear hb HK HS1
    go_wp2
    go_loopw [28] (fun i wr => ∃ (j : Nat), j ≤ rs.length ∧ i = .int .i64 j ∧ Hid (∀ l (h : l < rs.length), l < j → fitsA k rs[l] = true) ∧ Hid (Below w.heap.size w wr) ∧ Hid (SA wr w.heap.size As rs.length cs rs)) (fun i _ => rs.length - (intOf i).toNat)
    case atStart => exact ⟨0, Nat.zero_le _, rfl, Lib.hid (fun l hl h => by omega), HB3, HS3⟩
    case round =>
      clear HB3 HS3
      obtain ⟨j, hj, rfl, hall, hbel, hsa⟩ := hrel
      by_cases hlt : j < rs.length
      · obtain ⟨bb, o, hA, hbb, d1, d2⟩ := hsa.out.at_ hlt
        subst hA
        have hi1 : (j : Int) < (rs.length : Int) := by omega
        have HOK := Lib.hid (hsa.out.ok _ (List.getElem_mem hlt))
        obtain ⟨v, hv⟩ : ∃ v, fitsA k rs[j] = v := ⟨_, rfl⟩
        have HV2 := Lib.hid hv
        obtain ⟨a, ha⟩ : ∃ a, rs[j] = a := ⟨_, rfl⟩
        rw [ha] at d1 d2
        have HA := Lib.hid ha
        have HVA : Hid (fitsA k a = v) := Lib.hid (by rw [← ha]; exact hv)
        have HOA : Hid a.ok := Lib.hid (by rw [← ha]; exact HOK.out)
        clear hv ha HOK
        have hb4 : Below w.heap.size w (wr.alloc (.cells #[.int .i64 a.all, .int .i64 a.non] 27)) := hbel.out.trans (((Below.refl _ _).alloc (Nat.le_refl _) _).mono hbel.out.size)
        have HB4 := Lib.hid hb4
        have HS4 : Hid (SA (wr.alloc (.cells #[.int .i64 a.all, .int .i64 a.non] 27)) w.heap.size (some ⟨bb, o, none⟩) rs.length cs rs) := Lib.hid (hsa.out.alloc hbel.out.size _)
        clear hb4
        go_wp2_with fail
        generalize (wr.alloc (.cells #[.int .i64 a.all, .int .i64 a.non] 27)) = w4 at *
        refine (armFits_v a.all a.non k _ HOA.out.1 HOA.out.2 hk4 HVA.out).mono ?_
        rintro e w5 ⟨rfl, hb⟩
        have HB5 : Hid (Below w.heap.size w w5) := Lib.hid (HB4.out.trans (hb.mono HB4.out.size))
        have HS5 := Lib.hid (HS4.out.below' hb HB4.out.size)
        clear hb d1 d2 hbel hsa HB4 HS4
        cases v
        · have HM2 : Hid (mArms ds b rs = false) := Lib.hid (by rw [HM.out, List.all_eq_false]; exact ⟨_, List.getElem_mem hlt, by rw [HV2.out]; decide⟩)
          go_wp2
          go_ret2
          exact ⟨by rw [(HNO.out HM2.out).1, (HNO.out HM2.out).2]; first | done | rfl, HB5.out⟩
        · go_wp2
          go_roundw
          case rel => exact ⟨j + 1, by omega, by go_num, Lib.hid (fun l hl h => by
            by_cases e : l = j
            · subst e; exact HV2.out
            · exact hall.out l hl (by omega)), HB5, HS5⟩
          case measure => simp [intOf]; omega
      · obtain rfl : j = rs.length := by omega
        have HM2 : Hid (mArms ds b rs = true) := Lib.hid (by
          rw [HM.out, List.all_eq_true]
          intro a ha
          obtain ⟨l, hl, rfl⟩ := List.mem_iff_getElem.1 ha
          exact hall.out l hl hl)
        go_wp2
        go_ret2
        exact ⟨by rw [(HYES.out HM2.out).1, (HYES.out HM2.out).2, HX.out]; first | done | rfl, hbel.out⟩
  · have hlen : (10 : Int) < (rs.length : Int) := by omega
    have HM : Hid (mArms ds b rs = false) := Lib.hid (by rw [hM, decide_eq_false h10, Bool.and_false])
    clear hM
    go_enter Tryd.func82, Tryd.ntmps82
    go_wp2_with fail
    refine (classOf_x ds b _ _ _ _ HF.out.sd HV.out HFID.out HWH.out).mono ?_
    rintro e w1 ⟨rfl, hb⟩
    have HB1 := Lib.hid (HF.out.after hb)
    have hst := st_func
    clear hb
    go_wp2
    go_ret2
    exact ⟨by rw [(HNO.out HM.out).1, (HNO.out HM.out).2]; first | done | rfl, HB1.out.alloc HB1.out.size _⟩

end Go.Proofs.YtpfdghbjagdhfaaDoor
