import Derived.Shelf.Strings.Builder1
import Derived.Shelf.Strings.Builder2
import Derived.Shelf.Strings.OnBuilder
import Derived.Shelf.Small.Wraps
import Derived.Shelf.Strconv.Atoi
import Derived.Shelf.Strconv.Itoa0
import Derived.Shelf.Strconv.Itoa1
import Derived.Shelf.LaysM
import Derived.Shelf.Strconv.Itoa2
import Derived.Shelf.Strconv.Itoa3
import Derived.Shelf.Strconv.AtoiErrFast
import Derived.Shelf.Strconv.ParseIntEmpty
import Derived.Shelf.Strconv.AtoiFail
import Derived.Shelf.Strconv.Clone
import Derived.Shelf.Strconv.SyntaxError
import Derived.Shelf.LaysC
import Derived.Shelf.Strconv.ToError
import Derived.Shelf.Strconv.Lower
import Derived.Shelf.Strconv.ParseUint10
import Derived.Shelf.Strconv.ParseUint10Empty
import Derived.Shelf.Strconv.ParseUint10Any
import Derived.Shelf.Strconv.ParseInt10
import Derived.Shelf.Strconv.AtoiLong
import Derived.Shelf.Strconv.AtoiInnerAll
import Derived.Shelf.Strconv.RangeError
import Derived.Shelf.Strconv.ToErrorRange
import Derived.Shelf.Strconv.AtoiAll
import Derived.Shelf.Strconv.ErrVarAll
import Derived.Shelf.Strings.Search1
import Derived.Shelf.Strings.Search2
import Derived.Shelf.Strings.Search3
import Derived.Shelf.Strings.Cut
import Derived.Shelf.Strings.Count
import Derived.Shelf.Strings.Prefix
import Derived.Shelf.Strings.Split
import Derived.Shelf.Strings.SplitShaped
import Derived.Test.YtpmanbmhbfnefaaProg
import Derived.Test.YtpmanbmhbfnefaaArmP
import Derived.Test.YtpmanbmhbfnefaaAlgI
import Derived.Test.YtpmanbmhbfnefaaCel
import Derived.Test.YtpmanbmhbfnefaaBaseN
import Derived.Test.YtpmanbmhbfnefaaBaseY
namespace Go.Proofs
open Go.Shelf
end Go.Proofs

namespace Go.Proofs.Ytpmanbmhbfnefaa
open Go.RowKit Go.Maps
set_option linter.unusedVariables false
set_option maxRecDepth 100000

/-! ### the program's functions on bits, at any numbers -/
set_option maxHeartbeats 400000 in
theorem bsLess_w (a b : Int) (w : World) {v : Int} (hv : bits .andNot .i64 a b = v) :
    Calls Try.prog 102 #[.int .i64 a, .int .i64 b] w fun e w' => e = .returned (.int .i64 v) ∧ w = w' := by
  go_enter Try.func102, Try.ntmps102
  go_wp2
  go_ret
  exact ⟨by rw [← hv]; first | done | rfl, rfl⟩
set_option maxHeartbeats 400000 in
theorem bsHas_w (a b : Int) (w : World) {v : Bool} (hv : decide (bits .andNot .i64 b a = 0) = v) :
    Calls Try.prog 73 #[.int .i64 a, .int .i64 b] w fun e w' => e = .returned (.bool v) ∧ w = w' := by
  subst hv
  obtain ⟨z, hz⟩ : ∃ z, bits .andNot .i64 b a = z := ⟨_, rfl⟩
  rw [hz]
  have HZ := Lib.hid hz
  clear hz
  go_enter Try.func73, Try.ntmps73
  go_wp2_with (go_at_call 102; refine (bsLess_w b a _ HZ.out).mono ?_; rintro e w' ⟨rfl, rfl⟩)
  go_ret
  exact ⟨ret_bool (by rw [Bool.eq_iff_iff]; simp), rfl⟩

set_option maxHeartbeats 1000000 in
theorem armFits_v (x y : Int) (m : Nat) (w : World) (hx : I64 x) (hy : I64 y) (hm : m < 4096) {v : Bool} (hv : fitsA m ⟨x, y⟩ = v) :
    Calls Try.prog 100 #[.agg #[.int .i64 x, .int .i64 y], .int .i64 m] w fun e w' => e = .returned (.bool v) ∧ Below w.heap.size w w' := by
  subst hv
  obtain ⟨z, hz⟩ : ∃ z, bits .or .i64 x y = z := ⟨_, rfl⟩
  have HZR := or_i64 x y
  rw [hz] at HZR
  unfold I64 at HZR
  by_cases hu : bits .andNot .i64 z (m : Int) = 0
  · obtain ⟨⟨p, q, rfl, rfl, hp, hq⟩, hf⟩ := fitsA_wild hx hy hm (by rw [hz]; exact hu)
    have HU : Hid (decide (bits .andNot .i64 z (m : Int) = 0) = true) := Lib.hid (decide_eq_true hu)
    have hand := i64_and_nat p q (by omega) (by omega)
    obtain ⟨r, hr⟩ : ∃ r, p &&& q = r := ⟨_, rfl⟩
    rw [hr] at hand
    have HM : Hid (fitsA m ⟨p, q⟩ = decide (r = 0)) := Lib.hid (by rw [hf, Int.toNat_natCast, Int.toNat_natCast, hr])
    clear hf hr hu
    have HB0 : Hid (Below w.heap.size w (w.alloc (.cells #[.int .i64 p, .int .i64 q] 72))) := Lib.hid ((Below.refl _ _).alloc (Nat.le_refl _) _)
    go_enter Try.func100, Try.ntmps100
    go_wp2_with (go_at_call 73; refine (bsHas_w m z _ HU.out).mono ?_; rintro e w' ⟨rfl, rfl⟩)
    go_ret
    exact ⟨ret_bool (by rw [HM.out, Bool.eq_iff_iff]; simp), HB0.out⟩
  · have HU : Hid (decide (bits .andNot .i64 z (m : Int) = 0) = false) := Lib.hid (decide_eq_false hu)
    have HM : Hid (fitsA m ⟨x, y⟩ = false) := Lib.hid (fitsA_wild_no hx hy hm (by rw [hz]; exact hu))
    clear hu
    have HB0 : Hid (Below w.heap.size w (w.alloc (.cells #[.int .i64 x, .int .i64 y] 72))) := Lib.hid ((Below.refl _ _).alloc (Nat.le_refl _) _)
    go_enter Try.func100, Try.ntmps100
    go_wp2_with (go_at_call 73; refine (bsHas_w m z _ HU.out).mono ?_; rintro e w' ⟨rfl, rfl⟩)
    go_ret
    exact ⟨by rw [HM.out]; first | done | rfl, HB0.out⟩

set_option maxHeartbeats 1000000 in
theorem armMatch_v (p q n : Nat) (w : World) (hp : p < 4096) (hq : q < 4096) (hn : n < 4096) {v : Bool} (hv : matchN p q n = v) :
    Calls Try.prog 85 #[.agg #[.int .i64 p, .int .i64 q], .int .i64 n] w fun e w' => e = .returned (.bool v) ∧ Below w.heap.size w w' := by
  subst hv
  have HB0 : Hid (Below w.heap.size w (w.alloc (.cells #[.int .i64 p, .int .i64 q] 72))) := Lib.hid ((Below.refl _ _).alloc (Nat.le_refl _) _)
  have hand := i64_and_nat n q (by omega) (by omega)
  obtain ⟨r, hr⟩ : ∃ r, n &&& q = r := ⟨_, rfl⟩
  rw [hr] at hand
  obtain ⟨u, hu⟩ : ∃ u, decide (nl p n = 0) = u := ⟨_, rfl⟩
  have HM : Hid (matchN p q n = (u && decide (r = 0))) := Lib.hid (by unfold matchN; rw [hu, hr])
  have HU := Lib.hid hu
  clear hr hu
  cases u
  all_goals
    go_enter Try.func85, Try.ntmps85
    go_wp2_with (go_at_call 73; refine (bsHas_v n p _ hn hp HU.out).mono ?_; rintro e w' ⟨rfl, rfl⟩)
    go_ret
    exact ⟨ret_bool (by rw [HM.out, Bool.eq_iff_iff]; simp), HB0.out⟩
set_option maxHeartbeats 1000000 in
theorem armCovers_v (p q r s : Nat) (w : World) (hp : p < 4096) (hq : q < 4096) (hr : r < 4096) (hs : s < 4096) {v : Bool} (hv : coverN p q r s = v) :
    Calls Try.prog 77 #[.agg #[.int .i64 p, .int .i64 q], .agg #[.int .i64 r, .int .i64 s]] w fun e w' => e = .returned (.bool v) ∧ Below w.heap.size w w' := by
  subst hv
  have HB0 : Hid (Below w.heap.size w ((w.alloc (.cells #[.int .i64 p, .int .i64 q] 72)).alloc (.cells #[.int .i64 r, .int .i64 s] 72))) := Lib.hid (((Below.refl _ _).alloc (Nat.le_refl _) _).alloc (by simp) _)
  obtain ⟨a, ha⟩ : ∃ a, decide (nl p r = 0) = a := ⟨_, rfl⟩
  obtain ⟨b, hb⟩ : ∃ b, decide (nl q s = 0) = b := ⟨_, rfl⟩
  have HM : Hid (coverN p q r s = (a && b)) := Lib.hid (by unfold coverN; rw [ha, hb])
  have HA := Lib.hid ha
  have HB := Lib.hid hb
  clear ha hb
  cases a
  all_goals
    go_enter Try.func77, Try.ntmps77
    go_wp2_with (first | (go_at_call_of 73 p; refine (bsHas_v r p _ hr hp HA.out).mono ?_; rintro e w' ⟨rfl, rfl⟩) | (go_at_call_of 73 q; refine (bsHas_v s q _ hs hq HB.out).mono ?_; rintro e w' ⟨rfl, rfl⟩))
    go_ret
    exact ⟨by rw [HM.out]; first | done | rfl, HB0.out⟩

theorem sa_one (w : World) (x y : Int) (t : TypeId) (hx : I64 x) (hy : I64 y) : SA (w.alloc (.cells #[.int .i64 x, .int .i64 y] t)) (w.heap.size + 1) (some ⟨w.heap.size, 0, none⟩) 1 1 [⟨x, y⟩] := by
  refine ⟨.inr ⟨w.heap.size, 0, rfl, by omega, fun i a hi j v hj => ?_⟩, rfl, Nat.le_refl _, by unfold maxLen; omega, fun d hd => ?_⟩
  · obtain ⟨hil, rfl⟩ := List.getElem?_eq_some_iff.1 hi
    have h0 : i = 0 := by simpa using hil
    subst h0
    match j, hj with
    | 0, hj => simp [encA] at hj; subst hj; simp [go_sem]
    | 1, hj => simp [encA] at hj; subst hj; simp [go_sem]
    | j + 2, hj => simp [encA] at hj
  · simp at hd; subst hd; exact ⟨hx, hy⟩
theorem sa_len {w : World} {B : Nat} {A : Option Addr} {n c : Nat} {ks : List Ar} (h : SA w B A n c ks) : ks.length = n := h.len

set_option maxHeartbeats 4000000 in
theorem armsMask_v (ds : List D) (b : Int) (rs : List Ar) (A : Option Addr) (m c : Nat) (w : World) (hr : SD w w.heap.size A m c ds) (As : Option Addr) (q cs : Nat) (hs : SA w w.heap.size As q cs rs) (hn : m ≤ 1048576) {r : Int} {v0 : Bool} (hm : mArms ds b rs = v0) (hr2 : (if mArms ds b rs then ((mMask ds : Nat) : Int) else 0) = r) :
    Calls Try.prog 71 #[.agg #[.slice A m c, .int .i64 b], .slice As q cs] w (fun e w' => e = .returned (.tuple #[.int .i64 r, .bool v0]) ∧ Below w.heap.size w w') := by
  have HMV := Lib.hid hm
  have HRV := Lib.hid hr2
  have HNO : Hid (mArms ds b rs = false → r = 0 ∧ v0 = false) := Lib.hid (fun h => ⟨by rw [← hr2, h]; rfl, by rw [← hm]; exact h⟩)
  have HYES : Hid (mArms ds b rs = true → r = ((mMask ds : Nat) : Int) ∧ v0 = true) := Lib.hid (fun h => ⟨by rw [← hr2, h]; rfl, by rw [← hm]; exact h⟩)
  clear hm hr2 HMV HRV
  have hl := hs.max
  have hl2 := hs.cap
  unfold maxLen at hl
  obtain rfl := hs.len
  have HF := Lib.hid (FB.start hr b)
  have HSA : Hid (SA (w.alloc (.cells #[.slice A m c, .int .i64 b] 58)) w.heap.size As rs.length cs rs) := Lib.hid (hs.below ((Below.refl _ _).alloc (Nat.le_refl _) _))
  clear hr hs
  cases hv : vFlag ds b
  · have HV := Lib.hid hv
    have HM : Hid (mArms ds b rs = false) := Lib.hid (by unfold mArms; rw [hv]; rfl)
    clear hv
    go_enter Try.func71, Try.ntmps71
    go_wp2_with fail
    refine (classOf_no ds b _ _ _ _ HF.out.sd hn HV.out).mono ?_
    rintro e w1 ⟨rfl, hb⟩
    have HB1 := Lib.hid (HF.out.after hb)
    have hst := st_nilFunc
    clear hb
    go_wp2
    go_ret2
    exact ⟨by rw [(HNO.out HM.out).1, (HNO.out HM.out).2]; first | done | rfl, HB1.out.alloc HB1.out.size _⟩
  have HV := Lib.hid hv
  have HIN := Lib.hid (small40 (vFlag_in hv))
  have hM : mArms ds b rs = (rs.all (fitsA (mMask ds)) && decide (rs.length ≤ 10)) := by unfold mArms; rw [hv]; rfl
  obtain ⟨k, hk⟩ : ∃ k, mMask ds = k := ⟨_, rfl⟩
  have hk4 : k < 4096 := by rw [← hk]; exact mMask_lt12 (vFlag_in hv)
  have HX := Lib.hid hk
  rw [hk] at hM
  clear hv hk
  obtain ⟨fid, hfid⟩ := bdF_form b
  obtain ⟨wh, hwh⟩ : ∃ wh, mWhole ds b = wh := ⟨_, rfl⟩
  have HFID := Lib.hid hfid
  have HWH := Lib.hid hwh
  clear hfid hwh
  by_cases h10 : rs.length ≤ 10
  · have hlen : ¬ (10 : Int) < (rs.length : Int) := by omega
    have HM : Hid (mArms ds b rs = rs.all (fitsA k)) := Lib.hid (by rw [hM, decide_eq_true h10, Bool.and_true])
    clear hM
    go_enter Try.func71, Try.ntmps71
    go_wp2_with fail
    refine (classOf_x ds b _ _ _ _ HF.out.sd HV.out HFID.out HWH.out).mono ?_
    rintro e w1 ⟨rfl, hb⟩
    have HF1 := Lib.hid (HF.out.call hb)
    have HK := Lib.hid (FC.start HF1.out fid wh)
    have HS1 : Hid (SA (w1.alloc (.cells #[.slice A m c, .func (.func fid) #[] #[], .int .i64 wh] 126)) w.heap.size As rs.length cs rs) := Lib.hid ((HSA.out.below' hb HF.out.bel.size).alloc HF1.out.bel.size _)
    have hst := st_func
    clear hb HF HSA
    go_wp2_with fail
    generalize hW : (w1.alloc (.cells #[.slice A m c, .func (.func fid) #[] #[], .int .i64 wh] 126)) = w2 at *
    generalize hG : w1.heap.size = G at *
    clear hW hG HF1
    refine (implMask_v ds _ _ _ _ HK.out.sd HIN.out HX.out).mono ?_
    rintro e w3 ⟨rfl, hb⟩
    have HB3 := Lib.hid (HK.out.after hb)
    have HS3 := Lib.hid (HS1.out.below' hb HK.out.bel.size)
    clear hb HK HS1
    go_wp2
    go_loopw [28] (fun i wr => ∃ (j : Nat), j ≤ rs.length ∧ i = .int .i64 j ∧ Hid (∀ l (h : l < rs.length), l < j → fitsA k rs[l] = true) ∧ Hid (Below w.heap.size w wr) ∧ Hid (SA wr w.heap.size As rs.length cs rs)) (fun i _ => rs.length - (intOf i).toNat)
    case atStart => exact ⟨0, Nat.zero_le _, rfl, Lib.hid (fun l hl h => by omega), HB3, HS3⟩
    case round =>
      clear HB3 HS3
      obtain ⟨j, hj, rfl, hall, hbel, hsa⟩ := hrel
      by_cases hlt : j < rs.length
      · obtain ⟨bb, o, hA, hbb, d1, d2⟩ := hsa.out.at_ hlt
        subst hA
        have hi1 : (j : Int) < (rs.length : Int) := by omega
        have HOK := Lib.hid (hsa.out.ok _ (List.getElem_mem hlt))
        obtain ⟨v, hv⟩ : ∃ v, fitsA k rs[j] = v := ⟨_, rfl⟩
        have HV2 := Lib.hid hv
        obtain ⟨a, ha⟩ : ∃ a, rs[j] = a := ⟨_, rfl⟩
        rw [ha] at d1 d2
        have HA := Lib.hid ha
        have HVA : Hid (fitsA k a = v) := Lib.hid (by rw [← ha]; exact hv)
        have HOA : Hid a.ok := Lib.hid (by rw [← ha]; exact HOK.out)
        clear hv ha HOK
        have hb4 : Below w.heap.size w (wr.alloc (.cells #[.int .i64 a.all, .int .i64 a.non] 72)) := hbel.out.trans (((Below.refl _ _).alloc (Nat.le_refl _) _).mono hbel.out.size)
        have HB4 := Lib.hid hb4
        have HS4 : Hid (SA (wr.alloc (.cells #[.int .i64 a.all, .int .i64 a.non] 72)) w.heap.size (some ⟨bb, o, none⟩) rs.length cs rs) := Lib.hid (hsa.out.alloc hbel.out.size _)
        clear hb4
        go_wp2_with fail
        generalize (wr.alloc (.cells #[.int .i64 a.all, .int .i64 a.non] 72)) = w4 at *
        refine (armFits_v a.all a.non k _ HOA.out.1 HOA.out.2 hk4 HVA.out).mono ?_
        rintro e w5 ⟨rfl, hb⟩
        have HB5 : Hid (Below w.heap.size w w5) := Lib.hid (HB4.out.trans (hb.mono HB4.out.size))
        have HS5 := Lib.hid (HS4.out.below' hb HB4.out.size)
        clear hb d1 d2 hbel hsa HB4 HS4
        cases v
        · have HM2 : Hid (mArms ds b rs = false) := Lib.hid (by rw [HM.out, List.all_eq_false]; exact ⟨_, List.getElem_mem hlt, by rw [HV2.out]; decide⟩)
          go_wp2
          go_ret2
          exact ⟨by rw [(HNO.out HM2.out).1, (HNO.out HM2.out).2]; first | done | rfl, HB5.out⟩
        · go_wp2
          go_roundw
          case rel => exact ⟨j + 1, by omega, by go_num, Lib.hid (fun l hl h => by
            by_cases e : l = j
            · subst e; exact HV2.out
            · exact hall.out l hl (by omega)), HB5, HS5⟩
          case measure => simp [intOf]; omega
      · obtain rfl : j = rs.length := by omega
        have HM2 : Hid (mArms ds b rs = true) := Lib.hid (by
          rw [HM.out, List.all_eq_true]
          intro a ha
          obtain ⟨l, hl, rfl⟩ := List.mem_iff_getElem.1 ha
          exact hall.out l hl hl)
        go_wp2
        go_ret2
        exact ⟨by rw [(HYES.out HM2.out).1, (HYES.out HM2.out).2, HX.out]; first | done | rfl, hbel.out⟩
  · have hlen : (10 : Int) < (rs.length : Int) := by omega
    have HM : Hid (mArms ds b rs = false) := Lib.hid (by rw [hM, decide_eq_false h10, Bool.and_false])
    clear hM
    go_enter Try.func71, Try.ntmps71
    go_wp2_with fail
    refine (classOf_x ds b _ _ _ _ HF.out.sd HV.out HFID.out HWH.out).mono ?_
    rintro e w1 ⟨rfl, hb⟩
    have HB1 := Lib.hid (HF.out.after hb)
    have hst := st_func
    clear hb
    go_wp2
    go_ret2
    exact ⟨by rw [(HNO.out HM.out).1, (HNO.out HM.out).2]; first | done | rfl, HB1.out.alloc HB1.out.size _⟩

end Go.Proofs.Ytpmanbmhbfnefaa

namespace Go.Proofs.Ytpmanbmhbfnefaa
open Go.RowKit Go.Maps
set_option linter.unusedVariables false
set_option linter.unusedSimpArgs false
set_option maxRecDepth 100000

theorem ms_two' {ds : List D} : ∀ d ∈ mSg ds, ∃ x : Nat, x < 4096 ∧ d.val = x := fun d hd => by
  obtain ⟨_, i, hi, e⟩ := mSg_sub hd
  exact ⟨2 ^ i, Nat.pow_lt_pow_right (by decide) hi, e⟩

end Go.Proofs.Ytpmanbmhbfnefaa

namespace Go.Proofs.Ytpmanbmhbfnefaa
open Go.RowKit Go.Maps
set_option linter.unusedVariables false
set_option linter.unusedSimpArgs false
set_option maxRecDepth 100000

theorem star_no {s : ByteArray} (h : s ≠ starB) : (s.toList == [42]) = false := by
  rw [beq_eq_false_iff_ne]
  intro e
  exact h (nm_inj (by rw [e]; first | rfl | decide | simp [starB, go_sem]))
theorem set_grown (w : World) (g i : Nat) (v : Value) : w.grownBy (w.setCell ⟨g, i, none⟩ v) (some g) := ⟨rfl, rfl, rfl, by simp, fun k _ hk => Below.heap_setCell w _ _ k (fun e => hk (by simp only at e; rw [e]))⟩

end Go.Proofs.Ytpmanbmhbfnefaa

namespace Go.Proofs.Ytpmanbmhbfnefaa
open Go.RowKit Go.Maps
set_option linter.unusedVariables false
set_option linter.unusedSimpArgs false
set_option maxRecDepth 100000

theorem text_no {s t : ByteArray} (h : t ≠ s) : (t.toList == s.toList) = false := by
  rw [beq_eq_false_iff_ne]
  exact fun e => h (nm_inj e)

end Go.Proofs.Ytpmanbmhbfnefaa

namespace Go.Proofs.Ytpmanbmhbfnefaa
open Go.RowKit Go.Maps
set_option linter.unusedVariables false
set_option maxRecDepth 100000

theorem mArms_one (ds : List D) (b x y : Int) : mArms ds b [⟨x, y⟩] = mArm ds b ⟨x, y⟩ := by unfold mArms mArm; simp

set_option maxHeartbeats 2000000 in
theorem implValidArm_v (ds : List D) (b : Int) (x y : Int) (A : Option Addr) (m c : Nat) (w : World) (hr : SD w w.heap.size A m c ds) (hn : m ≤ 1048576) (hx : I64 x) (hy : I64 y) {v : Bool} (hm : mArm ds b ⟨x, y⟩ = v) :
    Calls Try.prog 84 #[.agg #[.slice A m c, .int .i64 b], .agg #[.int .i64 x, .int .i64 y]] w (fun e w' => e = .returned (.bool v) ∧ Below w.heap.size w w') := by
  have HM : Hid (mArms ds b [⟨x, y⟩] = v) := Lib.hid (by rw [mArms_one]; exact hm)
  obtain ⟨r, hr2⟩ : ∃ r : Int, (if mArms ds b [⟨x, y⟩] then ((mMask ds : Nat) : Int) else 0) = r := ⟨_, rfl⟩
  have HR2 := Lib.hid hr2
  clear hm hr2
  have HF := Lib.hid ((FB.start hr b).alloc (.cells #[.int .i64 x, .int .i64 y] 72))
  have HC : Hid (C2 ((w.alloc (.cells #[.slice A m c, .int .i64 b] 58)).alloc (.cells #[.int .i64 x, .int .i64 y] 72)) (w.heap.size + 1) (.int .i64 x) (.int .i64 y)) := Lib.hid (c2New' _ _ _ _ _)
  have hz0 : ((w.alloc (.cells #[.slice A m c, .int .i64 b] 58)).alloc (.cells #[.int .i64 x, .int .i64 y] 72)).heap.size = w.heap.size + 1 + 1 := by simp
  clear hr
  go_enter Try.func84, Try.ntmps84
  go_wp2_with fail
  generalize ((w.alloc (.cells #[.slice A m c, .int .i64 b] 58)).alloc (.cells #[.int .i64 x, .int .i64 y] 72)) = w0 at *
  have hb0 : Below w0.heap.size w0 (w0.alloc (.cells #[.int .i64 x, .int .i64 y] 72)) := (Below.refl _ _).alloc (Nat.le_refl _) _
  have HF1 := Lib.hid (HF.out.call hb0)
  have HC1 := Lib.hid (HC.out.below hb0)
  have HS1 : Hid (SA (w0.alloc (.cells #[.int .i64 x, .int .i64 y] 72)) (w0.alloc (.cells #[.int .i64 x, .int .i64 y] 72)).heap.size (some ⟨w.heap.size + 1 + 1, 0, none⟩) 1 1 [⟨x, y⟩]) := Lib.hid (by rw [← hz0]; exact (sa_one w0 x y _ hx hy).more (by simp))
  clear hb0 HF HC
  generalize hW : (w0.alloc (.cells #[.int .i64 x, .int .i64 y] 72)) = w1 at *
  clear hW
  refine (armsMask_v ds b [⟨x, y⟩] _ _ _ _ HF1.out.sd _ _ _ HS1.out hn HM.out HR2.out).mono ?_
  rintro e w2 ⟨rfl, hb⟩
  have HB2 := Lib.hid (HF1.out.after hb)
  clear hb
  go_wp2
  go_ret
  exact ⟨rfl, HB2.out⟩

set_option maxHeartbeats 4000000 in
theorem implMatchArm_v (ds : List D) (b : Int) (x y z : Int) (A : Option Addr) (m c : Nat) (w : World) (hr : SD w w.heap.size A m c ds) (hn : m ≤ 1048576) (hx : I64 x) (hy : I64 y) {v : Bool} (hv : mMatch ds b ⟨x, y⟩ z = v) :
    Calls Try.prog 38 #[.agg #[.slice A m c, .int .i64 b], .agg #[.int .i64 x, .int .i64 y], .int .i64 z] w (fun e w' => e = .returned (.bool v) ∧ Below w.heap.size w w') := by
  subst hv
  have HF := Lib.hid ((FB.start hr b).alloc (.cells #[.int .i64 x, .int .i64 y] 72))
  have HC : Hid (C2 ((w.alloc (.cells #[.slice A m c, .int .i64 b] 58)).alloc (.cells #[.int .i64 x, .int .i64 y] 72)) (w.heap.size + 1) (.int .i64 x) (.int .i64 y)) := Lib.hid (c2New' _ _ _ _ _)
  have hz0 : ((w.alloc (.cells #[.slice A m c, .int .i64 b] 58)).alloc (.cells #[.int .i64 x, .int .i64 y] 72)).heap.size = w.heap.size + 1 + 1 := by simp
  clear hr
  cases hm : mArm ds b ⟨x, y⟩
  · have HA := Lib.hid hm
    have HM : Hid (mMatch ds b ⟨x, y⟩ z = false) := Lib.hid (by unfold mMatch; rw [hm]; rfl)
    clear hm
    go_enter Try.func38, Try.ntmps38
    go_wp2_with fail
    generalize ((w.alloc (.cells #[.slice A m c, .int .i64 b] 58)).alloc (.cells #[.int .i64 x, .int .i64 y] 72)) = w0 at *
    refine (implValidArm_v ds b x y _ _ _ _ HF.out.sd hn hx hy HA.out).mono ?_
    rintro e w1 ⟨rfl, hb⟩
    have HB1 := Lib.hid (HF.out.after hb)
    clear hb
    go_wp2
    go_ret
    exact ⟨by rw [HM.out]; first | done | rfl, HB1.out⟩
  have HA := Lib.hid hm
  obtain ⟨p, q, e1, e2, hp, hq, _⟩ := mArm_nat hm
  simp only at e1 e2
  subst e1 e2
  clear hm
  obtain ⟨u, hu⟩ : ∃ u, mIsV ds b z = u := ⟨_, rfl⟩
  have HU := Lib.hid hu
  cases u
  · have HM : Hid (mMatch ds b ⟨p, q⟩ z = false) := Lib.hid (by unfold mMatch; rw [hu, Bool.and_false]; rfl)
    clear hu
    go_enter Try.func38, Try.ntmps38
    go_wp2_with fail
    generalize ((w.alloc (.cells #[.slice A m c, .int .i64 b] 58)).alloc (.cells #[.int .i64 (p : Int), .int .i64 (q : Int)] 72)) = w0 at *
    have c0 := HF.out.c0
    have c1 := HF.out.c1
    have x0 := HC.out.c0
    have x1 := HC.out.c1
    refine (implValidArm_v ds b p q _ _ _ _ HF.out.sd hn hx hy HA.out).mono ?_
    rintro e w1 ⟨rfl, hb⟩
    have HF1 := Lib.hid (HF.out.call hb)
    have HC1 := Lib.hid (HC.out.below hb)
    clear hb HF HC c0 c1 x0 x1
    have c0 := HF1.out.c0
    have c1 := HF1.out.c1
    have x0 := HC1.out.c0
    have x1 := HC1.out.c1
    go_wp2_with fail
    refine (implIsV_v ds b _ _ _ _ _ HF1.out.sd hn HU.out).mono ?_
    rintro e w2 ⟨rfl, hb⟩
    have HC2 := Lib.hid (HC1.out.below hb)
    have HB2 := Lib.hid (HF1.out.after hb)
    clear hb HF1 HC1 c0 c1 x0 x1
    have x0 := HC2.out.c0
    have x1 := HC2.out.c1
    go_wp2
    go_ret
    exact ⟨by rw [HM.out]; first | done | rfl, HB2.out⟩
  · obtain ⟨n, rfl, hn4⟩ := mIsV_nat hu
    obtain ⟨v, hv⟩ : ∃ v, matchN p q n = v := ⟨_, rfl⟩
    have HV := Lib.hid hv
    have HM : Hid (mMatch ds b ⟨p, q⟩ n = v) := Lib.hid (by unfold mMatch matchA; rw [HA.out, hu]; exact hv)
    clear hu hv
    go_enter Try.func38, Try.ntmps38
    go_wp2_with fail
    generalize ((w.alloc (.cells #[.slice A m c, .int .i64 b] 58)).alloc (.cells #[.int .i64 (p : Int), .int .i64 (q : Int)] 72)) = w0 at *
    have c0 := HF.out.c0
    have c1 := HF.out.c1
    have x0 := HC.out.c0
    have x1 := HC.out.c1
    refine (implValidArm_v ds b p q _ _ _ _ HF.out.sd hn hx hy HA.out).mono ?_
    rintro e w1 ⟨rfl, hb⟩
    have HF1 := Lib.hid (HF.out.call hb)
    have HC1 := Lib.hid (HC.out.below hb)
    clear hb HF HC c0 c1 x0 x1
    have c0 := HF1.out.c0
    have c1 := HF1.out.c1
    have x0 := HC1.out.c0
    have x1 := HC1.out.c1
    go_wp2_with fail
    refine (implIsV_v ds b _ _ _ _ _ HF1.out.sd hn HU.out).mono ?_
    rintro e w2 ⟨rfl, hb⟩
    have HC2 := Lib.hid (HC1.out.below hb)
    have HB2 := Lib.hid (HF1.out.after hb)
    clear hb HF1 HC1 c0 c1 x0 x1
    have x0 := HC2.out.c0
    have x1 := HC2.out.c1
    go_wp2_with (go_at_call 85; refine (armMatch_v p q n _ hp hq hn4 HV.out).mono ?_; rintro e w3 ⟨rfl, hb⟩; have HB3 := Lib.hid (HB2.out.trans (hb.mono HB2.out.size)); clear hb)
    go_ret
    exact ⟨by rw [HM.out]; first | done | rfl, HB3.out⟩

end Go.Proofs.Ytpmanbmhbfnefaa

