import Derived.Shelf.Strings.Builder1
import Derived.Shelf.Strings.Builder2
import Derived.Shelf.Strings.OnBuilder
import Derived.Shelf.Small.Wraps
import Derived.Shelf.Strconv.Atoi
import Derived.Shelf.Strconv.Itoa0
import Derived.Shelf.Strconv.Itoa1
import Derived.Shelf.LaysM
import Derived.Shelf.Strconv.Itoa2
import Derived.Shelf.Strconv.Itoa3
import Derived.Shelf.Strconv.AtoiErrFast
import Derived.Shelf.Strconv.ParseIntEmpty
import Derived.Shelf.Strconv.AtoiFail
import Derived.Shelf.Strconv.Clone
import Derived.Shelf.Strconv.SyntaxError
import Derived.Shelf.LaysC
import Derived.Shelf.Strconv.ToError
import Derived.Shelf.Strconv.Lower
import Derived.Shelf.Strconv.ParseUint10
import Derived.Shelf.Strconv.ParseUint10Empty
import Derived.Shelf.Strconv.ParseUint10Any
import Derived.Shelf.Strconv.ParseInt10
import Derived.Shelf.Strconv.AtoiLong
import Derived.Shelf.Strconv.AtoiInnerAll
import Derived.Shelf.Strconv.RangeError
import Derived.Shelf.Strconv.ToErrorRange
import Derived.Shelf.Strconv.AtoiAll
import Derived.Shelf.Strconv.ErrVarAll
import Derived.Shelf.Strings.Search1
import Derived.Shelf.Strings.Search2
import Derived.Shelf.Strings.Search3
import Derived.Shelf.Strings.Cut
import Derived.Shelf.Strings.Count
import Derived.Shelf.Strings.Prefix
import Derived.Shelf.Strings.Split
import Derived.Shelf.Strings.SplitShaped
import Derived.Test.YtpfdghbjagdhfaaDoorProg
import Derived.Test.YtpfdghbjagdhfaaDoorArmP
import Derived.Test.YtpfdghbjagdhfaaDoorAlgI
import Derived.Test.YtpfdghbjagdhfaaDoorCel
import Derived.Test.YtpfdghbjagdhfaaDoorBaseN
import Derived.Test.YtpfdghbjagdhfaaDoorBaseY
namespace Go.Proofs
open Go.Shelf
def Tryd.lays103_ren : Go.Shelf.Ren := ⟨fun | 103 => 101 | 210 => 136 | 206 => 157 | n => n, fun | 9 => 9 | 4 => 4 | 24 => 121 | 3 => 3 | n => n, fun | n => n⟩
theorem Tryd.lays103 : Go.Proofs.Lays.n103 Tryd.prog Tryd.lays103_ren := {
  mixed := by kernel_rfl
  f103 := Tryd.func101.trans (congrArg some (by kernel_rfl))
  f206 := Tryd.func157.trans (congrArg some (by kernel_rfl))
  f210 := Tryd.func136.trans (congrArg some (by kernel_rfl))
  t3 := Tryd.underlying3
  a3 := Tryd.isAgg3
  z3 := Tryd.sizeOf3
  v3 := Tryd.zeroValue3
  t4 := Tryd.underlying4
  a4 := Tryd.isAgg4
  z4 := Tryd.sizeOf4
  v4 := Tryd.zeroValue4
  t9 := Tryd.underlying9
  a9 := Tryd.isAgg9
  z9 := Tryd.sizeOf9
  v9 := Tryd.zeroValue9
  t24 := Tryd.underlying121
  a24 := Tryd.isAgg121
  z24 := Tryd.sizeOf121
  v24 := Tryd.zeroValue121 }
open Go.RowKit in
theorem Tryd.strings_CutPrefix (s p : ByteArray) (w : World) :
    Calls Tryd.prog 101 #[.string s, .string p] w fun e w' => e = .returned (.tuple #[.string ⟨(Lib.trimPrefix s.data.toList p.data.toList).toArray⟩, .bool (Lib.hasPrefix s.data.toList p.data.toList)]) ∧ w' = w := Any.strings_CutPrefix Tryd.lays103 s p w
end Go.Proofs

namespace Go.Proofs.YtpfdghbjagdhfaaDoor
open Go.RowKit Go.Maps
set_option linter.unusedVariables false
set_option maxRecDepth 100000

/-! ### the program's functions on bits, at any numbers -/
set_option maxHeartbeats 400000 in
theorem bsLess_w (a b : Int) (w : World) {v : Int} (hv : bits .andNot .i64 a b = v) :
    Calls Tryd.prog 148 #[.int .i64 a, .int .i64 b] w fun e w' => e = .returned (.int .i64 v) ∧ w = w' := by
  go_enter Tryd.func148, Tryd.ntmps148
  go_wp2
  go_ret
  exact ⟨by rw [← hv]; first | done | rfl, rfl⟩
set_option maxHeartbeats 400000 in
theorem bsHas_w (a b : Int) (w : World) {v : Bool} (hv : decide (bits .andNot .i64 b a = 0) = v) :
    Calls Tryd.prog 123 #[.int .i64 a, .int .i64 b] w fun e w' => e = .returned (.bool v) ∧ w = w' := by
  subst hv
  obtain ⟨z, hz⟩ : ∃ z, bits .andNot .i64 b a = z := ⟨_, rfl⟩
  rw [hz]
  have HZ := Lib.hid hz
  clear hz
  go_enter Tryd.func123, Tryd.ntmps123
  go_wp2_with (go_at_call 148; refine (bsLess_w b a _ HZ.out).mono ?_; rintro e w' ⟨rfl, rfl⟩)
  go_ret
  exact ⟨ret_bool (by rw [Bool.eq_iff_iff]; simp), rfl⟩

set_option maxHeartbeats 1000000 in
theorem armFits_v (x y : Int) (m : Nat) (w : World) (hx : I64 x) (hy : I64 y) (hm : m < 4096) {v : Bool} (hv : fitsA m ⟨x, y⟩ = v) :
    Calls Tryd.prog 73 #[.agg #[.int .i64 x, .int .i64 y], .int .i64 m] w fun e w' => e = .returned (.bool v) ∧ Below w.heap.size w w' := by
  subst hv
  obtain ⟨z, hz⟩ : ∃ z, bits .or .i64 x y = z := ⟨_, rfl⟩
  have HZR := or_i64 x y
  rw [hz] at HZR
  unfold I64 at HZR
  by_cases hu : bits .andNot .i64 z (m : Int) = 0
  · obtain ⟨⟨p, q, rfl, rfl, hp, hq⟩, hf⟩ := fitsA_wild hx hy hm (by rw [hz]; exact hu)
    have HU : Hid (decide (bits .andNot .i64 z (m : Int) = 0) = true) := Lib.hid (decide_eq_true hu)
    have hand := i64_and_nat p q (by omega) (by omega)
    obtain ⟨r, hr⟩ : ∃ r, p &&& q = r := ⟨_, rfl⟩
    rw [hr] at hand
    have HM : Hid (fitsA m ⟨p, q⟩ = decide (r = 0)) := Lib.hid (by rw [hf, Int.toNat_natCast, Int.toNat_natCast, hr])
    clear hf hr hu
    have HB0 : Hid (Below w.heap.size w (w.alloc (.cells #[.int .i64 p, .int .i64 q] 27))) := Lib.hid ((Below.refl _ _).alloc (Nat.le_refl _) _)
    go_enter Tryd.func73, Tryd.ntmps73
    go_wp2_with (go_at_call 123; refine (bsHas_w m z _ HU.out).mono ?_; rintro e w' ⟨rfl, rfl⟩)
    go_ret
    exact ⟨ret_bool (by rw [HM.out, Bool.eq_iff_iff]; simp), HB0.out⟩
  · have HU : Hid (decide (bits .andNot .i64 z (m : Int) = 0) = false) := Lib.hid (decide_eq_false hu)
    have HM : Hid (fitsA m ⟨x, y⟩ = false) := Lib.hid (fitsA_wild_no hx hy hm (by rw [hz]; exact hu))
    clear hu
    have HB0 : Hid (Below w.heap.size w (w.alloc (.cells #[.int .i64 x, .int .i64 y] 27))) := Lib.hid ((Below.refl _ _).alloc (Nat.le_refl _) _)
    go_enter Tryd.func73, Tryd.ntmps73
    go_wp2_with (go_at_call 123; refine (bsHas_w m z _ HU.out).mono ?_; rintro e w' ⟨rfl, rfl⟩)
    go_ret
    exact ⟨by rw [HM.out]; first | done | rfl, HB0.out⟩

theorem sa_one (w : World) (x y : Int) (t : TypeId) (hx : I64 x) (hy : I64 y) : SA (w.alloc (.cells #[.int .i64 x, .int .i64 y] t)) (w.heap.size + 1) (some ⟨w.heap.size, 0, none⟩) 1 1 [⟨x, y⟩] := by
  refine ⟨.inr ⟨w.heap.size, 0, rfl, by omega, fun i a hi j v hj => ?_⟩, rfl, Nat.le_refl _, by unfold maxLen; omega, fun d hd => ?_⟩
  · obtain ⟨hil, rfl⟩ := List.getElem?_eq_some_iff.1 hi
    have h0 : i = 0 := by simpa using hil
    subst h0
    match j, hj with
    | 0, hj => simp [encA] at hj; subst hj; simp [go_sem]
    | 1, hj => simp [encA] at hj; subst hj; simp [go_sem]
    | j + 2, hj => simp [encA] at hj
  · simp at hd; subst hd; exact ⟨hx, hy⟩
theorem sa_len {w : World} {B : Nat} {A : Option Addr} {n c : Nat} {ks : List Ar} (h : SA w B A n c ks) : ks.length = n := h.len

set_option maxHeartbeats 4000000 in
theorem armsMask_v (ds : List D) (b : Int) (rs : List Ar) (A : Option Addr) (m c : Nat) (w : World) (hr : SD w w.heap.size A m c ds) (As : Option Addr) (q cs : Nat) (hs : SA w w.heap.size As q cs rs) (hn : m ≤ 1048576) {r : Int} {v0 : Bool} (hm : mArms ds b rs = v0) (hr2 : (if mArms ds b rs then ((mMask ds : Nat) : Int) else 0) = r) :
    Calls Tryd.prog 82 #[.agg #[.slice A m c, .int .i64 b], .slice As q cs] w (fun e w' => e = .returned (.tuple #[.int .i64 r, .bool v0]) ∧ Below w.heap.size w w') := by
  have HMV := Lib.hid hm
  have HRV := Lib.hid hr2
  have HNO : Hid (mArms ds b rs = false → r = 0 ∧ v0 = false) := Lib.hid (fun h => ⟨by rw [← hr2, h]; rfl, by rw [← hm]; exact h⟩)
  have HYES : Hid (mArms ds b rs = true → r = ((mMask ds : Nat) : Int) ∧ v0 = true) := Lib.hid (fun h => ⟨by rw [← hr2, h]; rfl, by rw [← hm]; exact h⟩)
  clear hm hr2 HMV HRV
  have hl := hs.max
  have hl2 := hs.cap
  unfold maxLen at hl
  obtain rfl := hs.len
  have HF := Lib.hid (FB.start hr b)
  have HSA : Hid (SA (w.alloc (.cells #[.slice A m c, .int .i64 b] 32)) w.heap.size As rs.length cs rs) := Lib.hid (hs.below ((Below.refl _ _).alloc (Nat.le_refl _) _))
  clear hr hs
  cases hv : vFlag ds b
  · have HV := Lib.hid hv
    have HM : Hid (mArms ds b rs = false) := Lib.hid (by unfold mArms; rw [hv]; rfl)
    clear hv
    go_enter Tryd.func82, Tryd.ntmps82
    go_wp2_with fail
    refine (classOf_no ds b _ _ _ _ HF.out.sd hn HV.out).mono ?_
    rintro e w1 ⟨rfl, hb⟩
    have HB1 := Lib.hid (HF.out.after hb)
    have hst := st_nilFunc
    clear hb
    go_wp2
    go_ret2
    exact ⟨by rw [(HNO.out HM.out).1, (HNO.out HM.out).2]; first | done | rfl, HB1.out.alloc HB1.out.size _⟩
  have HV := Lib.hid hv
  have HIN := Lib.hid (small40 (vFlag_in hv))
  have hM : mArms ds b rs = (rs.all (fitsA (mMask ds)) && decide (rs.length ≤ 10)) := by unfold mArms; rw [hv]; rfl
  obtain ⟨k, hk⟩ : ∃ k, mMask ds = k := ⟨_, rfl⟩
  have hk4 : k < 4096 := by rw [← hk]; exact mMask_lt12 (vFlag_in hv)
  have HX := Lib.hid hk
  rw [hk] at hM
  clear hv hk
  obtain ⟨fid, hfid⟩ := bdF_form b
  obtain ⟨wh, hwh⟩ : ∃ wh, mWhole ds b = wh := ⟨_, rfl⟩
  have HFID := Lib.hid hfid
  have HWH := Lib.hid hwh
  clear hfid hwh
  by_cases h10 : rs.length ≤ 10
  · have hlen : ¬ (10 : Int) < (rs.length : Int) := by omega
    have HM : Hid (mArms ds b rs = rs.all (fitsA k)) := Lib.hid (by rw [hM, decide_eq_true h10, Bool.and_true])
    clear hM
    go_enter Tryd.func82, Tryd.ntmps82
    go_wp2_with fail
    refine (classOf_x ds b _ _ _ _ HF.out.sd HV.out HFID.out HWH.out).mono ?_
    rintro e w1 ⟨rfl, hb⟩
    have HF1 := Lib.hid (HF.out.call hb)
    have HK := Lib.hid (FC.start HF1.out fid wh)
    have HS1 : Hid (SA (w1.alloc (.cells #[.slice A m c, .func (.func fid) #[] #[], .int .i64 wh] 68)) w.heap.size As rs.length cs rs) := Lib.hid ((HSA.out.below' hb HF.out.bel.size).alloc HF1.out.bel.size _)
    have hst := st_func
    clear hb HF HSA
    go_wp2_with fail
    generalize hW : (w1.alloc (.cells #[.slice A m c, .func (.func fid) #[] #[], .int .i64 wh] 68)) = w2 at *
    generalize hG : w1.heap.size = G at *
    clear hW hG HF1
    refine (implMask_v ds _ _ _ _ HK.out.sd HIN.out HX.out).mono ?_
    rintro e w3 ⟨rfl, hb⟩
    have HB3 := Lib.hid (HK.out.after hb)
    have HS3 := Lib.hid (HS1.out.below' hb HK.out.bel.size)
    clear hb HK HS1
    go_wp2
    go_loopw [28] (fun i wr => ∃ (j : Nat), j ≤ rs.length ∧ i = .int .i64 j ∧ Hid (∀ l (h : l < rs.length), l < j → fitsA k rs[l] = true) ∧ Hid (Below w.heap.size w wr) ∧ Hid (SA wr w.heap.size As rs.length cs rs)) (fun i _ => rs.length - (intOf i).toNat)
    case atStart => exact ⟨0, Nat.zero_le _, rfl, Lib.hid (fun l hl h => by omega), HB3, HS3⟩
    case round =>
      clear HB3 HS3
      obtain ⟨j, hj, rfl, hall, hbel, hsa⟩ := hrel
      by_cases hlt : j < rs.length
      · obtain ⟨bb, o, hA, hbb, d1, d2⟩ := hsa.out.at_ hlt
        subst hA
        have hi1 : (j : Int) < (rs.length : Int) := by omega
        have HOK := Lib.hid (hsa.out.ok _ (List.getElem_mem hlt))
        obtain ⟨v, hv⟩ : ∃ v, fitsA k rs[j] = v := ⟨_, rfl⟩
        have HV2 := Lib.hid hv
        obtain ⟨a, ha⟩ : ∃ a, rs[j] = a := ⟨_, rfl⟩
        rw [ha] at d1 d2
        have HA := Lib.hid ha
        have HVA : Hid (fitsA k a = v) := Lib.hid (by rw [← ha]; exact hv)
        have HOA : Hid a.ok := Lib.hid (by rw [← ha]; exact HOK.out)
        clear hv ha HOK
        have hb4 : Below w.heap.size w (wr.alloc (.cells #[.int .i64 a.all, .int .i64 a.non] 27)) := hbel.out.trans (((Below.refl _ _).alloc (Nat.le_refl _) _).mono hbel.out.size)
        have HB4 := Lib.hid hb4
        have HS4 : Hid (SA (wr.alloc (.cells #[.int .i64 a.all, .int .i64 a.non] 27)) w.heap.size (some ⟨bb, o, none⟩) rs.length cs rs) := Lib.hid (hsa.out.alloc hbel.out.size _)
        clear hb4
        go_wp2_with fail
        generalize (wr.alloc (.cells #[.int .i64 a.all, .int .i64 a.non] 27)) = w4 at *
        refine (armFits_v a.all a.non k _ HOA.out.1 HOA.out.2 hk4 HVA.out).mono ?_
        rintro e w5 ⟨rfl, hb⟩
        have HB5 : Hid (Below w.heap.size w w5) := Lib.hid (HB4.out.trans (hb.mono HB4.out.size))
        have HS5 := Lib.hid (HS4.out.below' hb HB4.out.size)
        clear hb d1 d2 hbel hsa HB4 HS4
        cases v
        · have HM2 : Hid (mArms ds b rs = false) := Lib.hid (by rw [HM.out, List.all_eq_false]; exact ⟨_, List.getElem_mem hlt, by rw [HV2.out]; decide⟩)
          go_wp2
          go_ret2
          exact ⟨by rw [(HNO.out HM2.out).1, (HNO.out HM2.out).2]; first | done | rfl, HB5.out⟩
        · go_wp2
          go_roundw
          case rel => exact ⟨j + 1, by omega, by go_num, Lib.hid (fun l hl h => by
            by_cases e : l = j
            · subst e; exact HV2.out
            · exact hall.out l hl (by omega)), HB5, HS5⟩
          case measure => simp [intOf]; omega
      · obtain rfl : j = rs.length := by omega
        have HM2 : Hid (mArms ds b rs = true) := Lib.hid (by
          rw [HM.out, List.all_eq_true]
          intro a ha
          obtain ⟨l, hl, rfl⟩ := List.mem_iff_getElem.1 ha
          exact hall.out l hl hl)
        go_wp2
        go_ret2
        exact ⟨by rw [(HYES.out HM2.out).1, (HYES.out HM2.out).2, HX.out]; first | done | rfl, hbel.out⟩
  · have hlen : (10 : Int) < (rs.length : Int) := by omega
    have HM : Hid (mArms ds b rs = false) := Lib.hid (by rw [hM, decide_eq_false h10, Bool.and_false])
    clear hM
    go_enter Tryd.func82, Tryd.ntmps82
    go_wp2_with fail
    refine (classOf_x ds b _ _ _ _ HF.out.sd HV.out HFID.out HWH.out).mono ?_
    rintro e w1 ⟨rfl, hb⟩
    have HB1 := Lib.hid (HF.out.after hb)
    have hst := st_func
    clear hb
    go_wp2
    go_ret2
    exact ⟨by rw [(HNO.out HM.out).1, (HNO.out HM.out).2]; first | done | rfl, HB1.out.alloc HB1.out.size _⟩

end Go.Proofs.YtpfdghbjagdhfaaDoor

namespace Go.Proofs.YtpfdghbjagdhfaaDoor
open Go.RowKit Go.Maps
set_option linter.unusedVariables false
set_option linter.unusedSimpArgs false
set_option maxRecDepth 100000

theorem joinSp_v (ss : List ByteArray) (A : Option Addr) (n c : Nat) (w : World) (hr : SS w w.heap.size A n c ss) (hne : ss ≠ []) (hl : ss.length ≤ 200) (hS : ∀ s ∈ ss, s.size ≤ 8) :
    Calls Tryd.prog 75 #[.slice A n c, .string spB] w fun e w' => e = .returned (.string (joinW ss spB)) ∧ Below w.heap.size w w' := by
  obtain rfl := hr.len
  have hcp := hr.cap
  have hpos : 0 < ss.length := by
    rcases Nat.eq_zero_or_pos ss.length with h | h
    · exact absurd (List.eq_nil_of_length_eq_zero h) hne
    · exact h
  obtain ⟨b, o, rfl, hb, _⟩ := hr.at_ hpos
  refine Tryd.strings_Join b o c ss spB w (fun j x hj => ?_) hb (by omega) hcp ?_
  · obtain ⟨hlt, rfl⟩ := List.getElem?_eq_some_iff.1 hj
    obtain ⟨b2, o2, e, _, h⟩ := hr.at_ hlt
    cases e
    exact h
  · have h1 := joinW_size (sep := spB) hS ss.length (Nat.le_refl _)
    rw [List.take_of_length_le (Nat.le_refl _)] at h1
    have h2 : spB.size = 1 := rfl
    rw [h2] at h1
    have h3 : (joinW ss spB).size = (Lib.join (ss.map (·.data.toList)) spB.data.toList).length := by
      show (joinW ss spB).data.size = _
      unfold joinW
      simp
    omega
theorem ms_two' {ds : List D} : ∀ d ∈ mSg ds, ∃ x : Nat, x < 4096 ∧ d.val = x := fun d hd => by
  obtain ⟨_, i, hi, e⟩ := mSg_sub hd
  exact ⟨2 ^ i, Nat.pow_lt_pow_right (by decide) hi, e⟩

set_option maxHeartbeats 16000000 in
theorem implArmT_v (ds : List D) (b x y : Int) (A : Option Addr) (m c : Nat) (w : World) (hr : SD w w.heap.size A m c ds) (hn : m ≤ 1048576) (hx : I64 x) (hy : I64 y) :
    Calls Tryd.prog 37 #[.agg #[.slice A m c, .int .i64 b], .agg #[.int .i64 x, .int .i64 y]] w (fun e w' => e = .returned (.string (mArmT ds b ⟨x, y⟩)) ∧ Below w.heap.size w w') := by
  obtain ⟨tx, htx⟩ : ∃ tx, mArmT ds b ⟨x, y⟩ = tx := ⟨_, rfl⟩
  rw [htx]
  have HTX := Lib.hid htx
  clear htx
  have HF := Lib.hid ((FB.start hr b).alloc (.cells #[.int .i64 x, .int .i64 y] 27))
  have HC : Hid (C2 ((w.alloc (.cells #[.slice A m c, .int .i64 b] 32)).alloc (.cells #[.int .i64 x, .int .i64 y] 27)) (w.heap.size + 1) (.int .i64 x) (.int .i64 y)) := Lib.hid (c2New' _ _ _ _ _)
  have hs0 : w.heap.size + 1 + 1 ≤ ((w.alloc (.cells #[.slice A m c, .int .i64 b] 32)).alloc (.cells #[.int .i64 x, .int .i64 y] 27)).heap.size := by simp
  have HOK := Lib.hid (mSg_ok hr.ok)
  clear hr
  obtain ⟨w0, hw⟩ : ∃ W : World, W = ((w.alloc (.cells #[.slice A m c, .int .i64 b] 32)).alloc (.cells #[.int .i64 x, .int .i64 y] 27)) := ⟨_, rfl⟩
  have f0 : ((w.alloc (.cells #[.slice A m c, .int .i64 b] 32)).alloc (.cells #[.int .i64 x, .int .i64 y] 27)).cell? ⟨w.heap.size, 0, none⟩ = some (.slice A m c) := HF.out.c0
  have f1 : ((w.alloc (.cells #[.slice A m c, .int .i64 b] 32)).alloc (.cells #[.int .i64 x, .int .i64 y] 27)).cell? ⟨w.heap.size, 1, none⟩ = some (.int .i64 b) := HF.out.c1
  rw [← hw] at HF HC hs0
  have HW := Lib.hid hw.symm
  clear hw
  cases hv : vFlag ds b
  · have HV := Lib.hid hv
    have HM : Hid (tx = ⟨#[]⟩) := Lib.hid (by rw [← HTX.out]; unfold mArmT mArmOk; rw [hv]; rfl)
    clear hv HTX
    go_enter Tryd.func37, Tryd.ntmps37
    go_wp2_with fail
    rw [HW.out]
    clear HW f0 f1
    refine (classOf_no ds b _ _ _ _ HF.out.sd hn HV.out).mono ?_
    rintro e w1 ⟨rfl, hb⟩
    have HB1 := Lib.hid (HF.out.after hb)
    have hst := st_nilFunc
    clear hb
    go_wp2
    go_ret
    exact ⟨by rw [HM.out]; first | done | rfl, HB1.out.alloc HB1.out.size _⟩
  have HV := Lib.hid hv
  have HIN := Lib.hid (small40 (mSg_in (vFlag_in hv)))
  obtain ⟨mk, hk⟩ : ∃ k, mMask (mSg ds) = k := ⟨_, rfl⟩
  have hk4 : mk < 4096 := by rw [← hk]; exact mMask_lt12 (mSg_in (vFlag_in hv))
  have HMM := Lib.hid hk
  obtain ⟨f, hf⟩ : ∃ f, fitsA (mMask (mSg ds)) ⟨x, y⟩ = f := ⟨_, rfl⟩
  have HFT : Hid (fitsA mk ⟨x, y⟩ = f) := Lib.hid (by rw [← hk]; exact hf)
  have HOKA : Hid (mArmOk ds b ⟨x, y⟩ = f) := Lib.hid (by unfold mArmOk; rw [hv, Bool.true_and]; exact hf)
  have HP : Hid (∀ d ∈ mSg ds, ∃ x : Nat, x < 4096 ∧ d.val = x) := Lib.hid ms_two'
  have HWS : Hid (∀ p q, ∀ s ∈ wordsA p q (mSg ds), s.size ≤ 8) := Lib.hid fun p q s hs => (textA_words hv p q s hs).1
  have HL : Hid ((mSg ds).length ≤ 12) := Lib.hid (by have := mSg_len ds; omega)
  have HN6 : Hid (∀ d ∈ mSg ds, d.name.size ≤ 6) := Lib.hid fun d hd => flag_name6 hv (mSg_sub hd).1
  have HSG := Lib.hid (fun (A : Option Addr) (n c : Nat) (w : World) (hr : SD w w.heap.size A n c ds) => implSg_any ds A n c w hr)
  unfold DefsP at HSG
  have HTA : Hid (∀ p q, textA ds p q = if wordsA p q (mSg ds) = [] then starB else joinW (wordsA p q (mSg ds)) spB) := Lib.hid fun p q => rfl
  clear hv hk hf
  obtain ⟨fid, hfid⟩ := bdF_form b
  obtain ⟨wh, hwh⟩ : ∃ wh, mWhole ds b = wh := ⟨_, rfl⟩
  have HFID := Lib.hid hfid
  have HWH := Lib.hid hwh
  clear hfid hwh
  obtain ⟨ms, hms⟩ : ∃ ms, mSg ds = ms := ⟨_, rfl⟩
  have HMS := Lib.hid hms
  rw [hms] at HOK HIN HMM HP HWS HL HN6 HSG HTA
  clear hms
  have hl12 : ms.length ≤ 12 := HL.out
  go_enter Tryd.func37, Tryd.ntmps37
  go_wp2_with fail
  rw [HW.out]
  clear HW f0 f1
  refine (classOf_x ds b _ _ _ _ HF.out.sd HV.out HFID.out HWH.out).mono ?_
  rintro e w1 ⟨rfl, hb⟩
  have HF1 := Lib.hid (HF.out.call hb)
  have HK := Lib.hid (FC.start HF1.out fid wh)
  have HCK : Hid (C2 (w1.alloc (.cells #[.slice A m c, .func (.func fid) #[] #[], .int .i64 wh] 68)) (w.heap.size + 1) (.int .i64 x) (.int .i64 y)) := Lib.hid ((HC.out.below hb).below ((Below.refl _ _).alloc (Nat.le_refl _) _))
  have hst := st_func
  have g0 := HK.out.c0
  have hsk : w.heap.size + 1 + 1 ≤ (w1.alloc (.cells #[.slice A m c, .func (.func fid) #[] #[], .int .i64 wh] 68)).heap.size := by have := hb.size; simp; omega
  clear hb HF HC
  go_wp2_with fail
  generalize (w1.alloc (.cells #[.slice A m c, .func (.func fid) #[] #[], .int .i64 wh] 68)) = wk at *
  refine (HSG.out _ _ _ _ HK.out.sd).mono ?_
  rintro e w2 ⟨As, cs, rfl, ho, hb⟩
  have HS2 := Lib.hid (sd_of_own ho HOK.out)
  have HC2 := Lib.hid (HCK.out.below hb)
  have hs2 : w.heap.size + 1 + 1 ≤ w2.heap.size := by have := hb.size; omega
  have HB2 := Lib.hid (HK.out.after hb)
  clear hb ho HSG HK HCK g0
  have x0 := HC2.out.c0
  have x1 := HC2.out.c1
  go_wp2_with fail
  go_region_held3 (fun w' => w'.cell? ⟨w.heap.size + 1, 0, none⟩ = some (.int .i64 x) ∧ w'.cell? ⟨w.heap.size + 1, 1, none⟩ = some (.int .i64 y))
    (first | go_keep | exact ⟨x0, x1⟩ | exact ⟨y0, y1⟩ | exact ⟨z0, z1⟩)
    (first
      | (go_at_call 74; refine (implMask_v ms _ _ _ _ (by first | exact HS2.out | exact HS2.out.drew | exact HS2.out.drewN _) HIN.out HMM.out).mono ?_; rintro e w5 ⟨rfl, hb⟩; replace hb : Below w2.heap.size w2 w5 := (by first | exact hb | exact undrew hb); have HS5 := Lib.hid ((HS2.out.below hb).call hb.size); have HC5 := Lib.hid (HC2.out.below hb); have HB5 := Lib.hid (HB2.out.trans (hb.mono HB2.out.size)); have y0 := keep1 hb x0; have y1 := keep1 hb x1; have hs5 := hb.size; clear hb)
      | (go_at_call 73; refine (armFits_v x y mk _ hx hy hk4 HFT.out).mono ?_; rintro e w6 ⟨rfl, hb⟩; replace hb : Below w5.heap.size w5 w6 := (by first | exact hb | exact undrew hb); have HS6 := Lib.hid ((HS5.out.below hb).call hb.size); have HC6 := Lib.hid (HC5.out.below hb); have HB6 := Lib.hid (HB5.out.trans (hb.mono HB5.out.size)); have z0 := keep1 hb y0; have z1 := keep1 hb y1; have hs6 := hb.size; clear hb))
  clear HS2 HS5 HC2 HC5 HB2 HB5 x0 x1 y0 y1 z0 z1
  cases f
  · have HM : Hid (tx = ⟨#[]⟩) := Lib.hid (by rw [← HTX.out]; unfold mArmT; rw [HOKA.out]; rfl)
    go_wp2
    go_ret
    exact ⟨by rw [HM.out]; first | done | rfl, HB6.out⟩
  obtain ⟨_, p, q, e1, e2, hp, hq, _, _, _⟩ := mArmOk_nat HOKA.out
  simp only at e1 e2
  subst e1 e2
  have HM : Hid (tx = if wordsA p q ms = [] then starB else joinW (wordsA p q ms) spB) := Lib.hid (by rw [← HTX.out]; unfold mArmT; rw [HOKA.out, if_pos rfl, Int.toNat_natCast, Int.toNat_natCast]; exact HTA.out p q)
  clear HTX HOKA HTA HFT hx hy
  try simp only [Bool.not_true]
  go_wp2
  try simp only [Bool.not_true]
  go_loopw [8, 28] (fun v i wr => ∃ (k nw : Nat) (ws : List ByteArray), k ≤ ms.length ∧ nw ≤ k ∧ i = .int .i64 k ∧ Hid (ws = wordsA p q (ms.take k)) ∧ Hid (ws.length = nw) ∧ Hid (wr.ownsRow w6.heap.size 9 1 v nw (flatS ws)) ∧ Hid (SD wr w6.heap.size As ms.length cs ms) ∧ Hid (Below w6.heap.size w6 wr) ∧ Hid (C2 wr (w.heap.size + 1) (.int .i64 p) (.int .i64 q)) ∧ w6.heap.size ≤ wr.heap.size) (fun _ i _ => ms.length - (intOf i).toNat)
  case atStart => exact ⟨0, 0, [], Nat.zero_le _, Nat.le_refl _, rfl, Lib.hid rfl, Lib.hid rfl, Lib.hid (World.ownsRow_nil _ _ _ _), HS6, Lib.hid (Below.refl _ _), HC6, Nat.le_refl _⟩
  case round =>
    clear HS6 HC6
    obtain ⟨k, nw, ws, hk, hnk, rfl, hws, hwl, hown, hS, hbel, hc, hsz⟩ := hrel
    by_cases hlt : k < ms.length
    · obtain ⟨xx, hx4, hx⟩ := HP.out _ (List.getElem_mem hlt)
      obtain ⟨bb, o, rfl, hbb, c1, c2⟩ := hS.out.at_ hlt
      have HT := Lib.hid (wordsA_succ p q hlt)
      have hn6 := HN6.out _ (List.getElem_mem hlt)
      have HWA : Hid (wordA p q ms[k] = if p &&& xx ≠ 0 then [ms[k].name] else if q &&& xx ≠ 0 then [bangB ++ ms[k].name] else []) := Lib.hid (by unfold wordA; rw [hx, Int.toNat_natCast, Nat.and_comm p, Nat.and_comm q])
      have hi1 : (k : Int) < (ms.length : Int) := by omega
      rw [hx] at c2
      clear hx
      generalize ms[k].name = s at *
      generalize wordA p q ms[k] = wd at *
      have hbW : Below wr.heap.size wr (wr.alloc (.cells #[.string s, .int .i64 xx] 98)) := (Below.refl _ _).alloc (Nat.le_refl _) _
      have l0 : (wr.alloc (.cells #[.string s, .int .i64 xx] 98)).cell? ⟨wr.heap.size, 0, none⟩ = some (.string s) := by simp [go_sem]
      have l1 : (wr.alloc (.cells #[.string s, .int .i64 xx] 98)).cell? ⟨wr.heap.size, 1, none⟩ = some (.int .i64 xx) := by simp [go_sem]
      have x0 := keep1 hbW hc.out.c0
      have x1 := keep1 hbW hc.out.c1
      have HOW := Lib.hid (own_below hown.out hbW)
      have hbW6 : Below w6.heap.size wr (wr.alloc (.cells #[.string s, .int .i64 xx] 98)) := (Below.refl _ _).alloc hsz _
      have HSW := Lib.hid (hS.out.below hbW6)
      have HCW := Lib.hid (hc.out.below hbW)
      have HBW := Lib.hid (hbel.out.trans hbW6)
      have hszW : w6.heap.size ≤ (wr.alloc (.cells #[.string s, .int .i64 xx] 98)).heap.size := HBW.out.size
      have hnz := i64_and_nat p xx (by omega) (by omega)
      have hny := i64_and_nat q xx (by omega) (by omega)
      obtain ⟨z, hz⟩ : ∃ z, p &&& xx = z := ⟨_, rfl⟩
      obtain ⟨y, hy⟩ : ∃ y, q &&& xx = y := ⟨_, rfl⟩
      rw [hz, hy] at HWA
      rw [hz] at hnz
      rw [hy] at hny
      clear hz hy hbW hbW6
      have hzb : (bangB ++ s).size ≤ 7 := by rw [ByteArray.size_append]; show 1 + s.size ≤ 7; omega
      unfold bangB at hzb HWA
      by_cases h1 : z = 0
      · subst h1
        by_cases h3 : y = 0
        · subst h3
          have HTT : Hid (wordsA p q (ms.take (k + 1)) = ws) := Lib.hid (by rw [HT.out, hws.out, HWA.out, if_neg (by omega), if_neg (by omega), List.append_nil])
          clear HT HWA
          go_wp2
          go_roundw
          case rel => exact ⟨k + 1, nw, ws, by omega, by omega, by go_num, Lib.hid HTT.out.symm, hwl, HOW, HSW, HBW, HCW, hszW⟩
          case measure => simp [intOf]; omega
        · have h4 : ((y : Int) == 0) = false := by rw [beq_eq_false_iff_ne]; omega
          have HTT : Hid (wordsA p q (ms.take (k + 1)) = ws ++ [(⟨#[33]⟩ : ByteArray) ++ s]) := Lib.hid (by rw [HT.out, hws.out, HWA.out, if_neg (by omega), if_pos (by omega)])
          clear HT HWA
          go_wp2_with (at_builtin; refine wpList_app_S rfl _ _ rfl w6.heap.size _ _ _ rfl HOW.out _ _ _ rfl (by first | rfl | simp) (by omega) hszW ?_; intro v' w3 ho1 hb1; have HO1 := Lib.hid ho1; have HB1 := Lib.hid hb1; clear ho1 hb1)
          go_roundw
          case rel => exact ⟨k + 1, nw + 1, _, by omega, by omega, by go_num, Lib.hid HTT.out.symm, Lib.hid (by rw [List.length_append, hwl.out]; rfl), Lib.hid (by simpa [flatS] using HO1.out), Lib.hid (HSW.out.below HB1.out), Lib.hid (HBW.out.trans HB1.out), Lib.hid (HCW.out.low HB1.out (by omega)), by have := HB1.out.size; omega⟩
          case measure => simp [intOf]; omega
      · have h2 : ((z : Int) == 0) = false := by rw [beq_eq_false_iff_ne]; omega
        have HTT : Hid (wordsA p q (ms.take (k + 1)) = ws ++ [s]) := Lib.hid (by rw [HT.out, hws.out, HWA.out, if_pos (by omega)])
        clear HT HWA
        go_wp2_with (at_builtin; refine wpList_app_S rfl _ _ rfl w6.heap.size _ _ _ rfl HOW.out _ _ _ rfl (by first | rfl | simp) (by omega) hszW ?_; intro v' w3 ho1 hb1; have HO1 := Lib.hid ho1; have HB1 := Lib.hid hb1; clear ho1 hb1)
        go_roundw
        case rel => exact ⟨k + 1, nw + 1, _, by omega, by omega, by go_num, Lib.hid HTT.out.symm, Lib.hid (by rw [List.length_append, hwl.out]; rfl), Lib.hid (by simpa [flatS] using HO1.out), Lib.hid (HSW.out.below HB1.out), Lib.hid (HBW.out.trans HB1.out), Lib.hid (HCW.out.low HB1.out (by omega)), by have := HB1.out.size; omega⟩
        case measure => simp [intOf]; omega
    · obtain rfl : k = ms.length := by omega
      have hi9 : ¬ (ms.length : Int) < (ms.length : Int) := by omega
      obtain ⟨A', c', hv⟩ := own_form hown.out
      subst hv
      have HWE : Hid (wordsA p q ms = ws) := Lib.hid (by rw [hws.out, List.take_of_length_le (Nat.le_refl _)])
      have HB : Hid (Below w.heap.size w wr) := Lib.hid (HB6.out.trans (hbel.out.mono HB6.out.size))
      by_cases h0 : nw = 0
      · subst h0
        have HTS : Hid (tx = starB) := Lib.hid (by rw [HM.out, HWE.out, if_pos (List.eq_nil_of_length_eq_zero hwl.out)])
        go_wp2
        go_ret
        exact ⟨by rw [HTS.out]; rfl, HB.out⟩
      · have h01 : ((nw : Int) == 0) = false := by rw [beq_eq_false_iff_ne]; omega
        have HNE : Hid (ws ≠ []) := Lib.hid (fun e => by have := hwl.out; rw [e] at this; exact h0 this.symm)
        have HTS : Hid (tx = joinW ws spB) := Lib.hid (by rw [HM.out, HWE.out, if_neg HNE.out])
        have HS8 : Hid (∀ s ∈ ws, s.size ≤ 8) := Lib.hid (by rw [← HWE.out]; exact HWS.out p q)
        have HSS : Hid (SS wr wr.heap.size A' nw c' ws) := Lib.hid (ss_of_own hown.out (fun s hs => by have := HS8.out s hs; unfold maxLen; omega))
        go_wp2_with fail
        refine (joinSp_v ws _ _ _ _ HSS.out HNE.out (by have := hwl.out; omega) HS8.out).mono ?_
        rintro e w7 ⟨rfl, hb⟩
        have HB7 : Hid (Below w.heap.size w w7) := Lib.hid (HB.out.trans (hb.mono HB.out.size))
        clear hb
        go_wp2
        go_ret
        exact ⟨by rw [HTS.out]; first | done | rfl, HB7.out⟩
end Go.Proofs.YtpfdghbjagdhfaaDoor

namespace Go.Proofs.YtpfdghbjagdhfaaDoor
open Go.RowKit Go.Maps
set_option linter.unusedVariables false
set_option linter.unusedSimpArgs false
set_option maxRecDepth 100000

theorem cutPre_any (s : ByteArray) (w : World) : Calls Tryd.prog 101 #[.string s, .string ⟨#[33]⟩] w fun e w' => e = .returned (.tuple #[.string (bareB s), .bool (isInv s)]) ∧ w = w' := by
  refine (Tryd.strings_CutPrefix s ⟨#[33]⟩ w).mono ?_
  rintro e w' ⟨rfl, rfl⟩
  rw [pre_bang, trim_bang]
  exact ⟨rfl, rfl⟩
theorem star_no {s : ByteArray} (h : s ≠ starB) : (s.toList == [42]) = false := by
  rw [beq_eq_false_iff_ne]
  intro e
  exact h (nm_inj (by rw [e]; first | rfl | decide | simp [starB, go_sem]))
theorem set_grown (w : World) (g i : Nat) (v : Value) : w.grownBy (w.setCell ⟨g, i, none⟩ v) (some g) := ⟨rfl, rfl, rfl, by simp, fun k _ hk => Below.heap_setCell w _ _ k (fun e => hk (by simp only at e; rw [e]))⟩

/-- internal/bytealg.MaxLen, carried from world to world. -/
structure MT (w : World) (B : Nat) : Prop where
  mln : ∃ m : Int, w.cell? ⟨0, 0, none⟩ = some (.int .i64 m)
  lm : 0 < B
theorem MT.below {w w' : World} {B : Nat} (h : MT w B) (hb : Below B w w') : MT w' B := by
  obtain ⟨m, h3⟩ := h.mln
  exact ⟨⟨m, (hb.cell (p := ⟨0, 0, none⟩) h.lm).trans h3⟩, h.lm⟩
theorem MT.more {w : World} {B B' : Nat} (h : MT w B) (hB : B ≤ B') : MT w B' := ⟨h.mln, Nat.lt_of_lt_of_le h.lm hB⟩
theorem MT.call {w w' : World} (h : MT w w.heap.size) (hb : Below w.heap.size w w') : MT w' w'.heap.size := (h.below hb).more hb.size
theorem RT.mt {w : World} {B : Nat} (h : RT w B) : MT w B := ⟨h.mln, h.lm⟩
theorem splitM_any (s : ByteArray) (c : UInt8) (w : World) (hs : s.size ≤ 1048576) (hT : MT w w.heap.size) :
    Calls Tryd.prog 100 #[.string s, .string ⟨#[c]⟩] w (StrsP (splitT c s) w) := by
  obtain ⟨m, hm⟩ := hT.mln
  refine (Tryd.strings_Split s ⟨#[c]⟩ m w (by omega) hm (Nat.le_refl 1)).mono ?_
  rintro e w' ⟨rfl, rfl⟩
  have hl := splitT_len c s
  rw [splitT_B, splitT_count]
  have h0 : Below w.heap.size w (w.alloc (.cells ((splitT c s).map Value.string).toArray 9)) := (Below.refl _ _).alloc (Nat.le_refl _) _
  refine ⟨some ⟨w.heap.size, 0, none⟩, (splitT c s).length, rfl, ?_, h0⟩
  have hz : (flatS (splitT c s)).length = (splitT c s).length := flatS_length _
  exact ⟨by rw [hz, Nat.mul_one], .inr ⟨w.heap.size, (splitT c s).length, ((splitT c s).map Value.string).toArray, rfl, Nat.le_refl _, heap_alloc_new w _, Nat.le_refl _, by unfold maxLen; omega, by simp, by simp [flatS, List.take_of_length_le]⟩⟩

set_option maxHeartbeats 16000000 in
theorem implReadArm_v (l : List D) (s : ByteArray) (A : Option Addr) (n c : Nat) (w : World) (hr : SD w w.heap.size A n c l) (hin : ∀ d ∈ l, inR d) (hs : s.size ≤ 1048576) (hT : MT w w.heap.size) {x y : Nat} {v : Bool} (hv : ArR (arV l s) x y v) :
    Calls Tryd.prog 52 #[.slice A n c, .string s] w fun e w' => e = .returned (.tuple #[.agg #[.int .i64 x, .int .i64 y], .bool v]) ∧ Below w.heap.size w w' := by
  obtain rfl := hr.len
  have hl := hr.max
  have hl2 := hr.cap
  unfold maxLen at hl
  have HR := Lib.hid hr
  have HIN := Lib.hid hin
  have HT := Lib.hid hT
  obtain ⟨W0, hW⟩ : ∃ W : World, W = (w.alloc (.cells #[.int .i64 0, .int .i64 0] 27)).alloc (.cells #[.int .i64 0, .int .i64 0] 27) := ⟨_, rfl⟩
  have HB0 : Hid (Below w.heap.size w W0) := Lib.hid (by rw [hW]; exact ((Below.refl _ _).alloc (Nat.le_refl _) _).alloc (by simp) _)
  have HC0 : Hid (C2 W0 w.heap.size (.int .i64 0) (.int .i64 0)) := Lib.hid (by rw [hW]; exact (c2New _ _ _ _).below ((Below.refl _ _).alloc (Nat.le_refl _) _))
  have HA0 : Hid (C2 W0 (w.heap.size + 1) (.int .i64 0) (.int .i64 0)) := Lib.hid (by rw [hW]; exact c2New' _ _ _ _ _)
  have hs0 : W0.heap.size = w.heap.size + 1 + 1 := by rw [hW]; simp
  have HW := Lib.hid hW.symm
  clear hr hin hT hW
  by_cases hst : s = starB
  · subst hst
    obtain ⟨rfl, rfl, rfl⟩ := hv.yes 0 0 (by unfold arV; rw [if_pos rfl])
    clear hv
    unfold starB
    go_enter Tryd.func52, Tryd.ntmps52
    go_wp2
    refine bodyPost_ret (v := .tuple #[.agg #[.int .i64 0, .int .i64 0], .bool true]) (by simp [results, Tryd.results52, go_sem]) rfl ⟨rfl, ?_⟩
    repeat first | exact Below.refl _ _ | refine Below.setCell ?_ (by first | exact Nat.le_refl _ | (show w.heap.size ≤ _; omega)) _ | refine Below.alloc ?_ (by first | exact Nat.le_refl _ | (simp; done) | (simp; omega)) _
  have hsn : (s.toList == [42]) = false := star_no hst
  have HV : Hid (ArR (arTo l (splitT 32 s) 0 0) x y v) := Lib.hid (by have := hv; unfold arV at this; rw [if_neg hst] at this; exact this)
  have HSP := Lib.hid (fun w h => splitM_any s 32 w hs h)
  unfold StrsP at HSP
  have hwl := (splitT_len 32 s).1
  have HWS : Hid (∀ x ∈ splitT 32 s, x.size ≤ 1048576) := Lib.hid fun x hx => by have := splitT_size 32 s x hx; omega
  generalize splitT 32 s = ws at *
  have HOKS : Hid (∀ x ∈ ws, x.size ≤ maxLen) := Lib.hid fun x hx => by have := HWS.out x hx; unfold maxLen; omega
  clear hv hst
  go_enter Tryd.func52, Tryd.ntmps52
  go_wp2_with fail
  rw [HW.out]
  clear HW
  refine (HSP.out _ (HT.out.call HB0.out)).mono ?_
  rintro e w1 ⟨A1, c1, rfl, ho, hb⟩
  have HO1 := Lib.hid ho
  have HC1 := Lib.hid (HC0.out.below hb)
  have HA1 := Lib.hid (HA0.out.below hb)
  have HB1 := Lib.hid (HB0.out.trans (hb.mono HB0.out.size))
  have hs1 := hb.size
  clear ho hb HSP HB0 HC0 HA0
  go_wp2
  go_loopw [18] (fun i wr => ∃ (k p q : Nat), k ≤ ws.length ∧ p < 4096 ∧ q < 4096 ∧ i = .int .i64 k ∧ Hid (arAt l ws k p q) ∧ Hid (wr.ownsRow W0.heap.size 9 1 (.slice A1 ws.length c1) ws.length (flatS ws)) ∧ Hid (C2 wr w.heap.size (.int .i64 0) (.int .i64 0)) ∧ Hid (C2 wr (w.heap.size + 1) (.int .i64 p) (.int .i64 q)) ∧ Hid (Below w.heap.size w wr) ∧ W0.heap.size ≤ wr.heap.size) (fun i _ => ws.length - (intOf i).toNat)
  case atStart => exact ⟨0, 0, 0, Nat.zero_le _, by omega, by omega, rfl, Lib.hid (arAt_zero l ws), HO1, HC1, HA1, HB1, hs1⟩
  case round =>
    clear HO1 HC1 HA1 HB1
    obtain ⟨k, p, q, hk, hp, hq, rfl, hst, hown, hc, ha, hbel, hsz⟩ := hrel
    by_cases hlt : k < ws.length
    · obtain ⟨bb, o, hA, hbb, d1⟩ := (ss_of_own hown.out HOKS.out).at_ hlt
      subst hA
      have hi1 : (k : Int) < (ws.length : Int) := by omega
      have HNO := Lib.hid (arAt_no hlt hst.out)
      have HIV := Lib.hid (fun d => arAt_inv (d := d) hlt hst.out)
      have HNT := Lib.hid (fun d => arAt_not (d := d) hlt hst.out)
      generalize ws[k] = u at *
      obtain ⟨iv, hiv⟩ : ∃ iv, isInv u = iv := ⟨_, rfl⟩
      have HCP := Lib.hid (fun w => cutPre_any u w)
      rw [hiv] at HCP HIV HNT
      clear hiv hst
      generalize bareB u = nm at *
      have HS := Lib.hid ((HR.out.below hbel.out).call hbel.out.size)
      rcases fidx_cases (isNm nm) l with ⟨hx, hno⟩ | ⟨j, hj, hx, hpj, hno⟩
      · have HX := Lib.hid hx
        have HN := Lib.hid (HV.out.no (HNO.out (fnd_no hno)))
        have c0 := hc.out.c0
        have c1' := hc.out.c1
        clear hx hno HNO HIV HNT
        go_wp2_with (go_at_call 101; refine (HCP.out _).mono ?_; rintro e w2 ⟨rfl, rfl⟩)
        refine (indexOfName_v l nm _ _ _ _ HS.out HX.out).mono ?_
        rintro e w3 ⟨rfl, hb⟩
        have HB3 := Lib.hid (hbel.out.trans (hb.mono hbel.out.size))
        obtain ⟨k0, k1, kf0, kf1⟩ := hc.out.below hb
        clear hb
        obtain ⟨rfl, rfl, rfl⟩ := HN.out
        go_wp2
        exact bodyPost_ret (v := .tuple #[.agg #[.int .i64 0, .int .i64 0], .bool false]) (by simp [results, Tryd.results52, go_sem, k0, k1]) rfl ⟨rfl, (HB3.out.setCell (Nat.le_refl _) _).setCell (Nat.le_refl _) _⟩
      · have HX := Lib.hid hx
        obtain ⟨bd, od, hA, hbd, d2, d3⟩ := HS.out.at_ hj
        subst hA
        have HFD := Lib.hid (fnd_at hj hpj hno)
        obtain ⟨z, hz⟩ : ∃ z : Nat, l[j].val = z := ⟨l[j].val.toNat, (Int.toNat_of_nonneg (HIN.out _ (List.getElem_mem hj)).1).symm⟩
        have hz4 : z < 4096 := by have := (HIN.out _ (List.getElem_mem hj)).2; omega
        have HIV2 := Lib.hid (fun h => HIV.out l[j] HFD.out h)
        have HNT2 := Lib.hid (fun h => HNT.out l[j] HFD.out h)
        rw [hz, Int.toNat_natCast] at HIV2 HNT2
        rw [hz] at d3
        have hij : (j : Int) < (l.length : Int) := by omega
        clear hx hno hz HNO HIV HNT HFD hpj
        have NEB : Hid (∀ r, some r = (Value.slice (some ⟨bb, o, none⟩) ws.length c1).ownBlock → W0.heap.size ≤ r) := Lib.hid fun r e => (hown.out.lt r e.symm).1
        have hbdw : bd < w.heap.size ∨ True := .inr trivial
        go_wp2_with (go_at_call 101; refine (HCP.out _).mono ?_; rintro e w2 ⟨rfl, rfl⟩)
        refine (indexOfName_v l nm _ _ _ _ HS.out HX.out).mono ?_
        rintro e w3 ⟨rfl, hb⟩
        have HB3 := Lib.hid (hbel.out.trans (hb.mono hbel.out.size))
        have HO3 := Lib.hid (own_below hown.out hb)
        have HC3 := Lib.hid (hc.out.below hb)
        have HA3 := Lib.hid (ha.out.below hb)
        have k3 := keep1 hb d3
        obtain ⟨m0, m1, mf0, mf1⟩ := HA3.out
        have hs3 := hb.size
        have hor1 := i64_or_nat p z (by omega) (by omega)
        have hor2 := i64_or_nat q z (by omega) (by omega)
        have hpz := or_lt hp hz4
        have hqz := or_lt hq hz4
        clear hb
        have HOS : Hid (∀ i v, (w3.setCell ⟨w.heap.size + 1, i, none⟩ v).drew.ownsRow W0.heap.size 9 1 (.slice (some ⟨bb, o, none⟩) ws.length c1) ws.length (flatS ws)) := Lib.hid fun i v => own_below (own_setCell HO3.out (fun e => by have := NEB.out _ e.symm; simp only at this; omega) _) (Below.refl _ _).drew
        cases iv
        · have HST := Lib.hid (HNT2.out rfl)
          obtain ⟨pz, hpz2⟩ : ∃ t, p ||| z = t := ⟨_, rfl⟩
          rw [hpz2] at hor1 hpz HST
          go_wp2_with fail
          go_region
          all_goals
            go_wp2
            go_roundw
            case rel => exact ⟨k + 1, pz, q, by omega, hpz, hq, by go_num, HST, Lib.hid (HOS.out _ _), Lib.hid ((HC3.out.setO (by simp) _).below (Below.refl _ _).drew), Lib.hid ((HA3.out.set0 _).below (Below.refl _ _).drew), Lib.hid ((HB3.out.setCell (by simp) _).drew), by simp; omega⟩
            case measure => simp [intOf]; omega
        · have HST := Lib.hid (HIV2.out rfl)
          obtain ⟨qz, hqz2⟩ : ∃ t, q ||| z = t := ⟨_, rfl⟩
          rw [hqz2] at hor2 hqz HST
          go_wp2_with fail
          go_region
          all_goals
            go_wp2
            go_roundw
            case rel => exact ⟨k + 1, p, qz, by omega, hp, hqz, by go_num, HST, Lib.hid (HOS.out _ _), Lib.hid ((HC3.out.setO (by simp) _).below (Below.refl _ _).drew), Lib.hid ((HA3.out.set1 _).below (Below.refl _ _).drew), Lib.hid ((HB3.out.setCell (by simp) _).drew), by simp; omega⟩
            case measure => simp [intOf]; omega
    · obtain rfl : k = ws.length := by omega
      have hi9 : ¬ (ws.length : Int) < (ws.length : Int) := by omega
      have HY := Lib.hid (HV.out.yes p q (arAt_end hst.out))
      obtain ⟨c0, c1', cf0, cf1⟩ := hc.out
      have a0 := ha.out.c0
      have a1 := ha.out.c1
      have HBB := Lib.hid hbel.out
      obtain ⟨rfl, rfl, rfl⟩ := HY.out
      go_wp2
      exact bodyPost_ret (v := .tuple #[.agg #[.int .i64 x, .int .i64 y], .bool true]) (by simp [results, Tryd.results52, go_sem, c0, c1', a0, a1]) rfl ⟨rfl, (HBB.out.setCell (Nat.le_refl _) _).setCell (Nat.le_refl _) _⟩
end Go.Proofs.YtpfdghbjagdhfaaDoor

namespace Go.Proofs.YtpfdghbjagdhfaaDoor
open Go.RowKit Go.Maps
set_option linter.unusedVariables false
set_option linter.unusedSimpArgs false
set_option maxRecDepth 100000

theorem text_no {s t : ByteArray} (h : t ≠ s) : (t.toList == s.toList) = false := by
  rw [beq_eq_false_iff_ne]
  exact fun e => h (nm_inj e)

set_option maxHeartbeats 16000000 in
theorem implParse_v (ds : List D) (b : Int) (s : ByteArray) (A : Option Addr) (m c : Nat) (w : World) (hr : SD w w.heap.size A m c ds) (hn : m ≤ 1048576) (hs : s.size ≤ 1048576) (hT : MT w w.heap.size) {x y : Nat} {v : Bool} (hm : ArR (mPar ds b s) x y v) :
    Calls Tryd.prog 15 #[.agg #[.slice A m c, .int .i64 b], .string s] w fun e w' => e = .returned (.tuple #[.agg #[.int .i64 x, .int .i64 y], .bool v]) ∧ Below w.heap.size w w' := by
  have HF := Lib.hid ((FB.start hr b).alloc (.cells #[.int .i64 0, .int .i64 0] 27))
  have HC : Hid (C2 ((w.alloc (.cells #[.slice A m c, .int .i64 b] 32)).alloc (.cells #[.int .i64 0, .int .i64 0] 27)) (w.heap.size + 1) (.int .i64 0) (.int .i64 0)) := Lib.hid (c2New' _ _ _ _ _)
  have HOK := Lib.hid (mSg_ok hr.ok)
  have HT := Lib.hid hT
  have HMR := Lib.hid hm
  clear hr hT hm
  obtain ⟨w0, hw⟩ : ∃ W : World, W = ((w.alloc (.cells #[.slice A m c, .int .i64 b] 32)).alloc (.cells #[.int .i64 0, .int .i64 0] 27)) := ⟨_, rfl⟩
  have f0 : ((w.alloc (.cells #[.slice A m c, .int .i64 b] 32)).alloc (.cells #[.int .i64 0, .int .i64 0] 27)).cell? ⟨w.heap.size, 0, none⟩ = some (.slice A m c) := HF.out.c0
  have f1 : ((w.alloc (.cells #[.slice A m c, .int .i64 b] 32)).alloc (.cells #[.int .i64 0, .int .i64 0] 27)).cell? ⟨w.heap.size, 1, none⟩ = some (.int .i64 b) := HF.out.c1
  rw [← hw] at HF HC
  have HW := Lib.hid hw.symm
  clear hw
  cases hv : vFlag ds b
  · have HV := Lib.hid hv
    obtain ⟨rfl, rfl, rfl⟩ := HMR.out.no (by unfold mPar; rw [hv]; rfl)
    clear hv HMR
    go_enter Tryd.func15, Tryd.ntmps15
    go_wp2_with fail
    rw [HW.out]
    clear HW f0 f1
    refine (classOf_no ds b _ _ _ _ HF.out.sd hn HV.out).mono ?_
    rintro e w1 ⟨rfl, hb⟩
    have HB1 := Lib.hid (HF.out.after hb)
    have hst := st_nilFunc
    obtain ⟨r0, r1, rf0, rf1⟩ := (HC.out.below hb).below ((Below.refl _ _).alloc (Nat.le_refl _) (.cells #[.slice none 0 0, .nilFunc, .int .i64 0] 68))
    clear hb
    go_wp2
    exact bodyPost_ret (v := .tuple #[.agg #[.int .i64 0, .int .i64 0], .bool false]) (by simp [results, Tryd.results15, go_sem, r0, r1]) rfl ⟨rfl, ((HB1.out.alloc HB1.out.size _).setCell (by show w.heap.size ≤ w.heap.size + 1; omega) _).setCell (by show w.heap.size ≤ w.heap.size + 1; omega) _⟩
  have HV := Lib.hid hv
  have HIN := Lib.hid (mSg_in (vFlag_in hv))
  have HSG := Lib.hid (fun (A : Option Addr) (n c : Nat) (w : World) (hr : SD w w.heap.size A n c ds) => implSg_any ds A n c w hr)
  unfold DefsP at HSG
  obtain ⟨x1, hx1⟩ : ∃ t, ((arV (mSg ds) s).getD (0, 0)).1 = t := ⟨_, rfl⟩
  obtain ⟨y1, hy1⟩ : ∃ t, ((arV (mSg ds) s).getD (0, 0)).2 = t := ⟨_, rfl⟩
  obtain ⟨v1, hv1⟩ : ∃ t, (arV (mSg ds) s).isSome = t := ⟨_, rfl⟩
  have HAR := Lib.hid (arR_of (arV (mSg ds) s))
  rw [hx1, hy1, hv1] at HAR
  obtain ⟨hxl, hyl⟩ := arR_lt HIN.out HAR.out
  have HNO : Hid (v1 = false → x = 0 ∧ y = 0 ∧ v = false) := Lib.hid fun e => HMR.out.no (par_no hv (by rw [← e]; exact HAR.out))
  have HYES : Hid (v1 = true → mPar ds b s = if mArmT ds b ⟨x1, y1⟩ = s then some (x1, y1) else none) := Lib.hid fun e => par_yes hv (by rw [← e]; exact HAR.out)
  have HATX := Lib.hid (fun (A : Option Addr) (m c : Nat) (w : World) (hr : SD w w.heap.size A m c ds) (hn : m ≤ 1048576) => implArmT_v ds b (x1 : Int) (y1 : Int) A m c w hr hn (by unfold I64; omega) (by unfold I64; omega))
  obtain ⟨tx, htx⟩ : ∃ tx, mArmT ds b ⟨(x1 : Int), (y1 : Int)⟩ = tx := ⟨_, rfl⟩
  rw [htx] at HATX HYES
  clear hv hx1 hy1 hv1 htx
  obtain ⟨fid, hfid⟩ := bdF_form b
  obtain ⟨wh, hwh⟩ : ∃ wh, mWhole ds b = wh := ⟨_, rfl⟩
  have HFID := Lib.hid hfid
  have HWH := Lib.hid hwh
  clear hfid hwh
  generalize mSg ds = ms at *
  go_enter Tryd.func15, Tryd.ntmps15
  go_wp2_with fail
  rw [HW.out]
  clear HW f0 f1
  refine (classOf_x ds b _ _ _ _ HF.out.sd HV.out HFID.out HWH.out).mono ?_
  rintro e w1 ⟨rfl, hb⟩
  have HF1 := Lib.hid (HF.out.call hb)
  have HK := Lib.hid (FC.start HF1.out fid wh)
  have HFK := Lib.hid (HF1.out.alloc (.cells #[.slice A m c, .func (.func fid) #[] #[], .int .i64 wh] 68))
  have HCK : Hid (C2 (w1.alloc (.cells #[.slice A m c, .func (.func fid) #[] #[], .int .i64 wh] 68)) (w.heap.size + 1) (.int .i64 0) (.int .i64 0)) := Lib.hid ((HC.out.below hb).below ((Below.refl _ _).alloc (Nat.le_refl _) _))
  have hst := st_func
  have g0 := HK.out.c0
  clear hb HF HC HF1
  go_wp2_with fail
  generalize (w1.alloc (.cells #[.slice A m c, .func (.func fid) #[] #[], .int .i64 wh] 68)) = wk at *
  refine (HSG.out _ _ _ _ HK.out.sd).mono ?_
  rintro e w2 ⟨As, cs, rfl, ho, hb⟩
  have HS2 := Lib.hid (sd_of_own ho HOK.out)
  have HC2 := Lib.hid (HCK.out.below hb)
  have HF2 := Lib.hid (HFK.out.call hb)
  clear hb ho HSG HK HCK HFK g0
  go_wp2_with fail
  refine (implReadArm_v ms s _ _ _ _ HS2.out HIN.out hs (HT.out.call HF2.out.bel) HAR.out).mono ?_
  rintro e w3 ⟨rfl, hb⟩
  have HC3 := Lib.hid ((HC2.out.below hb).below ((Below.refl _ _).alloc (Nat.le_refl _) (.cells #[.int .i64 (x1 : Int), .int .i64 (y1 : Int)] 27)))
  have HF3 := Lib.hid ((HF2.out.call hb).alloc (.cells #[.int .i64 (x1 : Int), .int .i64 (y1 : Int)] 27))
  have HA3 : Hid (C2 (w3.alloc (.cells #[.int .i64 (x1 : Int), .int .i64 (y1 : Int)] 27)) w3.heap.size (.int .i64 (x1 : Int)) (.int .i64 (y1 : Int))) := Lib.hid (c2New _ _ _ _)
  clear hb HS2 HC2 HF2
  cases v1
  · obtain ⟨rfl, rfl, rfl⟩ := HNO.out (by first | rfl | trivial)
    obtain ⟨r0, r1, rf0, rf1⟩ := HC3.out
    have HB3 := Lib.hid HF3.out.bel
    go_wp2
    exact bodyPost_ret (v := .tuple #[.agg #[.int .i64 0, .int .i64 0], .bool false]) (by simp [results, Tryd.results15, go_sem, r0, r1]) rfl ⟨rfl, (HB3.out.setCell (by show w.heap.size ≤ w.heap.size + 1; omega) _).setCell (by show w.heap.size ≤ w.heap.size + 1; omega) _⟩
  have c0 := HF3.out.c0
  have c1 := HF3.out.c1
  have a0 := HA3.out.c0
  have a1 := HA3.out.c1
  go_wp2_with fail
  generalize (w3.alloc (.cells #[.int .i64 (x1 : Int), .int .i64 (y1 : Int)] 27)) = w4 at *
  refine (HATX.out _ _ _ _ HF3.out.sd hn).mono ?_
  rintro e w5 ⟨rfl, hb⟩
  have k0 := keep1 hb a0
  have k1 := keep1 hb a1
  obtain ⟨r0, r1, rf0, rf1⟩ := HC3.out.below hb
  have HB5 := Lib.hid (HF3.out.after hb)
  clear hb c0 c1 a0 a1 HC3 HF3 HA3
  by_cases htx : tx = s
  · obtain ⟨rfl, rfl, rfl⟩ := HMR.out.yes x1 y1 (by rw [HYES.out (by first | rfl | trivial), if_pos htx])
    subst htx
    go_wp2
    exact bodyPost_ret (v := .tuple #[.agg #[.int .i64 x, .int .i64 y], .bool true]) (by simp [results, Tryd.results15, go_sem, r0, r1, k0, k1]) rfl ⟨rfl, (HB5.out.setCell (by show w.heap.size ≤ w.heap.size + 1; omega) _).setCell (by show w.heap.size ≤ w.heap.size + 1; omega) _⟩
  · obtain ⟨rfl, rfl, rfl⟩ := HMR.out.no (by rw [HYES.out (by first | rfl | trivial), if_neg htx])
    have hne := text_no htx
    clear HYES HMR HNO
    go_wp2
    exact bodyPost_ret (v := .tuple #[.agg #[.int .i64 0, .int .i64 0], .bool false]) (by simp [results, Tryd.results15, go_sem, r0, r1]) rfl ⟨rfl, (HB5.out.setCell (by show w.heap.size ≤ w.heap.size + 1; omega) _).setCell (by show w.heap.size ≤ w.heap.size + 1; omega) _⟩
end Go.Proofs.YtpfdghbjagdhfaaDoor

namespace Go.Proofs.YtpfdghbjagdhfaaDoor
open Go.RowKit Go.Maps
set_option linter.unusedVariables false
set_option maxRecDepth 100000

theorem mArms_one (ds : List D) (b x y : Int) : mArms ds b [⟨x, y⟩] = mArm ds b ⟨x, y⟩ := by unfold mArms mArm; simp

set_option maxHeartbeats 2000000 in
theorem implValidArm_v (ds : List D) (b : Int) (x y : Int) (A : Option Addr) (m c : Nat) (w : World) (hr : SD w w.heap.size A m c ds) (hn : m ≤ 1048576) (hx : I64 x) (hy : I64 y) {v : Bool} (hm : mArm ds b ⟨x, y⟩ = v) :
    Calls Tryd.prog 41 #[.agg #[.slice A m c, .int .i64 b], .agg #[.int .i64 x, .int .i64 y]] w (fun e w' => e = .returned (.bool v) ∧ Below w.heap.size w w') := by
  have HM : Hid (mArms ds b [⟨x, y⟩] = v) := Lib.hid (by rw [mArms_one]; exact hm)
  obtain ⟨r, hr2⟩ : ∃ r : Int, (if mArms ds b [⟨x, y⟩] then ((mMask ds : Nat) : Int) else 0) = r := ⟨_, rfl⟩
  have HR2 := Lib.hid hr2
  clear hm hr2
  have HF := Lib.hid ((FB.start hr b).alloc (.cells #[.int .i64 x, .int .i64 y] 27))
  have HC : Hid (C2 ((w.alloc (.cells #[.slice A m c, .int .i64 b] 32)).alloc (.cells #[.int .i64 x, .int .i64 y] 27)) (w.heap.size + 1) (.int .i64 x) (.int .i64 y)) := Lib.hid (c2New' _ _ _ _ _)
  have hz0 : ((w.alloc (.cells #[.slice A m c, .int .i64 b] 32)).alloc (.cells #[.int .i64 x, .int .i64 y] 27)).heap.size = w.heap.size + 1 + 1 := by simp
  clear hr
  go_enter Tryd.func41, Tryd.ntmps41
  go_wp2_with fail
  generalize ((w.alloc (.cells #[.slice A m c, .int .i64 b] 32)).alloc (.cells #[.int .i64 x, .int .i64 y] 27)) = w0 at *
  have hb0 : Below w0.heap.size w0 (w0.alloc (.cells #[.int .i64 x, .int .i64 y] 27)) := (Below.refl _ _).alloc (Nat.le_refl _) _
  have HF1 := Lib.hid (HF.out.call hb0)
  have HC1 := Lib.hid (HC.out.below hb0)
  have HS1 : Hid (SA (w0.alloc (.cells #[.int .i64 x, .int .i64 y] 27)) (w0.alloc (.cells #[.int .i64 x, .int .i64 y] 27)).heap.size (some ⟨w.heap.size + 1 + 1, 0, none⟩) 1 1 [⟨x, y⟩]) := Lib.hid (by rw [← hz0]; exact (sa_one w0 x y _ hx hy).more (by simp))
  clear hb0 HF HC
  generalize hW : (w0.alloc (.cells #[.int .i64 x, .int .i64 y] 27)) = w1 at *
  clear hW
  refine (armsMask_v ds b [⟨x, y⟩] _ _ _ _ HF1.out.sd _ _ _ HS1.out hn HM.out HR2.out).mono ?_
  rintro e w2 ⟨rfl, hb⟩
  have HB2 := Lib.hid (HF1.out.after hb)
  clear hb
  go_wp2
  go_ret
  exact ⟨rfl, HB2.out⟩

end Go.Proofs.YtpfdghbjagdhfaaDoor

