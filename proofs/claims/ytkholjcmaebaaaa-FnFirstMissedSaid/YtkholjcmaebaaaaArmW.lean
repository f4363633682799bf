import Derived.Test.YtkholjcmaebaaaaArmV
import Derived.Test.YtkholjcmaebaaaaArmJ
namespace Go.Proofs.Ytkholjcmaebaaaa
open Go.RowKit Go.Maps
set_option linter.unusedVariables false
set_option maxRecDepth 100000

set_option maxHeartbeats 1000000 in
theorem isMatch_any (p q n B : Nat) (w : World) (hp : p < 4096) (hq : q < 4096) (hn : n < 4096) (hc : w.cell? ⟨B, 0, none⟩ = some (.int .i64 n)) {v : Bool} (hv : matchN p q n = v) :
    Calls Try.prog 91 #[.agg #[.int .i64 p, .int .i64 q], .pointer (some ⟨B, 0, none⟩)] w fun e w' => e = .returned (.bool v) ∧ Below w.heap.size w w' := by
  have hb : Below w.heap.size w (w.alloc (.cells #[.int .i64 p, .int .i64 q] 40)) := (Below.refl _ _).alloc (Nat.le_refl _) _
  have hc1 := keep1 hb hc
  have HB := Lib.hid hb
  have HV := Lib.hid hv
  clear hb hv
  go_enter Try.func91, Try.ntmps91
  go_wp2_with fail
  generalize (w.alloc (.cells #[.int .i64 p, .int .i64 q] 40)) = w0 at *
  refine (armMatch_v p q n _ hp hq hn HV.out).mono ?_
  rintro e w1 ⟨rfl, hb⟩
  have HB1 := Lib.hid (HB.out.trans (hb.mono HB.out.size))
  clear hb
  go_wp2
  go_ret
  exact ⟨rfl, HB1.out⟩

set_option maxHeartbeats 2000000 in
theorem indexFuncA_v (rs : List Ar) (n : Nat) (A : Option Addr) (q c : Nat) (w : World) (hr : SA w w.heap.size A q c rs) (hin : ∀ a ∈ rs, ArN a) (hn : n < 4096) (B : Nat) (hc : w.cell? ⟨B, 0, none⟩ = some (.int .i64 n)) {v : Int} (hv : firstA rs n = v) :
    Calls Try.prog 90 #[.slice A q c, .func (.func 91) #[] #[.pointer (some ⟨B, 0, none⟩)]] w fun e w' => e = .returned (.int .i64 v) ∧ Below w.heap.size w w' := by
  subst hv
  obtain rfl := hr.len
  have hl := hr.max
  have hl2 := hr.cap
  unfold maxLen at hl
  have HR := Lib.hid hr
  have HIN := Lib.hid hin
  clear hr hin
  unfold firstA
  have HC := Lib.hid hc
  clear hc
  go_enter Try.func90, Try.ntmps90
  go_wp2
  go_loopw [8] (fun i wr => ∃ k : Nat, k ≤ rs.length ∧ i = .int .i64 k ∧ Hid (noTo (matchA n) rs k) ∧ Hid (Below w.heap.size w wr)) (fun i _ => rs.length - (intOf i).toNat)
  case atStart => exact ⟨0, Nat.zero_le _, rfl, Lib.hid (noTo_zero _ _), Lib.hid (Below.refl _ _)⟩
  case round =>
    obtain ⟨k, hk, rfl, hok, hbel⟩ := hrel
    by_cases hlt : k < rs.length
    · obtain ⟨b, o, rfl, hb, c1, c2⟩ := (HR.out.below hbel.out).at_ hlt
      obtain ⟨x, y, h1, h2, hx4, hy4⟩ := HIN.out _ (List.getElem_mem hlt)
      have hi1 : (k : Int) < (rs.length : Int) := by omega
      have HP0 := Lib.hid (matchA_is h1 h2 n)
      rw [h1] at c1
      rw [h2] at c2
      clear h1 h2
      have HC1 := Lib.hid (keep1 hbel.out HC.out)
      cases hp : matchN x y n
      all_goals
        have HP := Lib.hid hp
        clear hp
        go_wp2_with (go_at_call 91; refine (isMatch_any x y n B _ hx4 hy4 hn HC1.out HP.out).mono ?_; rintro e w1 ⟨rfl, hb1⟩; have HB1 := Lib.hid hb1; clear hb1)
      · go_roundw
        case rel => exact ⟨k + 1, by omega, by go_num, Lib.hid (noTo_succ hok.out hlt (by rw [HP0.out]; exact HP.out)), Lib.hid (hbel.out.trans (HB1.out.mono hbel.out.size))⟩
        case measure => simp [intOf]; omega
      · go_ret
        exact ⟨ret_int (fidx_some hok.out hlt (by rw [HP0.out]; exact HP.out)).symm, hbel.out.trans (HB1.out.mono hbel.out.size)⟩
    · obtain rfl : k = rs.length := by omega
      go_wp2
      go_ret
      exact ⟨ret_int (fidx_none hok.out).symm, hbel.out⟩

set_option maxHeartbeats 4000000 in
theorem implFirst_v (ds : List D) (b : Int) (rs : List Ar) (z : Int) (A : Option Addr) (m c : Nat) (w : World) (hr : SD w w.heap.size A m c ds) (As : Option Addr) (q cs : Nat) (hs : SA w w.heap.size As q cs rs) (hn : m ≤ 1048576) {r : Int} (hm : mFirst ds b rs z = r) :
    Calls Try.prog 22 #[.agg #[.slice A m c, .int .i64 b], .slice As q cs, .int .i64 z] w (fun e w' => e = .returned (.int .i64 r) ∧ Below w.heap.size w w') := by
  subst hm
  have hl := hs.max
  have hl2 := hs.cap
  unfold maxLen at hl
  obtain rfl := hs.len
  have HF := Lib.hid ((FB.start hr b).alloc (.cells #[.int .i64 z] 3))
  have HSA : Hid (SA ((w.alloc (.cells #[.slice A m c, .int .i64 b] 25)).alloc (.cells #[.int .i64 z] 3)) w.heap.size As rs.length cs rs) := Lib.hid (hs.below HF.out.bel)
  have HZ : Hid (((w.alloc (.cells #[.slice A m c, .int .i64 b] 25)).alloc (.cells #[.int .i64 z] 3)).cell? ⟨w.heap.size + 1, 0, none⟩ = some (.int .i64 z)) := Lib.hid (by simp [go_sem])
  clear hr hs
  cases hv : mArms ds b rs
  · have HV := Lib.hid hv
    have HM : Hid (mFirst ds b rs z = -2) := Lib.hid (if_no (by rw [hv]; rfl))
    have HR2 : Hid ((if mArms ds b rs then ((mMask ds : Nat) : Int) else 0) = 0) := Lib.hid (if_no hv)
    clear hv
    go_enter Try.func22, Try.ntmps22
    go_wp2_with fail
    generalize ((w.alloc (.cells #[.slice A m c, .int .i64 b] 25)).alloc (.cells #[.int .i64 z] 3)) = w0 at *
    have z0 := HZ.out
    refine (armsMask_v ds b rs _ _ _ _ HF.out.sd _ _ _ (HSA.out.call HF.out.bel.size) hn HV.out HR2.out).mono ?_
    rintro e w1 ⟨rfl, hb⟩
    have HF1 := Lib.hid (HF.out.call hb)
    have HS1 := Lib.hid (HSA.out.below' hb HF.out.bel.size)
    have z1 := keep1 hb z0
    clear hb HF HSA z0 HZ
    have c0 := HF1.out.c0
    have c1 := HF1.out.c1
    go_wp2
    go_ret
    exact ⟨by rw [HM.out]; first | done | rfl, HF1.out.bel⟩
  have HV := Lib.hid hv
  have HNAT := Lib.hid (arms_nat hv)
  obtain ⟨k, hk⟩ : ∃ k, mMask ds = k := ⟨_, rfl⟩
  have HR2 : Hid ((if mArms ds b rs then ((mMask ds : Nat) : Int) else 0) = (k : Int)) := Lib.hid (by rw [hv, if_pos rfl, hk])
  clear hk
  obtain ⟨u, hu⟩ : ∃ u, mIsV ds b z = u := ⟨_, rfl⟩
  have HU := Lib.hid hu
  cases u
  · have HM : Hid (mFirst ds b rs z = -2) := Lib.hid (if_no (by rw [hu, Bool.and_false]))
    clear hu hv
    go_enter Try.func22, Try.ntmps22
    go_wp2_with fail
    generalize ((w.alloc (.cells #[.slice A m c, .int .i64 b] 25)).alloc (.cells #[.int .i64 z] 3)) = w0 at *
    have z0 := HZ.out
    refine (armsMask_v ds b rs _ _ _ _ HF.out.sd _ _ _ (HSA.out.call HF.out.bel.size) hn HV.out HR2.out).mono ?_
    rintro e w1 ⟨rfl, hb⟩
    have HF1 := Lib.hid (HF.out.call hb)
    have HS1 := Lib.hid (HSA.out.below' hb HF.out.bel.size)
    have z1 := keep1 hb z0
    clear hb HF HSA z0 HZ
    have c0 := HF1.out.c0
    have c1 := HF1.out.c1
    go_wp2_with fail
    refine (implIsV_v ds b _ _ _ _ _ HF1.out.sd hn HU.out).mono ?_
    rintro e w2 ⟨rfl, hb⟩
    have HF2 := Lib.hid (HF1.out.call hb)
    clear hb HF1 HS1 c0 c1
    go_wp2
    go_ret
    exact ⟨by rw [HM.out]; first | done | rfl, HF2.out.bel⟩
  · obtain ⟨n, rfl, hn4⟩ := mIsV_nat hu
    obtain ⟨r, hr⟩ : ∃ r, firstA rs n = r := ⟨_, rfl⟩
    have HR := Lib.hid hr
    have HM : Hid (mFirst ds b rs n = r) := Lib.hid (by unfold mFirst; rw [hu, hv, ← hr]; rfl)
    clear hu hv hr
    go_enter Try.func22, Try.ntmps22
    go_wp2_with fail
    generalize ((w.alloc (.cells #[.slice A m c, .int .i64 b] 25)).alloc (.cells #[.int .i64 (n : Int)] 3)) = w0 at *
    have z0 := HZ.out
    refine (armsMask_v ds b rs _ _ _ _ HF.out.sd _ _ _ (HSA.out.call HF.out.bel.size) hn HV.out HR2.out).mono ?_
    rintro e w1 ⟨rfl, hb⟩
    have HF1 := Lib.hid (HF.out.call hb)
    have HS1 := Lib.hid (HSA.out.below' hb HF.out.bel.size)
    have z1 := keep1 hb z0
    clear hb HF HSA z0 HZ
    have c0 := HF1.out.c0
    have c1 := HF1.out.c1
    go_wp2_with fail
    refine (implIsV_v ds b _ _ _ _ _ HF1.out.sd hn HU.out).mono ?_
    rintro e w2 ⟨rfl, hb⟩
    have HF2 := Lib.hid (HF1.out.call hb)
    have HS2 := Lib.hid (HS1.out.below' hb HF1.out.bel.size)
    have HZ2 := Lib.hid (keep1 hb z1)
    clear hb HF1 HS1 c0 c1 z1
    go_wp2_with (go_at_call 90; refine (indexFuncA_v rs n _ _ _ _ (HS2.out.call HF2.out.bel.size) HNAT.out hn4 _ HZ2.out HR.out).mono ?_; rintro e w3 ⟨rfl, hb⟩; have HB3 := Lib.hid (HF2.out.after hb); clear hb)
    go_ret
    exact ⟨by rw [HM.out]; first | done | rfl, HB3.out⟩

end Go.Proofs.Ytkholjcmaebaaaa
