import Derived.Test.YtkholjcmaebaaaaArmX
namespace Go.Proofs.Ytkholjcmaebaaaa
open Go.RowKit Go.Maps
set_option linter.unusedVariables false
set_option maxRecDepth 100000

set_option maxHeartbeats 4000000 in
theorem implMissed_v (ds : List D) (b : Int) (rs : List Ar) (A : Option Addr) (m c : Nat) (w : World) (hr : SD w w.heap.size A m c ds) (As : Option Addr) (q cs : Nat) (hs : SA w w.heap.size As q cs rs) (hn : m ≤ 1048576) {r : Int} (hm : mMissed ds b rs = r) :
    Calls Try.prog 26 #[.agg #[.slice A m c, .int .i64 b], .slice As q cs] w (fun e w' => e = .returned (.int .i64 r) ∧ Below w.heap.size w w') := by
  subst hm
  have hl := hs.max
  have hl2 := hs.cap
  unfold maxLen at hl
  obtain rfl := hs.len
  have HF := Lib.hid (FB.start hr b)
  have HSA : Hid (SA (w.alloc (.cells #[.slice A m c, .int .i64 b] 25)) w.heap.size As rs.length cs rs) := Lib.hid (hs.below HF.out.bel)
  clear hr hs
  cases hv : mArms ds b rs
  · have HV := Lib.hid hv
    have HM : Hid (mMissed ds b rs = -2) := Lib.hid (if_no hv)
    clear hv
    go_enter Try.func26, Try.ntmps26
    go_wp2_with fail
    generalize (w.alloc (.cells #[.slice A m c, .int .i64 b] 25)) = w0 at *
    refine (outcome_no ds b rs _ _ _ _ HF.out.sd _ _ _ (HSA.out.call HF.out.bel.size) hn HV.out).mono ?_
    rintro e w1 ⟨rfl, hb⟩
    have HB1 := Lib.hid (HF.out.after hb)
    clear hb
    go_wp2
    go_ret
    exact ⟨by rw [HM.out]; first | done | rfl, HB1.out.alloc HB1.out.size _⟩
  have HV := Lib.hid hv
  obtain ⟨k, hk⟩ : ∃ k, mMask ds = k := ⟨_, rfl⟩
  have HK := Lib.hid hk
  have HM : Hid (mMissed ds b rs = missTo rs k (k + 1)) := Lib.hid (by unfold mMissed; rw [hv, if_pos rfl, hk])
  clear hv hk
  go_enter Try.func26, Try.ntmps26
  go_wp2_with fail
  generalize (w.alloc (.cells #[.slice A m c, .int .i64 b] 25)) = w0 at *
  refine (outcome_yes ds b rs _ _ _ _ HF.out.sd _ _ _ (HSA.out.call HF.out.bel.size) hn HV.out HK.out).mono ?_
  rintro e w1 ⟨rfl, hb⟩
  have HB1 := Lib.hid (HF.out.after hb)
  clear hb
  unfold outV
  go_wp2
  go_ret
  exact ⟨by rw [HM.out]; first | done | rfl, HB1.out.alloc HB1.out.size _⟩

set_option maxHeartbeats 8000000 in
theorem implDead_any (ds : List D) (b : Int) (rs : List Ar) (A : Option Addr) (m c : Nat) (w : World) (hr : SD w w.heap.size A m c ds) (As : Option Addr) (q cs : Nat) (hs : SA w w.heap.size As q cs rs) (hn : m ≤ 1048576) :
    Calls Try.prog 32 #[.agg #[.slice A m c, .int .i64 b], .slice As q cs] w (IntsP (mDead ds b rs) w) := by
  have hl := hs.max
  have hl2 := hs.cap
  unfold maxLen at hl
  obtain rfl := hs.len
  have HF := Lib.hid (FB.start hr b)
  have HSA : Hid (SA (w.alloc (.cells #[.slice A m c, .int .i64 b] 25)) w.heap.size As rs.length cs rs) := Lib.hid (hs.below HF.out.bel)
  clear hr hs
  cases hv : mArms ds b rs
  · have HV := Lib.hid hv
    have HM : Hid (mDead ds b rs = []) := Lib.hid (if_no hv)
    clear hv
    go_enter Try.func32, Try.ntmps32
    go_wp2_with fail
    generalize (w.alloc (.cells #[.slice A m c, .int .i64 b] 25)) = w0 at *
    refine (outcome_no ds b rs _ _ _ _ HF.out.sd _ _ _ (HSA.out.call HF.out.bel.size) hn HV.out).mono ?_
    rintro e w1 ⟨rfl, hb⟩
    have HB1 := Lib.hid (HF.out.after hb)
    clear hb
    go_wp2
    go_ret
    exact ⟨none, 0, by rw [HM.out]; rfl, by rw [HM.out]; exact World.ownsRow_nil _ _ _ _, HB1.out.alloc HB1.out.size _⟩
  have HV := Lib.hid hv
  have h10 := mArms_len hv
  obtain ⟨k, hk⟩ : ∃ k, mMask ds = k := ⟨_, rfl⟩
  have HK := Lib.hid hk
  have HM : Hid (mDead ds b rs = deadTo rs k rs.length) := Lib.hid (by unfold mDead; rw [hv, if_pos rfl, hk])
  clear hv hk
  go_enter Try.func32, Try.ntmps32
  go_wp2_with fail
  generalize (w.alloc (.cells #[.slice A m c, .int .i64 b] 25)) = w0 at *
  refine (outcome_yes ds b rs _ _ _ _ HF.out.sd _ _ _ (HSA.out.call HF.out.bel.size) hn HV.out HK.out).mono ?_
  rintro e w1 ⟨rfl, hb⟩
  have HB1 := Lib.hid (HF.out.after hb)
  clear hb
  unfold outV
  obtain ⟨G, hG⟩ : ∃ G, w1.heap.size = G := ⟨_, rfl⟩
  have HO2 : Hid (OC (w1.alloc (.cells #[.bool (metBy rs k (k + 1) 0), .bool (metBy rs k (k + 1) 1), .bool (metBy rs k (k + 1) 2), .bool (metBy rs k (k + 1) 3), .bool (metBy rs k (k + 1) 4), .bool (metBy rs k (k + 1) 5), .bool (metBy rs k (k + 1) 6), .bool (metBy rs k (k + 1) 7), .bool (metBy rs k (k + 1) 8), .bool (metBy rs k (k + 1) 9), .int .i64 (missTo rs k (k + 1))] 119)) G (metBy rs k (k + 1)) (missTo rs k (k + 1))) := Lib.hid (by rw [← hG]; exact oc_at w1 _ _)
  have HB2 : Hid (Below w.heap.size w (w1.alloc (.cells #[.bool (metBy rs k (k + 1) 0), .bool (metBy rs k (k + 1) 1), .bool (metBy rs k (k + 1) 2), .bool (metBy rs k (k + 1) 3), .bool (metBy rs k (k + 1) 4), .bool (metBy rs k (k + 1) 5), .bool (metBy rs k (k + 1) 6), .bool (metBy rs k (k + 1) 7), .bool (metBy rs k (k + 1) 8), .bool (metBy rs k (k + 1) 9), .int .i64 (missTo rs k (k + 1))] 119))) := Lib.hid (HB1.out.alloc HB1.out.size _)
  have hwG : w.heap.size ≤ G := by rw [← hG]; exact HB1.out.size
  have hG2 : (w1.alloc (.cells #[.bool (metBy rs k (k + 1) 0), .bool (metBy rs k (k + 1) 1), .bool (metBy rs k (k + 1) 2), .bool (metBy rs k (k + 1) 3), .bool (metBy rs k (k + 1) 4), .bool (metBy rs k (k + 1) 5), .bool (metBy rs k (k + 1) 6), .bool (metBy rs k (k + 1) 7), .bool (metBy rs k (k + 1) 8), .bool (metBy rs k (k + 1) 9), .int .i64 (missTo rs k (k + 1))] 119)).heap.size = G + 1 := by rw [← hG]; simp
  go_wp2
  generalize (w1.alloc (.cells #[.bool (metBy rs k (k + 1) 0), .bool (metBy rs k (k + 1) 1), .bool (metBy rs k (k + 1) 2), .bool (metBy rs k (k + 1) 3), .bool (metBy rs k (k + 1) 4), .bool (metBy rs k (k + 1) 5), .bool (metBy rs k (k + 1) 6), .bool (metBy rs k (k + 1) 7), .bool (metBy rs k (k + 1) 8), .bool (metBy rs k (k + 1) 9), .int .i64 (missTo rs k (k + 1))] 119)) = w2 at *
  clear HB1 hG
  have HOW : Hid (w2.ownsRow (G + 1) 3 1 (.slice none 0 0) (deadTo rs k 0).length (flatI (deadTo rs k 0))) := Lib.hid (World.ownsRow_nil _ _ _ _)
  go_loopw [7, 19] (fun v i wr => ∃ j : Nat, j ≤ rs.length ∧ i = .int .i64 j ∧ Hid (wr.ownsRow (G + 1) 3 1 v (deadTo rs k j).length (flatI (deadTo rs k j))) ∧ Hid (OC wr G (metBy rs k (k + 1)) (missTo rs k (k + 1))) ∧ Hid (Below w.heap.size w wr)) (fun _ i _ => rs.length - (intOf i).toNat)
  case atStart => exact ⟨0, Nat.zero_le _, rfl, HOW, HO2, HB2⟩
  case round =>
    clear HOW HO2 HB2
    obtain ⟨j, hj, rfl, hown, ho, hbel⟩ := hrel
    have hGl := ho.out.lt
    by_cases hlt : j < rs.length
    · have hj10 : j < 10 := by omega
      have hi1 : (j : Int) < (rs.length : Int) := by omega
      have hi10 : (j : Int) < 10 := by omega
      have bj := ho.out.c j hj10
      have HT := Lib.hid (deadTo_succ rs k j)
      have HL := Lib.hid (deadTo_len rs k j)
      obtain ⟨v, hv⟩ : ∃ v, metBy rs k (k + 1) j = v := ⟨_, rfl⟩
      rw [hv] at bj
      have HV2 := Lib.hid hv
      clear hv
      cases v
      · have HTT : Hid (deadTo rs k (j + 1) = deadTo rs k j ++ [(j : Int)]) := Lib.hid (by rw [HT.out, HV2.out]; simp)
        go_wp2_with (at_builtin; refine wpList_app_I rfl _ _ rfl _ _ _ _ rfl hown.out _ _ _ rfl (by first | rfl | simp) (by have := HL.out; omega) (by omega) ?_; intro v' w4 ho1 hb1; have HO1 := Lib.hid ho1; have HB4 := Lib.hid hb1; clear ho1 hb1)
        go_roundw
        case rel => exact ⟨j + 1, by omega, by go_num, Lib.hid (by rw [HTT.out, List.length_append]; simpa [flatI] using HO1.out), Lib.hid (ho.out.low HB4.out (by omega)), Lib.hid (hbel.out.trans (HB4.out.mono (by omega)))⟩
        case measure => simp [intOf]; omega
      · have HTT : Hid (deadTo rs k (j + 1) = deadTo rs k j) := Lib.hid (by rw [HT.out, HV2.out]; simp)
        go_wp2
        go_roundw
        case rel => exact ⟨j + 1, by omega, by go_num, Lib.hid (by rw [HTT.out]; exact hown.out), ho, hbel⟩
        case measure => simp [intOf]; omega
    · obtain rfl : j = rs.length := by omega
      go_wp2
      go_ret
      obtain ⟨A', c', hv⟩ := own_form hown.out
      subst hv
      exact ⟨A', c', by rw [HM.out]; first | done | rfl, by rw [HM.out]; exact own_base hown.out (by omega), hbel.out⟩

end Go.Proofs.Ytkholjcmaebaaaa
