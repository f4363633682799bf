import Derived.Test.YtpfdghbjagdhfaaDoorAtP
import Derived.Test.YtpfdghbjagdhfaaDoorArmI
import Derived.Test.YtpfdghbjagdhfaaDoorBaseY
namespace Go.Proofs.YtpfdghbjagdhfaaDoor
open Go.RowKit Go.Maps
set_option linter.unusedVariables false
set_option linter.unusedSimpArgs false
set_option maxRecDepth 100000

theorem joinSp_v (ss : List ByteArray) (A : Option Addr) (n c : Nat) (w : World) (hr : SS w w.heap.size A n c ss) (hne : ss ≠ []) (hl : ss.length ≤ 200) (hS : ∀ s ∈ ss, s.size ≤ 8) :
    Calls Tryd.prog 75 #[.slice A n c, .string spB] w fun e w' => e = .returned (.string (joinW ss spB)) ∧ Below w.heap.size w w' := by
  obtain rfl := hr.len
  have hcp := hr.cap
  have hpos : 0 < ss.length := by
    rcases Nat.eq_zero_or_pos ss.length with h | h
    · exact absurd (List.eq_nil_of_length_eq_zero h) hne
    · exact h
  obtain ⟨b, o, rfl, hb, _⟩ := hr.at_ hpos
  refine Tryd.strings_Join b o c ss spB w (fun j x hj => ?_) hb (by omega) hcp ?_
  · obtain ⟨hlt, rfl⟩ := List.getElem?_eq_some_iff.1 hj
    obtain ⟨b2, o2, e, _, h⟩ := hr.at_ hlt
    cases e
    exact h
  · have h1 := joinW_size (sep := spB) hS ss.length (Nat.le_refl _)
    rw [List.take_of_length_le (Nat.le_refl _)] at h1
    have h2 : spB.size = 1 := rfl
    rw [h2] at h1
    have h3 : (joinW ss spB).size = (Lib.join (ss.map (·.data.toList)) spB.data.toList).length := by
      show (joinW ss spB).data.size = _
      unfold joinW
      simp
    omega
theorem ms_two' {ds : List D} : ∀ d ∈ mSg ds, ∃ x : Nat, x < 4096 ∧ d.val = x := fun d hd => by
  obtain ⟨_, i, hi, e⟩ := mSg_sub hd
  exact ⟨2 ^ i, Nat.pow_lt_pow_right (by decide) hi, e⟩

set_option maxHeartbeats 16000000 in
theorem implArmT_v (ds : List D) (b x y : Int) (A : Option Addr) (m c : Nat) (w : World) (hr : SD w w.heap.size A m c ds) (hn : m ≤ 1048576) (hx : I64 x) (hy : I64 y) :
    Calls Tryd.prog 37 #[.agg #[.slice A m c, .int .i64 b], .agg #[.int .i64 x, .int .i64 y]] w (fun e w' => e = .returned (.string (mArmT ds b ⟨x, y⟩)) ∧ Below w.heap.size w w') := by
  obtain ⟨tx, htx⟩ : ∃ tx, mArmT ds b ⟨x, y⟩ = tx := ⟨_, rfl⟩
  rw [htx]
  have HTX := Lib.hid htx
  clear htx
  have HF := Lib.hid ((FB.start hr b).alloc (.cells #[.int .i64 x, .int .i64 y] 27))
  have HC : Hid (C2 ((w.alloc (.cells #[.slice A m c, .int .i64 b] 32)).alloc (.cells #[.int .i64 x, .int .i64 y] 27)) (w.heap.size + 1) (.int .i64 x) (.int .i64 y)) := Lib.hid (c2New' _ _ _ _ _)
  have hs0 : w.heap.size + 1 + 1 ≤ ((w.alloc (.cells #[.slice A m c, .int .i64 b] 32)).alloc (.cells #[.int .i64 x, .int .i64 y] 27)).heap.size := by simp
  have HOK := Lib.hid (mSg_ok hr.ok)
  clear hr
  obtain ⟨w0, hw⟩ : ∃ W : World, W = ((w.alloc (.cells #[.slice A m c, .int .i64 b] 32)).alloc (.cells #[.int .i64 x, .int .i64 y] 27)) := ⟨_, rfl⟩
  have f0 : ((w.alloc (.cells #[.slice A m c, .int .i64 b] 32)).alloc (.cells #[.int .i64 x, .int .i64 y] 27)).cell? ⟨w.heap.size, 0, none⟩ = some (.slice A m c) := HF.out.c0
  have f1 : ((w.alloc (.cells #[.slice A m c, .int .i64 b] 32)).alloc (.cells #[.int .i64 x, .int .i64 y] 27)).cell? ⟨w.heap.size, 1, none⟩ = some (.int .i64 b) := HF.out.c1
  rw [← hw] at HF HC hs0
  have HW := Lib.hid hw.symm
  clear hw
  cases hv : vFlag ds b
  · have HV := Lib.hid hv
    have HM : Hid (tx = ⟨#[]⟩) := Lib.hid (by rw [← HTX.out]; unfold mArmT mArmOk; rw [hv]; rfl)
    clear hv HTX
    go_enter Tryd.func37, Tryd.ntmps37
    go_wp2_with fail
    rw [HW.out]
    clear HW f0 f1
    refine (classOf_no ds b _ _ _ _ HF.out.sd hn HV.out).mono ?_
    rintro e w1 ⟨rfl, hb⟩
    have HB1 := Lib.hid (HF.out.after hb)
    have hst := st_nilFunc
    clear hb
    go_wp2
    go_ret
    exact ⟨by rw [HM.out]; first | done | rfl, HB1.out.alloc HB1.out.size _⟩
  have HV := Lib.hid hv
  have HIN := Lib.hid (small40 (mSg_in (vFlag_in hv)))
  obtain ⟨mk, hk⟩ : ∃ k, mMask (mSg ds) = k := ⟨_, rfl⟩
  have hk4 : mk < 4096 := by rw [← hk]; exact mMask_lt12 (mSg_in (vFlag_in hv))
  have HMM := Lib.hid hk
  obtain ⟨f, hf⟩ : ∃ f, fitsA (mMask (mSg ds)) ⟨x, y⟩ = f := ⟨_, rfl⟩
  have HFT : Hid (fitsA mk ⟨x, y⟩ = f) := Lib.hid (by rw [← hk]; exact hf)
  have HOKA : Hid (mArmOk ds b ⟨x, y⟩ = f) := Lib.hid (by unfold mArmOk; rw [hv, Bool.true_and]; exact hf)
  have HP : Hid (∀ d ∈ mSg ds, ∃ x : Nat, x < 4096 ∧ d.val = x) := Lib.hid ms_two'
  have HWS : Hid (∀ p q, ∀ s ∈ wordsA p q (mSg ds), s.size ≤ 8) := Lib.hid fun p q s hs => (textA_words hv p q s hs).1
  have HL : Hid ((mSg ds).length ≤ 12) := Lib.hid (by have := mSg_len ds; omega)
  have HN6 : Hid (∀ d ∈ mSg ds, d.name.size ≤ 6) := Lib.hid fun d hd => flag_name6 hv (mSg_sub hd).1
  have HSG := Lib.hid (fun (A : Option Addr) (n c : Nat) (w : World) (hr : SD w w.heap.size A n c ds) => implSg_any ds A n c w hr)
  unfold DefsP at HSG
  have HTA : Hid (∀ p q, textA ds p q = if wordsA p q (mSg ds) = [] then starB else joinW (wordsA p q (mSg ds)) spB) := Lib.hid fun p q => rfl
  clear hv hk hf
  obtain ⟨fid, hfid⟩ := bdF_form b
  obtain ⟨wh, hwh⟩ : ∃ wh, mWhole ds b = wh := ⟨_, rfl⟩
  have HFID := Lib.hid hfid
  have HWH := Lib.hid hwh
  clear hfid hwh
  obtain ⟨ms, hms⟩ : ∃ ms, mSg ds = ms := ⟨_, rfl⟩
  have HMS := Lib.hid hms
  rw [hms] at HOK HIN HMM HP HWS HL HN6 HSG HTA
  clear hms
  have hl12 : ms.length ≤ 12 := HL.out
  go_enter Tryd.func37, Tryd.ntmps37
  go_wp2_with fail
  rw [HW.out]
  clear HW f0 f1
  refine (classOf_x ds b _ _ _ _ HF.out.sd HV.out HFID.out HWH.out).mono ?_
  rintro e w1 ⟨rfl, hb⟩
  have HF1 := Lib.hid (HF.out.call hb)
  have HK := Lib.hid (FC.start HF1.out fid wh)
  have HCK : Hid (C2 (w1.alloc (.cells #[.slice A m c, .func (.func fid) #[] #[], .int .i64 wh] 68)) (w.heap.size + 1) (.int .i64 x) (.int .i64 y)) := Lib.hid ((HC.out.below hb).below ((Below.refl _ _).alloc (Nat.le_refl _) _))
  have hst := st_func
  have g0 := HK.out.c0
  have hsk : w.heap.size + 1 + 1 ≤ (w1.alloc (.cells #[.slice A m c, .func (.func fid) #[] #[], .int .i64 wh] 68)).heap.size := by have := hb.size; simp; omega
  clear hb HF HC
  go_wp2_with fail
  generalize (w1.alloc (.cells #[.slice A m c, .func (.func fid) #[] #[], .int .i64 wh] 68)) = wk at *
  refine (HSG.out _ _ _ _ HK.out.sd).mono ?_
  rintro e w2 ⟨As, cs, rfl, ho, hb⟩
  have HS2 := Lib.hid (sd_of_own ho HOK.out)
  have HC2 := Lib.hid (HCK.out.below hb)
  have hs2 : w.heap.size + 1 + 1 ≤ w2.heap.size := by have := hb.size; omega
  have HB2 := Lib.hid (HK.out.after hb)
  clear hb ho HSG HK HCK g0
  have x0 := HC2.out.c0
  have x1 := HC2.out.c1
  go_wp2_with fail
  go_region_held3 (fun w' => w'.cell? ⟨w.heap.size + 1, 0, none⟩ = some (.int .i64 x) ∧ w'.cell? ⟨w.heap.size + 1, 1, none⟩ = some (.int .i64 y))
    (first | go_keep | exact ⟨x0, x1⟩ | exact ⟨y0, y1⟩ | exact ⟨z0, z1⟩)
    (first
      | (go_at_call 74; refine (implMask_v ms _ _ _ _ (by first | exact HS2.out | exact HS2.out.drew | exact HS2.out.drewN _) HIN.out HMM.out).mono ?_; rintro e w5 ⟨rfl, hb⟩; replace hb : Below w2.heap.size w2 w5 := (by first | exact hb | exact undrew hb); have HS5 := Lib.hid ((HS2.out.below hb).call hb.size); have HC5 := Lib.hid (HC2.out.below hb); have HB5 := Lib.hid (HB2.out.trans (hb.mono HB2.out.size)); have y0 := keep1 hb x0; have y1 := keep1 hb x1; have hs5 := hb.size; clear hb)
      | (go_at_call 73; refine (armFits_v x y mk _ hx hy hk4 HFT.out).mono ?_; rintro e w6 ⟨rfl, hb⟩; replace hb : Below w5.heap.size w5 w6 := (by first | exact hb | exact undrew hb); have HS6 := Lib.hid ((HS5.out.below hb).call hb.size); have HC6 := Lib.hid (HC5.out.below hb); have HB6 := Lib.hid (HB5.out.trans (hb.mono HB5.out.size)); have z0 := keep1 hb y0; have z1 := keep1 hb y1; have hs6 := hb.size; clear hb))
  clear HS2 HS5 HC2 HC5 HB2 HB5 x0 x1 y0 y1 z0 z1
  cases f
  · have HM : Hid (tx = ⟨#[]⟩) := Lib.hid (by rw [← HTX.out]; unfold mArmT; rw [HOKA.out]; rfl)
    go_wp2
    go_ret
    exact ⟨by rw [HM.out]; first | done | rfl, HB6.out⟩
  obtain ⟨_, p, q, e1, e2, hp, hq, _, _, _⟩ := mArmOk_nat HOKA.out
  simp only at e1 e2
  subst e1 e2
  have HM : Hid (tx = if wordsA p q ms = [] then starB else joinW (wordsA p q ms) spB) := Lib.hid (by rw [← HTX.out]; unfold mArmT; rw [HOKA.out, if_pos rfl, Int.toNat_natCast, Int.toNat_natCast]; exact HTA.out p q)
  clear HTX HOKA HTA HFT hx hy
  try simp only [Bool.not_true]
  go_wp2
  try simp only [Bool.not_true]
  go_loopw [8, 28] (fun v i wr => ∃ (k nw : Nat) (ws : List ByteArray), k ≤ ms.length ∧ nw ≤ k ∧ i = .int .i64 k ∧ Hid (ws = wordsA p q (ms.take k)) ∧ Hid (ws.length = nw) ∧ Hid (wr.ownsRow w6.heap.size 9 1 v nw (flatS ws)) ∧ Hid (SD wr w6.heap.size As ms.length cs ms) ∧ Hid (Below w6.heap.size w6 wr) ∧ Hid (C2 wr (w.heap.size + 1) (.int .i64 p) (.int .i64 q)) ∧ w6.heap.size ≤ wr.heap.size) (fun _ i _ => ms.length - (intOf i).toNat)
  case atStart => exact ⟨0, 0, [], Nat.zero_le _, Nat.le_refl _, rfl, Lib.hid rfl, Lib.hid rfl, Lib.hid (World.ownsRow_nil _ _ _ _), HS6, Lib.hid (Below.refl _ _), HC6, Nat.le_refl _⟩
  case round =>
    clear HS6 HC6
    obtain ⟨k, nw, ws, hk, hnk, rfl, hws, hwl, hown, hS, hbel, hc, hsz⟩ := hrel
    by_cases hlt : k < ms.length
    · obtain ⟨xx, hx4, hx⟩ := HP.out _ (List.getElem_mem hlt)
      obtain ⟨bb, o, rfl, hbb, c1, c2⟩ := hS.out.at_ hlt
      have HT := Lib.hid (wordsA_succ p q hlt)
      have hn6 := HN6.out _ (List.getElem_mem hlt)
      have HWA : Hid (wordA p q ms[k] = if p &&& xx ≠ 0 then [ms[k].name] else if q &&& xx ≠ 0 then [bangB ++ ms[k].name] else []) := Lib.hid (by unfold wordA; rw [hx, Int.toNat_natCast, Nat.and_comm p, Nat.and_comm q])
      have hi1 : (k : Int) < (ms.length : Int) := by omega
      rw [hx] at c2
      clear hx
      generalize ms[k].name = s at *
      generalize wordA p q ms[k] = wd at *
      have hbW : Below wr.heap.size wr (wr.alloc (.cells #[.string s, .int .i64 xx] 98)) := (Below.refl _ _).alloc (Nat.le_refl _) _
      have l0 : (wr.alloc (.cells #[.string s, .int .i64 xx] 98)).cell? ⟨wr.heap.size, 0, none⟩ = some (.string s) := by simp [go_sem]
      have l1 : (wr.alloc (.cells #[.string s, .int .i64 xx] 98)).cell? ⟨wr.heap.size, 1, none⟩ = some (.int .i64 xx) := by simp [go_sem]
      have x0 := keep1 hbW hc.out.c0
      have x1 := keep1 hbW hc.out.c1
      have HOW := Lib.hid (own_below hown.out hbW)
      have hbW6 : Below w6.heap.size wr (wr.alloc (.cells #[.string s, .int .i64 xx] 98)) := (Below.refl _ _).alloc hsz _
      have HSW := Lib.hid (hS.out.below hbW6)
      have HCW := Lib.hid (hc.out.below hbW)
      have HBW := Lib.hid (hbel.out.trans hbW6)
      have hszW : w6.heap.size ≤ (wr.alloc (.cells #[.string s, .int .i64 xx] 98)).heap.size := HBW.out.size
      have hnz := i64_and_nat p xx (by omega) (by omega)
      have hny := i64_and_nat q xx (by omega) (by omega)
      obtain ⟨z, hz⟩ : ∃ z, p &&& xx = z := ⟨_, rfl⟩
      obtain ⟨y, hy⟩ : ∃ y, q &&& xx = y := ⟨_, rfl⟩
      rw [hz, hy] at HWA
      rw [hz] at hnz
      rw [hy] at hny
      clear hz hy hbW hbW6
      have hzb : (bangB ++ s).size ≤ 7 := by rw [ByteArray.size_append]; show 1 + s.size ≤ 7; omega
      unfold bangB at hzb HWA
      by_cases h1 : z = 0
      · subst h1
        by_cases h3 : y = 0
        · subst h3
          have HTT : Hid (wordsA p q (ms.take (k + 1)) = ws) := Lib.hid (by rw [HT.out, hws.out, HWA.out, if_neg (by omega), if_neg (by omega), List.append_nil])
          clear HT HWA
          go_wp2
          go_roundw
          case rel => exact ⟨k + 1, nw, ws, by omega, by omega, by go_num, Lib.hid HTT.out.symm, hwl, HOW, HSW, HBW, HCW, hszW⟩
          case measure => simp [intOf]; omega
        · have h4 : ((y : Int) == 0) = false := by rw [beq_eq_false_iff_ne]; omega
          have HTT : Hid (wordsA p q (ms.take (k + 1)) = ws ++ [(⟨#[33]⟩ : ByteArray) ++ s]) := Lib.hid (by rw [HT.out, hws.out, HWA.out, if_neg (by omega), if_pos (by omega)])
          clear HT HWA
          go_wp2_with (at_builtin; refine wpList_app_S rfl _ _ rfl w6.heap.size _ _ _ rfl HOW.out _ _ _ rfl (by first | rfl | simp) (by omega) hszW ?_; intro v' w3 ho1 hb1; have HO1 := Lib.hid ho1; have HB1 := Lib.hid hb1; clear ho1 hb1)
          go_roundw
          case rel => exact ⟨k + 1, nw + 1, _, by omega, by omega, by go_num, Lib.hid HTT.out.symm, Lib.hid (by rw [List.length_append, hwl.out]; rfl), Lib.hid (by simpa [flatS] using HO1.out), Lib.hid (HSW.out.below HB1.out), Lib.hid (HBW.out.trans HB1.out), Lib.hid (HCW.out.low HB1.out (by omega)), by have := HB1.out.size; omega⟩
          case measure => simp [intOf]; omega
      · have h2 : ((z : Int) == 0) = false := by rw [beq_eq_false_iff_ne]; omega
        have HTT : Hid (wordsA p q (ms.take (k + 1)) = ws ++ [s]) := Lib.hid (by rw [HT.out, hws.out, HWA.out, if_pos (by omega)])
        clear HT HWA
        go_wp2_with (at_builtin; refine wpList_app_S rfl _ _ rfl w6.heap.size _ _ _ rfl HOW.out _ _ _ rfl (by first | rfl | simp) (by omega) hszW ?_; intro v' w3 ho1 hb1; have HO1 := Lib.hid ho1; have HB1 := Lib.hid hb1; clear ho1 hb1)
        go_roundw
        case rel => exact ⟨k + 1, nw + 1, _, by omega, by omega, by go_num, Lib.hid HTT.out.symm, Lib.hid (by rw [List.length_append, hwl.out]; rfl), Lib.hid (by simpa [flatS] using HO1.out), Lib.hid (HSW.out.below HB1.out), Lib.hid (HBW.out.trans HB1.out), Lib.hid (HCW.out.low HB1.out (by omega)), by have := HB1.out.size; omega⟩
        case measure => simp [intOf]; omega
    · obtain rfl : k = ms.length := by omega
      have hi9 : ¬ (ms.length : Int) < (ms.length : Int) := by omega
      obtain ⟨A', c', hv⟩ := own_form hown.out
      subst hv
      have HWE : Hid (wordsA p q ms = ws) := Lib.hid (by rw [hws.out, List.take_of_length_le (Nat.le_refl _)])
      have HB : Hid (Below w.heap.size w wr) := Lib.hid (HB6.out.trans (hbel.out.mono HB6.out.size))
      by_cases h0 : nw = 0
      · subst h0
        have HTS : Hid (tx = starB) := Lib.hid (by rw [HM.out, HWE.out, if_pos (List.eq_nil_of_length_eq_zero hwl.out)])
        go_wp2
        go_ret
        exact ⟨by rw [HTS.out]; rfl, HB.out⟩
      · have h01 : ((nw : Int) == 0) = false := by rw [beq_eq_false_iff_ne]; omega
        have HNE : Hid (ws ≠ []) := Lib.hid (fun e => by have := hwl.out; rw [e] at this; exact h0 this.symm)
        have HTS : Hid (tx = joinW ws spB) := Lib.hid (by rw [HM.out, HWE.out, if_neg HNE.out])
        have HS8 : Hid (∀ s ∈ ws, s.size ≤ 8) := Lib.hid (by rw [← HWE.out]; exact HWS.out p q)
        have HSS : Hid (SS wr wr.heap.size A' nw c' ws) := Lib.hid (ss_of_own hown.out (fun s hs => by have := HS8.out s hs; unfold maxLen; omega))
        go_wp2_with fail
        refine (joinSp_v ws _ _ _ _ HSS.out HNE.out (by have := hwl.out; omega) HS8.out).mono ?_
        rintro e w7 ⟨rfl, hb⟩
        have HB7 : Hid (Below w.heap.size w w7) := Lib.hid (HB.out.trans (hb.mono HB.out.size))
        clear hb
        go_wp2
        go_ret
        exact ⟨by rw [HTS.out]; first | done | rfl, HB7.out⟩
end Go.Proofs.YtpfdghbjagdhfaaDoor
