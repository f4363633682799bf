import Derived.Test.YtboehlffbibgmaaDoorRdS
namespace Go.Proofs.YtboehlffbibgmaaDoor
open Go.RowKit
set_option linter.unusedVariables false
set_option linter.unusedSimpArgs false
set_option maxRecDepth 100000

/-! ### what is read so far -/
def rdAt (ds : List D) (ws : List ByteArray) (k o : Nat) : Prop := (o < 4096 ∧ rdTo ds ws 0 = rdTo ds (ws.drop k) o) ∨ (4096 ≤ o ∧ rdTo ds ws 0 = none)
theorem rdAt_zero (ds : List D) (ws : List ByteArray) : rdAt ds ws 0 0 := .inl ⟨by decide, rfl⟩
theorem rdAt_bad {ds : List D} {ws : List ByteArray} {k o : Nat} (hk : k < ws.length) (h : rdAt ds ws k o) (hn : ¬ (0 ≤ partV ds ws[k] ∧ partV ds ws[k] ≤ 4095)) : rdTo ds ws 0 = none := by
  rcases h with ⟨_, h⟩ | ⟨_, h⟩
  · rw [h, List.drop_eq_getElem_cons hk, rdTo, if_neg hn]
  · exact h
theorem rdAt_step {ds : List D} {ws : List ByteArray} {k o n : Nat} (hk : k < ws.length) (h : rdAt ds ws k o) (hn : partV ds ws[k] = n) (hn2 : n ≤ 4096) : rdAt ds ws (k + 1) (o + n - (o &&& n) % 4096) := by
  have h1 : (o &&& n) % 4096 ≤ o := Nat.le_trans (Nat.mod_le _ _) (and_le o n)
  have h2 : (o &&& n) % 4096 ≤ n := Nat.le_trans (Nat.mod_le _ _) (by rw [Nat.and_comm]; exact and_le n o)
  by_cases hn4 : n ≤ 4095
  · rcases h with ⟨ho, h⟩ | ⟨ho, h⟩
    · have h3 := and_lt (b := n) ho
      have h4 := or_add_and o n
      have h5 : (o &&& n) % 4096 = o &&& n := Nat.mod_eq_of_lt h3
      have h6 : o + n - (o &&& n) % 4096 = o ||| n := by rw [h5]; omega
      rw [h6]
      refine .inl ⟨or_lt ho (by omega), ?_⟩
      rw [h, List.drop_eq_getElem_cons hk, rdTo, if_pos ⟨by omega, by omega⟩, hn, Int.toNat_natCast]
    · exact .inr ⟨by omega, h⟩
  · have h3 := rdAt_bad hk h (by omega)
    exact .inr ⟨by omega, h3⟩
theorem rdAt_end {ds : List D} {ws : List ByteArray} {b : Int} {s : ByteArray} {o : Nat} (hs : splitT 124 s = ws) (h : rdAt ds ws ws.length o) : rdV ds b s = if mIsV ds b (o : Int) then (o : Int) else -1 := by
  subst hs
  rcases h with ⟨ho, h⟩ | ⟨ho, h⟩
  · rw [List.drop_eq_nil_of_le (Nat.le_refl _), rdTo] at h
    exact rdV_some h
  · rw [rdV_none h, if_neg]
    intro hh
    obtain ⟨p, e, hp⟩ := mIsV_nat hh
    omega

/-! ### the model's both and either, of numbers of any size -/
set_option maxHeartbeats 1000000 in
theorem bothG_any (a b : Nat) (w : World) (ha : a ≤ 1099511627776) (hb : b ≤ 4096) {v : Nat} (hv : (a &&& b) % 4096 = v) :
    Calls Tryd.prog 84 #[.int .i64 a, .int .i64 b] w fun e w' => e = .returned (.int .i64 v) ∧ w = w' := by
  subst hv
  go_enter Tryd.func84, Tryd.ntmps84
  go_wp2
  go_loop [5, 6] (fun s i => ∃ (k p q : Nat), k ≤ 12 ∧ 1 ≤ p ∧ p ≤ 4096 ∧ q ≤ 4096 ∧ i = .int .i64 p ∧ s = .int .i64 q ∧ Hid (p = 2 ^ k) ∧ Hid (q = (a &&& b) % 2 ^ k)) (fun _ i => 4096 - (intOf i).toNat)
  case atStart => exact ⟨0, 1, 0, by omega, by omega, by omega, by omega, rfl, rfl, Lib.hid rfl, Lib.hid (by simp [Nat.mod_one])⟩
  case round =>
    obtain ⟨k, p, q, hk, hp1, hp2, hq1, rfl, rfl, hp, hq⟩ := hrel
    by_cases h12 : k < 12
    · have hp3 : p ≤ 2048 := by rw [hp.out]; exact Nat.pow_le_pow_right (n := 2) (by decide) (show k ≤ 11 by omega)
      have HS := Lib.hid (both_succ a b k)
      have HP2 : Hid (p * 2 = 2 ^ (k + 1)) := Lib.hid (by rw [hp.out, Nat.pow_succ])
      have hql : q + p ≤ 4096 := by
        have := Nat.mod_lt (a &&& b) (show 0 < 2 ^ k from Nat.two_pow_pos k)
        rw [hq.out]; have := hp.out; omega
      obtain ⟨x, hx⟩ : ∃ x : Nat, a / p = x := ⟨_, rfl⟩
      obtain ⟨y, hy⟩ : ∃ y : Nat, b / p = y := ⟨_, rfl⟩
      have hxl : x ≤ 1099511627776 := by have := Nat.div_le_self a p; omega
      have hyl : y ≤ 4096 := by have := Nat.div_le_self b p; omega
      have dx : (a : Int) / (p : Int) = (x : Int) := by rw [← hx]; push_cast; rfl
      have dy : (b : Int) / (p : Int) = (y : Int) := by rw [← hy]; push_cast; rfl
      rw [← hp.out, hx, hy] at HS
      have HS' := Lib.hid HS.out
      have HQ0 : Hid (q = (a &&& b) % p) := Lib.hid (by rw [hp.out]; exact hq.out)
      clear hx hy HS
      by_cases ha1 : x % 2 = 1
      · have e1 : ((x : Int) % 2 == 1) = true := by rw [beq_iff_eq]; omega
        by_cases hb1 : y % 2 = 1
        · have e2 : ((y : Int) % 2 == 1) = true := by rw [beq_iff_eq]; omega
          have HQ : Hid (q + p = (a &&& b) % 2 ^ (k + 1)) := Lib.hid (by rw [HS'.out, if_pos ⟨ha1, hb1⟩, ← HQ0.out])
          clear ha1 hb1
          go_wp2
          go_round
          case rel => exact ⟨k + 1, p * 2, q + p, by omega, by omega, by omega, by omega, by go_num, by go_num, HP2, HQ⟩
          case measure => simp [intOf]; omega
        · have e2 : ((y : Int) % 2 == 1) = false := by rw [beq_eq_false_iff_ne]; omega
          have HQ : Hid (q = (a &&& b) % 2 ^ (k + 1)) := Lib.hid (by rw [HS'.out, if_neg (fun h => hb1 h.2), ← HQ0.out]; rfl)
          clear ha1 hb1
          go_wp2
          go_round
          case rel => exact ⟨k + 1, p * 2, q, by omega, by omega, by omega, by omega, by go_num, rfl, HP2, HQ⟩
          case measure => simp [intOf]; omega
      · have e1 : ((x : Int) % 2 == 1) = false := by rw [beq_eq_false_iff_ne]; omega
        have HQ : Hid (q = (a &&& b) % 2 ^ (k + 1)) := Lib.hid (by rw [HS'.out, if_neg (fun h => ha1 h.1), ← HQ0.out]; rfl)
        clear ha1
        go_wp2
        go_round
        case rel => exact ⟨k + 1, p * 2, q, by omega, by omega, by omega, by omega, by go_num, rfl, HP2, HQ⟩
        case measure => simp [intOf]; omega
    · obtain rfl : k = 12 := by omega
      have hp4 : p = 4096 := hp.out
      have hp5 : (4095 : Int) < (p : Int) := by omega
      have HQ : Hid (q = (a &&& b) % 4096) := Lib.hid hq.out
      clear hp4
      go_wp2
      go_ret
      exact ⟨by rw [HQ.out]; first | done | rfl, rfl⟩
set_option maxHeartbeats 400000 in
theorem eitherG_any (a b : Nat) (w : World) (ha : a ≤ 1099511627776) (hb : b ≤ 4096) {v : Nat} (hv : a + b - (a &&& b) % 4096 = v) :
    Calls Tryd.prog 70 #[.int .i64 a, .int .i64 b] w fun e w' => e = .returned (.int .i64 v) ∧ w = w' := by
  have hle : (a &&& b) % 4096 ≤ a := Nat.le_trans (Nat.mod_le _ _) (and_le a b)
  obtain ⟨x, hx⟩ : ∃ x, (a &&& b) % 4096 = x := ⟨_, rfl⟩
  have HX := Lib.hid hx
  rw [hx] at hv hle
  have HV : Hid ((a : Int) + (b : Int) - (x : Int) = (v : Int)) := Lib.hid (by omega)
  clear hx hv
  go_enter Tryd.func70, Tryd.ntmps70
  go_wp2_with (go_at_call 84; refine (bothG_any a b _ ha hb HX.out).mono ?_; rintro e w' ⟨rfl, rfl⟩)
  go_ret
  exact ⟨by rw [HV.out]; first | done | rfl, rfl⟩

set_option maxHeartbeats 1000000 in
theorem readPart_any (ds : List D) (s : ByteArray) (A : Option Addr) (n c : Nat) (w : World) (hr : SD w w.heap.size A n c ds) (hs : s.size ≤ 1048576) {v : Int} (hv : partV ds s = v) :
    Calls Tryd.prog 69 #[.slice A n c, .string s] w fun e w' => e = .returned (.int .i64 v) ∧ w = w' := by
  subst hv
  obtain rfl := hr.len
  have hl := hr.max
  have hl2 := hr.cap
  unfold maxLen at hl
  have HR := Lib.hid hr
  rcases fidx_cases (isNm s) ds with ⟨hx, _⟩ | ⟨k, hk, hx, hp, _⟩
  · have HX := Lib.hid hx
    have HM := Lib.hid (partV_num (ds := ds) (s := s) (by omega))
    have HN := Lib.hid (fun w => specRdN_any s w hs)
    clear hx hr
    rw [HM.out]
    generalize mRdN s = v at *
    go_enter Tryd.func69, Tryd.ntmps69
    go_wp2_with (first
      | (go_at_call 98; refine (indexOf_v ds s _ _ _ _ HR.out HX.out).mono ?_; rintro e w' ⟨rfl, rfl⟩)
      | (go_at_call 99; refine (HN.out _).mono ?_; rintro e w' ⟨rfl, rfl⟩))
    go_ret
    exact ⟨rfl, rfl⟩
  · have HX := Lib.hid hx
    have HM := Lib.hid (partV_name hk hx)
    have hi1 : (k : Int) < (ds.length : Int) := by omega
    obtain ⟨b, o, rfl, hbb, d1, d2⟩ := hr.at_ hk
    clear hx hr hp
    rw [HM.out]
    generalize ds[k].val = v at *
    go_enter Tryd.func69, Tryd.ntmps69
    go_wp2_with (go_at_call 98; refine (indexOf_v ds s _ _ _ _ HR.out HX.out).mono ?_; rintro e w' ⟨rfl, rfl⟩)
    go_ret
    exact ⟨rfl, rfl⟩

set_option maxHeartbeats 8000000 in
theorem specRdV_any (ds : List D) (b : Int) (s : ByteArray) (A : Option Addr) (m c : Nat) (w : World) (hr : SD w w.heap.size A m c ds) (hv : vFlag ds b = true) (hs : s.size ≤ 1048576) {v : Int} (hm : rdV ds b s = v) :
    Calls Tryd.prog 35 #[.agg #[.slice A m c, .int .i64 b], .string s] w fun e w' => e = .returned (.int .i64 v) ∧ Below w.heap.size w w' := by
  have HF := Lib.hid (FB.start hr b)
  have HIN := Lib.hid (vFlag_in hv)
  clear hr
  have HSP := Lib.hid (fun w => splitAt_any s 124 124 rfl w hs)
  unfold StrsP at HSP
  have hwl := (splitT_len 124 s).1
  have HWS : Hid (∀ x ∈ splitT 124 s, x.size ≤ 1048576) := Lib.hid fun x hx => by have := splitT_size 124 s x hx; omega
  obtain ⟨ws, hws⟩ : ∃ ws, splitT 124 s = ws := ⟨_, rfl⟩
  rw [hws] at HSP hwl HWS
  have HE : Hid (∀ o : Nat, rdAt ds ws ws.length o → v = if mIsV ds b (o : Int) then (o : Int) else -1) := Lib.hid fun o h => by rw [← hm]; exact rdAt_end hws h
  have HN : Hid (rdTo ds ws 0 = none → v = -1) := Lib.hid fun h => by rw [← hm]; exact rdV_none (by rw [hws]; exact h)
  have HOKS : Hid (∀ x ∈ ws, x.size ≤ maxLen) := Lib.hid fun x hx => by have := HWS.out x hx; unfold maxLen; omega
  clear hws hm
  have e0 := HF.out.c0
  have e1 := HF.out.c1
  go_enter Tryd.func35, Tryd.ntmps35
  go_wp2_with fail
  refine (HSP.out _).mono ?_
  rintro e w1 ⟨A1, c1, rfl, ho, hb⟩
  have HF1 := Lib.hid (HF.out.call hb)
  have HS1 := Lib.hid (ss_of_own ho HOKS.out)
  clear ho hb HF HSP e0 e1
  go_wp2_with fail
  go_loopw [6, 7] (fun o i wr => ∃ (k x : Nat), k ≤ ws.length ∧ x ≤ 4096 * k ∧ i = .int .i64 k ∧ o = .int .i64 x ∧ Hid (rdAt ds ws k x) ∧ Hid (FB w wr w.heap.size A m c ds b) ∧ Hid (SS wr wr.heap.size A1 ws.length c1 ws)) (fun _ i _ => ws.length - (intOf i).toNat)
  case atStart => exact ⟨0, 0, Nat.zero_le _, Nat.zero_le _, rfl, rfl, Lib.hid (rdAt_zero ds ws), HF1, HS1⟩
  case round =>
    clear HF1 HS1
    obtain ⟨k, x, hk, hx, rfl, rfl, hst, hf, hss⟩ := hrel
    by_cases hlt : k < ws.length
    · obtain ⟨bb, o, hA, hbb, d1⟩ := hss.out.at_ hlt
      subst hA
      have hi1 : (k : Int) < (ws.length : Int) := by omega
      have hi0 : (0 : Int) ≤ (k : Int) := by omega
      have hz := HWS.out _ (List.getElem_mem hlt)
      have hpr := partV_range HIN.out ws[k]
      have HBAD := Lib.hid (rdAt_bad hlt hst.out)
      have HSTEP := Lib.hid (fun (n : Nat) => rdAt_step (n := n) hlt hst.out)
      obtain ⟨y, hy⟩ : ∃ y, partV ds ws[k] = y := ⟨_, rfl⟩
      rw [hy] at hpr HBAD HSTEP
      have HY := Lib.hid hy
      clear hy
      generalize ws[k] = u at *
      have c0 := hf.out.c0
      go_wp2_with fail
      go_region_held3 (fun w' => w'.cell? ⟨w.heap.size, 0, none⟩ = some (.slice A m c) ∧ w'.cell? ⟨bb, o + k, none⟩ = some (.string u))
        (first | go_keep | exact ⟨c0, d1⟩)
        (first
        | (go_at_call 69; refine (readPart_any ds u _ _ _ _ (hf.out.drewN 1).sd hz HY.out).mono ?_; rintro e w2 ⟨rfl, rfl⟩))
      by_cases hneg : y < 0
      · have HNN : Hid (v = -1) := Lib.hid (HN.out (HBAD.out (by omega)))
        have HBB := Lib.hid hf.out.bel
        clear HSTEP HBAD hst
        go_wp2
        go_ret
        exact ⟨by rw [HNN.out]; first | done | rfl, below_drewN HBB.out 1⟩
      · obtain ⟨n, rfl⟩ : ∃ n : Nat, y = n := ⟨y.toNat, by omega⟩
        have hn4 : n ≤ 4096 := by omega
        obtain ⟨z, hz2⟩ : ∃ z, x + n - (x &&& n) % 4096 = z := ⟨_, rfl⟩
        have HST := Lib.hid (HSTEP.out n rfl hn4)
        rw [hz2] at HST
        have HZ := Lib.hid hz2
        have hzl : z ≤ 4096 * (k + 1) := by omega
        clear hz2 HSTEP HBAD hst
        go_wp2_with (go_at_call 70; refine (eitherG_any x n _ (by omega) hn4 HZ.out).mono ?_; rintro e w2 ⟨rfl, rfl⟩)
        go_roundw
        case rel => exact ⟨k + 1, z, by omega, hzl, by go_num, rfl, HST, Lib.hid (hf.out.drewN 1), Lib.hid (hss.out.drewN 1)⟩
        case measure => simp [intOf]; omega
    · obtain rfl : k = ws.length := by omega
      have hi9 : ¬ (ws.length : Int) < (ws.length : Int) := by omega
      have HEE := Lib.hid (HE.out x hst.out)
      obtain ⟨q, hq⟩ : ∃ q, mIsV ds b (x : Int) = q := ⟨_, rfl⟩
      rw [hq] at HEE
      have HQ := Lib.hid hq
      have c0 := hf.out.c0
      have c1' := hf.out.c1
      clear hq
      go_wp2_with fail
      refine (specIsV_v ds b x _ _ _ _ hf.out.sd HQ.out).mono ?_
      rintro e w2 ⟨rfl, hb⟩
      have HB2 := Lib.hid (hf.out.after hb)
      clear hb
      cases q
      · go_wp2
        go_ret
        exact ⟨by rw [HEE.out]; rfl, HB2.out⟩
      · go_wp2
        go_ret
        exact ⟨by rw [HEE.out]; rfl, HB2.out⟩

set_option maxHeartbeats 4000000 in
theorem specRead_v (ds : List D) (b : Int) (s : ByteArray) (A : Option Addr) (m c : Nat) (w : World) (hr : SD w w.heap.size A m c ds) (hs : s.size ≤ 1048576) {r : Int} {v : Bool} (hm : mRead ds b s = r) (hm2 : mReadOk ds b s = v) :
    Calls Tryd.prog 13 #[.agg #[.slice A m c, .int .i64 b], .string s] w fun e w' => e = .returned (.tuple #[.int .i64 r, .bool v]) ∧ Below w.heap.size w w' := by
  subst hm hm2
  have HF := Lib.hid (FB.start hr b)
  clear hr
  cases hv : vFlag ds b
  · have HV := Lib.hid hv
    have HM : Hid (mRead ds b s = 0 ∧ mReadOk ds b s = false) := Lib.hid (by unfold mRead mReadOk; rw [hv]; exact ⟨rfl, rfl⟩)
    clear hv
    go_enter Tryd.func13, Tryd.ntmps13
    go_wp2_with (go_at_call 34; refine (specVF_v ds b _ _ _ _ HF.out.sd HV.out).mono ?_; rintro e w' ⟨rfl, hb⟩)
    go_ret2
    exact ⟨by rw [HM.out.1, HM.out.2]; first | done | rfl, HF.out.after hb⟩
  have HV := Lib.hid hv
  obtain ⟨x, hx⟩ : ∃ x, rdV ds b s = x := ⟨_, rfl⟩
  have HX := Lib.hid hx
  have HM : Hid (mRead ds b s = (if 0 ≤ x then x else 0) ∧ mReadOk ds b s = decide (0 ≤ x)) := Lib.hid (by unfold mRead mReadOk; rw [hv, hx]; exact ⟨by simp, rfl⟩)
  clear hv hx
  go_enter Tryd.func13, Tryd.ntmps13
  go_wp2_with fail
  refine (specVF_v ds b _ _ _ _ HF.out.sd HV.out).mono ?_
  rintro e w1 ⟨rfl, hb⟩
  have HF1 := Lib.hid (HF.out.call hb)
  have c0 := HF1.out.c0
  have c1 := HF1.out.c1
  clear hb HF
  go_wp2_with fail
  refine (specRdV_any ds b s _ _ _ _ HF1.out.sd HV.out hs HX.out).mono ?_
  rintro e w2 ⟨rfl, hb⟩
  have HB2 := Lib.hid (HF1.out.after hb)
  clear hb
  by_cases h0 : x < 0
  · have HMM : Hid (mRead ds b s = 0 ∧ mReadOk ds b s = false) := Lib.hid (by rw [HM.out.1, HM.out.2, if_neg (by omega), decide_eq_false (by omega)]; exact ⟨rfl, rfl⟩)
    go_wp2
    go_ret2
    exact ⟨by rw [HMM.out.1, HMM.out.2]; first | done | rfl, HB2.out⟩
  · have HMM : Hid (mRead ds b s = x ∧ mReadOk ds b s = true) := Lib.hid (by rw [HM.out.1, HM.out.2, if_pos (by omega), decide_eq_true (by omega)]; exact ⟨rfl, rfl⟩)
    go_wp2
    go_ret2
    exact ⟨by rw [HMM.out.1, HMM.out.2]; first | done | rfl, HB2.out⟩
end Go.Proofs.YtboehlffbibgmaaDoor
