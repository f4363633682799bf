import Derived.Test.YtiebdhbioccogaaGreatDoorDkP
import Derived.Test.YtiebdhbioccogaaGreatDoorBaseJ
namespace Go.Proofs.YtiebdhbioccogaaGreatDoor
open Go.RowKit Go.Maps
set_option linter.unusedVariables false
set_option linter.unusedSimpArgs false
set_option maxRecDepth 100000

theorem dk_noS {s : ByteArray} {l : List UInt8} (h : s ≠ ⟨l.toArray⟩) : (s.toList == l) = false := by
  rw [beq_eq_false_iff_ne]
  intro e
  apply h
  have h2 : s.data.toList = l := by rw [← e]; exact (ByteArray.toList_eq s).symm
  rw [← h2, mk_list]
theorem made_val {ds : List D} {b n : Int} (hv : vFlag ds b = true) (hi : inV n = true) (h : (mMade ds b n).2 = 0) : ∃ p : Nat, (mMade ds b n).1 = (p : Int) ∧ p < 4096 ∧ mIsV ds b (p : Int) = true := by
  unfold inV at hi
  simp only [Bool.and_eq_true, decide_eq_true_eq] at hi
  by_cases h1 : n < 0
  · have e : (mMade ds b n).1 = ((nl (mWhole ds b) (-n - 1).toNat : Nat) : Int) := by
      unfold mMade mWhole
      rw [if_pos h1]
      split <;> rfl
    have h2 := v_inv (p := (-n - 1).toNat) hv
    exact ⟨_, e, by have := (mIsV_rng h2).2; omega, h2⟩
  · obtain ⟨k, rfl⟩ := Int.eq_ofNat_of_zero_le (show 0 ≤ n by omega)
    unfold mMade at *
    rw [if_neg h1] at *
    rw [Int.toNat_natCast] at *
    by_cases h2 : nl k (mMask ds) = 0
    · rw [if_pos h2]
      exact ⟨k, rfl, by omega, mIsV_of hv (by omega) (.inr h2)⟩
    · rw [if_neg h2] at *
      by_cases h3 : b = 0
      · rw [if_pos h3] at h; exact absurd h (by decide)
      · rw [if_neg h3] at *
        by_cases h4 : b = 1
        · rw [if_pos h4]
          have h5 : nl (k &&& mMask ds) (mMask ds) = 0 := nl_zero.2 (fun i hi => by rw [Nat.testBit_and, Bool.and_eq_true] at hi; exact hi.2)
          have h6 := part_le h5
          have h7 := mMask_lt12 (vFlag_in hv)
          exact ⟨_, rfl, by omega, mIsV_of hv (by omega) (.inr h5)⟩
        · rw [if_neg h4] at *
          by_cases h5 : b = 2
          · rw [if_pos h5] at h; exact absurd h (show ¬ ((1 : Int) = 0) by decide)
          · rw [if_neg h5]
            have h6 := vFlag_bound hv
            exact ⟨k, rfl, by omega, mIsV_of hv (by omega) (.inl (by omega))⟩
theorem dkNum_sg (x : ByteArray) : dkNum x = if (rdSg x).isSome && inV ((rdSg x).getD 0) then some ((rdSg x).getD 0) else none := by
  unfold dkNum rdSg
  cases numOf x with
  | none => rfl
  | some v =>
    simp only
    by_cases h : -4096 ≤ v ∧ v ≤ 4096
    · rw [if_pos h]
      rfl
    · rw [if_neg h]
      have h2 : inV v = false := by
        unfold inV
        rw [Bool.eq_false_iff]
        intro e
        simp only [Bool.and_eq_true, decide_eq_true_eq] at e
        omega
      rw [h2]
      rfl
theorem shownT {ds : List D} {b : Int} {p : Nat} (h : mIsV ds b (p : Int) = true) : mShowV ds b (p : Int) = mText ds (mIn ds p) p := by
  unfold mShowV; rw [h, if_pos rfl, Int.toNat_natCast]
theorem shown_v (ds : List D) (b : Int) (p : Nat) (A : Option Addr) (m c : Nat) (w : World) (hr : SD w w.heap.size A m c ds) (hp : mIsV ds b (p : Int) = true) {t : ByteArray} (ht : mShowV ds b (p : Int) = t) :
    Calls Tryz.prog 34 #[.agg #[.slice A m c, .int .i64 b], .int .i64 p] w fun e w' => e = .returned (.string t) ∧ Below w.heap.size w w' := by
  rw [← ht, shownT hp]
  exact shown_any ds b p A m c w hr (mIsV_flag hp) (by have := (mIsV_rng hp).2; omega)
set_option maxHeartbeats 8000000 in
theorem madeText_v (ds : List D) (b : Int) (n : Int) (A : Option Addr) (m c : Nat) (w : World) (hr : SD w w.heap.size A m c ds) (hv : vFlag ds b = true) (hi : inV n = true) :
    Calls Tryz.prog 31 #[.agg #[.slice A m c, .int .i64 b], .int .i64 n] w (fun e w' => e = .returned (.string (mkT ds b n)) ∧ Below w.heap.size w w') := by
  have HF := Lib.hid (FB.start hr b)
  have HV := Lib.hid hv
  clear hr hv
  obtain ⟨w0, hw⟩ : ∃ W : World, W = (w.alloc (.cells #[.slice A m c, .int .i64 b] 35)) := ⟨_, rfl⟩
  have HW := Lib.hid hw.symm
  rw [← hw] at HF
  clear hw
  have HI := Lib.hid hi
  have HIN := Lib.hid (vFlag_in HV.out)
  have HBB := Lib.hid (vFlag_bound HV.out)
  obtain ⟨y, hy⟩ : ∃ y, (mMade ds b n).1 = y := ⟨_, rfl⟩
  obtain ⟨h, hh⟩ : ∃ h, (mMade ds b n).2 = h := ⟨_, rfl⟩
  have HY := Lib.hid hy
  have HH := Lib.hid hh
  have HKT : Hid (mkT ds b n = if h = 0 then mShowV ds b y else if h = 1 then numberB ++ itoaB y else badB) := Lib.hid (by unfold mkT; rw [hy, hh])
  have HVAL : Hid (h = 0 → ∃ p : Nat, y = (p : Int) ∧ p < 4096 ∧ mIsV ds b (p : Int) = true) := Lib.hid (fun e => by have := made_val HV.out hi (hh.trans e); rw [hy] at this; exact this)
  have HNR : Hid (h = 1 → ∃ k : Nat, y = (k : Int) ∧ n = (k : Int)) := Lib.hid (fun e => by have := mMade_rng (hh.trans e); rw [hy] at this; exact this)
  unfold inV at hi
  simp only [Bool.and_eq_true, decide_eq_true_eq] at hi
  have c0 := HF.out.c0
  have c1 := HF.out.c1
  clear hy hh
  go_enter Tryz.func31, Tryz.ntmps31
  go_wp2_with fail
  rw [HW.out]
  refine (specMade_v ds b n _ _ _ _ HF.out.sd HIN.out HBB.out HI.out HY.out HH.out).mono ?_
  rintro e w1 ⟨rfl, hb⟩
  have HF1 := Lib.hid (HF.out.call hb)
  clear hb c0 c1 HF
  have c0 := HF1.out.c0
  have c1 := HF1.out.c1
  by_cases h0 : h = 0
  · subst h0
    obtain ⟨p, rfl, hp4, hpv⟩ := HVAL.out rfl
    have HPV := Lib.hid hpv
    obtain ⟨t, ht⟩ : ∃ t, mShowV ds b (p : Int) = t := ⟨_, rfl⟩
    have HTT := Lib.hid ht
    have HM : Hid (mkT ds b n = t) := Lib.hid (by rw [HKT.out, if_pos rfl, ht])
    clear ht hpv
    go_wp2_with fail
    refine (shown_v ds b p _ _ _ _ HF1.out.sd HPV.out HTT.out).mono ?_
    rintro e w2 ⟨rfl, hb⟩
    have HB2 := Lib.hid (HF1.out.after hb)
    clear hb c0 c1
    go_wp2
    go_ret
    exact ⟨by rw [HM.out]; first | done | rfl, HB2.out⟩
  have h0e : (h == 0) = false := by rw [beq_eq_false_iff_ne]; exact h0
  have HB1 := Lib.hid HF1.out.bel
  by_cases h1 : h = 1
  · subst h1
    obtain ⟨k, rfl, hk⟩ := HNR.out rfl
    obtain ⟨t, ht⟩ : ∃ t, decB k = t := ⟨_, rfl⟩
    have HM : Hid (mkT ds b n = numberB ++ t) := Lib.hid (by rw [HKT.out, if_neg (by decide), if_pos rfl, itoaB_pos, ht])
    have htz : t.size ≤ 6 := by rw [← ht, ← itoaB_pos]; exact itoaB_size (by omega) (by omega)
    have HNUM : Hid (∀ w, Calls Tryz.prog 33 #[.int .i64 (k : Int)] w fun e w' => e = .returned (.string t) ∧ w = w') := Lib.hid (fun w => by rw [← ht]; exact number_any k _ w rfl (by omega))
    have g1 : ¬ 9223372036854775807 < 7 + t.size := by omega
    clear ht hk c0 c1
    go_wp2_with fail
    refine (HNUM.out _).mono ?_
    rintro e w2 ⟨rfl, rfl⟩
    go_wp2
    go_ret
    exact ⟨by rw [HM.out]; first | done | rfl, HB1.out⟩
  have h1e : (h == 1) = false := by rw [beq_eq_false_iff_ne]; exact h1
  have HM : Hid (mkT ds b n = badB) := Lib.hid (by rw [HKT.out, if_neg h0, if_neg h1])
  clear c0 c1
  go_wp2
  go_ret
  exact ⟨by rw [HM.out]; first | done | rfl, HB1.out⟩
set_option maxHeartbeats 64000000 in
theorem answer_v (ds : List D) (b : Int) (line : ByteArray) (A : Option Addr) (m c : Nat) (w : World) (hr : SD w w.heap.size A m c ds) (hv : vFlag ds b = true) (hs : line.size ≤ 1048576) :
    Calls Tryz.prog 13 #[.agg #[.slice A m c, .int .i64 b], .string line] w (fun e w' => e = .returned (.string (ansT ds b line)) ∧ Below w.heap.size w w') := by
  have HF := Lib.hid (FB.start hr b)
  have HV := Lib.hid hv
  clear hr hv
  obtain ⟨w0, hw⟩ : ∃ W : World, W = (w.alloc (.cells #[.slice A m c, .int .i64 b] 35)) := ⟨_, rfl⟩
  have HW := Lib.hid hw.symm
  rw [← hw] at HF
  clear hw
  have HSP : Hid (∀ w, Calls Tryz.prog 28 #[.string line, .int .u8 (32 : Int)] w (StrsP (splitT 32 line) w)) := Lib.hid (fun w => splitAt_any line 32 32 rfl w hs)
  have HSPZ : Hid (∀ x ∈ splitT 32 line, x.size ≤ 1048576) := Lib.hid (fun x hx => by have := splitT_size 32 line x hx; omega)
  have hspl : (splitT 32 line).length ≤ 1048577 ∧ 1 ≤ (splitT 32 line).length := by have := splitT_len 32 line; omega
  have HA : Hid (ansT ds b line = ansL ds b (splitT 32 line)) := Lib.hid rfl
  have HOKS : Hid (∀ s ∈ splitT 32 line, s.size ≤ maxLen) := Lib.hid (fun s h => by have := HSPZ.out s h; unfold maxLen; omega)
  unfold StrsP at HSP
  generalize splitT 32 line = ws at *
  go_enter Tryz.func13, Tryz.ntmps13
  go_wp2_with fail
  rw [HW.out]
  refine (HSP.out _).mono ?_
  rintro e w1 ⟨As, cs, rfl, ho, hb⟩
  have HF1 := Lib.hid (HF.out.call hb)
  have HS1 := Lib.hid (ss_of_own ho HOKS.out)
  have hcc := HS1.out.cap
  have hcm := HS1.out.max
  unfold maxLen at hcm
  clear ho hb HF HSP HW
  have h0l : 0 < ws.length := by omega
  rcases (show ws.length = 1 ∨ ws.length = 2 ∨ ws.length = 3 ∨ 3 < ws.length by omega) with hwl | hwl | hwl | hwl
  · skip
    obtain ⟨v, hws⟩ : ∃ v, ws = [v] := by
      match ws, hwl with
      | [q0], _ => exact ⟨q0, rfl⟩
    have E0 : Hid (∀ h : 0 < ws.length, ws[0] = v) := Lib.hid (fun h => by simp [hws])
    have vz : v.size ≤ 1048576 := HSPZ.out _ (by rw [hws]; simp)
    have HAL : Hid (ansT ds b line = ansL ds b [v]) := Lib.hid (by rw [HA.out, hws])
    clear hws HSPZ HOKS HA
    obtain ⟨bb, o, hA0, hbb0, x0⟩ := HS1.out.at_ (k := 0) (by omega)
    rw [E0.out (by omega)] at x0
    subst hA0
    rw [Nat.add_zero] at x0
    rw [hwl] at hcc
    rw [hwl]
    clear hspl hwl HS1
    obtain ⟨nn, hnn⟩ : ∃ z, (rdSg v).getD 0 = z := ⟨_, rfl⟩
    obtain ⟨ok, hok⟩ : ∃ z, (rdSg v).isSome = z := ⟨_, rfl⟩
    have HDK : Hid (dkNum v = if ok && inV nn then some nn else none) := Lib.hid (by rw [dkNum_sg, hnn, hok])
    have HNN := Lib.hid hnn
    have HOO := Lib.hid hok
    clear hnn hok
    have c0 := HF1.out.c0
    have c1 := HF1.out.c1
    go_wp2_with fail
    refine (specSg_v v _ vz HNN.out HOO.out).mono ?_
    rintro e w2 ⟨rfl, hw2⟩
    have hb2 : Below w1.heap.size w1 w2 := (by rw [← hw2]; exact Below.refl _ _)
    have HF2 := Lib.hid (HF1.out.call hb2)
    replace x0 := keep1 hb2 x0
    replace c0 := keep1 hb2 c0
    replace c1 := keep1 hb2 c1
    clear hb2 hw2 HF1
    have HM : Hid (ansT ds b line = whatB) := Lib.hid HAL.out
    go_wp2
    go_ret
    exact ⟨by rw [HM.out]; first | done | rfl, HF2.out.bel⟩
  · skip
    obtain ⟨v, x, hws⟩ : ∃ v x, ws = [v, x] := by
      match ws, hwl with
      | [q0, q1], _ => exact ⟨q0, q1, rfl⟩
    have E0 : Hid (∀ h : 0 < ws.length, ws[0] = v) := Lib.hid (fun h => by simp [hws])
    have vz : v.size ≤ 1048576 := HSPZ.out _ (by rw [hws]; simp)
    have E1 : Hid (∀ h : 1 < ws.length, ws[1] = x) := Lib.hid (fun h => by simp [hws])
    have xz : x.size ≤ 1048576 := HSPZ.out _ (by rw [hws]; simp)
    have HAL : Hid (ansT ds b line = ansL ds b [v, x]) := Lib.hid (by rw [HA.out, hws])
    clear hws HSPZ HOKS HA
    obtain ⟨bb, o, hA0, hbb0, x0⟩ := HS1.out.at_ (k := 0) (by omega)
    rw [E0.out (by omega)] at x0
    obtain ⟨bb1, o1, hA1, hbb1, x1⟩ := HS1.out.at_ (k := 1) (by omega)
    rw [E1.out (by omega)] at x1
    subst hA0
    injection hA1 with hA1
    injection hA1 with e1 e2
    subst e1 e2
    rw [Nat.add_zero] at x0
    rw [hwl] at hcc
    rw [hwl]
    clear hspl hwl HS1
    have hwr : IntKind.i64.wrap (1 : Int) = 1 := by rw [IntKind.wrap_i64]; omega
    have hwr : IntKind.i64.wrap ((2 : Int) - 1) = 1 := by rw [IntKind.wrap_i64]; omega
    have hwr2 : IntKind.i64.wrap (((2 : Nat) : Int) - 1) = 1 := by rw [IntKind.wrap_i64]; omega
    obtain ⟨nn, hnn⟩ : ∃ z, (rdSg x).getD 0 = z := ⟨_, rfl⟩
    obtain ⟨ok, hok⟩ : ∃ z, (rdSg x).isSome = z := ⟨_, rfl⟩
    have HDK : Hid (dkNum x = if ok && inV nn then some nn else none) := Lib.hid (by rw [dkNum_sg, hnn, hok])
    have HNN := Lib.hid hnn
    have HOO := Lib.hid hok
    clear hnn hok
    have c0 := HF1.out.c0
    have c1 := HF1.out.c1
    go_wp2_with fail
    refine (specSg_v x _ xz HNN.out HOO.out).mono ?_
    rintro e w2 ⟨rfl, hw2⟩
    have hb2 : Below w1.heap.size w1 w2 := (by rw [← hw2]; exact Below.refl _ _)
    have HF2 := Lib.hid (HF1.out.call hb2)
    replace x0 := keep1 hb2 x0
    replace x1 := keep1 hb2 x1
    replace c0 := keep1 hb2 c0
    replace c1 := keep1 hb2 c1
    clear hb2 hw2 HF1
    by_cases hm : v = makeB
    · subst hm
      unfold makeB at x0
      cases ok with
      | false =>
        have HDN : Hid (dkNum x = none) := Lib.hid (by rw [HDK.out]; rfl)
        obtain ⟨za, hza⟩ : ∃ z, rdV ds b x = z := ⟨_, rfl⟩
        have HZA := Lib.hid hza
        have HZB := HZA
        have hva : Hid (0 ≤ za → ∃ p : Nat, za = (p : Int) ∧ p < 4096 ∧ mIsV ds b (p : Int) = true) := Lib.hid (fun h => by rcases rdV_cases ds b x with e | ⟨p, hp, hi, e, _⟩; omega; exact ⟨p, by rw [← hza, e], hp, hi⟩)
        clear hza
        go_wp2_with fail
        go_region_held3 (fun w' => w'.cell? ⟨w.heap.size, 0, none⟩ = some (.slice A m c) ∧ w'.cell? ⟨w.heap.size, 1, none⟩ = some (.int .i64 b) ∧ w'.cell? ⟨bb, o + 1, none⟩ = some (.string x))
          (first | go_keep | exact ⟨c0, c1, x1⟩ | exact ⟨kc0, kc1, kx1⟩)
          (first
            | (go_at_call 32; refine (specRdV_any ds b x _ _ _ _ (HF2.out.sd.drewN 1) HV.out xz HZA.out).mono ?_; rintro e w3 ⟨rfl, hb⟩; replace hb : Below w2.heap.size w2 w3 := (by first | exact hb | exact undrew hb); have HF3 := Lib.hid (HF2.out.call hb); have kc0 := HF3.out.c0; have kc1 := HF3.out.c1; have kx0 := keep1 hb x0; have kx1 := keep1 hb x1; clear hb))
        clear c0 c1 x0 x1 HF2
        go_wp2_with fail
        refine wp_region_held_drew (S := fun w' => w'.cell? ⟨w.heap.size, 0, none⟩ = some (.slice A m c) ∧ w'.cell? ⟨w.heap.size, 1, none⟩ = some (.int .i64 b) ∧ w'.cell? ⟨bb, o + 1, none⟩ = some (.string x)) (by kernel_rfl) ⟨kc0, kc1, kx1⟩ (fun hHeld => ?_)
        refine wpAnyH_take (i := 0) (v := ?_) rfl (by kernel_rfl) (by kernel_rfl) (by kernel_rfl) (fun _ _ _ h => h) (Or.inl ⟨by kernel_rfl, ?_⟩) hHeld ?_
        rotate_left
        · intro wz hSw
          obtain ⟨s0, s1, s2⟩ := hSw
          first
          | (go_simp; done)
          | (go_simp; with_reducible rfl)
        try simp only [Act.put, List.setIfInBounds_toArray, List.set_cons_zero, List.set_cons_succ]
        refine wpAnyH_take (i := 1) (v := ?_) rfl (by kernel_rfl) (by kernel_rfl) (by kernel_rfl) (fun _ _ _ h => h) (Or.inl ⟨by kernel_rfl, ?_⟩) hHeld ?_
        rotate_left
        · intro wz hSw
          obtain ⟨s0, s1, s2⟩ := hSw
          first
          | (go_simp; done)
          | (go_simp; with_reducible rfl)
        try simp only [Act.put, List.setIfInBounds_toArray, List.set_cons_zero, List.set_cons_succ]
        refine wpAnyH_take (i := 2) (v := ?_) rfl (by kernel_rfl) (by kernel_rfl) (by kernel_rfl) (fun _ _ _ h => h) (Or.inl ⟨by kernel_rfl, ?_⟩) hHeld ?_
        rotate_left
        · intro wz hSw
          obtain ⟨s0, s1, s2⟩ := hSw
          first
          | (go_simp; done)
          | (go_simp; with_reducible rfl)
        try simp only [Act.put, List.setIfInBounds_toArray, List.set_cons_zero, List.set_cons_succ]
        refine wpAnyH_take (i := 3) (v := ?_) rfl (by kernel_rfl) (by kernel_rfl) (by kernel_rfl) (fun _ _ _ h => h) (Or.inl ⟨by kernel_rfl, ?_⟩) hHeld ?_
        rotate_left
        · intro wz hSw
          obtain ⟨s0, s1, s2⟩ := hSw
          first
          | (go_simp; done)
          | (go_simp; with_reducible rfl)
        try simp only [Act.put, List.setIfInBounds_toArray, List.set_cons_zero, List.set_cons_succ]
        refine wpAnyH_take (i := 4) (v := .int .i64 1) rfl (by kernel_rfl) (by kernel_rfl) (by kernel_rfl) (fun _ _ _ h => h) (Or.inl ⟨by kernel_rfl, ?_⟩) hHeld ?_
        · intro wz hSw
          obtain ⟨s0, s1, s2⟩ := hSw
          first
          | (go_simp; done)
          | (go_simp; omega)
          | (simp [go_sem]; done)
        try simp only [Act.put, List.setIfInBounds_toArray, List.set_cons_zero, List.set_cons_succ]
        refine wpAnyH_take (i := 5) (v := .pointer (some ⟨bb, o + 1, none⟩)) rfl (by kernel_rfl) (by kernel_rfl) (by kernel_rfl) (fun _ _ _ h => h) (Or.inl ⟨by kernel_rfl, ?_⟩) hHeld ?_
        · intro wz hSw
          obtain ⟨s0, s1, s2⟩ := hSw
          first
          | (go_simp; done)
          | (go_simp; omega)
          | (simp [go_sem]; done)
        try simp only [Act.put, List.setIfInBounds_toArray, List.set_cons_zero, List.set_cons_succ]
        refine wpAnyH_take (i := 6) (v := ?_) rfl (by kernel_rfl) (by kernel_rfl) (by kernel_rfl) (fun _ _ _ h => h) (Or.inl ⟨by kernel_rfl, ?_⟩) hHeld ?_
        rotate_left
        · intro wz hSw
          obtain ⟨s0, s1, s2⟩ := hSw
          first
          | (go_simp; done)
          | (go_simp; with_reducible rfl)
        try simp only [Act.put, List.setIfInBounds_toArray, List.set_cons_zero, List.set_cons_succ]
        refine wpAnyH_ready (rs := [7]) (by kernel_rfl) (by simp) ?_
        refine AllReadyH.cons rfl (fun K hK => ?_) AllReadyH.nil
        go_simp
        go_at_call 32
        refine (specRdV_any ds b x _ _ _ _ (HF3.out.sd.drewN 1) HV.out xz HZB.out).mono ?_
        rintro e w4 ⟨rfl, hb⟩
        replace hb : Below w3.heap.size w3 w4 := (by first | exact hb | exact undrew hb)
        have HF4 := Lib.hid (HF3.out.call hb)
        have jc0 := HF4.out.c0
        have jc1 := HF4.out.c1
        have jx0 := keep1 hb kx0
        have jx1 := keep1 hb kx1
        clear hb
        refine hK.out _ _ ⟨jc0, jc1, jx1⟩ (fun hHeld => ?_)
        clear hK K
        try simp only [Act.put, List.setIfInBounds_toArray, List.set_cons_zero, List.set_cons_succ]
        refine wpAnyH_take (i := 8) (v := ?_) rfl (by kernel_rfl) (by kernel_rfl) (by kernel_rfl) (fun _ _ _ h => h) (Or.inl ⟨by kernel_rfl, ?_⟩) hHeld ?_
        rotate_left
        · intro wz hSw
          obtain ⟨s0, s1, s2⟩ := hSw
          first
          | (go_simp; done)
          | (go_simp; with_reducible rfl)
        try simp only [Act.put, List.setIfInBounds_toArray, List.set_cons_zero, List.set_cons_succ]
        refine wpAnyH_done (by kernel_rfl) ?_ _
        try go_simp
        clear kc0 kc1 kx0 kx1 HF3 hHeld
        have HM : Hid (ansT ds b line = whatB) := Lib.hid (by rw [HAL.out, ansL2, if_pos rfl]; unfold mkS; rw [HDN.out])
        go_wp2
        go_ret
        exact ⟨by rw [HM.out]; first | done | rfl, HF4.out.bel⟩

      | true =>
        cases hin : inV nn with
        | false =>
          have HDN : Hid (dkNum x = none) := Lib.hid (by rw [HDK.out, hin]; rfl)
          have HIN : Hid ((decide ((-4096 : Int) ≤ nn) && decide (nn ≤ 4095)) = false) := Lib.hid hin
          clear hin
          go_wp2_with fail
          refine (inRange_v nn (-4096) 4095 _ HIN.out).mono ?_
          rintro e w' ⟨rfl, rfl⟩
          obtain ⟨za, hza⟩ : ∃ z, rdV ds b x = z := ⟨_, rfl⟩
          have HZA := Lib.hid hza
          have HZB := HZA
          have hva : Hid (0 ≤ za → ∃ p : Nat, za = (p : Int) ∧ p < 4096 ∧ mIsV ds b (p : Int) = true) := Lib.hid (fun h => by rcases rdV_cases ds b x with e | ⟨p, hp, hi, e, _⟩; omega; exact ⟨p, by rw [← hza, e], hp, hi⟩)
          clear hza
          go_wp2_with fail
          go_region_held3 (fun w' => w'.cell? ⟨w.heap.size, 0, none⟩ = some (.slice A m c) ∧ w'.cell? ⟨w.heap.size, 1, none⟩ = some (.int .i64 b) ∧ w'.cell? ⟨bb, o + 1, none⟩ = some (.string x))
            (first | go_keep | exact ⟨c0, c1, x1⟩ | exact ⟨kc0, kc1, kx1⟩)
            (first
              | (go_at_call 32; refine (specRdV_any ds b x _ _ _ _ (HF2.out.sd.drewN 1) HV.out xz HZA.out).mono ?_; rintro e w3 ⟨rfl, hb⟩; replace hb : Below w2.heap.size w2 w3 := (by first | exact hb | exact undrew hb); have HF3 := Lib.hid (HF2.out.call hb); have kc0 := HF3.out.c0; have kc1 := HF3.out.c1; have kx0 := keep1 hb x0; have kx1 := keep1 hb x1; clear hb))
          clear c0 c1 x0 x1 HF2
          go_wp2_with fail
          refine wp_region_held_drew (S := fun w' => w'.cell? ⟨w.heap.size, 0, none⟩ = some (.slice A m c) ∧ w'.cell? ⟨w.heap.size, 1, none⟩ = some (.int .i64 b) ∧ w'.cell? ⟨bb, o + 1, none⟩ = some (.string x)) (by kernel_rfl) ⟨kc0, kc1, kx1⟩ (fun hHeld => ?_)
          refine wpAnyH_take (i := 0) (v := ?_) rfl (by kernel_rfl) (by kernel_rfl) (by kernel_rfl) (fun _ _ _ h => h) (Or.inl ⟨by kernel_rfl, ?_⟩) hHeld ?_
          rotate_left
          · intro wz hSw
            obtain ⟨s0, s1, s2⟩ := hSw
            first
            | (go_simp; done)
            | (go_simp; with_reducible rfl)
          try simp only [Act.put, List.setIfInBounds_toArray, List.set_cons_zero, List.set_cons_succ]
          refine wpAnyH_take (i := 1) (v := ?_) rfl (by kernel_rfl) (by kernel_rfl) (by kernel_rfl) (fun _ _ _ h => h) (Or.inl ⟨by kernel_rfl, ?_⟩) hHeld ?_
          rotate_left
          · intro wz hSw
            obtain ⟨s0, s1, s2⟩ := hSw
            first
            | (go_simp; done)
            | (go_simp; with_reducible rfl)
          try simp only [Act.put, List.setIfInBounds_toArray, List.set_cons_zero, List.set_cons_succ]
          refine wpAnyH_take (i := 2) (v := ?_) rfl (by kernel_rfl) (by kernel_rfl) (by kernel_rfl) (fun _ _ _ h => h) (Or.inl ⟨by kernel_rfl, ?_⟩) hHeld ?_
          rotate_left
          · intro wz hSw
            obtain ⟨s0, s1, s2⟩ := hSw
            first
            | (go_simp; done)
            | (go_simp; with_reducible rfl)
          try simp only [Act.put, List.setIfInBounds_toArray, List.set_cons_zero, List.set_cons_succ]
          refine wpAnyH_take (i := 3) (v := ?_) rfl (by kernel_rfl) (by kernel_rfl) (by kernel_rfl) (fun _ _ _ h => h) (Or.inl ⟨by kernel_rfl, ?_⟩) hHeld ?_
          rotate_left
          · intro wz hSw
            obtain ⟨s0, s1, s2⟩ := hSw
            first
            | (go_simp; done)
            | (go_simp; with_reducible rfl)
          try simp only [Act.put, List.setIfInBounds_toArray, List.set_cons_zero, List.set_cons_succ]
          refine wpAnyH_take (i := 4) (v := .int .i64 1) rfl (by kernel_rfl) (by kernel_rfl) (by kernel_rfl) (fun _ _ _ h => h) (Or.inl ⟨by kernel_rfl, ?_⟩) hHeld ?_
          · intro wz hSw
            obtain ⟨s0, s1, s2⟩ := hSw
            first
            | (go_simp; done)
            | (go_simp; omega)
            | (simp [go_sem]; done)
          try simp only [Act.put, List.setIfInBounds_toArray, List.set_cons_zero, List.set_cons_succ]
          refine wpAnyH_take (i := 5) (v := .pointer (some ⟨bb, o + 1, none⟩)) rfl (by kernel_rfl) (by kernel_rfl) (by kernel_rfl) (fun _ _ _ h => h) (Or.inl ⟨by kernel_rfl, ?_⟩) hHeld ?_
          · intro wz hSw
            obtain ⟨s0, s1, s2⟩ := hSw
            first
            | (go_simp; done)
            | (go_simp; omega)
            | (simp [go_sem]; done)
          try simp only [Act.put, List.setIfInBounds_toArray, List.set_cons_zero, List.set_cons_succ]
          refine wpAnyH_take (i := 6) (v := ?_) rfl (by kernel_rfl) (by kernel_rfl) (by kernel_rfl) (fun _ _ _ h => h) (Or.inl ⟨by kernel_rfl, ?_⟩) hHeld ?_
          rotate_left
          · intro wz hSw
            obtain ⟨s0, s1, s2⟩ := hSw
            first
            | (go_simp; done)
            | (go_simp; with_reducible rfl)
          try simp only [Act.put, List.setIfInBounds_toArray, List.set_cons_zero, List.set_cons_succ]
          refine wpAnyH_ready (rs := [7]) (by kernel_rfl) (by simp) ?_
          refine AllReadyH.cons rfl (fun K hK => ?_) AllReadyH.nil
          go_simp
          go_at_call 32
          refine (specRdV_any ds b x _ _ _ _ (HF3.out.sd.drewN 1) HV.out xz HZB.out).mono ?_
          rintro e w4 ⟨rfl, hb⟩
          replace hb : Below w3.heap.size w3 w4 := (by first | exact hb | exact undrew hb)
          have HF4 := Lib.hid (HF3.out.call hb)
          have jc0 := HF4.out.c0
          have jc1 := HF4.out.c1
          have jx0 := keep1 hb kx0
          have jx1 := keep1 hb kx1
          clear hb
          refine hK.out _ _ ⟨jc0, jc1, jx1⟩ (fun hHeld => ?_)
          clear hK K
          try simp only [Act.put, List.setIfInBounds_toArray, List.set_cons_zero, List.set_cons_succ]
          refine wpAnyH_take (i := 8) (v := ?_) rfl (by kernel_rfl) (by kernel_rfl) (by kernel_rfl) (fun _ _ _ h => h) (Or.inl ⟨by kernel_rfl, ?_⟩) hHeld ?_
          rotate_left
          · intro wz hSw
            obtain ⟨s0, s1, s2⟩ := hSw
            first
            | (go_simp; done)
            | (go_simp; with_reducible rfl)
          try simp only [Act.put, List.setIfInBounds_toArray, List.set_cons_zero, List.set_cons_succ]
          refine wpAnyH_done (by kernel_rfl) ?_ _
          try go_simp
          clear kc0 kc1 kx0 kx1 HF3 hHeld
          have HM : Hid (ansT ds b line = whatB) := Lib.hid (by rw [HAL.out, ansL2, if_pos rfl]; unfold mkS; rw [HDN.out])
          go_wp2
          go_ret
          exact ⟨by rw [HM.out]; first | done | rfl, HF4.out.bel⟩

        | true =>
          have HDN : Hid (dkNum x = some nn) := Lib.hid (by rw [HDK.out, hin]; rfl)
          have HIN : Hid ((decide ((-4096 : Int) ≤ nn) && decide (nn ≤ 4095)) = true) := Lib.hid hin
          have HIV := Lib.hid hin
          have HM : Hid (ansT ds b line = mkT ds b nn) := Lib.hid (by rw [HAL.out, ansL2, if_pos rfl]; unfold mkS; rw [HDN.out])
          clear hin
          go_wp2_with fail
          refine (inRange_v nn (-4096) 4095 _ HIN.out).mono ?_
          rintro e w' ⟨rfl, rfl⟩
          go_wp2_with fail
          refine (madeText_v ds b nn _ _ _ _ HF2.out.sd HV.out HIV.out).mono ?_
          rintro e w3 ⟨rfl, hb⟩
          have HB3 := Lib.hid (HF2.out.after hb)
          clear hb
          go_wp2
          go_ret
          exact ⟨by rw [HM.out]; first | done | rfl, HB3.out⟩
    have nm := dk_noS (l := [109, 97, 107, 101]) hm
    have HNM := Lib.hid hm
    clear hm
    obtain ⟨za, hza⟩ : ∃ z, rdV ds b x = z := ⟨_, rfl⟩
    have HZA := Lib.hid hza
    have HZB := HZA
    have hva : Hid (0 ≤ za → ∃ p : Nat, za = (p : Int) ∧ p < 4096 ∧ mIsV ds b (p : Int) = true) := Lib.hid (fun h => by rcases rdV_cases ds b x with e | ⟨p, hp, hi, e, _⟩; omega; exact ⟨p, by rw [← hza, e], hp, hi⟩)
    clear hza
    go_wp2_with fail
    go_region_held3 (fun w' => w'.cell? ⟨w.heap.size, 0, none⟩ = some (.slice A m c) ∧ w'.cell? ⟨w.heap.size, 1, none⟩ = some (.int .i64 b) ∧ w'.cell? ⟨bb, o + 1, none⟩ = some (.string x))
      (first | go_keep | exact ⟨c0, c1, x1⟩ | exact ⟨kc0, kc1, kx1⟩)
      (first
        | (go_at_call 32; refine (specRdV_any ds b x _ _ _ _ (HF2.out.sd.drewN 1) HV.out xz HZA.out).mono ?_; rintro e w3 ⟨rfl, hb⟩; replace hb : Below w2.heap.size w2 w3 := (by first | exact hb | exact undrew hb); have HF3 := Lib.hid (HF2.out.call hb); have kc0 := HF3.out.c0; have kc1 := HF3.out.c1; have kx0 := keep1 hb x0; have kx1 := keep1 hb x1; clear hb))
    clear c0 c1 x0 x1 HF2
    go_wp2_with fail
    refine wp_region_held_drew (S := fun w' => w'.cell? ⟨w.heap.size, 0, none⟩ = some (.slice A m c) ∧ w'.cell? ⟨w.heap.size, 1, none⟩ = some (.int .i64 b) ∧ w'.cell? ⟨bb, o + 1, none⟩ = some (.string x)) (by kernel_rfl) ⟨kc0, kc1, kx1⟩ (fun hHeld => ?_)
    refine wpAnyH_take (i := 0) (v := ?_) rfl (by kernel_rfl) (by kernel_rfl) (by kernel_rfl) (fun _ _ _ h => h) (Or.inl ⟨by kernel_rfl, ?_⟩) hHeld ?_
    rotate_left
    · intro wz hSw
      obtain ⟨s0, s1, s2⟩ := hSw
      first
      | (go_simp; done)
      | (go_simp; with_reducible rfl)
    try simp only [Act.put, List.setIfInBounds_toArray, List.set_cons_zero, List.set_cons_succ]
    refine wpAnyH_take (i := 1) (v := ?_) rfl (by kernel_rfl) (by kernel_rfl) (by kernel_rfl) (fun _ _ _ h => h) (Or.inl ⟨by kernel_rfl, ?_⟩) hHeld ?_
    rotate_left
    · intro wz hSw
      obtain ⟨s0, s1, s2⟩ := hSw
      first
      | (go_simp; done)
      | (go_simp; with_reducible rfl)
    try simp only [Act.put, List.setIfInBounds_toArray, List.set_cons_zero, List.set_cons_succ]
    refine wpAnyH_take (i := 2) (v := ?_) rfl (by kernel_rfl) (by kernel_rfl) (by kernel_rfl) (fun _ _ _ h => h) (Or.inl ⟨by kernel_rfl, ?_⟩) hHeld ?_
    rotate_left
    · intro wz hSw
      obtain ⟨s0, s1, s2⟩ := hSw
      first
      | (go_simp; done)
      | (go_simp; with_reducible rfl)
    try simp only [Act.put, List.setIfInBounds_toArray, List.set_cons_zero, List.set_cons_succ]
    refine wpAnyH_take (i := 3) (v := ?_) rfl (by kernel_rfl) (by kernel_rfl) (by kernel_rfl) (fun _ _ _ h => h) (Or.inl ⟨by kernel_rfl, ?_⟩) hHeld ?_
    rotate_left
    · intro wz hSw
      obtain ⟨s0, s1, s2⟩ := hSw
      first
      | (go_simp; done)
      | (go_simp; with_reducible rfl)
    try simp only [Act.put, List.setIfInBounds_toArray, List.set_cons_zero, List.set_cons_succ]
    refine wpAnyH_take (i := 4) (v := .int .i64 1) rfl (by kernel_rfl) (by kernel_rfl) (by kernel_rfl) (fun _ _ _ h => h) (Or.inl ⟨by kernel_rfl, ?_⟩) hHeld ?_
    · intro wz hSw
      obtain ⟨s0, s1, s2⟩ := hSw
      first
      | (go_simp; done)
      | (go_simp; omega)
      | (simp [go_sem]; done)
    try simp only [Act.put, List.setIfInBounds_toArray, List.set_cons_zero, List.set_cons_succ]
    refine wpAnyH_take (i := 5) (v := .pointer (some ⟨bb, o + 1, none⟩)) rfl (by kernel_rfl) (by kernel_rfl) (by kernel_rfl) (fun _ _ _ h => h) (Or.inl ⟨by kernel_rfl, ?_⟩) hHeld ?_
    · intro wz hSw
      obtain ⟨s0, s1, s2⟩ := hSw
      first
      | (go_simp; done)
      | (go_simp; omega)
      | (simp [go_sem]; done)
    try simp only [Act.put, List.setIfInBounds_toArray, List.set_cons_zero, List.set_cons_succ]
    refine wpAnyH_take (i := 6) (v := ?_) rfl (by kernel_rfl) (by kernel_rfl) (by kernel_rfl) (fun _ _ _ h => h) (Or.inl ⟨by kernel_rfl, ?_⟩) hHeld ?_
    rotate_left
    · intro wz hSw
      obtain ⟨s0, s1, s2⟩ := hSw
      first
      | (go_simp; done)
      | (go_simp; with_reducible rfl)
    try simp only [Act.put, List.setIfInBounds_toArray, List.set_cons_zero, List.set_cons_succ]
    refine wpAnyH_ready (rs := [7]) (by kernel_rfl) (by simp) ?_
    refine AllReadyH.cons rfl (fun K hK => ?_) AllReadyH.nil
    go_simp
    go_at_call 32
    refine (specRdV_any ds b x _ _ _ _ (HF3.out.sd.drewN 1) HV.out xz HZB.out).mono ?_
    rintro e w4 ⟨rfl, hb⟩
    replace hb : Below w3.heap.size w3 w4 := (by first | exact hb | exact undrew hb)
    have HF4 := Lib.hid (HF3.out.call hb)
    have jc0 := HF4.out.c0
    have jc1 := HF4.out.c1
    have jx0 := keep1 hb kx0
    have jx1 := keep1 hb kx1
    clear hb
    refine hK.out _ _ ⟨jc0, jc1, jx1⟩ (fun hHeld => ?_)
    clear hK K
    try simp only [Act.put, List.setIfInBounds_toArray, List.set_cons_zero, List.set_cons_succ]
    refine wpAnyH_take (i := 8) (v := ?_) rfl (by kernel_rfl) (by kernel_rfl) (by kernel_rfl) (fun _ _ _ h => h) (Or.inl ⟨by kernel_rfl, ?_⟩) hHeld ?_
    rotate_left
    · intro wz hSw
      obtain ⟨s0, s1, s2⟩ := hSw
      first
      | (go_simp; done)
      | (go_simp; with_reducible rfl)
    try simp only [Act.put, List.setIfInBounds_toArray, List.set_cons_zero, List.set_cons_succ]
    refine wpAnyH_done (by kernel_rfl) ?_ _
    try go_simp
    clear kc0 kc1 kx0 kx1 HF3 hHeld
    by_cases ha : 0 ≤ za
    · obtain ⟨p, rfl, hp4, hpv⟩ := hva.out ha
      have HPV := Lib.hid hpv
      clear hpv
      by_cases hvalueB : v = valueB
      · subst hvalueB
        unfold valueB at jx0
        have HM0 : Hid (ansT ds b line = itoaB (p : Int)) := Lib.hid (by rw [HAL.out, ansL2, if_neg (by decide), HZA.out, if_pos ha]; unfold oneT; rw [if_pos rfl])
        obtain ⟨t, ht⟩ : ∃ t, decB p = t := ⟨_, rfl⟩
        have HM : Hid (ansT ds b line = t) := Lib.hid (by rw [HM0.out, itoaB_pos, ht])
        have HNUM : Hid (∀ w, Calls Tryz.prog 33 #[.int .i64 (p : Int)] w fun e w' => e = .returned (.string t) ∧ w = w') := Lib.hid (fun w => by rw [← ht]; exact number_any p _ w rfl (by omega))
        clear ht
        go_wp2_with fail
        refine (HNUM.out _).mono ?_
        rintro e w5 ⟨rfl, rfl⟩
        go_wp2
        go_ret
        exact ⟨by rw [HM.out]; first | done | rfl, HF4.out.bel⟩
      have nvalueB := dk_noS (l := [118, 97, 108, 117, 101]) hvalueB
      by_cases hshowB : v = showB
      · subst hshowB
        unfold showB at jx0
        have HM0 : Hid (ansT ds b line = mShowV ds b (p : Int)) := Lib.hid (by rw [HAL.out, ansL2, if_neg (by decide), HZA.out, if_pos ha]; unfold oneT; rw [if_neg (by decide), if_pos rfl])
        obtain ⟨t, ht⟩ : ∃ t, mShowV ds b (p : Int) = t := ⟨_, rfl⟩
        have HTT := Lib.hid ht
        have HM : Hid (ansT ds b line = t) := Lib.hid (by rw [HM0.out, ht])
        clear ht
        go_wp2_with fail
        refine (shown_v ds b p _ _ _ _ HF4.out.sd HPV.out HTT.out).mono ?_
        rintro e w5 ⟨rfl, hb⟩
        have HB5 := Lib.hid (HF4.out.after hb)
        clear hb
        go_wp2
        go_ret
        exact ⟨by rw [HM.out]; first | done | rfl, HB5.out⟩
      have nshowB := dk_noS (l := [115, 104, 111, 119]) hshowB
      by_cases hshortB : v = shortB
      · subst hshortB
        unfold shortB at jx0
        have HM0 : Hid (ansT ds b line = mShowSh ds b (p : Int)) := Lib.hid (by rw [HAL.out, ansL2, if_neg (by decide), HZA.out, if_pos ha]; unfold oneT; rw [if_neg (by decide), if_neg (by decide), if_pos rfl])
        obtain ⟨t, ht⟩ : ∃ t, mShowSh ds b (p : Int) = t := ⟨_, rfl⟩
        have HTT := Lib.hid ht
        have HM : Hid (ansT ds b line = t) := Lib.hid (by rw [HM0.out, ht])
        clear ht
        go_wp2_with fail
        refine (specShowSh_v ds b p _ _ _ _ HF4.out.sd HTT.out).mono ?_
        rintro e w5 ⟨rfl, hb⟩
        have HB5 := Lib.hid (HF4.out.after hb)
        clear hb
        go_wp2
        go_ret
        exact ⟨by rw [HM.out]; first | done | rfl, HB5.out⟩
      have nshortB := dk_noS (l := [115, 104, 111, 114, 116]) hshortB
      by_cases hnotB : v = notB
      · subst hnotB
        unfold notB at jx0
        have HM0 : Hid (ansT ds b line = mShowV ds b (mInv ds b (p : Int))) := Lib.hid (by rw [HAL.out, ansL2, if_neg (by decide), HZA.out, if_pos ha]; unfold oneT; rw [if_neg (by decide), if_neg (by decide), if_neg (by decide), if_pos rfl])
        obtain ⟨r, hr⟩ : ∃ r, nl (mWhole ds b) p = r := ⟨_, rfl⟩
        have HRV : Hid (mIsV ds b (r : Int) = true) := Lib.hid (by rw [← hr]; exact v_inv HV.out)
        have HREQ : Hid (mInv ds b (p : Int) = (r : Int)) := Lib.hid (by rw [← hr]; exact inv_is HPV.out rfl)
        have HRR := Lib.hid hr
        obtain ⟨t, ht⟩ : ∃ t, mShowV ds b (r : Int) = t := ⟨_, rfl⟩
        have HTT := Lib.hid ht
        have HM : Hid (ansT ds b line = t) := Lib.hid (by rw [HM0.out, HREQ.out, ht])
        clear hr ht
        go_wp2_with fail
        go_region_held3 (fun w' => w'.cell? ⟨w.heap.size, 0, none⟩ = some (.slice A m c) ∧ w'.cell? ⟨w.heap.size, 1, none⟩ = some (.int .i64 b))
          (first | go_keep | exact ⟨jc0, jc1⟩ | exact ⟨d0, d1⟩ | exact ⟨e0, e1⟩)
          (first
            | (go_at_call 36; refine (specInv_v ds b p _ _ _ _ (HF4.out.sd.drewN 1) HREQ.out).mono ?_; rintro e w5 ⟨rfl, hb⟩; replace hb : Below w4.heap.size w4 w5 := (by first | exact hb | exact undrew hb); have HF5 := Lib.hid (HF4.out.call hb); have d0 := HF5.out.c0; have d1 := HF5.out.c1; clear hb)
            | (go_at_call 34; refine (shown_v ds b r _ _ _ _ HF5.out.sd HRV.out HTT.out).mono ?_; rintro e w6 ⟨rfl, hb⟩; have HB6 := Lib.hid (HF5.out.after hb); have e0 := keep1 hb d0; have e1 := keep1 hb d1; clear hb))
        go_wp2
        go_ret
        exact ⟨by rw [HM.out]; first | done | rfl, HB6.out⟩
      have nnotB := dk_noS (l := [110, 111, 116]) hnotB
      have HM : Hid (ansT ds b line = whatB) := Lib.hid (by rw [HAL.out, ansL2, if_neg HNM.out, HZA.out, if_pos ha]; unfold oneT; rw [if_neg hvalueB, if_neg hshowB, if_neg hshortB, if_neg hnotB])
      go_wp2
      go_ret
      exact ⟨by rw [HM.out]; first | done | rfl, HF4.out.bel⟩
    have HM : Hid (ansT ds b line = whatB) := Lib.hid (by rw [HAL.out, ansL2, if_neg HNM.out, HZA.out, if_neg ha])
    have ha' : za < 0 := by omega
    by_cases hvalueB : v = valueB
    · subst hvalueB
      unfold valueB at jx0
      go_wp2
      go_ret
      exact ⟨by rw [HM.out]; first | done | rfl, HF4.out.bel⟩
    have nvalueB := dk_noS (l := [118, 97, 108, 117, 101]) hvalueB
    by_cases hshowB : v = showB
    · subst hshowB
      unfold showB at jx0
      go_wp2
      go_ret
      exact ⟨by rw [HM.out]; first | done | rfl, HF4.out.bel⟩
    have nshowB := dk_noS (l := [115, 104, 111, 119]) hshowB
    by_cases hshortB : v = shortB
    · subst hshortB
      unfold shortB at jx0
      go_wp2
      go_ret
      exact ⟨by rw [HM.out]; first | done | rfl, HF4.out.bel⟩
    have nshortB := dk_noS (l := [115, 104, 111, 114, 116]) hshortB
    by_cases hnotB : v = notB
    · subst hnotB
      unfold notB at jx0
      go_wp2
      go_ret
      exact ⟨by rw [HM.out]; first | done | rfl, HF4.out.bel⟩
    have nnotB := dk_noS (l := [110, 111, 116]) hnotB
    go_wp2
    go_ret
    exact ⟨by rw [HM.out]; first | done | rfl, HF4.out.bel⟩
  · skip
    obtain ⟨v, x, y, hws⟩ : ∃ v x y, ws = [v, x, y] := by
      match ws, hwl with
      | [q0, q1, q2], _ => exact ⟨q0, q1, q2, rfl⟩
    have E0 : Hid (∀ h : 0 < ws.length, ws[0] = v) := Lib.hid (fun h => by simp [hws])
    have vz : v.size ≤ 1048576 := HSPZ.out _ (by rw [hws]; simp)
    have E1 : Hid (∀ h : 1 < ws.length, ws[1] = x) := Lib.hid (fun h => by simp [hws])
    have xz : x.size ≤ 1048576 := HSPZ.out _ (by rw [hws]; simp)
    have E2 : Hid (∀ h : 2 < ws.length, ws[2] = y) := Lib.hid (fun h => by simp [hws])
    have yz : y.size ≤ 1048576 := HSPZ.out _ (by rw [hws]; simp)
    have HAL : Hid (ansT ds b line = ansL ds b [v, x, y]) := Lib.hid (by rw [HA.out, hws])
    clear hws HSPZ HOKS HA
    obtain ⟨bb, o, hA0, hbb0, x0⟩ := HS1.out.at_ (k := 0) (by omega)
    rw [E0.out (by omega)] at x0
    obtain ⟨bb1, o1, hA1, hbb1, x1⟩ := HS1.out.at_ (k := 1) (by omega)
    rw [E1.out (by omega)] at x1
    obtain ⟨bb2, o2, hA2, hbb2, x2⟩ := HS1.out.at_ (k := 2) (by omega)
    rw [E2.out (by omega)] at x2
    subst hA0
    injection hA1 with hA1
    injection hA1 with e1 e2
    subst e1 e2
    injection hA2 with hA2
    injection hA2 with e1 e2
    subst e1 e2
    rw [Nat.add_zero] at x0
    rw [hwl] at hcc
    rw [hwl]
    clear hspl hwl HS1
    have hwr : IntKind.i64.wrap (2 : Int) = 2 := by rw [IntKind.wrap_i64]; omega
    have hwr : IntKind.i64.wrap ((3 : Int) - 1) = 2 := by rw [IntKind.wrap_i64]; omega
    have hwr2 : IntKind.i64.wrap (((3 : Nat) : Int) - 1) = 2 := by rw [IntKind.wrap_i64]; omega
    obtain ⟨nn, hnn⟩ : ∃ z, (rdSg y).getD 0 = z := ⟨_, rfl⟩
    obtain ⟨ok, hok⟩ : ∃ z, (rdSg y).isSome = z := ⟨_, rfl⟩
    have HDK : Hid (dkNum y = if ok && inV nn then some nn else none) := Lib.hid (by rw [dkNum_sg, hnn, hok])
    have HNN := Lib.hid hnn
    have HOO := Lib.hid hok
    clear hnn hok
    have c0 := HF1.out.c0
    have c1 := HF1.out.c1
    go_wp2_with fail
    refine (specSg_v y _ yz HNN.out HOO.out).mono ?_
    rintro e w2 ⟨rfl, hw2⟩
    have hb2 : Below w1.heap.size w1 w2 := (by rw [← hw2]; exact Below.refl _ _)
    have HF2 := Lib.hid (HF1.out.call hb2)
    replace x0 := keep1 hb2 x0
    replace x1 := keep1 hb2 x1
    replace x2 := keep1 hb2 x2
    replace c0 := keep1 hb2 c0
    replace c1 := keep1 hb2 c1
    clear hb2 hw2 HF1
    obtain ⟨za, hza⟩ : ∃ z, rdV ds b x = z := ⟨_, rfl⟩
    have HZA := Lib.hid hza
    obtain ⟨zb, hzb⟩ : ∃ z, rdV ds b y = z := ⟨_, rfl⟩
    have HZB := Lib.hid hzb
    have hva : Hid (0 ≤ za → ∃ p : Nat, za = (p : Int) ∧ p < 4096 ∧ mIsV ds b (p : Int) = true) := Lib.hid (fun h => by rcases rdV_cases ds b x with e | ⟨p, hp, hi, e, _⟩; omega; exact ⟨p, by rw [← hza, e], hp, hi⟩)
    have hvb : Hid (0 ≤ zb → ∃ p : Nat, zb = (p : Int) ∧ p < 4096 ∧ mIsV ds b (p : Int) = true) := Lib.hid (fun h => by rcases rdV_cases ds b y with e | ⟨p, hp, hi, e, _⟩; omega; exact ⟨p, by rw [← hzb, e], hp, hi⟩)
    clear hza hzb
    go_wp2_with fail
    go_region_held3 (fun w' => w'.cell? ⟨w.heap.size, 0, none⟩ = some (.slice A m c) ∧ w'.cell? ⟨w.heap.size, 1, none⟩ = some (.int .i64 b) ∧ w'.cell? ⟨bb, o + 1, none⟩ = some (.string x))
      (first | go_keep | exact ⟨c0, c1, x1⟩ | exact ⟨kc0, kc1, kx1⟩)
      (first
        | (go_at_call 32; refine (specRdV_any ds b x _ _ _ _ (HF2.out.sd.drewN 1) HV.out xz HZA.out).mono ?_; rintro e w3 ⟨rfl, hb⟩; replace hb : Below w2.heap.size w2 w3 := (by first | exact hb | exact undrew hb); have HF3 := Lib.hid (HF2.out.call hb); have kc0 := HF3.out.c0; have kc1 := HF3.out.c1; have kx0 := keep1 hb x0; have kx1 := keep1 hb x1; have kx2 := keep1 hb x2; clear hb))
    clear c0 c1 x0 x1 x2 HF2
    go_wp2_with fail
    refine wp_region_held_drew (S := fun w' => w'.cell? ⟨w.heap.size, 0, none⟩ = some (.slice A m c) ∧ w'.cell? ⟨w.heap.size, 1, none⟩ = some (.int .i64 b) ∧ w'.cell? ⟨bb, o + 2, none⟩ = some (.string y)) (by kernel_rfl) ⟨kc0, kc1, kx2⟩ (fun hHeld => ?_)
    refine wpAnyH_take (i := 0) (v := ?_) rfl (by kernel_rfl) (by kernel_rfl) (by kernel_rfl) (fun _ _ _ h => h) (Or.inl ⟨by kernel_rfl, ?_⟩) hHeld ?_
    rotate_left
    · intro wz hSw
      obtain ⟨s0, s1, s2⟩ := hSw
      first
      | (go_simp; done)
      | (go_simp; with_reducible rfl)
    try simp only [Act.put, List.setIfInBounds_toArray, List.set_cons_zero, List.set_cons_succ]
    refine wpAnyH_take (i := 1) (v := ?_) rfl (by kernel_rfl) (by kernel_rfl) (by kernel_rfl) (fun _ _ _ h => h) (Or.inl ⟨by kernel_rfl, ?_⟩) hHeld ?_
    rotate_left
    · intro wz hSw
      obtain ⟨s0, s1, s2⟩ := hSw
      first
      | (go_simp; done)
      | (go_simp; with_reducible rfl)
    try simp only [Act.put, List.setIfInBounds_toArray, List.set_cons_zero, List.set_cons_succ]
    refine wpAnyH_take (i := 2) (v := ?_) rfl (by kernel_rfl) (by kernel_rfl) (by kernel_rfl) (fun _ _ _ h => h) (Or.inl ⟨by kernel_rfl, ?_⟩) hHeld ?_
    rotate_left
    · intro wz hSw
      obtain ⟨s0, s1, s2⟩ := hSw
      first
      | (go_simp; done)
      | (go_simp; with_reducible rfl)
    try simp only [Act.put, List.setIfInBounds_toArray, List.set_cons_zero, List.set_cons_succ]
    refine wpAnyH_take (i := 3) (v := ?_) rfl (by kernel_rfl) (by kernel_rfl) (by kernel_rfl) (fun _ _ _ h => h) (Or.inl ⟨by kernel_rfl, ?_⟩) hHeld ?_
    rotate_left
    · intro wz hSw
      obtain ⟨s0, s1, s2⟩ := hSw
      first
      | (go_simp; done)
      | (go_simp; with_reducible rfl)
    try simp only [Act.put, List.setIfInBounds_toArray, List.set_cons_zero, List.set_cons_succ]
    refine wpAnyH_take (i := 4) (v := .int .i64 2) rfl (by kernel_rfl) (by kernel_rfl) (by kernel_rfl) (fun _ _ _ h => h) (Or.inl ⟨by kernel_rfl, ?_⟩) hHeld ?_
    · intro wz hSw
      obtain ⟨s0, s1, s2⟩ := hSw
      first
      | (go_simp; done)
      | (go_simp; omega)
      | (simp [go_sem]; done)
    try simp only [Act.put, List.setIfInBounds_toArray, List.set_cons_zero, List.set_cons_succ]
    refine wpAnyH_take (i := 5) (v := .pointer (some ⟨bb, o + 2, none⟩)) rfl (by kernel_rfl) (by kernel_rfl) (by kernel_rfl) (fun _ _ _ h => h) (Or.inl ⟨by kernel_rfl, ?_⟩) hHeld ?_
    · intro wz hSw
      obtain ⟨s0, s1, s2⟩ := hSw
      first
      | (go_simp; done)
      | (go_simp; omega)
      | (simp [go_sem]; done)
    try simp only [Act.put, List.setIfInBounds_toArray, List.set_cons_zero, List.set_cons_succ]
    refine wpAnyH_take (i := 6) (v := ?_) rfl (by kernel_rfl) (by kernel_rfl) (by kernel_rfl) (fun _ _ _ h => h) (Or.inl ⟨by kernel_rfl, ?_⟩) hHeld ?_
    rotate_left
    · intro wz hSw
      obtain ⟨s0, s1, s2⟩ := hSw
      first
      | (go_simp; done)
      | (go_simp; with_reducible rfl)
    try simp only [Act.put, List.setIfInBounds_toArray, List.set_cons_zero, List.set_cons_succ]
    refine wpAnyH_ready (rs := [7]) (by kernel_rfl) (by simp) ?_
    refine AllReadyH.cons rfl (fun K hK => ?_) AllReadyH.nil
    go_simp
    go_at_call 32
    refine (specRdV_any ds b y _ _ _ _ (HF3.out.sd.drewN 1) HV.out yz HZB.out).mono ?_
    rintro e w4 ⟨rfl, hb⟩
    replace hb : Below w3.heap.size w3 w4 := (by first | exact hb | exact undrew hb)
    have HF4 := Lib.hid (HF3.out.call hb)
    have jc0 := HF4.out.c0
    have jc1 := HF4.out.c1
    have jx0 := keep1 hb kx0
    have jx1 := keep1 hb kx1
    have jx2 := keep1 hb kx2
    clear hb
    refine hK.out _ _ ⟨jc0, jc1, jx2⟩ (fun hHeld => ?_)
    clear hK K
    try simp only [Act.put, List.setIfInBounds_toArray, List.set_cons_zero, List.set_cons_succ]
    refine wpAnyH_take (i := 8) (v := ?_) rfl (by kernel_rfl) (by kernel_rfl) (by kernel_rfl) (fun _ _ _ h => h) (Or.inl ⟨by kernel_rfl, ?_⟩) hHeld ?_
    rotate_left
    · intro wz hSw
      obtain ⟨s0, s1, s2⟩ := hSw
      first
      | (go_simp; done)
      | (go_simp; with_reducible rfl)
    try simp only [Act.put, List.setIfInBounds_toArray, List.set_cons_zero, List.set_cons_succ]
    refine wpAnyH_done (by kernel_rfl) ?_ _
    try go_simp
    clear kc0 kc1 kx0 kx1 kx2 HF3 hHeld
    by_cases ha : 0 ≤ za
    · by_cases hbb : 0 ≤ zb
      · obtain ⟨p, rfl, hp4, hpv⟩ := hva.out ha
        obtain ⟨q, rfl, hq4, hqv⟩ := hvb.out hbb
        have HPV := Lib.hid hpv
        have HQV := Lib.hid hqv
        clear hpv hqv
        by_cases horB : v = orB
        · subst horB
          unfold orB at jx0
          have HM0 : Hid (ansT ds b line = mShowV ds b (mOp orN ds b (p : Int) (q : Int))) := Lib.hid (by rw [HAL.out, ansL3, HZA.out, HZB.out, if_pos ⟨ha, hbb⟩]; unfold twoT; rw [if_pos rfl])
          obtain ⟨r, hr⟩ : ∃ r, p ||| q = r := ⟨_, rfl⟩
          have HRV : Hid (mIsV ds b (r : Int) = true) := Lib.hid (by rw [← hr]; exact v_or HPV.out HQV.out)
          have HREQ : Hid (mOp orN ds b (p : Int) (q : Int) = (r : Int)) := Lib.hid (by rw [← hr]; exact op_is HPV.out HQV.out rfl)
          have HRR := Lib.hid hr
          obtain ⟨t, ht⟩ : ∃ t, mShowV ds b (r : Int) = t := ⟨_, rfl⟩
          have HTT := Lib.hid ht
          have HM : Hid (ansT ds b line = t) := Lib.hid (by rw [HM0.out, HREQ.out, ht])
          clear hr ht
          go_wp2_with fail
          go_region_held3 (fun w' => w'.cell? ⟨w.heap.size, 0, none⟩ = some (.slice A m c) ∧ w'.cell? ⟨w.heap.size, 1, none⟩ = some (.int .i64 b))
            (first | go_keep | exact ⟨jc0, jc1⟩ | exact ⟨d0, d1⟩ | exact ⟨e0, e1⟩)
            (first
              | (go_at_call 37; refine (either_any p q _ hp4 hq4 HRR.out).mono ?_; rintro e w5 ⟨rfl, hw5⟩; have hb : Below w4.heap.size w4 w5 := (by rw [← hw5]; exact (Below.refl _ _).drew); have HF5 := Lib.hid (HF4.out.call hb); have d0 := HF5.out.c0; have d1 := HF5.out.c1; clear hb)
              | (go_at_call 34; refine (shown_v ds b r _ _ _ _ HF5.out.sd HRV.out HTT.out).mono ?_; rintro e w6 ⟨rfl, hb⟩; have HB6 := Lib.hid (HF5.out.after hb); have e0 := keep1 hb d0; have e1 := keep1 hb d1; clear hb))
          go_wp2
          go_ret
          exact ⟨by rw [HM.out]; first | done | rfl, HB6.out⟩
        have norB := dk_noS (l := [111, 114]) horB
        by_cases handB : v = andB
        · subst handB
          unfold andB at jx0
          have HM0 : Hid (ansT ds b line = mShowV ds b (mOp andN ds b (p : Int) (q : Int))) := Lib.hid (by rw [HAL.out, ansL3, HZA.out, HZB.out, if_pos ⟨ha, hbb⟩]; unfold twoT; rw [if_neg (by decide), if_pos rfl])
          obtain ⟨r, hr⟩ : ∃ r, p &&& q = r := ⟨_, rfl⟩
          have HRV : Hid (mIsV ds b (r : Int) = true) := Lib.hid (by rw [← hr]; exact v_and HPV.out HQV.out)
          have HREQ : Hid (mOp andN ds b (p : Int) (q : Int) = (r : Int)) := Lib.hid (by rw [← hr]; exact op_is HPV.out HQV.out rfl)
          have HRR := Lib.hid hr
          obtain ⟨t, ht⟩ : ∃ t, mShowV ds b (r : Int) = t := ⟨_, rfl⟩
          have HTT := Lib.hid ht
          have HM : Hid (ansT ds b line = t) := Lib.hid (by rw [HM0.out, HREQ.out, ht])
          clear hr ht
          go_wp2_with fail
          go_region_held3 (fun w' => w'.cell? ⟨w.heap.size, 0, none⟩ = some (.slice A m c) ∧ w'.cell? ⟨w.heap.size, 1, none⟩ = some (.int .i64 b))
            (first | go_keep | exact ⟨jc0, jc1⟩ | exact ⟨d0, d1⟩ | exact ⟨e0, e1⟩)
            (first
              | (go_at_call 38; refine (both_v p q _ hp4 hq4 HRR.out).mono ?_; rintro e w5 ⟨rfl, hw5⟩; have hb : Below w4.heap.size w4 w5 := (by rw [← hw5]; exact (Below.refl _ _).drew); have HF5 := Lib.hid (HF4.out.call hb); have d0 := HF5.out.c0; have d1 := HF5.out.c1; clear hb)
              | (go_at_call 34; refine (shown_v ds b r _ _ _ _ HF5.out.sd HRV.out HTT.out).mono ?_; rintro e w6 ⟨rfl, hb⟩; have HB6 := Lib.hid (HF5.out.after hb); have e0 := keep1 hb d0; have e1 := keep1 hb d1; clear hb))
          go_wp2
          go_ret
          exact ⟨by rw [HM.out]; first | done | rfl, HB6.out⟩
        have nandB := dk_noS (l := [97, 110, 100]) handB
        by_cases hlessB : v = lessB
        · subst hlessB
          unfold lessB at jx0
          have HM0 : Hid (ansT ds b line = mShowV ds b (mOp nl ds b (p : Int) (q : Int))) := Lib.hid (by rw [HAL.out, ansL3, HZA.out, HZB.out, if_pos ⟨ha, hbb⟩]; unfold twoT; rw [if_neg (by decide), if_neg (by decide), if_pos rfl])
          obtain ⟨r, hr⟩ : ∃ r, nl p q = r := ⟨_, rfl⟩
          have HRV : Hid (mIsV ds b (r : Int) = true) := Lib.hid (by rw [← hr]; exact v_nl HPV.out)
          have HREQ : Hid (mOp nl ds b (p : Int) (q : Int) = (r : Int)) := Lib.hid (by rw [← hr]; exact op_is HPV.out HQV.out rfl)
          have HRR := Lib.hid hr
          obtain ⟨t, ht⟩ : ∃ t, mShowV ds b (r : Int) = t := ⟨_, rfl⟩
          have HTT := Lib.hid ht
          have HM : Hid (ansT ds b line = t) := Lib.hid (by rw [HM0.out, HREQ.out, ht])
          clear hr ht
          go_wp2_with fail
          go_region_held3 (fun w' => w'.cell? ⟨w.heap.size, 0, none⟩ = some (.slice A m c) ∧ w'.cell? ⟨w.heap.size, 1, none⟩ = some (.int .i64 b))
            (first | go_keep | exact ⟨jc0, jc1⟩ | exact ⟨d0, d1⟩ | exact ⟨e0, e1⟩)
            (first
              | (go_at_call 39; refine (less_any p q _ hp4 hq4 HRR.out).mono ?_; rintro e w5 ⟨rfl, hw5⟩; have hb : Below w4.heap.size w4 w5 := (by rw [← hw5]; exact (Below.refl _ _).drew); have HF5 := Lib.hid (HF4.out.call hb); have d0 := HF5.out.c0; have d1 := HF5.out.c1; clear hb)
              | (go_at_call 34; refine (shown_v ds b r _ _ _ _ HF5.out.sd HRV.out HTT.out).mono ?_; rintro e w6 ⟨rfl, hb⟩; have HB6 := Lib.hid (HF5.out.after hb); have e0 := keep1 hb d0; have e1 := keep1 hb d1; clear hb))
          go_wp2
          go_ret
          exact ⟨by rw [HM.out]; first | done | rfl, HB6.out⟩
        have nlessB := dk_noS (l := [108, 101, 115, 115]) hlessB
        have HM : Hid (ansT ds b line = whatB) := Lib.hid (by rw [HAL.out, ansL3, HZA.out, HZB.out, if_pos ⟨ha, hbb⟩]; unfold twoT; rw [if_neg horB, if_neg handB, if_neg hlessB])
        go_wp2
        go_ret
        exact ⟨by rw [HM.out]; first | done | rfl, HF4.out.bel⟩
      have HM : Hid (ansT ds b line = whatB) := Lib.hid (by rw [HAL.out, ansL3, HZA.out, HZB.out, if_neg (fun h => hbb h.2)])
      have hb' : zb < 0 := by omega
      by_cases horB : v = orB
      · subst horB
        unfold orB at jx0
        go_wp2
        go_ret
        exact ⟨by rw [HM.out]; first | done | rfl, HF4.out.bel⟩
      have norB := dk_noS (l := [111, 114]) horB
      by_cases handB : v = andB
      · subst handB
        unfold andB at jx0
        go_wp2
        go_ret
        exact ⟨by rw [HM.out]; first | done | rfl, HF4.out.bel⟩
      have nandB := dk_noS (l := [97, 110, 100]) handB
      by_cases hlessB : v = lessB
      · subst hlessB
        unfold lessB at jx0
        go_wp2
        go_ret
        exact ⟨by rw [HM.out]; first | done | rfl, HF4.out.bel⟩
      have nlessB := dk_noS (l := [108, 101, 115, 115]) hlessB
      go_wp2
      go_ret
      exact ⟨by rw [HM.out]; first | done | rfl, HF4.out.bel⟩
    have HM : Hid (ansT ds b line = whatB) := Lib.hid (by rw [HAL.out, ansL3, HZA.out, HZB.out, if_neg (fun h => ha h.1)])
    have ha' : za < 0 := by omega
    by_cases horB : v = orB
    · subst horB
      unfold orB at jx0
      go_wp2
      go_ret
      exact ⟨by rw [HM.out]; first | done | rfl, HF4.out.bel⟩
    have norB := dk_noS (l := [111, 114]) horB
    by_cases handB : v = andB
    · subst handB
      unfold andB at jx0
      go_wp2
      go_ret
      exact ⟨by rw [HM.out]; first | done | rfl, HF4.out.bel⟩
    have nandB := dk_noS (l := [97, 110, 100]) handB
    by_cases hlessB : v = lessB
    · subst hlessB
      unfold lessB at jx0
      go_wp2
      go_ret
      exact ⟨by rw [HM.out]; first | done | rfl, HF4.out.bel⟩
    have nlessB := dk_noS (l := [108, 101, 115, 115]) hlessB
    go_wp2
    go_ret
    exact ⟨by rw [HM.out]; first | done | rfl, HF4.out.bel⟩
  · skip
    have HM : Hid (ansT ds b line = whatB) := Lib.hid (by
      rw [HA.out]
      match ws, hwl with
      | _ :: _ :: _ :: _ :: _, _ => rfl)
    obtain ⟨last, hlast⟩ : ∃ u, ws[ws.length - 1]'(by omega) = u := ⟨_, rfl⟩
    obtain ⟨bb, o, hA0, hbb0, x0⟩ := HS1.out.at_ (k := ws.length - 1) (by omega)
    subst hA0
    have hlz := HSPZ.out _ (List.getElem_mem (show ws.length - 1 < ws.length by omega))
    rw [hlast] at x0 hlz
    have hlw : IntKind.i64.wrap ((ws.length : Int) - 1) = ((ws.length - 1 : Nat) : Int) := by rw [IntKind.wrap_i64]; omega
    obtain ⟨n1, hn1⟩ : ∃ n1, ws.length - 1 = n1 := ⟨_, rfl⟩
    rw [hn1] at x0 hlw
    have k1 : n1 < ws.length := by omega
    have k2 : (n1 : Int) < (ws.length : Int) := by omega
    have k3 : (0 : Int) ≤ (n1 : Int) := by omega
    have g1 : ((ws.length : Int) == 2) = false := by rw [beq_eq_false_iff_ne]; omega
    have g2 : ¬ (ws.length : Int) < 2 := by omega
    have g3 : (3 : Int) < (ws.length : Int) := by omega
    obtain ⟨nn, hnn⟩ : ∃ z, (rdSg last).getD 0 = z := ⟨_, rfl⟩
    obtain ⟨ok, hok⟩ : ∃ z, (rdSg last).isSome = z := ⟨_, rfl⟩
    have HNN := Lib.hid hnn
    have HOO := Lib.hid hok
    clear hnn hok hn1 hlast HA HSPZ HOKS HS1 hspl
    go_wp2_with fail
    refine (specSg_v last _ hlz HNN.out HOO.out).mono ?_
    rintro e w2 ⟨rfl, rfl⟩
    go_wp2
    go_ret
    exact ⟨by rw [HM.out]; first | done | rfl, HF1.out.bel⟩
end Go.Proofs.YtiebdhbioccogaaGreatDoor
