import Derived.Test.YtiebdhbioccogaaGreatDoorDkS
namespace Go.Proofs.YtiebdhbioccogaaGreatDoor
open Go.RowKit Go.Maps
set_option linter.unusedVariables false
set_option linter.unusedSimpArgs false
set_option maxRecDepth 100000

theorem pf_flagS {s : ByteArray} (h : okPF s = true) : vFlag (mPF s) (bPF s) = true := by
  unfold okPF at h
  unfold mPF bPF
  split at h
  · rename_i hd ts he
    try rw [he]
    try simp only
    unfold mBldF mBldB
    rw [h, if_pos rfl, if_pos rfl]
    unfold builtF at h
    rw [Bool.and_eq_true] at h
    exact h.2
  · exact absurd h (by decide)
set_option maxHeartbeats 16000000 in
theorem specDesk_v (s : ByteArray) (ls : List ByteArray) (Bs : Option Addr) (q cs : Nat) (w : World) (hs : SS w w.heap.size Bs q cs ls) (hz : s.size ≤ 1048576) (hlz : ∀ x ∈ ls, x.size ≤ 1048576) :
    Calls Tryz.prog 6 #[.string s, .slice Bs q cs] w fun e w' => e = .returned (.string (mDesk s ls)) ∧ Below w.heap.size w w' := by
  obtain rfl := hs.len
  have hmx := hs.max
  have hcp := hs.cap
  unfold maxLen at hmx
  have HLZ := Lib.hid hlz
  by_cases h20 : 20 < ls.length
  · have HM : Hid (mDesk s ls = ⟨#[]⟩) := Lib.hid (by unfold mDesk; rw [if_pos h20])
    have h20i : (20 : Int) < (ls.length : Int) := by omega
    go_enter Tryz.func6, Tryz.ntmps6
    go_wp2
    go_ret
    exact ⟨by rw [HM.out]; first | done | rfl, Below.refl _ _⟩
  have h20i : ¬ (20 : Int) < (ls.length : Int) := by omega
  have HM : Hid (mDesk s ls = deskT (mPF s) (bPF s) (okPF s) ls) := Lib.hid (by unfold mDesk; rw [if_neg h20])
  have HPF : Hid (okPF s = true → vFlag (mPF s) (bPF s) = true) := Lib.hid pf_flagS
  have hpl := (mPF_dok s).2
  have HPD := Lib.hid (mPF_dok s).1
  have HRF : Hid (∀ w, Calls Tryz.prog 12 #[.string s] w (FlagR (mPF s) (bPF s) (okPF s) w)) := Lib.hid (fun w => specPF_v s w hz)
  unfold FlagR at HRF
  have HS := Lib.hid hs
  clear hs hlz
  generalize mPF s = ds at *
  generalize bPF s = b at *
  generalize okPF s = ok at *
  generalize hmd : mDesk s ls = R at *
  clear hmd
  go_enter Tryz.func6, Tryz.ntmps6
  go_wp2_with fail
  refine (HRF.out _).mono ?_
  rintro e w1 ⟨A, c, rfl, ho, hb⟩
  have HD1 := Lib.hid (sd_of_own ho HPD.out)
  have HB1 := Lib.hid hb
  have HS1 : Hid (SS w1 w1.heap.size Bs ls.length cs ls) := Lib.hid ((HS.out.below hb).more hb.size)
  clear ho hb
  have HF2 := Lib.hid (FB.start HD1.out b)
  obtain ⟨w2, hw⟩ : ∃ W : World, W = w1.alloc (.cells #[.slice A ds.length c, .int .i64 b] 35) := ⟨_, rfl⟩
  have hb2 : Below w1.heap.size w1 w2 := by rw [hw]; exact (Below.refl _ _).alloc (Nat.le_refl _) _
  rw [← hw] at HF2
  have HS2 : Hid (SS w2 w1.heap.size Bs ls.length cs ls) := Lib.hid (HS1.out.below hb2)
  have HW := Lib.hid hw.symm
  clear hw hb2 HS1 HD1
  cases ok
  · have HR : Hid (R = deskT ds b false ls) := Lib.hid HM.out
    go_wp2
    rw [HW.out]
    clear HW
    go_loopw [7, 8] (fun v i wr => ∃ (k : Nat) (t : ByteArray), k ≤ ls.length ∧ i = .int .i64 k ∧ v = .string t ∧ t.size ≤ 1001 * k ∧ Hid (t = deskT ds b false (ls.take k)) ∧ Hid (FB w1 wr w1.heap.size A ds.length c ds b)) (fun _ i _ => ls.length - (intOf i).toNat)
    case atStart => exact ⟨0, _, Nat.zero_le _, rfl, rfl, Nat.zero_le _, Lib.hid rfl, HF2⟩
    case round =>
      clear HF2 HS2
      obtain ⟨k, t, hk, rfl, rfl, htz, ht, HF3⟩ := hrel
      by_cases hlt : k < ls.length
      · have hi1 : (k : Int) < (ls.length : Int) := by omega
        have HSN := Lib.hid (deskT_snoc (ds := ds) (b := b) (ok := false) hlt)
        have hz2 : (t ++ (⟨#[119, 114, 111, 110, 103, 10]⟩ : ByteArray)).size ≤ 1001 * (k + 1) := by rw [ByteArray.size_append]; show _ + 6 ≤ _; omega
        have HTE : Hid (t ++ (⟨#[119, 114, 111, 110, 103, 10]⟩ : ByteArray) = deskT ds b false (ls.take (k + 1))) := Lib.hid (by rw [HSN.out, ← ht.out, if_neg (by decide)]; rfl)
        have g1 : ¬ 9223372036854775807 < t.size + 6 := by omega
        go_wp2
        go_roundw
        case rel => exact ⟨k + 1, _, by omega, by go_num, rfl, hz2, HTE, HF3⟩
        case measure => simp [intOf]; omega
      · obtain rfl : k = ls.length := by omega
        have hk9 : ¬ (ls.length : Int) < (ls.length : Int) := by omega
        have HE : Hid (t = R) := Lib.hid (by rw [HR.out, ht.out, List.take_of_length_le (Nat.le_refl _)])
        go_wp2
        go_ret
        exact ⟨by rw [HE.out]; first | done | rfl, HB1.out.trans (HF3.out.bel.mono HB1.out.size)⟩
  have HV := Lib.hid (HPF.out rfl)
  have HR : Hid (R = deskT ds b true ls) := Lib.hid HM.out
  go_wp2
  rw [HW.out]
  clear HW
  go_loopw [7, 8] (fun v i wr => ∃ (k : Nat) (t : ByteArray), k ≤ ls.length ∧ i = .int .i64 k ∧ v = .string t ∧ t.size ≤ 1001 * k ∧ Hid (t = deskT ds b true (ls.take k)) ∧ Hid (FB w1 wr w1.heap.size A ds.length c ds b) ∧ Hid (SS wr w1.heap.size Bs ls.length cs ls)) (fun _ i _ => ls.length - (intOf i).toNat)
  case atStart => exact ⟨0, _, Nat.zero_le _, rfl, rfl, Nat.zero_le _, Lib.hid rfl, HF2, HS2⟩
  case round =>
    clear HF2 HS2
    obtain ⟨k, t, hk, rfl, rfl, htz, ht, HF3, HS3⟩ := hrel
    by_cases hlt : k < ls.length
    · obtain ⟨bb, o, hA, hbb, d1⟩ := HS3.out.at_ hlt
      subst hA
      have hi1 : (k : Int) < (ls.length : Int) := by omega
      have hi0 : (0 : Int) ≤ (k : Int) := by omega
      have hxz := HLZ.out _ (List.getElem_mem hlt)
      have HSN := Lib.hid (deskT_snoc (ds := ds) (b := b) (ok := true) hlt)
      have haz := ansT_size ds b ls[k]
      have HASK : Hid (∀ (w : World), SD w w.heap.size A ds.length c ds → Calls Tryz.prog 13 #[.agg #[.slice A ds.length c, .int .i64 b], .string ls[k]] w fun e w' => e = .returned (.string (ansT ds b ls[k])) ∧ Below w.heap.size w w') := Lib.hid (fun w h1 => answer_v ds b ls[k] A ds.length c w h1 HV.out hxz)
      generalize ansT ds b ls[k] = u at *
      generalize ls[k] = x at *
      have c0 := HF3.out.c0
      have c1 := HF3.out.c1
      have hz1 : (t ++ u).size ≤ 1001 * (k + 1) := by rw [ByteArray.size_append]; omega
      have hz2 : ((t ++ u) ++ (⟨#[10]⟩ : ByteArray)).size ≤ 1001 * (k + 1) := by rw [ByteArray.size_append, ByteArray.size_append]; show _ + 1 ≤ _; omega
      have HTE : Hid ((t ++ u) ++ (⟨#[10]⟩ : ByteArray) = deskT ds b true (ls.take (k + 1))) := Lib.hid (by rw [HSN.out, ← ht.out, if_pos rfl, ByteArray.append_assoc]; rfl)
      have g1 : ¬ 9223372036854775807 < t.size + u.size := by omega
      have g2 : ¬ 9223372036854775807 < t.size + u.size + 1 := by omega
      have g3 : ¬ 9223372036854775807 < (t ++ u).size + 1 := by omega
      clear haz
      go_wp2_with fail
      refine wp_region_held_drew (S := fun w' => w'.cell? ⟨w1.heap.size, 0, none⟩ = some (.slice A ds.length c) ∧ w'.cell? ⟨w1.heap.size, 1, none⟩ = some (.int .i64 b) ∧ w'.cell? ⟨bb, o + k, none⟩ = some (.string x)) (by kernel_rfl) ⟨c0, c1, d1⟩ (fun hHeld => ?_)
      refine wpAnyH_take (i := 0) (v := ?_) rfl (by kernel_rfl) (by kernel_rfl) (by kernel_rfl) (fun _ _ _ h => h) (Or.inl ⟨by kernel_rfl, ?_⟩) hHeld ?_
      rotate_left
      · intro wz hSw
        obtain ⟨s0, s1, s2⟩ := hSw
        first
        | (go_simp; done)
        | (go_simp; with_reducible rfl)
        | (go_simp; omega)
      try simp only [Act.put, List.setIfInBounds_toArray, List.set_cons_zero, List.set_cons_succ]
      refine wpAnyH_take (i := 1) (v := ?_) rfl (by kernel_rfl) (by kernel_rfl) (by kernel_rfl) (fun _ _ _ h => h) (Or.inl ⟨by kernel_rfl, ?_⟩) hHeld ?_
      rotate_left
      · intro wz hSw
        obtain ⟨s0, s1, s2⟩ := hSw
        first
        | (go_simp; done)
        | (go_simp; with_reducible rfl)
        | (go_simp; omega)
      try simp only [Act.put, List.setIfInBounds_toArray, List.set_cons_zero, List.set_cons_succ]
      refine wpAnyH_take (i := 2) (v := ?_) rfl (by kernel_rfl) (by kernel_rfl) (by kernel_rfl) (fun _ _ _ h => h) (Or.inl ⟨by kernel_rfl, ?_⟩) hHeld ?_
      rotate_left
      · intro wz hSw
        obtain ⟨s0, s1, s2⟩ := hSw
        first
        | (go_simp; done)
        | (go_simp; with_reducible rfl)
        | (go_simp; omega)
      try simp only [Act.put, List.setIfInBounds_toArray, List.set_cons_zero, List.set_cons_succ]
      refine wpAnyH_take (i := 3) (v := ?_) rfl (by kernel_rfl) (by kernel_rfl) (by kernel_rfl) (fun _ _ _ h => h) (Or.inl ⟨by kernel_rfl, ?_⟩) hHeld ?_
      rotate_left
      · intro wz hSw
        obtain ⟨s0, s1, s2⟩ := hSw
        first
        | (go_simp; done)
        | (go_simp; with_reducible rfl)
        | (go_simp; omega)
      try simp only [Act.put, List.setIfInBounds_toArray, List.set_cons_zero, List.set_cons_succ]
      refine wpAnyH_take (i := 4) (v := ?_) rfl (by kernel_rfl) (by kernel_rfl) (by kernel_rfl) (fun _ _ _ h => h) (Or.inl ⟨by kernel_rfl, ?_⟩) hHeld ?_
      rotate_left
      · intro wz hSw
        obtain ⟨s0, s1, s2⟩ := hSw
        first
        | (go_simp; done)
        | (go_simp; with_reducible rfl)
        | (go_simp; omega)
      try simp only [Act.put, List.setIfInBounds_toArray, List.set_cons_zero, List.set_cons_succ]
      refine wpAnyH_take (i := 5) (v := ?_) rfl (by kernel_rfl) (by kernel_rfl) (by kernel_rfl) (fun _ _ _ h => h) (Or.inl ⟨by kernel_rfl, ?_⟩) hHeld ?_
      rotate_left
      · intro wz hSw
        obtain ⟨s0, s1, s2⟩ := hSw
        first
        | (go_simp; done)
        | (go_simp; with_reducible rfl)
        | (go_simp; omega)
      try simp only [Act.put, List.setIfInBounds_toArray, List.set_cons_zero, List.set_cons_succ]
      refine wpAnyH_ready (rs := [6]) (by kernel_rfl) (by simp) ?_
      refine AllReadyH.cons rfl (fun K hK => ?_) AllReadyH.nil
      go_simp
      go_at_call 13
      refine (HASK.out _ (HF3.out.sd.drewN 1)).mono ?_
      rintro e w4 ⟨rfl, hb⟩
      replace hb : Below wr.heap.size wr w4 := (by first | exact hb | exact undrew hb)
      have HF4 := Lib.hid (HF3.out.call hb)
      have HS4 : Hid (SS w4 w1.heap.size (some ⟨bb, o, none⟩) ls.length cs ls) := Lib.hid (HS3.out.below (hb.mono HF3.out.bel.size))
      have e0 := keep1 hb c0
      have e1 := keep1 hb c1
      have e2 := keep1 hb d1
      clear hb c0 c1 d1 HF3 HS3
      refine hK.out _ _ ⟨e0, e1, e2⟩ (fun hHeld => ?_)
      clear hK K
      try simp only [Act.put, List.setIfInBounds_toArray, List.set_cons_zero, List.set_cons_succ]
      refine wpAnyH_take (i := 7) (v := .string (t ++ u)) rfl (by kernel_rfl) (by kernel_rfl) (by kernel_rfl) (fun _ _ _ h => h) (Or.inl ⟨by kernel_rfl, ?_⟩) hHeld ?_
      · intro wz hSw
        obtain ⟨s0, s1, s2⟩ := hSw
        first
        | (go_simp; done)
        | (go_simp; with_reducible rfl)
        | (go_simp; omega)
      try simp only [Act.put, List.setIfInBounds_toArray, List.set_cons_zero, List.set_cons_succ]
      refine wpAnyH_take (i := 8) (v := .string ((t ++ u) ++ (⟨#[10]⟩ : ByteArray))) rfl (by kernel_rfl) (by kernel_rfl) (by kernel_rfl) (fun _ _ _ h => h) (Or.inl ⟨by kernel_rfl, ?_⟩) hHeld ?_
      · intro wz hSw
        obtain ⟨s0, s1, s2⟩ := hSw
        first
        | (go_simp; done)
        | (go_simp; with_reducible rfl)
        | (go_simp; omega)
      try simp only [Act.put, List.setIfInBounds_toArray, List.set_cons_zero, List.set_cons_succ]
      refine wpAnyH_take (i := 9) (v := ?_) rfl (by kernel_rfl) (by kernel_rfl) (by kernel_rfl) (fun _ _ _ h => h) (Or.inl ⟨by kernel_rfl, ?_⟩) hHeld ?_
      rotate_left
      · intro wz hSw
        obtain ⟨s0, s1, s2⟩ := hSw
        first
        | (go_simp; done)
        | (go_simp; with_reducible rfl)
        | (go_simp; omega)
      try simp only [Act.put, List.setIfInBounds_toArray, List.set_cons_zero, List.set_cons_succ]
      refine wpAnyH_done (by kernel_rfl) ?_ _
      try go_simp
      go_wp2
      go_roundw
      case rel => exact ⟨k + 1, _, by omega, by go_num, rfl, hz2, HTE, HF4, HS4⟩
      case measure => simp [intOf]; omega
    · obtain rfl : k = ls.length := by omega
      have hk9 : ¬ (ls.length : Int) < (ls.length : Int) := by omega
      have HE : Hid (t = R) := Lib.hid (by rw [HR.out, ht.out, List.take_of_length_le (Nat.le_refl _)])
      go_wp2
      go_ret
      exact ⟨by rw [HE.out]; first | done | rfl, HB1.out.trans (HF3.out.bel.mono HB1.out.size)⟩
end Go.Proofs.YtiebdhbioccogaaGreatDoor
