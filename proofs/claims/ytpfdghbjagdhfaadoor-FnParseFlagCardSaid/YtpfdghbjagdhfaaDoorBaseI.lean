import Derived.Test.YtpfdghbjagdhfaaDoorBaseH
import Derived.Test.YtpfdghbjagdhfaaDoorBaseX
import Derived.Test.YtpfdghbjagdhfaaDoorBaseB
import Derived.BigQuiet
import Derived.Test.YtpfdghbjagdhfaaDoorBaseY
import Derived.Test.YtpfdghbjagdhfaaDoorBaseE
import Derived.Test.YtpfdghbjagdhfaaDoorBaseD
import Derived.Test.YtpfdghbjagdhfaaDoorBaseC
namespace Go.Proofs.YtpfdghbjagdhfaaDoor
open Go.RowKit
set_option linter.unusedVariables false
set_option linter.unusedSimpArgs false
set_option maxRecDepth 100000

def Sm (d : D) : Prop := d.name.size ≤ 6 ∧ -5000 ≤ d.val ∧ d.val ≤ 5000
set_option maxHeartbeats 1000000 in
theorem signed_any (v : Int) (w : World) (h0 : -5000 ≤ v) (h1 : v ≤ 5000) {t : ByteArray} (ht : itoaB v = t) :
    Calls Tryd.prog 119 #[.int .i64 v] w fun e w' => e = .returned (.string t) ∧ w = w' := by
  by_cases hn : v < 0
  · obtain ⟨n, rfl⟩ : ∃ n : Nat, v = -(n : Int) := ⟨(-v).toNat, by omega⟩
    rw [itoaB_neg n (by omega)] at ht
    have hz := decB_size 7 n (by omega)
    have HNUM : Hid (∀ z w, z = (n : Int) → Calls Tryd.prog 146 #[.int .i64 z] w fun e w' => e = .returned (.string (decB n)) ∧ w = w') := Lib.hid (fun z w hz => number_any n z w hz (by omega))
    generalize decB n = u at *
    have hz2 : ((⟨#[45]⟩ : ByteArray) ++ u).size ≤ 9 := by rw [ByteArray.size_append]; show 1 + u.size ≤ 9; omega
    have HT := Lib.hid ht
    clear ht
    go_enter Tryd.func119, Tryd.ntmps119
    go_wp2_with (go_at_call 146; refine (HNUM.out _ _ (by omega)).mono ?_; rintro e w' ⟨rfl, rfl⟩)
    go_ret
    exact ⟨by rw [HT.out]; first | done | rfl, rfl⟩
  · obtain ⟨n, rfl⟩ : ∃ n : Nat, v = (n : Int) := ⟨v.toNat, by omega⟩
    rw [itoaB_pos] at ht
    have HNUM : Hid (∀ w, Calls Tryd.prog 146 #[.int .i64 (n : Int)] w fun e w' => e = .returned (.string t) ∧ w = w') := Lib.hid (fun w => by rw [← ht]; exact number_any n _ w rfl (by omega))
    clear ht
    go_enter Tryd.func119, Tryd.ntmps119
    go_wp2_with (go_at_call 146; refine (HNUM.out _).mono ?_; rintro e w' ⟨rfl, rfl⟩)
    go_ret
    exact ⟨rfl, rfl⟩

set_option maxHeartbeats 4000000 in
theorem defLines_v (ds : List D) (A : Option Addr) (n c : Nat) (w : World) (hr : SD w w.heap.size A n c ds) (hsm : ∀ d ∈ ds, Sm d) (hln : ds.length ≤ 100) :
    Calls Tryd.prog 67 #[.slice A n c] w fun e w' => e = .returned (.string (linesB ds)) ∧ Below w.heap.size w w' := by
  obtain rfl := hr.len
  have hl := hr.max
  have hl2 := hr.cap
  unfold maxLen at hl
  have HR := Lib.hid hr
  have HSM := Lib.hid hsm
  clear hr hsm
  go_enter Tryd.func67, Tryd.ntmps67
  go_wp2
  go_loopw [3, 4] (fun s i wr => ∃ (k : Nat) (t : ByteArray), k ≤ ds.length ∧ i = .int .i64 k ∧ s = .string t ∧ t.size ≤ 16 * k ∧ Hid (t = linesB (ds.take k)) ∧ Hid (Below w.heap.size w wr)) (fun _ i _ => ds.length - (intOf i).toNat)
  case atStart => exact ⟨0, ⟨#[]⟩, Nat.zero_le _, rfl, rfl, Nat.zero_le _, Lib.hid rfl, Lib.hid (Below.refl _ _)⟩
  case round =>
    obtain ⟨k, t, hk, rfl, rfl, htz, ht, hbel⟩ := hrel
    by_cases hlt : k < ds.length
    · obtain ⟨b, o, rfl, hb, c1, c2⟩ := (HR.out.below hbel.out).at_ hlt
      have hi1 : (k : Int) < (ds.length : Int) := by omega
      have HT := Lib.hid (linesB_succ hlt)
      obtain ⟨hn6, hv0, hv1⟩ := HSM.out _ (List.getElem_mem hlt)
      have hLS := lineB_size hn6 hv0 hv1
      have HLF := Lib.hid (line_four t ds[k])
      obtain ⟨u, hu⟩ : ∃ u, itoaB ds[k].val = u := ⟨_, rfl⟩
      have huz : u.size ≤ 6 := by rw [← hu]; exact itoaB_size hv0 hv1
      unfold eqB nlB at HLF
      rw [hu] at HLF
      have HN := Lib.hid (fun w => signed_any ds[k].val w hv0 hv1 hu)
      clear hu
      generalize lineB ds[k] = ln at *
      generalize ds[k].name = s at *
      generalize ds[k].val = v at *
      have hz1 : (t ++ s).size ≤ 3000 := by rw [ByteArray.size_append]; omega
      have hz2 : ((t ++ s) ++ (⟨#[32, 61, 32]⟩ : ByteArray)).size ≤ 3010 := by rw [ByteArray.size_append]; show _ + 3 ≤ _; omega
      have hz3 : (((t ++ s) ++ (⟨#[32, 61, 32]⟩ : ByteArray)) ++ u).size ≤ 3020 := by rw [ByteArray.size_append]; omega
      have hz4 : ((((t ++ s) ++ (⟨#[32, 61, 32]⟩ : ByteArray)) ++ u) ++ (⟨#[10]⟩ : ByteArray)).size ≤ 16 * (k + 1) := by rw [HLF.out, ByteArray.size_append]; omega
      have hz5 : ((((t ++ s) ++ (⟨#[32, 61, 32]⟩ : ByteArray)) ++ u) ++ (⟨#[10]⟩ : ByteArray)).size ≤ 3030 := by omega
      go_wp2
      go_quiet ((go_at_call 119; exact quiet_eq (HN.out _)))
      have HBQ := Lib.hid (below_drewN hbel.out nq)
      generalize wr.drewN nq = wq at *
      go_wp2
      go_roundw
      case rel => exact ⟨k + 1, _, by omega, by go_num, rfl, hz4, Lib.hid (by rw [HT.out, ← ht.out]; exact HLF.out), HBQ⟩
      case measure => simp [intOf]; omega
    · obtain rfl : k = ds.length := by omega
      go_wp2
      go_ret
      exact ⟨by rw [ht.out, List.take_of_length_le (Nat.le_refl _)]; first | done | rfl, hbel.out⟩

theorem enum_size {ds : List D} (hv : vEnum ds = true) : (linesB ds).size ≤ 192 := by
  have h := linesB_size ds (enum_small hv)
  have := vEnum_len hv
  omega
set_option maxHeartbeats 2000000 in
theorem specEnumT_v (ds : List D) (A : Option Addr) (n c : Nat) (w : World) (hr : SD w w.heap.size A n c ds) :
    Calls Tryd.prog 29 #[.agg #[.slice A n c]] w fun e w' => e = .returned (.string (mEnumT ds)) ∧ Below w.heap.size w w' := by
  have hb0 : Below w.heap.size w (w.alloc (.cells #[.slice A n c] 38)) := (Below.refl _ _).alloc (Nat.le_refl _) _
  have HS := Lib.hid ((hr.below hb0).call hb0.size)
  have f0 : (w.alloc (.cells #[.slice A n c] 38)).cell? ⟨w.heap.size, 0, none⟩ = some (.slice A n c) := by simp [go_sem]
  obtain ⟨w0, hw⟩ : ∃ W : World, W = w.alloc (.cells #[.slice A n c] 38) := ⟨_, rfl⟩
  have hc0 := f0
  rw [← hw] at hb0 HS hc0
  have HB := Lib.hid hb0
  have HW := Lib.hid hw.symm
  clear hr hw hb0
  cases hv : vEnum ds
  · have HV := Lib.hid hv
    have HM : Hid (mEnumT ds = ⟨#[]⟩) := Lib.hid (by unfold mEnumT; rw [hv]; rfl)
    clear hv
    go_enter Tryd.func29, Tryd.ntmps29
    go_wp2_with fail
    rw [HW.out]
    clear HW f0
    refine (specVE_v ds _ _ _ _ HS.out HV.out).mono ?_
    rintro e w1 ⟨rfl, hb⟩
    have HB1 := Lib.hid (HB.out.trans (hb.mono HB.out.size))
    clear hb
    go_wp2
    go_ret
    exact ⟨by rw [HM.out]; first | done | rfl, HB1.out⟩
  · have HV := Lib.hid hv
    have hls := enum_size hv
    have HSM : Hid (∀ d ∈ ds, Sm d) := Lib.hid (enum_small hv)
    have HLN : Hid (ds.length ≤ 100) := Lib.hid (by have := vEnum_len hv; omega)
    obtain ⟨t, ht⟩ : ∃ t, linesB ds = t := ⟨_, rfl⟩
    have HM : Hid (mEnumT ds = (⟨#[101, 110, 117, 109, 10]⟩ : ByteArray) ++ t) := Lib.hid (by unfold mEnumT; rw [hv, if_pos rfl, ht]; rfl)
    have HDL : Hid (∀ (A : Option Addr) (n c : Nat) (w : World), SD w w.heap.size A n c ds → Calls Tryd.prog 67 #[.slice A n c] w fun e w' => e = .returned (.string t) ∧ Below w.heap.size w w') := Lib.hid (fun A n c w hr => by rw [← ht]; exact defLines_v ds A n c w hr HSM.out HLN.out)
    rw [ht] at hls
    have hz1 : ((⟨#[101, 110, 117, 109, 10]⟩ : ByteArray) ++ t).size ≤ 200 := by rw [ByteArray.size_append]; show 5 + _ ≤ 200; omega
    clear hv ht
    go_enter Tryd.func29, Tryd.ntmps29
    go_wp2_with fail
    rw [HW.out]
    clear HW f0
    refine (specVE_v ds _ _ _ _ HS.out HV.out).mono ?_
    rintro e w1 ⟨rfl, hb⟩
    have hc1 := keep1 hb hc0
    have HS1 := Lib.hid ((HS.out.below hb).call hb.size)
    have HB1 := Lib.hid (HB.out.trans (hb.mono HB.out.size))
    clear hb hc0
    go_wp2_with fail
    refine (HDL.out _ _ _ _ HS1.out).mono ?_
    rintro e w2 ⟨rfl, hb⟩
    have HB2 := Lib.hid (HB1.out.trans (hb.mono HB1.out.size))
    clear hb
    go_wp2
    go_ret
    exact ⟨by rw [HM.out]; first | done | rfl, HB2.out⟩
end Go.Proofs.YtpfdghbjagdhfaaDoor

namespace Go.Proofs.YtpfdghbjagdhfaaDoor
open Go.RowKit
set_option linter.unusedVariables false
set_option linter.unusedSimpArgs false
set_option maxRecDepth 100000

set_option maxHeartbeats 8000000 in
theorem textOf_v (head : ByteArray) (ds : List D) (A : Option Addr) (n c : Nat) (w : World) (hr : SD w w.heap.size A n c ds) (hh : head.size ≤ 20) (hsm : ∀ d ∈ ds, Sm d) (hln : ds.length ≤ 100) (hT : P10 w) (hG : p10G < w.heap.size) :
    Calls Tryd.prog 65 #[.string head, .slice A n c] w fun e w' => e = .returned (.string ((head ++ nlB) ++ linesB ds)) ∧ Below w.heap.size w w' := by
  obtain rfl := hr.len
  have hl := hr.max
  have hl2 := hr.cap
  unfold maxLen at hl
  have HR := Lib.hid hr
  have HSM := Lib.hid hsm
  have HT0 := Lib.hid hT
  have hhz : (head ++ (⟨#[10]⟩ : ByteArray)).size ≤ 21 := by rw [ByteArray.size_append]; show _ + 1 ≤ _; omega
  obtain ⟨hd, hhd⟩ : ∃ x, head ++ nlB = x := ⟨_, rfl⟩
  have HHD : Hid (head ++ (⟨#[10]⟩ : ByteArray) = hd) := Lib.hid hhd
  rw [hhd]
  clear hr hsm hT hhd
  go_enter Tryd.func65, Tryd.ntmps65
  go_wp2
  go_loopw [5, 12] (fun s i wr => ∃ (k : Nat) (t : ByteArray), k ≤ ds.length ∧ i = .int .i64 k ∧ s = .string t ∧ t.size ≤ 16 * k + 21 ∧ Hid (t = hd ++ linesB (ds.take k)) ∧ Hid (Below w.heap.size w wr)) (fun _ i _ => ds.length - (intOf i).toNat)
  case atStart => exact ⟨0, _, Nat.zero_le _, rfl, rfl, hhz, Lib.hid (by rw [HHD.out]; exact (ba_nil hd).symm), Lib.hid (Below.refl _ _)⟩
  case round =>
    obtain ⟨k, t, hk, rfl, rfl, htz, ht, hbel⟩ := hrel
    by_cases hlt : k < ds.length
    · obtain ⟨b, o, rfl, hb, c1, c2⟩ := (HR.out.below hbel.out).at_ hlt
      have hi1 : (k : Int) < (ds.length : Int) := by omega
      have HTL := Lib.hid (linesB_succ hlt)
      obtain ⟨hn6, hv0, hv1⟩ := HSM.out _ (List.getElem_mem hlt)
      have hLS := lineB_size hn6 hv0 hv1
      obtain ⟨u, hu⟩ : ∃ u, itoaB ds[k].val = u := ⟨_, rfl⟩
      have huz : u.size ≤ 6 := by rw [← hu]; exact itoaB_size hv0 hv1
      have HLF : Hid (((ds[k].name ++ (⟨#[32, 61, 32]⟩ : ByteArray)) ++ u) ++ (⟨#[10]⟩ : ByteArray) = lineB ds[k]) := Lib.hid (by rw [← hu]; rfl)
      have HIT : Hid (∀ w, P10 w → Calls Tryd.prog 118 #[.int .i64 ds[k].val] w fun e w' => e = .returned (.string u) ∧ Below w.heap.size w w') := Lib.hid (fun w h => by rw [← hu]; exact itoa_v _ (by omega) (by omega) w h)
      clear hu
      generalize lineB ds[k] = ln at *
      generalize ds[k].name = s at *
      generalize ds[k].val = v at *
      have hz1 : (s ++ (⟨#[32, 61, 32]⟩ : ByteArray)).size ≤ 3000 := by rw [ByteArray.size_append]; show _ + 3 ≤ _; omega
      have hz2 : ((s ++ (⟨#[32, 61, 32]⟩ : ByteArray)) ++ u).size ≤ 3010 := by rw [ByteArray.size_append]; omega
      have hz3 : (((s ++ (⟨#[32, 61, 32]⟩ : ByteArray)) ++ u) ++ (⟨#[10]⟩ : ByteArray)).size ≤ 3020 := by rw [HLF.out]; omega
      have hz4 : (t ++ (((s ++ (⟨#[32, 61, 32]⟩ : ByteArray)) ++ u) ++ (⟨#[10]⟩ : ByteArray))).size ≤ 16 * (k + 1) + 21 := by rw [HLF.out, ByteArray.size_append]; omega
      have hz5 : (t ++ (((s ++ (⟨#[32, 61, 32]⟩ : ByteArray)) ++ u) ++ (⟨#[10]⟩ : ByteArray))).size ≤ 3030 := by omega
      have l0 : (wr.alloc (.cells #[.string s, .int .i64 v] 98)).cell? ⟨wr.heap.size, 0, none⟩ = some (.string s) := by simp [go_sem]
      have l1 : (wr.alloc (.cells #[.string s, .int .i64 v] 98)).cell? ⟨wr.heap.size, 1, none⟩ = some (.int .i64 v) := by simp [go_sem]
      have HBW : Hid (Below w.heap.size w (wr.alloc (.cells #[.string s, .int .i64 v] 98))) := Lib.hid (hbel.out.alloc hbel.out.size _)
      go_wp2_with fail
      refine wp_region_held_drew (S := fun w' => w'.cell? ⟨wr.heap.size, 0, none⟩ = some (.string s) ∧ w'.cell? ⟨wr.heap.size, 1, none⟩ = some (.int .i64 v)) (by kernel_rfl) ⟨l0, l1⟩ (fun hHeld => ?_)
      generalize hwd : (wr.alloc (.cells #[.string s, .int .i64 v] 98)).drew = w3 at hHeld ⊢
      have HB3 : Hid (Below w.heap.size w w3) := Lib.hid (by rw [← hwd]; exact HBW.out.drew)
      have k0 : w3.cell? ⟨wr.heap.size, 0, none⟩ = some (.string s) := by rw [← hwd]; exact l0
      have k1 : w3.cell? ⟨wr.heap.size, 1, none⟩ = some (.int .i64 v) := by rw [← hwd]; exact l1
      have HT3 : Hid (P10 w3) := Lib.hid (P10.below HT0.out HB3.out hG)
      clear hwd l0 l1
      refine wpAnyH_take (i := 0) (v := ?_) rfl (by kernel_rfl) (by kernel_rfl) (by kernel_rfl) (fun _ _ _ h => h) (Or.inl ⟨by kernel_rfl, ?_⟩) hHeld ?_
      rotate_left
      · intro wz hSw
        obtain ⟨s0, s1⟩ := hSw
        first
        | (go_simp; done)
        | (go_simp; with_reducible rfl)
        | (go_simp; omega)
      try simp only [Act.put, List.setIfInBounds_toArray, List.set_cons_zero, List.set_cons_succ]
      refine wpAnyH_take (i := 1) (v := ?_) rfl (by kernel_rfl) (by kernel_rfl) (by kernel_rfl) (fun _ _ _ h => h) (Or.inl ⟨by kernel_rfl, ?_⟩) hHeld ?_
      rotate_left
      · intro wz hSw
        obtain ⟨s0, s1⟩ := hSw
        first
        | (go_simp; done)
        | (go_simp; with_reducible rfl)
        | (go_simp; omega)
      try simp only [Act.put, List.setIfInBounds_toArray, List.set_cons_zero, List.set_cons_succ]
      refine wpAnyH_take (i := 2) (v := ?_) rfl (by kernel_rfl) (by kernel_rfl) (by kernel_rfl) (fun _ _ _ h => h) (Or.inl ⟨by kernel_rfl, ?_⟩) hHeld ?_
      rotate_left
      · intro wz hSw
        obtain ⟨s0, s1⟩ := hSw
        first
        | (go_simp; done)
        | (go_simp; with_reducible rfl)
        | (go_simp; omega)
      try simp only [Act.put, List.setIfInBounds_toArray, List.set_cons_zero, List.set_cons_succ]
      refine wpAnyH_take (i := 3) (v := .string (s ++ (⟨#[32, 61, 32]⟩ : ByteArray))) rfl (by kernel_rfl) (by kernel_rfl) (by kernel_rfl) (fun _ _ _ h => h) (Or.inl ⟨by kernel_rfl, ?_⟩) hHeld ?_
      · intro wz hSw
        obtain ⟨s0, s1⟩ := hSw
        first
        | (go_simp; done)
        | (go_simp; with_reducible rfl)
        | (go_simp; omega)
      try simp only [Act.put, List.setIfInBounds_toArray, List.set_cons_zero, List.set_cons_succ]
      refine wpAnyH_take (i := 4) (v := ?_) rfl (by kernel_rfl) (by kernel_rfl) (by kernel_rfl) (fun _ _ _ h => h) (Or.inl ⟨by kernel_rfl, ?_⟩) hHeld ?_
      rotate_left
      · intro wz hSw
        obtain ⟨s0, s1⟩ := hSw
        first
        | (go_simp; done)
        | (go_simp; with_reducible rfl)
        | (go_simp; omega)
      try simp only [Act.put, List.setIfInBounds_toArray, List.set_cons_zero, List.set_cons_succ]
      refine wpAnyH_take (i := 5) (v := ?_) rfl (by kernel_rfl) (by kernel_rfl) (by kernel_rfl) (fun _ _ _ h => h) (Or.inl ⟨by kernel_rfl, ?_⟩) hHeld ?_
      rotate_left
      · intro wz hSw
        obtain ⟨s0, s1⟩ := hSw
        first
        | (go_simp; done)
        | (go_simp; with_reducible rfl)
        | (go_simp; omega)
      try simp only [Act.put, List.setIfInBounds_toArray, List.set_cons_zero, List.set_cons_succ]
      refine wpAnyH_ready (rs := [6]) (by kernel_rfl) (by simp) ?_
      refine AllReadyH.cons rfl (fun K hK => ?_) AllReadyH.nil
      go_simp
      refine (HIT.out w3 HT3.out).mono ?_
      rintro e w4 ⟨rfl, hb⟩
      have HB4 := Lib.hid (HB3.out.trans (hb.mono HB3.out.size))
      have m0 := keep1 hb k0
      have m1 := keep1 hb k1
      clear hb
      go_simp
      refine hK.out _ _ ⟨m0, m1⟩ (fun hHeld => ?_)
      clear hK K
      try simp only [Act.put, List.setIfInBounds_toArray, List.set_cons_zero, List.set_cons_succ]
      refine wpAnyH_take (i := 7) (v := .string ((s ++ (⟨#[32, 61, 32]⟩ : ByteArray)) ++ u)) rfl (by kernel_rfl) (by kernel_rfl) (by kernel_rfl) (fun _ _ _ h => h) (Or.inl ⟨by kernel_rfl, ?_⟩) hHeld ?_
      · intro wz hSw
        obtain ⟨s0, s1⟩ := hSw
        first
        | (go_simp; done)
        | (go_simp; with_reducible rfl)
        | (go_simp; omega)
      try simp only [Act.put, List.setIfInBounds_toArray, List.set_cons_zero, List.set_cons_succ]
      refine wpAnyH_take (i := 8) (v := .string (((s ++ (⟨#[32, 61, 32]⟩ : ByteArray)) ++ u) ++ (⟨#[10]⟩ : ByteArray))) rfl (by kernel_rfl) (by kernel_rfl) (by kernel_rfl) (fun _ _ _ h => h) (Or.inl ⟨by kernel_rfl, ?_⟩) hHeld ?_
      · intro wz hSw
        obtain ⟨s0, s1⟩ := hSw
        first
        | (go_simp; done)
        | (go_simp; with_reducible rfl)
        | (go_simp; omega)
      try simp only [Act.put, List.setIfInBounds_toArray, List.set_cons_zero, List.set_cons_succ]
      refine wpAnyH_take (i := 9) (v := .string (t ++ (((s ++ (⟨#[32, 61, 32]⟩ : ByteArray)) ++ u) ++ (⟨#[10]⟩ : ByteArray)))) rfl (by kernel_rfl) (by kernel_rfl) (by kernel_rfl) (fun _ _ _ h => h) (Or.inl ⟨by kernel_rfl, ?_⟩) hHeld ?_
      · intro wz hSw
        obtain ⟨s0, s1⟩ := hSw
        first
        | (go_simp; done)
        | (go_simp; with_reducible rfl)
        | (go_simp; omega)
      try simp only [Act.put, List.setIfInBounds_toArray, List.set_cons_zero, List.set_cons_succ]
      refine wpAnyH_take (i := 10) (v := ?_) rfl (by kernel_rfl) (by kernel_rfl) (by kernel_rfl) (fun _ _ _ h => h) (Or.inl ⟨by kernel_rfl, ?_⟩) hHeld ?_
      rotate_left
      · intro wz hSw
        obtain ⟨s0, s1⟩ := hSw
        first
        | (go_simp; done)
        | (go_simp; with_reducible rfl)
        | (go_simp; omega)
      try simp only [Act.put, List.setIfInBounds_toArray, List.set_cons_zero, List.set_cons_succ]
      refine wpAnyH_done (by kernel_rfl) ?_ _
      try go_simp
      go_wp2
      go_roundw
      case rel => exact ⟨k + 1, _, by omega, by go_num, rfl, hz4, Lib.hid (by rw [HTL.out, HLF.out, ht.out, ba_assoc]), HB4⟩
      case measure => simp [intOf]; omega
    · obtain rfl : k = ds.length := by omega
      go_wp2
      go_ret
      exact ⟨by rw [ht.out, List.take_of_length_le (Nat.le_refl _)]; first | done | rfl, hbel.out⟩

set_option maxHeartbeats 2000000 in
theorem implEnumT_v (ds : List D) (A : Option Addr) (n c : Nat) (w : World) (hr : SD w w.heap.size A n c ds) (hT : P10 w) (hG : p10G < w.heap.size) :
    Calls Tryd.prog 28 #[.agg #[.slice A n c]] w fun e w' => e = .returned (.string (mEnumT ds)) ∧ Below w.heap.size w w' := by
  have hb0 : Below w.heap.size w (w.alloc (.cells #[.slice A n c] 38)) := (Below.refl _ _).alloc (Nat.le_refl _) _
  have HS := Lib.hid ((hr.below hb0).call hb0.size)
  have f0 : (w.alloc (.cells #[.slice A n c] 38)).cell? ⟨w.heap.size, 0, none⟩ = some (.slice A n c) := by simp [go_sem]
  obtain ⟨w0, hw⟩ : ∃ W : World, W = w.alloc (.cells #[.slice A n c] 38) := ⟨_, rfl⟩
  have hc0 := f0
  rw [← hw] at hb0 HS hc0
  have HB := Lib.hid hb0
  have HW := Lib.hid hw.symm
  have HT := Lib.hid hT
  clear hr hw hb0 hT
  cases hv : vEnum ds
  · have HV := Lib.hid hv
    have HM : Hid (mEnumT ds = ⟨#[]⟩) := Lib.hid (by unfold mEnumT; rw [hv]; rfl)
    clear hv
    go_enter Tryd.func28, Tryd.ntmps28
    go_wp2_with fail
    rw [HW.out]
    clear HW f0
    refine (implVE_v ds _ _ _ _ HS.out HV.out).mono ?_
    rintro e w1 ⟨rfl, hb⟩
    have HB1 := Lib.hid (HB.out.trans (hb.mono HB.out.size))
    clear hb
    go_wp2
    go_ret
    exact ⟨by rw [HM.out]; first | done | rfl, HB1.out⟩
  · have HV := Lib.hid hv
    have HSM : Hid (∀ d ∈ ds, Sm d) := Lib.hid (enum_small hv)
    have HLN : Hid (ds.length ≤ 100) := Lib.hid (by have := vEnum_len hv; omega)
    obtain ⟨t, ht⟩ : ∃ t, mEnumT ds = t := ⟨_, rfl⟩
    have ht2 : (enumB ++ nlB) ++ linesB ds = t := by rw [← ht]; unfold mEnumT; rw [hv, if_pos rfl]
    rw [ht]
    have HDL : Hid (∀ (A : Option Addr) (n c : Nat) (w : World), SD w w.heap.size A n c ds → P10 w → p10G < w.heap.size → Calls Tryd.prog 65 #[.string ⟨#[101, 110, 117, 109]⟩, .slice A n c] w fun e w' => e = .returned (.string t) ∧ Below w.heap.size w w') := Lib.hid (fun A n c w hr h1 h2 => by rw [← ht2]; exact textOf_v enumB ds A n c w hr (by decide) HSM.out HLN.out h1 h2)
    clear hv ht ht2
    go_enter Tryd.func28, Tryd.ntmps28
    go_wp2_with fail
    rw [HW.out]
    clear HW f0
    refine (implVE_v ds _ _ _ _ HS.out HV.out).mono ?_
    rintro e w1 ⟨rfl, hb⟩
    have hc1 := keep1 hb hc0
    have HS1 := Lib.hid ((HS.out.below hb).call hb.size)
    have HB1 := Lib.hid (HB.out.trans (hb.mono HB.out.size))
    clear hb hc0
    go_wp2_with fail
    refine (HDL.out _ _ _ _ HS1.out (HT.out.below HB1.out hG) (Nat.lt_of_lt_of_le hG HB1.out.size)).mono ?_
    rintro e w2 ⟨rfl, hb⟩
    have HB2 := Lib.hid (HB1.out.trans (hb.mono HB1.out.size))
    clear hb
    go_wp2
    go_ret
    exact ⟨rfl, HB2.out⟩
end Go.Proofs.YtpfdghbjagdhfaaDoor

namespace Go.Proofs.YtpfdghbjagdhfaaDoor
open Go.RowKit
set_option linter.unusedVariables false
set_option linter.unusedSimpArgs false
set_option maxRecDepth 100000

def bws : List ByteArray := [⟨#[115, 116, 114, 105, 99, 116]⟩, ⟨#[102, 105, 116]⟩, ⟨#[101, 106, 101, 99, 116]⟩, ⟨#[107, 101, 101, 112]⟩]
def fhs : List ByteArray := [⟨#[102, 108, 97, 103, 32, 115, 116, 114, 105, 99, 116]⟩, ⟨#[102, 108, 97, 103, 32, 102, 105, 116]⟩, ⟨#[102, 108, 97, 103, 32, 101, 106, 101, 99, 116]⟩, ⟨#[102, 108, 97, 103, 32, 107, 101, 101, 112]⟩]
theorem bws_at {j : Nat} (hj : j < bws.length) : bws[j] = boundB (j : Int) := by
  have h4 : j < 4 := hj
  rcases (show j = 0 ∨ j = 1 ∨ j = 2 ∨ j = 3 by omega) with rfl | rfl | rfl | rfl <;> rfl
theorem fhs_at {j : Nat} (hj : j < fhs.length) : fhs[j] = flagB ++ boundB (j : Int) := by
  have h4 : j < 4 := hj
  rcases (show j = 0 ∨ j = 1 ∨ j = 2 ∨ j = 3 by omega) with rfl | rfl | rfl | rfl <;> rfl
/-- Four texts, made. -/
theorem four_made (w : World) (a b c d : ByteArray) (ha : a.size ≤ 100 ∧ b.size ≤ 100 ∧ c.size ≤ 100 ∧ d.size ≤ 100) : SS (w.alloc (.cells #[.string a, .string b, .string c, .string d] 9)) (w.alloc (.cells #[.string a, .string b, .string c, .string d] 9)).heap.size (some ⟨w.heap.size, 0, none⟩) 4 4 [a, b, c, d] := by
  refine ⟨.inr ⟨w.heap.size, 0, rfl, by simp, fun i x hi j v hj => ?_⟩, rfl, Nat.le_refl _, by unfold maxLen; omega, fun s hs => ?_⟩
  · obtain ⟨hil, rfl⟩ := List.getElem?_eq_some_iff.1 hi
    have h4 : i < 4 := by simpa using hil
    match j, hj with
    | 0, hj =>
      rcases (show i = 0 ∨ i = 1 ∨ i = 2 ∨ i = 3 by omega) with rfl | rfl | rfl | rfl <;> (simp [encS] at hj; subst hj; simp [go_sem])
    | j + 1, hj => simp [encS] at hj
  · obtain ⟨h1, h2, h3, h4⟩ := ha
    simp only [List.mem_cons, List.not_mem_nil, or_false] at hs
    unfold maxLen
    rcases hs with rfl | rfl | rfl | rfl <;> omega

set_option maxHeartbeats 1000000 in
theorem boundWords_v (w : World) : Calls Tryd.prog 71 #[] w fun e w' => ∃ (A : Option Addr) (c : Nat), e = .returned (.slice A 4 c) ∧ SS w' w'.heap.size A 4 c bws ∧ Below w.heap.size w w' := by
  have HS := Lib.hid (four_made w ⟨#[115, 116, 114, 105, 99, 116]⟩ ⟨#[102, 105, 116]⟩ ⟨#[101, 106, 101, 99, 116]⟩ ⟨#[107, 101, 101, 112]⟩ (by decide))
  have HB : Hid (Below w.heap.size w (w.alloc (.cells #[.string ⟨#[115, 116, 114, 105, 99, 116]⟩, .string ⟨#[102, 105, 116]⟩, .string ⟨#[101, 106, 101, 99, 116]⟩, .string ⟨#[107, 101, 101, 112]⟩] 9))) := Lib.hid ((Below.refl _ _).alloc (Nat.le_refl _) _)
  go_enter Tryd.func71, Tryd.ntmps71
  go_wp2
  go_ret
  exact ⟨_, _, rfl, HS.out, HB.out⟩
set_option maxHeartbeats 1000000 in
theorem flagHeads_v (w : World) : Calls Tryd.prog 70 #[] w fun e w' => ∃ (A : Option Addr) (c : Nat), e = .returned (.slice A 4 c) ∧ SS w' w'.heap.size A 4 c fhs ∧ Below w.heap.size w w' := by
  have HS := Lib.hid (four_made w ⟨#[102, 108, 97, 103, 32, 115, 116, 114, 105, 99, 116]⟩ ⟨#[102, 108, 97, 103, 32, 102, 105, 116]⟩ ⟨#[102, 108, 97, 103, 32, 101, 106, 101, 99, 116]⟩ ⟨#[102, 108, 97, 103, 32, 107, 101, 101, 112]⟩ (by decide))
  have HB : Hid (Below w.heap.size w (w.alloc (.cells #[.string ⟨#[102, 108, 97, 103, 32, 115, 116, 114, 105, 99, 116]⟩, .string ⟨#[102, 108, 97, 103, 32, 102, 105, 116]⟩, .string ⟨#[102, 108, 97, 103, 32, 101, 106, 101, 99, 116]⟩, .string ⟨#[102, 108, 97, 103, 32, 107, 101, 101, 112]⟩] 9))) := Lib.hid ((Below.refl _ _).alloc (Nat.le_refl _) _)
  go_enter Tryd.func70, Tryd.ntmps70
  go_wp2
  go_ret
  exact ⟨_, _, rfl, HS.out, HB.out⟩
theorem boundB_size (b : Int) : (boundB b).size ≤ 6 := by
  unfold boundB
  split
  · decide
  · split
    · decide
    · split <;> decide

set_option maxHeartbeats 8000000 in
theorem specFlagT_v (ds : List D) (b : Int) (A : Option Addr) (m c : Nat) (w : World) (hr : SD w w.heap.size A m c ds) :
    Calls Tryd.prog 34 #[.agg #[.slice A m c, .int .i64 b]] w (fun e w' => e = .returned (.string (mFlagT ds b)) ∧ Below w.heap.size w w') := by
  have HF := Lib.hid (FB.start hr b)
  clear hr
  cases hv : vFlag ds b
  · have HV := Lib.hid hv
    have HM : Hid (mFlagT ds b = ⟨#[]⟩) := Lib.hid (by unfold mFlagT; rw [hv]; rfl)
    clear hv
    go_enter Tryd.func34, Tryd.ntmps34
    go_wp2_with (go_at_call 47; refine (specVF_v ds b _ _ _ _ HF.out.sd HV.out).mono ?_; rintro e w' ⟨rfl, hb⟩)
    go_ret
    exact ⟨by rw [HM.out]; first | done | rfl, HF.out.after hb⟩
  have HV := Lib.hid hv
  obtain ⟨j, rfl⟩ : ∃ j : Nat, b = j := ⟨b.toNat, by have := vFlag_bound hv; omega⟩
  have hj4 : j < 4 := by have := vFlag_bound hv; omega
  have HBW := Lib.hid (bws_at (j := j) hj4)
  have hls : (linesB ds).size ≤ 200 := by
    have h := linesB_size ds (flag_small hv)
    have := vFlag_len hv
    omega
  have hus := boundB_size (j : Int)
  have HSM : Hid (∀ d ∈ ds, Sm d) := Lib.hid (flag_small hv)
  have HLN : Hid (ds.length ≤ 100) := Lib.hid (by have := vFlag_len hv; omega)
  have HM0 : Hid (mFlagT ds j = ((flagB ++ boundB j) ++ nlB) ++ linesB ds) := Lib.hid (by unfold mFlagT; rw [hv]; rfl)
  obtain ⟨u, hu⟩ : ∃ u, boundB (j : Int) = u := ⟨_, rfl⟩
  obtain ⟨t, ht⟩ : ∃ t, linesB ds = t := ⟨_, rfl⟩
  rw [hu] at HBW HM0 hus
  rw [ht] at HM0 hls
  have HM : Hid (mFlagT ds j = (((⟨#[102, 108, 97, 103, 32]⟩ : ByteArray) ++ u) ++ (⟨#[10]⟩ : ByteArray)) ++ t) := HM0
  have HDL : Hid (∀ (A : Option Addr) (n c : Nat) (w : World), SD w w.heap.size A n c ds → Calls Tryd.prog 67 #[.slice A n c] w fun e w' => e = .returned (.string t) ∧ Below w.heap.size w w') := Lib.hid (fun A n c w hr => by rw [← ht]; exact defLines_v ds A n c w hr HSM.out HLN.out)
  have hz1 : ((⟨#[102, 108, 97, 103, 32]⟩ : ByteArray) ++ u).size ≤ 11 := by rw [ByteArray.size_append]; show 5 + _ ≤ 11; omega
  have hz2 : (((⟨#[102, 108, 97, 103, 32]⟩ : ByteArray) ++ u) ++ (⟨#[10]⟩ : ByteArray)).size ≤ 12 := by rw [ByteArray.size_append]; show _ + 1 ≤ 12; omega
  have hz3 : ((((⟨#[102, 108, 97, 103, 32]⟩ : ByteArray) ++ u) ++ (⟨#[10]⟩ : ByteArray)) ++ t).size ≤ 300 := by rw [ByteArray.size_append]; omega
  have hj0 : (0 : Int) ≤ (j : Int) := by omega
  have hj1 : (j : Int) < 4 := by omega
  clear hv hu ht HM0 HSM HLN
  go_enter Tryd.func34, Tryd.ntmps34
  go_wp2_with fail
  refine (specVF_v ds j _ _ _ _ HF.out.sd HV.out).mono ?_
  rintro e w1 ⟨rfl, hb⟩
  have HF1 := Lib.hid (HF.out.call hb)
  have c0 := HF1.out.c0
  have c1 := HF1.out.c1
  clear hb HF
  go_wp2_with fail
  refine wp_region_held_drew (S := fun w' => w'.cell? ⟨w.heap.size, 0, none⟩ = some (.slice A m c) ∧ w'.cell? ⟨w.heap.size, 1, none⟩ = some (.int .i64 (j : Int))) (by kernel_rfl) ⟨c0, c1⟩ (fun hHeld => ?_)
  generalize hwd : w1.drew = w3 at hHeld ⊢
  have HFw3 : Hid (FB w w3 w.heap.size A m c ds (j : Int)) := Lib.hid (by rw [← hwd]; exact HF1.out.drewN 1)
  clear hwd HF1 c0 c1
  refine wpAnyH_take (i := 1) (v := ?_) rfl (by kernel_rfl) (by kernel_rfl) (by kernel_rfl) (fun _ _ _ h => h) (Or.inl ⟨by kernel_rfl, ?_⟩) hHeld ?_
  rotate_left
  · intro wz hSw
    obtain ⟨s0, s1⟩ := hSw
    first
    | (go_simp; done)
    | (go_simp; with_reducible rfl)
    | (go_simp; omega)
  try simp only [Act.put, List.setIfInBounds_toArray, List.set_cons_zero, List.set_cons_succ]
  refine wpAnyH_take (i := 2) (v := ?_) rfl (by kernel_rfl) (by kernel_rfl) (by kernel_rfl) (fun _ _ _ h => h) (Or.inl ⟨by kernel_rfl, ?_⟩) hHeld ?_
  rotate_left
  · intro wz hSw
    obtain ⟨s0, s1⟩ := hSw
    first
    | (go_simp; done)
    | (go_simp; with_reducible rfl)
    | (go_simp; omega)
  try simp only [Act.put, List.setIfInBounds_toArray, List.set_cons_zero, List.set_cons_succ]
  refine wpAnyH_take (i := 7) (v := ?_) rfl (by kernel_rfl) (by kernel_rfl) (by kernel_rfl) (fun _ _ _ h => h) (Or.inl ⟨by kernel_rfl, ?_⟩) hHeld ?_
  rotate_left
  · intro wz hSw
    obtain ⟨s0, s1⟩ := hSw
    first
    | (go_simp; done)
    | (go_simp; with_reducible rfl)
    | (go_simp; omega)
  try simp only [Act.put, List.setIfInBounds_toArray, List.set_cons_zero, List.set_cons_succ]
  refine wpAnyH_take (i := 8) (v := ?_) rfl (by kernel_rfl) (by kernel_rfl) (by kernel_rfl) (fun _ _ _ h => h) (Or.inl ⟨by kernel_rfl, ?_⟩) hHeld ?_
  rotate_left
  · intro wz hSw
    obtain ⟨s0, s1⟩ := hSw
    first
    | (go_simp; done)
    | (go_simp; with_reducible rfl)
    | (go_simp; omega)
  try simp only [Act.put, List.setIfInBounds_toArray, List.set_cons_zero, List.set_cons_succ]
  refine wpAnyH_ready (rs := [0]) (by kernel_rfl) (by simp) ?_
  refine AllReadyH.cons rfl (fun K hK => ?_) AllReadyH.nil
  go_simp
  refine (boundWords_v w3).mono ?_
  rintro e w4 ⟨Aw, cw, rfl, hss, hb⟩
  have HFw4 := Lib.hid (HFw3.out.call hb)
  have a0w4 := HFw4.out.c0
  have a1w4 := HFw4.out.c1
  obtain ⟨bb, oo, rfl, hbb, xxw4⟩ := hss.at_ (k := j) hj4
  rw [HBW.out] at xxw4
  clear hss hb
  go_simp
  refine hK.out _ _ ⟨a0w4, a1w4⟩ (fun hHeld => ?_)
  clear hK K
  try simp only [Act.put, List.setIfInBounds_toArray, List.set_cons_zero, List.set_cons_succ]
  refine wpAnyH_take (i := 3) (v := ?_) rfl (by kernel_rfl) (by kernel_rfl) (by kernel_rfl) (fun _ _ _ h => h) (Or.inl ⟨by kernel_rfl, ?_⟩) hHeld ?_
  rotate_left
  · intro wz hSw
    obtain ⟨s0, s1⟩ := hSw
    first
    | (go_simp; done)
    | (go_simp; with_reducible rfl)
    | (go_simp; omega)
  try simp only [Act.put, List.setIfInBounds_toArray, List.set_cons_zero, List.set_cons_succ]
  refine wpAnyH_ready (rs := [4, 9]) (by kernel_rfl) (by simp) ?_
  refine AllReadyH.cons rfl (fun K hK => ?_) (AllReadyH.cons rfl (fun K hK => ?_) AllReadyH.nil)
  · go_simp
    refine hK.out _ _ ⟨a0w4, a1w4⟩ (fun hHeld => ?_)
    clear hK K
    try simp only [Act.put, List.setIfInBounds_toArray, List.set_cons_zero, List.set_cons_succ]
    refine wpAnyH_take (i := 5) (v := .string ((⟨#[102, 108, 97, 103, 32]⟩ : ByteArray) ++ u)) rfl (by kernel_rfl) (by kernel_rfl) (by kernel_rfl) (fun _ _ _ h => h) (Or.inl ⟨by kernel_rfl, ?_⟩) hHeld ?_
    · intro wz hSw
      obtain ⟨s0, s1⟩ := hSw
      first
      | (go_simp; done)
      | (go_simp; with_reducible rfl)
      | (go_simp; omega)
    try simp only [Act.put, List.setIfInBounds_toArray, List.set_cons_zero, List.set_cons_succ]
    refine wpAnyH_take (i := 6) (v := .string (((⟨#[102, 108, 97, 103, 32]⟩ : ByteArray) ++ u) ++ (⟨#[10]⟩ : ByteArray))) rfl (by kernel_rfl) (by kernel_rfl) (by kernel_rfl) (fun _ _ _ h => h) (Or.inl ⟨by kernel_rfl, ?_⟩) hHeld ?_
    · intro wz hSw
      obtain ⟨s0, s1⟩ := hSw
      first
      | (go_simp; done)
      | (go_simp; with_reducible rfl)
      | (go_simp; omega)
    try simp only [Act.put, List.setIfInBounds_toArray, List.set_cons_zero, List.set_cons_succ]
    refine wpAnyH_ready (rs := [9]) (by kernel_rfl) (by simp) ?_
    refine AllReadyH.cons rfl (fun K hK => ?_) AllReadyH.nil
    go_simp
    refine (HDL.out _ _ _ _ HFw4.out.sd).mono ?_
    rintro e w5 ⟨rfl, hb⟩
    have HFw5 := Lib.hid (HFw4.out.call hb)
    have a0w5 := HFw5.out.c0
    have a1w5 := HFw5.out.c1
    clear hb
    go_simp
    refine hK.out _ _ ⟨a0w5, a1w5⟩ (fun hHeld => ?_)
    clear hK K
    try simp only [Act.put, List.setIfInBounds_toArray, List.set_cons_zero, List.set_cons_succ]
    refine wpAnyH_take (i := 10) (v := .string ((((⟨#[102, 108, 97, 103, 32]⟩ : ByteArray) ++ u) ++ (⟨#[10]⟩ : ByteArray)) ++ t)) rfl (by kernel_rfl) (by kernel_rfl) (by kernel_rfl) (fun _ _ _ h => h) (Or.inl ⟨by kernel_rfl, ?_⟩) hHeld ?_
    · intro wz hSw
      obtain ⟨s0, s1⟩ := hSw
      first
      | (go_simp; done)
      | (go_simp; with_reducible rfl)
      | (go_simp; omega)
    try simp only [Act.put, List.setIfInBounds_toArray, List.set_cons_zero, List.set_cons_succ]
    refine wpAnyH_take (i := 11) (v := ?_) rfl (by kernel_rfl) (by kernel_rfl) (by kernel_rfl) (fun _ _ _ h => h) (Or.inl ⟨by kernel_rfl, ?_⟩) hHeld ?_
    rotate_left
    · intro wz hSw
      obtain ⟨s0, s1⟩ := hSw
      first
      | (go_simp; done)
      | (go_simp; with_reducible rfl)
      | (go_simp; omega)
    try simp only [Act.put, List.setIfInBounds_toArray, List.set_cons_zero, List.set_cons_succ]
    refine wpAnyH_done (by kernel_rfl) ?_ _
    try go_simp
    have HBZ := Lib.hid HFw5.out.bel
    go_wp2
    go_ret
    exact ⟨by rw [HM.out]; first | done | rfl, HBZ.out⟩
  · go_simp
    refine (HDL.out _ _ _ _ HFw4.out.sd).mono ?_
    rintro e w5 ⟨rfl, hb⟩
    have HFw5 := Lib.hid (HFw4.out.call hb)
    have a0w5 := HFw5.out.c0
    have a1w5 := HFw5.out.c1
    have xxw5 := keep1 hb xxw4
    clear hb
    go_simp
    refine hK.out _ _ ⟨a0w5, a1w5⟩ (fun hHeld => ?_)
    clear hK K
    try simp only [Act.put, List.setIfInBounds_toArray, List.set_cons_zero, List.set_cons_succ]
    refine wpAnyH_ready (rs := [4]) (by kernel_rfl) (by simp) ?_
    refine AllReadyH.cons rfl (fun K hK => ?_) AllReadyH.nil
    go_simp
    refine hK.out _ _ ⟨a0w5, a1w5⟩ (fun hHeld => ?_)
    clear hK K
    try simp only [Act.put, List.setIfInBounds_toArray, List.set_cons_zero, List.set_cons_succ]
    refine wpAnyH_take (i := 5) (v := .string ((⟨#[102, 108, 97, 103, 32]⟩ : ByteArray) ++ u)) rfl (by kernel_rfl) (by kernel_rfl) (by kernel_rfl) (fun _ _ _ h => h) (Or.inl ⟨by kernel_rfl, ?_⟩) hHeld ?_
    · intro wz hSw
      obtain ⟨s0, s1⟩ := hSw
      first
      | (go_simp; done)
      | (go_simp; with_reducible rfl)
      | (go_simp; omega)
    try simp only [Act.put, List.setIfInBounds_toArray, List.set_cons_zero, List.set_cons_succ]
    refine wpAnyH_take (i := 6) (v := .string (((⟨#[102, 108, 97, 103, 32]⟩ : ByteArray) ++ u) ++ (⟨#[10]⟩ : ByteArray))) rfl (by kernel_rfl) (by kernel_rfl) (by kernel_rfl) (fun _ _ _ h => h) (Or.inl ⟨by kernel_rfl, ?_⟩) hHeld ?_
    · intro wz hSw
      obtain ⟨s0, s1⟩ := hSw
      first
      | (go_simp; done)
      | (go_simp; with_reducible rfl)
      | (go_simp; omega)
    try simp only [Act.put, List.setIfInBounds_toArray, List.set_cons_zero, List.set_cons_succ]
    refine wpAnyH_take (i := 10) (v := .string ((((⟨#[102, 108, 97, 103, 32]⟩ : ByteArray) ++ u) ++ (⟨#[10]⟩ : ByteArray)) ++ t)) rfl (by kernel_rfl) (by kernel_rfl) (by kernel_rfl) (fun _ _ _ h => h) (Or.inl ⟨by kernel_rfl, ?_⟩) hHeld ?_
    · intro wz hSw
      obtain ⟨s0, s1⟩ := hSw
      first
      | (go_simp; done)
      | (go_simp; with_reducible rfl)
      | (go_simp; omega)
    try simp only [Act.put, List.setIfInBounds_toArray, List.set_cons_zero, List.set_cons_succ]
    refine wpAnyH_take (i := 11) (v := ?_) rfl (by kernel_rfl) (by kernel_rfl) (by kernel_rfl) (fun _ _ _ h => h) (Or.inl ⟨by kernel_rfl, ?_⟩) hHeld ?_
    rotate_left
    · intro wz hSw
      obtain ⟨s0, s1⟩ := hSw
      first
      | (go_simp; done)
      | (go_simp; with_reducible rfl)
      | (go_simp; omega)
    try simp only [Act.put, List.setIfInBounds_toArray, List.set_cons_zero, List.set_cons_succ]
    refine wpAnyH_done (by kernel_rfl) ?_ _
    try go_simp
    have HBZ := Lib.hid HFw5.out.bel
    go_wp2
    go_ret
    exact ⟨by rw [HM.out]; first | done | rfl, HBZ.out⟩

set_option maxHeartbeats 8000000 in
theorem implFlagT_v (ds : List D) (b : Int) (A : Option Addr) (m c : Nat) (w : World) (hr : SD w w.heap.size A m c ds) (hn : m ≤ 1048576) (hT : P10 w) (hG : p10G < w.heap.size) :
    Calls Tryd.prog 33 #[.agg #[.slice A m c, .int .i64 b]] w (fun e w' => e = .returned (.string (mFlagT ds b)) ∧ Below w.heap.size w w') := by
  have HF := Lib.hid (FB.start hr b)
  have HT := Lib.hid hT
  clear hr hT
  cases hv : vFlag ds b
  · have HV := Lib.hid hv
    have HM : Hid (mFlagT ds b = ⟨#[]⟩) := Lib.hid (by unfold mFlagT; rw [hv]; rfl)
    clear hv
    go_enter Tryd.func33, Tryd.ntmps33
    go_wp2_with (go_at_call 45; refine (implVF_v ds b _ _ _ _ HF.out.sd hn HV.out).mono ?_; rintro e w' ⟨rfl, hb⟩)
    go_ret
    exact ⟨by rw [HM.out]; first | done | rfl, HF.out.after hb⟩
  have HV := Lib.hid hv
  obtain ⟨j, rfl⟩ : ∃ j : Nat, b = j := ⟨b.toNat, by have := vFlag_bound hv; omega⟩
  have hj4 : j < 4 := by have := vFlag_bound hv; omega
  have HBW := Lib.hid (fhs_at (j := j) hj4)
  have hus := boundB_size (j : Int)
  have HSM : Hid (∀ d ∈ ds, Sm d) := Lib.hid (flag_small hv)
  have HLN : Hid (ds.length ≤ 100) := Lib.hid (by have := vFlag_len hv; omega)
  obtain ⟨u, hu⟩ : ∃ u, flagB ++ boundB (j : Int) = u := ⟨_, rfl⟩
  have huz : u.size ≤ 20 := by rw [← hu, ByteArray.size_append]; show 5 + _ ≤ 20; omega
  obtain ⟨t, ht⟩ : ∃ t, mFlagT ds j = t := ⟨_, rfl⟩
  have ht2 : (u ++ nlB) ++ linesB ds = t := by rw [← ht, ← hu]; unfold mFlagT; rw [hv]; rfl
  rw [hu] at HBW
  rw [ht]
  have HDL : Hid (∀ (A : Option Addr) (n c : Nat) (w : World), SD w w.heap.size A n c ds → P10 w → p10G < w.heap.size → Calls Tryd.prog 65 #[.string u, .slice A n c] w fun e w' => e = .returned (.string t) ∧ Below w.heap.size w w') := Lib.hid (fun A n c w hr h1 h2 => by rw [← ht2]; exact textOf_v u ds A n c w hr huz HSM.out HLN.out h1 h2)
  have hj0 : (0 : Int) ≤ (j : Int) := by omega
  have hj1 : (j : Int) < 4 := by omega
  clear hv hu ht ht2 HSM HLN
  go_enter Tryd.func33, Tryd.ntmps33
  go_wp2_with fail
  refine (implVF_v ds j _ _ _ _ HF.out.sd hn HV.out).mono ?_
  rintro e w1 ⟨rfl, hb⟩
  have HF1 := Lib.hid (HF.out.call hb)
  have c0 := HF1.out.c0
  have c1 := HF1.out.c1
  clear hb HF
  go_wp2_with fail
  refine wp_region_held_drew (S := fun w' => w'.cell? ⟨w.heap.size, 0, none⟩ = some (.slice A m c) ∧ w'.cell? ⟨w.heap.size, 1, none⟩ = some (.int .i64 (j : Int))) (by kernel_rfl) ⟨c0, c1⟩ (fun hHeld => ?_)
  generalize hwd : w1.drew = w3 at hHeld ⊢
  have HFw3 : Hid (FB w w3 w.heap.size A m c ds (j : Int)) := Lib.hid (by rw [← hwd]; exact HF1.out.drewN 1)
  clear hwd HF1 c0 c1
  refine wpAnyH_take (i := 1) (v := ?_) rfl (by kernel_rfl) (by kernel_rfl) (by kernel_rfl) (fun _ _ _ h => h) (Or.inl ⟨by kernel_rfl, ?_⟩) hHeld ?_
  rotate_left
  · intro wz hSw
    obtain ⟨s0, s1⟩ := hSw
    first
    | (go_simp; done)
    | (go_simp; with_reducible rfl)
    | (go_simp; omega)
  try simp only [Act.put, List.setIfInBounds_toArray, List.set_cons_zero, List.set_cons_succ]
  refine wpAnyH_take (i := 2) (v := ?_) rfl (by kernel_rfl) (by kernel_rfl) (by kernel_rfl) (fun _ _ _ h => h) (Or.inl ⟨by kernel_rfl, ?_⟩) hHeld ?_
  rotate_left
  · intro wz hSw
    obtain ⟨s0, s1⟩ := hSw
    first
    | (go_simp; done)
    | (go_simp; with_reducible rfl)
    | (go_simp; omega)
  try simp only [Act.put, List.setIfInBounds_toArray, List.set_cons_zero, List.set_cons_succ]
  refine wpAnyH_take (i := 5) (v := ?_) rfl (by kernel_rfl) (by kernel_rfl) (by kernel_rfl) (fun _ _ _ h => h) (Or.inl ⟨by kernel_rfl, ?_⟩) hHeld ?_
  rotate_left
  · intro wz hSw
    obtain ⟨s0, s1⟩ := hSw
    first
    | (go_simp; done)
    | (go_simp; with_reducible rfl)
    | (go_simp; omega)
  try simp only [Act.put, List.setIfInBounds_toArray, List.set_cons_zero, List.set_cons_succ]
  refine wpAnyH_take (i := 6) (v := ?_) rfl (by kernel_rfl) (by kernel_rfl) (by kernel_rfl) (fun _ _ _ h => h) (Or.inl ⟨by kernel_rfl, ?_⟩) hHeld ?_
  rotate_left
  · intro wz hSw
    obtain ⟨s0, s1⟩ := hSw
    first
    | (go_simp; done)
    | (go_simp; with_reducible rfl)
    | (go_simp; omega)
  try simp only [Act.put, List.setIfInBounds_toArray, List.set_cons_zero, List.set_cons_succ]
  refine wpAnyH_ready (rs := [0]) (by kernel_rfl) (by simp) ?_
  refine AllReadyH.cons rfl (fun K hK => ?_) AllReadyH.nil
  go_simp
  refine (flagHeads_v w3).mono ?_
  rintro e w4 ⟨Aw, cw, rfl, hss, hb⟩
  have HFw4 := Lib.hid (HFw3.out.call hb)
  have a0w4 := HFw4.out.c0
  have a1w4 := HFw4.out.c1
  obtain ⟨bb, oo, rfl, hbb, xxw4⟩ := hss.at_ (k := j) hj4
  rw [HBW.out] at xxw4
  clear hss hb
  go_simp
  refine hK.out _ _ ⟨a0w4, a1w4⟩ (fun hHeld => ?_)
  clear hK K
  try simp only [Act.put, List.setIfInBounds_toArray, List.set_cons_zero, List.set_cons_succ]
  refine wpAnyH_take (i := 3) (v := ?_) rfl (by kernel_rfl) (by kernel_rfl) (by kernel_rfl) (fun _ _ _ h => h) (Or.inl ⟨by kernel_rfl, ?_⟩) hHeld ?_
  rotate_left
  · intro wz hSw
    obtain ⟨s0, s1⟩ := hSw
    first
    | (go_simp; done)
    | (go_simp; with_reducible rfl)
    | (go_simp; omega)
  try simp only [Act.put, List.setIfInBounds_toArray, List.set_cons_zero, List.set_cons_succ]
  refine wpAnyH_ready (rs := [4]) (by kernel_rfl) (by simp) ?_
  refine AllReadyH.cons rfl (fun K hK => ?_) AllReadyH.nil
  go_simp
  refine hK.out _ _ ⟨a0w4, a1w4⟩ (fun hHeld => ?_)
  clear hK K
  try simp only [Act.put, List.setIfInBounds_toArray, List.set_cons_zero, List.set_cons_succ]
  refine wpAnyH_ready (rs := [7]) (by kernel_rfl) (by simp) ?_
  refine AllReadyH.cons rfl (fun K hK => ?_) AllReadyH.nil
  go_simp
  refine (HDL.out _ _ _ _ HFw4.out.sd (HT.out.below HFw4.out.bel hG) (Nat.lt_of_lt_of_le hG HFw4.out.bel.size)).mono ?_
  rintro e w5 ⟨rfl, hb⟩
  have HFw5 := Lib.hid (HFw4.out.call hb)
  have a0w5 := HFw5.out.c0
  have a1w5 := HFw5.out.c1
  clear hb
  go_simp
  refine hK.out _ _ ⟨a0w5, a1w5⟩ (fun hHeld => ?_)
  clear hK K
  try simp only [Act.put, List.setIfInBounds_toArray, List.set_cons_zero, List.set_cons_succ]
  refine wpAnyH_take (i := 8) (v := ?_) rfl (by kernel_rfl) (by kernel_rfl) (by kernel_rfl) (fun _ _ _ h => h) (Or.inl ⟨by kernel_rfl, ?_⟩) hHeld ?_
  rotate_left
  · intro wz hSw
    obtain ⟨s0, s1⟩ := hSw
    first
    | (go_simp; done)
    | (go_simp; with_reducible rfl)
    | (go_simp; omega)
  try simp only [Act.put, List.setIfInBounds_toArray, List.set_cons_zero, List.set_cons_succ]
  refine wpAnyH_done (by kernel_rfl) ?_ _
  try go_simp
  have HBZ := Lib.hid HFw5.out.bel
  go_wp2
  go_ret
  exact ⟨rfl, HBZ.out⟩
end Go.Proofs.YtpfdghbjagdhfaaDoor

namespace Go.Proofs.YtpfdghbjagdhfaaDoor
open Go.RowKit
set_option linter.unusedVariables false
set_option maxRecDepth 100000

/-! ### a text of a class, as the model reads it: no program in sight -/
/-- The first line of a text, and the items of the others. -/
def itemsOf (f : ByteArray → Option It) (s : ByteArray) : Option (ByteArray × List It) := match mLn s with
  | some (h :: ls) => (match allIt f ls with | some ts => some (h, ts) | none => none)
  | _ => none
theorem itemsOf_no {f : ByteArray → Option It} {s : ByteArray} (h : mLn s = none) : itemsOf f s = none := by unfold itemsOf; rw [h]
theorem itemsOf_bad {f : ByteArray → Option It} {s h : ByteArray} {ls : List ByteArray} (hl : mLn s = some (h :: ls)) (ha : allIt f ls = none) : itemsOf f s = none := by unfold itemsOf; rw [hl]; simp only; rw [ha]
theorem itemsOf_yes {f : ByteArray → Option It} {s h : ByteArray} {ls : List ByteArray} {ts : List It} (hl : mLn s = some (h :: ls)) (ha : allIt f ls = some ts) : itemsOf f s = some (h, ts) := by unfold itemsOf; rw [hl]; simp only; rw [ha]
theorem mLn_some {s : ByteArray} {l : List ByteArray} (h : mLn s = some l) : ∃ x r, l = x :: r := by
  unfold mLn at h
  split at h
  · rename_i h2
    cases h
    cases e : (splitT 10 s).dropLast with
    | nil =>
      have := congrArg List.length e
      rw [List.length_dropLast, List.length_nil] at this
      omega
    | cons x r => exact ⟨x, r, rfl⟩
  · cases h
/-- Both readers read the same, or what only the program reads has an item that is none. -/
theorem items_two (s : ByteArray) : itemsOf itS s = itemsOf itI s ∨ (itemsOf itS s = none ∧ ∃ h ts, itemsOf itI s = some (h, ts) ∧ ∃ x ∈ ts, badIt x) := by
  cases hm : mLn s with
  | none => exact .inl (by rw [itemsOf_no hm, itemsOf_no hm])
  | some l =>
    obtain ⟨h, ls, rfl⟩ := mLn_some hm
    cases ha : allIt itS ls with
    | some ts => exact .inl (by rw [itemsOf_yes hm ha, itemsOf_yes hm (all_same ha)])
    | none =>
      rcases all_none ha with h2 | ⟨ts, h2, hb⟩
      · exact .inl (by rw [itemsOf_bad hm ha, itemsOf_bad hm h2])
      · exact .inr ⟨itemsOf_bad hm ha, h, ts, itemsOf_yes hm h2, hb⟩
def mPE (s : ByteArray) : List D := match itemsOf itS s with | some (h, ts) => if h = enumB then mBuild ts else [] | none => []
def okPE (s : ByteArray) : Bool := match itemsOf itS s with | some (h, ts) => decide (h = enumB) && built ts | none => false
theorem mBuild_no {ts : List It} (h : built ts = false) : mBuild ts = [] := by unfold mBuild; rw [h]; rfl
theorem pe_no {s : ByteArray} (h : itemsOf itS s = none) : mPE s = [] ∧ okPE s = false := by unfold mPE okPE; rw [h]; exact ⟨rfl, rfl⟩
theorem pe_yes {s h : ByteArray} {ts : List It} (hi : itemsOf itS s = some (h, ts)) : mPE s = (if h = enumB then mBuild ts else []) ∧ okPE s = (decide (h = enumB) && built ts) := by unfold mPE okPE; rw [hi]; exact ⟨rfl, rfl⟩
theorem pe_noI {s : ByteArray} (h : itemsOf itI s = none) : mPE s = [] ∧ okPE s = false := by
  rcases items_two s with h2 | ⟨h2, _⟩
  · exact pe_no (h2.trans h)
  · exact pe_no h2
theorem pe_yesI {s h : ByteArray} {ts : List It} (hi : itemsOf itI s = some (h, ts)) : mPE s = (if h = enumB then mBuild ts else []) ∧ okPE s = (decide (h = enumB) && built ts) := by
  rcases items_two s with h2 | ⟨h2, h', ts', h3, hb⟩
  · exact pe_yes (h2.trans hi)
  · rw [hi] at h3
    obtain ⟨rfl, rfl⟩ := Prod.mk.inj (Option.some.inj h3)
    obtain ⟨e1, e2⟩ := pe_no h2
    have hf := bad_built hb
    rw [e1, e2, mBuild_no hf, hf, Bool.and_false]
    exact ⟨by split <;> rfl, rfl⟩

/-! ### the bound of a first line -/
def isS (h : ByteArray) (x : ByteArray) : Bool := decide (h = x)
def bndH (h : ByteArray) : Int := fidx (isS h) fhs
def mPF (s : ByteArray) : List D := match itemsOf itS s with | some (h, ts) => mBldF ts (bndH h) | none => []
def bPF (s : ByteArray) : Int := match itemsOf itS s with | some (h, ts) => mBldB ts (bndH h) | none => 0
def okPF (s : ByteArray) : Bool := match itemsOf itS s with | some (h, ts) => builtF ts (bndH h) | none => false
theorem mBldF_no {ts : List It} {b : Int} (h : builtF ts b = false) : mBldF ts b = [] ∧ mBldB ts b = 0 := by unfold mBldF mBldB; rw [h]; exact ⟨rfl, rfl⟩
theorem pf_no {s : ByteArray} (h : itemsOf itS s = none) : mPF s = [] ∧ bPF s = 0 ∧ okPF s = false := by unfold mPF bPF okPF; rw [h]; exact ⟨rfl, rfl, rfl⟩
theorem pf_yes {s h : ByteArray} {ts : List It} (hi : itemsOf itS s = some (h, ts)) : mPF s = mBldF ts (bndH h) ∧ bPF s = mBldB ts (bndH h) ∧ okPF s = builtF ts (bndH h) := by unfold mPF bPF okPF; rw [hi]; exact ⟨rfl, rfl, rfl⟩
theorem pf_noI {s : ByteArray} (h : itemsOf itI s = none) : mPF s = [] ∧ bPF s = 0 ∧ okPF s = false := by
  rcases items_two s with h2 | ⟨h2, _⟩
  · exact pf_no (h2.trans h)
  · exact pf_no h2
theorem pf_yesI {s h : ByteArray} {ts : List It} (hi : itemsOf itI s = some (h, ts)) : mPF s = mBldF ts (bndH h) ∧ bPF s = mBldB ts (bndH h) ∧ okPF s = builtF ts (bndH h) := by
  rcases items_two s with h2 | ⟨h2, h', ts', h3, hb⟩
  · exact pf_yes (h2.trans hi)
  · rw [hi] at h3
    obtain ⟨rfl, rfl⟩ := Prod.mk.inj (Option.some.inj h3)
    obtain ⟨e1, e2, e3⟩ := pf_no h2
    have hf := bad_builtF (b := bndH h) hb
    obtain ⟨g1, g2⟩ := mBldF_no hf
    rw [e1, e2, e3, g1, g2, hf]
    exact ⟨rfl, rfl, rfl⟩
theorem builtF_neg {ts : List It} {b : Int} (h : b < 0) : builtF ts b = false := by
  unfold builtF
  cases hv : vFlag (bldF ts ts.length) b
  · rw [Bool.and_false]
  · exfalso
    unfold vFlag at hv
    simp only [Bool.and_eq_true, decide_eq_true_eq] at hv
    omega
theorem bndH_cases (h : ByteArray) : (bndH h = -1 ∧ ∀ j (hj : j < fhs.length), h ≠ fhs[j]) ∨ ∃ j : Nat, ∃ hj : j < fhs.length, bndH h = (j : Int) ∧ h = fhs[j] := by
  unfold bndH
  rcases fidx_cases (isS h) fhs with ⟨e, hn⟩ | ⟨k, hk, e, hp, _⟩
  · refine .inl ⟨e, fun j hj he => ?_⟩
    have := hn j hj hj
    unfold isS at this
    rw [decide_eq_true he] at this
    cases this
  · refine .inr ⟨k, hk, e, ?_⟩
    unfold isS at hp
    exact of_decide_eq_true hp
theorem vEnum_dok {ds : List D} (hv : vEnum ds = true) : ∀ d ∈ ds, d.ok := by
  intro d hd
  obtain ⟨a, b, c⟩ := enum_small hv d hd
  exact ⟨by unfold maxLen; omega, by omega, by omega⟩
theorem vFlag_dok {ds : List D} {b : Int} (hv : vFlag ds b = true) : ∀ d ∈ ds, d.ok := by
  intro d hd
  obtain ⟨a, b, c⟩ := flag_small hv d hd
  exact ⟨by unfold maxLen; omega, by omega, by omega⟩
theorem mPE_dok (s : ByteArray) : (∀ d ∈ mPE s, d.ok) ∧ (mPE s).length ≤ 12 := by
  cases hi : itemsOf itS s with
  | none => rw [(pe_no hi).1]; exact ⟨fun d hd => (by cases hd), Nat.zero_le _⟩
  | some p =>
    obtain ⟨h, ts⟩ := p
    rw [(pe_yes hi).1]
    split
    · cases hb : built ts
      · rw [mBuild_no hb]; exact ⟨fun d hd => (by cases hd), Nat.zero_le _⟩
      · have e : mBuild ts = bld ts ts.length := by unfold mBuild; rw [hb]; rfl
        unfold built at hb
        rw [Bool.and_eq_true] at hb
        rw [e]
        exact ⟨vEnum_dok hb.2, vEnum_len hb.2⟩
    · exact ⟨fun d hd => (by cases hd), Nat.zero_le _⟩
theorem mPF_dok (s : ByteArray) : (∀ d ∈ mPF s, d.ok) ∧ (mPF s).length ≤ 12 := by
  cases hi : itemsOf itS s with
  | none => rw [(pf_no hi).1]; exact ⟨fun d hd => (by cases hd), Nat.zero_le _⟩
  | some p =>
    obtain ⟨h, ts⟩ := p
    rw [(pf_yes hi).1]
    refine ⟨?_, mBldF_len ts _⟩
    cases hb : builtF ts (bndH h)
    · rw [(mBldF_no hb).1]; exact fun d hd => (by cases hd)
    · have e : mBldF ts (bndH h) = bldF ts ts.length := by unfold mBldF; rw [hb]; rfl
      unfold builtF at hb
      rw [Bool.and_eq_true] at hb
      rw [e]
      exact vFlag_dok hb.2

/-! ### items that are read one by one -/
def stAt (f : ByteArray → Option It) (l : List ByteArray) (k : Nat) (us : List It) : Prop :=
  allIt f l = (match allIt f (l.drop k) with | some r => some (us ++ r) | none => none)
theorem stAt_zero (f : ByteArray → Option It) (l : List ByteArray) : stAt f l 0 [] := by
  unfold stAt
  rw [List.drop_zero]
  cases allIt f l <;> rfl
theorem stAt_bad {f : ByteArray → Option It} {l : List ByteArray} {k : Nat} {us : List It} (hk : k < l.length) (h : stAt f l k us) (hn : f l[k] = none) : allIt f l = none := by
  unfold stAt at h
  rw [h, List.drop_eq_getElem_cons hk, allIt, hn]
theorem stAt_step {f : ByteArray → Option It} {l : List ByteArray} {k : Nat} {us : List It} {x : It} (hk : k < l.length) (h : stAt f l k us) (hn : f l[k] = some x) : stAt f l (k + 1) (us ++ [x]) := by
  unfold stAt at h ⊢
  rw [h, List.drop_eq_getElem_cons hk, allIt, hn]
  simp only
  cases allIt f (l.drop (k + 1)) with
  | none => rfl
  | some r => simp
theorem stAt_end {f : ByteArray → Option It} {l : List ByteArray} {us : List It} (h : stAt f l l.length us) : allIt f l = some us := by
  unfold stAt at h
  rw [h, List.drop_eq_nil_of_le (Nat.le_refl _), allIt]
  simp
theorem itS_ok {s : ByteArray} (hs : s.size ≤ 1048576) {x : It} (h : itS s = some x) : x.ok := by
  unfold itS at h
  split at h
  · cases h
    exact ⟨by show s.size ≤ maxLen; unfold maxLen; omega, (by decide : (-9223372036854775808 : Int) ≤ 0), (by decide : (0 : Int) ≤ 9223372036854775807)⟩
  · rename_i a e c hw
    split at h
    · split at h
      · rename_i v hv
        cases h
        have h1 := splitT_size 32 s a (by rw [hw]; simp)
        have h2 := (rdSg_num hv).2
        exact ⟨by show a.size ≤ maxLen; unfold maxLen; omega, by show _ ≤ v; omega, by show v ≤ _; omega⟩
      · cases h
    · cases h
  · cases h
theorem cut_le (s t : List UInt8) : (Lib.cut s t).1.length ≤ s.length := by
  unfold Lib.cut
  split
  · show (s.take _).length ≤ _
    rw [List.length_take]
    exact Nat.min_le_right _ _
  · exact Nat.le_refl _
theorem cut_le2 (s t : List UInt8) : (Lib.cut s t).2.1.length ≤ s.length := by
  unfold Lib.cut
  split
  · show (s.drop _).length ≤ _
    rw [List.length_drop]
    exact Nat.sub_le _ _
  · exact Nat.zero_le _
theorem mLn_size {s : ByteArray} {l : List ByteArray} (h : mLn s = some l) : ∀ x ∈ l, x.size ≤ s.size := by
  unfold mLn at h
  split at h
  · cases h
    exact fun x hx => splitT_size 10 s x ((List.dropLast_sublist _).mem hx)
  · cases h
theorem mLn_len {s : ByteArray} {l : List ByteArray} (h : mLn s = some l) : l.length ≤ s.size + 1 := by
  unfold mLn at h
  split at h
  · cases h
    have := (splitT_len 10 s).1
    rw [List.length_dropLast]
    omega
  · cases h
theorem itI_ok {s : ByteArray} (hs : s.size ≤ 1048576) {x : It} (h : itI s = some x) : x.ok := by
  unfold itI at h
  split at h
  · split at h
    · rename_i v hv
      cases h
      have h1 := cut_le s.data.toList eqB.data.toList
      rw [Array.length_toList] at h1
      have h2 := (numOf_some hv).2
      refine ⟨?_, h2.1, h2.2⟩
      show ((Lib.cut s.data.toList eqB.data.toList).1.toArray).size ≤ maxLen
      rw [List.size_toArray]
      have h3 : s.data.size = s.size := rfl
      unfold maxLen
      omega
    · cases h
  · cases h
    exact ⟨by show s.size ≤ maxLen; unfold maxLen; omega, (by decide : (-9223372036854775808 : Int) ≤ 0), (by decide : (0 : Int) ≤ 9223372036854775807)⟩
/-- The lines of a text, told by its parts between newlines. -/
theorem lines_three {ls : List ByteArray} (h : 2 ≤ ls.length) : ∃ (x : ByteArray) (mid : List ByteArray) (last : ByteArray), ls = x :: (mid ++ [last]) := by
  rcases ls with _ | ⟨x, r⟩
  · simp at h
  · rcases List.eq_nil_or_concat r with rfl | ⟨mid, last, rfl⟩
    · simp at h
    · exact ⟨x, mid, last, by simp⟩
theorem mLn_parts {s x last : ByteArray} {mid : List ByteArray} (h : splitT 10 s = x :: (mid ++ [last])) : mLn s = if last = ⟨#[]⟩ then some (x :: mid) else none := by
  unfold mLn
  have e : x :: (mid ++ [last]) = (x :: mid) ++ [last] := rfl
  rw [h, e, List.getLast?_concat, List.dropLast_concat]
  have h2 : 2 ≤ ((x :: mid) ++ [last]).length := by simp
  by_cases hl : last = ⟨#[]⟩
  · rw [if_pos hl, if_pos ⟨h2, by rw [hl]⟩]
  · rw [if_neg hl, if_neg (fun h => hl (Option.some.inj h.2))]
theorem mLn_short {s : ByteArray} (h : (splitT 10 s).length < 2) : mLn s = none := by
  unfold mLn
  rw [if_neg (fun h2 => by omega)]
end Go.Proofs.YtpfdghbjagdhfaaDoor

