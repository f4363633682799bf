import Derived.Test.YtlomhkhpnafooaaDoorEtS
import Derived.Test.YtlomhkhpnafooaaDoorBaseY
import Derived.Test.YtlomhkhpnafooaaDoorBaseB
namespace Go.Proofs.YtlomhkhpnafooaaDoor
open Go.RowKit
set_option linter.unusedVariables false
set_option linter.unusedSimpArgs false
set_option maxRecDepth 100000

set_option maxHeartbeats 8000000 in
theorem textOf_v (head : ByteArray) (ds : List D) (A : Option Addr) (n c : Nat) (w : World) (hr : SD w w.heap.size A n c ds) (hh : head.size ≤ 20) (hsm : ∀ d ∈ ds, Sm d) (hln : ds.length ≤ 100) (hT : P10 w) (hG : p10G < w.heap.size) :
    Calls Tryd.prog 54 #[.string head, .slice A n c] w fun e w' => e = .returned (.string ((head ++ nlB) ++ linesB ds)) ∧ Below w.heap.size w w' := by
  obtain rfl := hr.len
  have hl := hr.max
  have hl2 := hr.cap
  unfold maxLen at hl
  have HR := Lib.hid hr
  have HSM := Lib.hid hsm
  have HT0 := Lib.hid hT
  have hhz : (head ++ (⟨#[10]⟩ : ByteArray)).size ≤ 21 := by rw [ByteArray.size_append]; show _ + 1 ≤ _; omega
  obtain ⟨hd, hhd⟩ : ∃ x, head ++ nlB = x := ⟨_, rfl⟩
  have HHD : Hid (head ++ (⟨#[10]⟩ : ByteArray) = hd) := Lib.hid hhd
  rw [hhd]
  clear hr hsm hT hhd
  go_enter Tryd.func54, Tryd.ntmps54
  go_wp2
  go_loopw [5, 12] (fun s i wr => ∃ (k : Nat) (t : ByteArray), k ≤ ds.length ∧ i = .int .i64 k ∧ s = .string t ∧ t.size ≤ 16 * k + 21 ∧ Hid (t = hd ++ linesB (ds.take k)) ∧ Hid (Below w.heap.size w wr)) (fun _ i _ => ds.length - (intOf i).toNat)
  case atStart => exact ⟨0, _, Nat.zero_le _, rfl, rfl, hhz, Lib.hid (by rw [HHD.out]; exact (ba_nil hd).symm), Lib.hid (Below.refl _ _)⟩
  case round =>
    obtain ⟨k, t, hk, rfl, rfl, htz, ht, hbel⟩ := hrel
    by_cases hlt : k < ds.length
    · obtain ⟨b, o, rfl, hb, c1, c2⟩ := (HR.out.below hbel.out).at_ hlt
      have hi1 : (k : Int) < (ds.length : Int) := by omega
      have HTL := Lib.hid (linesB_succ hlt)
      obtain ⟨hn6, hv0, hv1⟩ := HSM.out _ (List.getElem_mem hlt)
      have hLS := lineB_size hn6 hv0 hv1
      obtain ⟨u, hu⟩ : ∃ u, itoaB ds[k].val = u := ⟨_, rfl⟩
      have huz : u.size ≤ 6 := by rw [← hu]; exact itoaB_size hv0 hv1
      have HLF : Hid (((ds[k].name ++ (⟨#[32, 61, 32]⟩ : ByteArray)) ++ u) ++ (⟨#[10]⟩ : ByteArray) = lineB ds[k]) := Lib.hid (by rw [← hu]; rfl)
      have HIT : Hid (∀ w, P10 w → Calls Tryd.prog 95 #[.int .i64 ds[k].val] w fun e w' => e = .returned (.string u) ∧ Below w.heap.size w w') := Lib.hid (fun w h => by rw [← hu]; exact itoa_v _ (by omega) (by omega) w h)
      clear hu
      generalize lineB ds[k] = ln at *
      generalize ds[k].name = s at *
      generalize ds[k].val = v at *
      have hz1 : (s ++ (⟨#[32, 61, 32]⟩ : ByteArray)).size ≤ 3000 := by rw [ByteArray.size_append]; show _ + 3 ≤ _; omega
      have hz2 : ((s ++ (⟨#[32, 61, 32]⟩ : ByteArray)) ++ u).size ≤ 3010 := by rw [ByteArray.size_append]; omega
      have hz3 : (((s ++ (⟨#[32, 61, 32]⟩ : ByteArray)) ++ u) ++ (⟨#[10]⟩ : ByteArray)).size ≤ 3020 := by rw [HLF.out]; omega
      have hz4 : (t ++ (((s ++ (⟨#[32, 61, 32]⟩ : ByteArray)) ++ u) ++ (⟨#[10]⟩ : ByteArray))).size ≤ 16 * (k + 1) + 21 := by rw [HLF.out, ByteArray.size_append]; omega
      have hz5 : (t ++ (((s ++ (⟨#[32, 61, 32]⟩ : ByteArray)) ++ u) ++ (⟨#[10]⟩ : ByteArray))).size ≤ 3030 := by omega
      have l0 : (wr.alloc (.cells #[.string s, .int .i64 v] 104)).cell? ⟨wr.heap.size, 0, none⟩ = some (.string s) := by simp [go_sem]
      have l1 : (wr.alloc (.cells #[.string s, .int .i64 v] 104)).cell? ⟨wr.heap.size, 1, none⟩ = some (.int .i64 v) := by simp [go_sem]
      have HBW : Hid (Below w.heap.size w (wr.alloc (.cells #[.string s, .int .i64 v] 104))) := Lib.hid (hbel.out.alloc hbel.out.size _)
      go_wp2_with fail
      refine wp_region_held_drew (S := fun w' => w'.cell? ⟨wr.heap.size, 0, none⟩ = some (.string s) ∧ w'.cell? ⟨wr.heap.size, 1, none⟩ = some (.int .i64 v)) (by kernel_rfl) ⟨l0, l1⟩ (fun hHeld => ?_)
      generalize hwd : (wr.alloc (.cells #[.string s, .int .i64 v] 104)).drew = w3 at hHeld ⊢
      have HB3 : Hid (Below w.heap.size w w3) := Lib.hid (by rw [← hwd]; exact HBW.out.drew)
      have k0 : w3.cell? ⟨wr.heap.size, 0, none⟩ = some (.string s) := by rw [← hwd]; exact l0
      have k1 : w3.cell? ⟨wr.heap.size, 1, none⟩ = some (.int .i64 v) := by rw [← hwd]; exact l1
      have HT3 : Hid (P10 w3) := Lib.hid (P10.below HT0.out HB3.out hG)
      clear hwd l0 l1
      refine wpAnyH_take (i := 0) (v := ?_) rfl (by kernel_rfl) (by kernel_rfl) (by kernel_rfl) (fun _ _ _ h => h) (Or.inl ⟨by kernel_rfl, ?_⟩) hHeld ?_
      rotate_left
      · intro wz hSw
        obtain ⟨s0, s1⟩ := hSw
        first
        | (go_simp; done)
        | (go_simp; with_reducible rfl)
        | (go_simp; omega)
      try simp only [Act.put, List.setIfInBounds_toArray, List.set_cons_zero, List.set_cons_succ]
      refine wpAnyH_take (i := 1) (v := ?_) rfl (by kernel_rfl) (by kernel_rfl) (by kernel_rfl) (fun _ _ _ h => h) (Or.inl ⟨by kernel_rfl, ?_⟩) hHeld ?_
      rotate_left
      · intro wz hSw
        obtain ⟨s0, s1⟩ := hSw
        first
        | (go_simp; done)
        | (go_simp; with_reducible rfl)
        | (go_simp; omega)
      try simp only [Act.put, List.setIfInBounds_toArray, List.set_cons_zero, List.set_cons_succ]
      refine wpAnyH_take (i := 2) (v := ?_) rfl (by kernel_rfl) (by kernel_rfl) (by kernel_rfl) (fun _ _ _ h => h) (Or.inl ⟨by kernel_rfl, ?_⟩) hHeld ?_
      rotate_left
      · intro wz hSw
        obtain ⟨s0, s1⟩ := hSw
        first
        | (go_simp; done)
        | (go_simp; with_reducible rfl)
        | (go_simp; omega)
      try simp only [Act.put, List.setIfInBounds_toArray, List.set_cons_zero, List.set_cons_succ]
      refine wpAnyH_take (i := 3) (v := .string (s ++ (⟨#[32, 61, 32]⟩ : ByteArray))) rfl (by kernel_rfl) (by kernel_rfl) (by kernel_rfl) (fun _ _ _ h => h) (Or.inl ⟨by kernel_rfl, ?_⟩) hHeld ?_
      · intro wz hSw
        obtain ⟨s0, s1⟩ := hSw
        first
        | (go_simp; done)
        | (go_simp; with_reducible rfl)
        | (go_simp; omega)
      try simp only [Act.put, List.setIfInBounds_toArray, List.set_cons_zero, List.set_cons_succ]
      refine wpAnyH_take (i := 4) (v := ?_) rfl (by kernel_rfl) (by kernel_rfl) (by kernel_rfl) (fun _ _ _ h => h) (Or.inl ⟨by kernel_rfl, ?_⟩) hHeld ?_
      rotate_left
      · intro wz hSw
        obtain ⟨s0, s1⟩ := hSw
        first
        | (go_simp; done)
        | (go_simp; with_reducible rfl)
        | (go_simp; omega)
      try simp only [Act.put, List.setIfInBounds_toArray, List.set_cons_zero, List.set_cons_succ]
      refine wpAnyH_take (i := 5) (v := ?_) rfl (by kernel_rfl) (by kernel_rfl) (by kernel_rfl) (fun _ _ _ h => h) (Or.inl ⟨by kernel_rfl, ?_⟩) hHeld ?_
      rotate_left
      · intro wz hSw
        obtain ⟨s0, s1⟩ := hSw
        first
        | (go_simp; done)
        | (go_simp; with_reducible rfl)
        | (go_simp; omega)
      try simp only [Act.put, List.setIfInBounds_toArray, List.set_cons_zero, List.set_cons_succ]
      refine wpAnyH_ready (rs := [6]) (by kernel_rfl) (by simp) ?_
      refine AllReadyH.cons rfl (fun K hK => ?_) AllReadyH.nil
      go_simp
      refine (HIT.out w3 HT3.out).mono ?_
      rintro e w4 ⟨rfl, hb⟩
      have HB4 := Lib.hid (HB3.out.trans (hb.mono HB3.out.size))
      have m0 := keep1 hb k0
      have m1 := keep1 hb k1
      clear hb
      go_simp
      refine hK.out _ _ ⟨m0, m1⟩ (fun hHeld => ?_)
      clear hK K
      try simp only [Act.put, List.setIfInBounds_toArray, List.set_cons_zero, List.set_cons_succ]
      refine wpAnyH_take (i := 7) (v := .string ((s ++ (⟨#[32, 61, 32]⟩ : ByteArray)) ++ u)) rfl (by kernel_rfl) (by kernel_rfl) (by kernel_rfl) (fun _ _ _ h => h) (Or.inl ⟨by kernel_rfl, ?_⟩) hHeld ?_
      · intro wz hSw
        obtain ⟨s0, s1⟩ := hSw
        first
        | (go_simp; done)
        | (go_simp; with_reducible rfl)
        | (go_simp; omega)
      try simp only [Act.put, List.setIfInBounds_toArray, List.set_cons_zero, List.set_cons_succ]
      refine wpAnyH_take (i := 8) (v := .string (((s ++ (⟨#[32, 61, 32]⟩ : ByteArray)) ++ u) ++ (⟨#[10]⟩ : ByteArray))) rfl (by kernel_rfl) (by kernel_rfl) (by kernel_rfl) (fun _ _ _ h => h) (Or.inl ⟨by kernel_rfl, ?_⟩) hHeld ?_
      · intro wz hSw
        obtain ⟨s0, s1⟩ := hSw
        first
        | (go_simp; done)
        | (go_simp; with_reducible rfl)
        | (go_simp; omega)
      try simp only [Act.put, List.setIfInBounds_toArray, List.set_cons_zero, List.set_cons_succ]
      refine wpAnyH_take (i := 9) (v := .string (t ++ (((s ++ (⟨#[32, 61, 32]⟩ : ByteArray)) ++ u) ++ (⟨#[10]⟩ : ByteArray)))) rfl (by kernel_rfl) (by kernel_rfl) (by kernel_rfl) (fun _ _ _ h => h) (Or.inl ⟨by kernel_rfl, ?_⟩) hHeld ?_
      · intro wz hSw
        obtain ⟨s0, s1⟩ := hSw
        first
        | (go_simp; done)
        | (go_simp; with_reducible rfl)
        | (go_simp; omega)
      try simp only [Act.put, List.setIfInBounds_toArray, List.set_cons_zero, List.set_cons_succ]
      refine wpAnyH_take (i := 10) (v := ?_) rfl (by kernel_rfl) (by kernel_rfl) (by kernel_rfl) (fun _ _ _ h => h) (Or.inl ⟨by kernel_rfl, ?_⟩) hHeld ?_
      rotate_left
      · intro wz hSw
        obtain ⟨s0, s1⟩ := hSw
        first
        | (go_simp; done)
        | (go_simp; with_reducible rfl)
        | (go_simp; omega)
      try simp only [Act.put, List.setIfInBounds_toArray, List.set_cons_zero, List.set_cons_succ]
      refine wpAnyH_done (by kernel_rfl) ?_ _
      try go_simp
      go_wp2
      go_roundw
      case rel => exact ⟨k + 1, _, by omega, by go_num, rfl, hz4, Lib.hid (by rw [HTL.out, HLF.out, ht.out, ba_assoc]), HB4⟩
      case measure => simp [intOf]; omega
    · obtain rfl : k = ds.length := by omega
      go_wp2
      go_ret
      exact ⟨by rw [ht.out, List.take_of_length_le (Nat.le_refl _)]; first | done | rfl, hbel.out⟩

set_option maxHeartbeats 2000000 in
theorem implEnumT_v (ds : List D) (A : Option Addr) (n c : Nat) (w : World) (hr : SD w w.heap.size A n c ds) (hT : P10 w) (hG : p10G < w.heap.size) :
    Calls Tryd.prog 17 #[.agg #[.slice A n c]] w fun e w' => e = .returned (.string (mEnumT ds)) ∧ Below w.heap.size w w' := by
  have hb0 : Below w.heap.size w (w.alloc (.cells #[.slice A n c] 29)) := (Below.refl _ _).alloc (Nat.le_refl _) _
  have HS := Lib.hid ((hr.below hb0).call hb0.size)
  have f0 : (w.alloc (.cells #[.slice A n c] 29)).cell? ⟨w.heap.size, 0, none⟩ = some (.slice A n c) := by simp [go_sem]
  obtain ⟨w0, hw⟩ : ∃ W : World, W = w.alloc (.cells #[.slice A n c] 29) := ⟨_, rfl⟩
  have hc0 := f0
  rw [← hw] at hb0 HS hc0
  have HB := Lib.hid hb0
  have HW := Lib.hid hw.symm
  have HT := Lib.hid hT
  clear hr hw hb0 hT
  cases hv : vEnum ds
  · have HV := Lib.hid hv
    have HM : Hid (mEnumT ds = ⟨#[]⟩) := Lib.hid (by unfold mEnumT; rw [hv]; rfl)
    clear hv
    go_enter Tryd.func17, Tryd.ntmps17
    go_wp2_with fail
    rw [HW.out]
    clear HW f0
    refine (implVE_v ds _ _ _ _ HS.out HV.out).mono ?_
    rintro e w1 ⟨rfl, hb⟩
    have HB1 := Lib.hid (HB.out.trans (hb.mono HB.out.size))
    clear hb
    go_wp2
    go_ret
    exact ⟨by rw [HM.out]; first | done | rfl, HB1.out⟩
  · have HV := Lib.hid hv
    have HSM : Hid (∀ d ∈ ds, Sm d) := Lib.hid (enum_small hv)
    have HLN : Hid (ds.length ≤ 100) := Lib.hid (by have := vEnum_len hv; omega)
    obtain ⟨t, ht⟩ : ∃ t, mEnumT ds = t := ⟨_, rfl⟩
    have ht2 : (enumB ++ nlB) ++ linesB ds = t := by rw [← ht]; unfold mEnumT; rw [hv, if_pos rfl]
    rw [ht]
    have HDL : Hid (∀ (A : Option Addr) (n c : Nat) (w : World), SD w w.heap.size A n c ds → P10 w → p10G < w.heap.size → Calls Tryd.prog 54 #[.string ⟨#[101, 110, 117, 109]⟩, .slice A n c] w fun e w' => e = .returned (.string t) ∧ Below w.heap.size w w') := Lib.hid (fun A n c w hr h1 h2 => by rw [← ht2]; exact textOf_v enumB ds A n c w hr (by decide) HSM.out HLN.out h1 h2)
    clear hv ht ht2
    go_enter Tryd.func17, Tryd.ntmps17
    go_wp2_with fail
    rw [HW.out]
    clear HW f0
    refine (implVE_v ds _ _ _ _ HS.out HV.out).mono ?_
    rintro e w1 ⟨rfl, hb⟩
    have hc1 := keep1 hb hc0
    have HS1 := Lib.hid ((HS.out.below hb).call hb.size)
    have HB1 := Lib.hid (HB.out.trans (hb.mono HB.out.size))
    clear hb hc0
    go_wp2_with fail
    refine (HDL.out _ _ _ _ HS1.out (HT.out.below HB1.out hG) (Nat.lt_of_lt_of_le hG HB1.out.size)).mono ?_
    rintro e w2 ⟨rfl, hb⟩
    have HB2 := Lib.hid (HB1.out.trans (hb.mono HB1.out.size))
    clear hb
    go_wp2
    go_ret
    exact ⟨rfl, HB2.out⟩
end Go.Proofs.YtlomhkhpnafooaaDoor
