import Derived.Test.YtlomhkhpnafooaaDoorEtP
import Derived.Test.YtlomhkhpnafooaaDoorBaseX
import Derived.Test.YtlomhkhpnafooaaDoorBaseB
import Derived.BigQuiet
namespace Go.Proofs.YtlomhkhpnafooaaDoor
open Go.RowKit
set_option linter.unusedVariables false
set_option linter.unusedSimpArgs false
set_option maxRecDepth 100000

def Sm (d : D) : Prop := d.name.size ≤ 6 ∧ -5000 ≤ d.val ∧ d.val ≤ 5000
set_option maxHeartbeats 1000000 in
theorem signed_any (v : Int) (w : World) (h0 : -5000 ≤ v) (h1 : v ≤ 5000) {t : ByteArray} (ht : itoaB v = t) :
    Calls Tryd.prog 93 #[.int .i64 v] w fun e w' => e = .returned (.string t) ∧ w = w' := by
  by_cases hn : v < 0
  · obtain ⟨n, rfl⟩ : ∃ n : Nat, v = -(n : Int) := ⟨(-v).toNat, by omega⟩
    rw [itoaB_neg n (by omega)] at ht
    have hz := decB_size 7 n (by omega)
    have HNUM : Hid (∀ z w, z = (n : Int) → Calls Tryd.prog 138 #[.int .i64 z] w fun e w' => e = .returned (.string (decB n)) ∧ w = w') := Lib.hid (fun z w hz => number_any n z w hz (by omega))
    generalize decB n = u at *
    have hz2 : ((⟨#[45]⟩ : ByteArray) ++ u).size ≤ 9 := by rw [ByteArray.size_append]; show 1 + u.size ≤ 9; omega
    have HT := Lib.hid ht
    clear ht
    go_enter Tryd.func93, Tryd.ntmps93
    go_wp2_with (go_at_call 138; refine (HNUM.out _ _ (by omega)).mono ?_; rintro e w' ⟨rfl, rfl⟩)
    go_ret
    exact ⟨by rw [HT.out]; first | done | rfl, rfl⟩
  · obtain ⟨n, rfl⟩ : ∃ n : Nat, v = (n : Int) := ⟨v.toNat, by omega⟩
    rw [itoaB_pos] at ht
    have HNUM : Hid (∀ w, Calls Tryd.prog 138 #[.int .i64 (n : Int)] w fun e w' => e = .returned (.string t) ∧ w = w') := Lib.hid (fun w => by rw [← ht]; exact number_any n _ w rfl (by omega))
    clear ht
    go_enter Tryd.func93, Tryd.ntmps93
    go_wp2_with (go_at_call 138; refine (HNUM.out _).mono ?_; rintro e w' ⟨rfl, rfl⟩)
    go_ret
    exact ⟨rfl, rfl⟩

set_option maxHeartbeats 4000000 in
theorem defLines_v (ds : List D) (A : Option Addr) (n c : Nat) (w : World) (hr : SD w w.heap.size A n c ds) (hsm : ∀ d ∈ ds, Sm d) (hln : ds.length ≤ 100) :
    Calls Tryd.prog 52 #[.slice A n c] w fun e w' => e = .returned (.string (linesB ds)) ∧ Below w.heap.size w w' := by
  obtain rfl := hr.len
  have hl := hr.max
  have hl2 := hr.cap
  unfold maxLen at hl
  have HR := Lib.hid hr
  have HSM := Lib.hid hsm
  clear hr hsm
  go_enter Tryd.func52, Tryd.ntmps52
  go_wp2
  go_loopw [3, 4] (fun s i wr => ∃ (k : Nat) (t : ByteArray), k ≤ ds.length ∧ i = .int .i64 k ∧ s = .string t ∧ t.size ≤ 16 * k ∧ Hid (t = linesB (ds.take k)) ∧ Hid (Below w.heap.size w wr)) (fun _ i _ => ds.length - (intOf i).toNat)
  case atStart => exact ⟨0, ⟨#[]⟩, Nat.zero_le _, rfl, rfl, Nat.zero_le _, Lib.hid rfl, Lib.hid (Below.refl _ _)⟩
  case round =>
    obtain ⟨k, t, hk, rfl, rfl, htz, ht, hbel⟩ := hrel
    by_cases hlt : k < ds.length
    · obtain ⟨b, o, rfl, hb, c1, c2⟩ := (HR.out.below hbel.out).at_ hlt
      have hi1 : (k : Int) < (ds.length : Int) := by omega
      have HT := Lib.hid (linesB_succ hlt)
      obtain ⟨hn6, hv0, hv1⟩ := HSM.out _ (List.getElem_mem hlt)
      have hLS := lineB_size hn6 hv0 hv1
      have HLF := Lib.hid (line_four t ds[k])
      obtain ⟨u, hu⟩ : ∃ u, itoaB ds[k].val = u := ⟨_, rfl⟩
      have huz : u.size ≤ 6 := by rw [← hu]; exact itoaB_size hv0 hv1
      unfold eqB nlB at HLF
      rw [hu] at HLF
      have HN := Lib.hid (fun w => signed_any ds[k].val w hv0 hv1 hu)
      clear hu
      generalize lineB ds[k] = ln at *
      generalize ds[k].name = s at *
      generalize ds[k].val = v at *
      have hz1 : (t ++ s).size ≤ 3000 := by rw [ByteArray.size_append]; omega
      have hz2 : ((t ++ s) ++ (⟨#[32, 61, 32]⟩ : ByteArray)).size ≤ 3010 := by rw [ByteArray.size_append]; show _ + 3 ≤ _; omega
      have hz3 : (((t ++ s) ++ (⟨#[32, 61, 32]⟩ : ByteArray)) ++ u).size ≤ 3020 := by rw [ByteArray.size_append]; omega
      have hz4 : ((((t ++ s) ++ (⟨#[32, 61, 32]⟩ : ByteArray)) ++ u) ++ (⟨#[10]⟩ : ByteArray)).size ≤ 16 * (k + 1) := by rw [HLF.out, ByteArray.size_append]; omega
      have hz5 : ((((t ++ s) ++ (⟨#[32, 61, 32]⟩ : ByteArray)) ++ u) ++ (⟨#[10]⟩ : ByteArray)).size ≤ 3030 := by omega
      go_wp2
      go_quiet ((go_at_call 93; exact quiet_eq (HN.out _)))
      have HBQ := Lib.hid (below_drewN hbel.out nq)
      generalize wr.drewN nq = wq at *
      go_wp2
      go_roundw
      case rel => exact ⟨k + 1, _, by omega, by go_num, rfl, hz4, Lib.hid (by rw [HT.out, ← ht.out]; exact HLF.out), HBQ⟩
      case measure => simp [intOf]; omega
    · obtain rfl : k = ds.length := by omega
      go_wp2
      go_ret
      exact ⟨by rw [ht.out, List.take_of_length_le (Nat.le_refl _)]; first | done | rfl, hbel.out⟩

theorem enum_size {ds : List D} (hv : vEnum ds = true) : (linesB ds).size ≤ 192 := by
  have h := linesB_size ds (enum_small hv)
  have := vEnum_len hv
  omega
set_option maxHeartbeats 2000000 in
theorem specEnumT_v (ds : List D) (A : Option Addr) (n c : Nat) (w : World) (hr : SD w w.heap.size A n c ds) :
    Calls Tryd.prog 15 #[.agg #[.slice A n c]] w fun e w' => e = .returned (.string (mEnumT ds)) ∧ Below w.heap.size w w' := by
  have hb0 : Below w.heap.size w (w.alloc (.cells #[.slice A n c] 29)) := (Below.refl _ _).alloc (Nat.le_refl _) _
  have HS := Lib.hid ((hr.below hb0).call hb0.size)
  have f0 : (w.alloc (.cells #[.slice A n c] 29)).cell? ⟨w.heap.size, 0, none⟩ = some (.slice A n c) := by simp [go_sem]
  obtain ⟨w0, hw⟩ : ∃ W : World, W = w.alloc (.cells #[.slice A n c] 29) := ⟨_, rfl⟩
  have hc0 := f0
  rw [← hw] at hb0 HS hc0
  have HB := Lib.hid hb0
  have HW := Lib.hid hw.symm
  clear hr hw hb0
  cases hv : vEnum ds
  · have HV := Lib.hid hv
    have HM : Hid (mEnumT ds = ⟨#[]⟩) := Lib.hid (by unfold mEnumT; rw [hv]; rfl)
    clear hv
    go_enter Tryd.func15, Tryd.ntmps15
    go_wp2_with fail
    rw [HW.out]
    clear HW f0
    refine (specVE_v ds _ _ _ _ HS.out HV.out).mono ?_
    rintro e w1 ⟨rfl, hb⟩
    have HB1 := Lib.hid (HB.out.trans (hb.mono HB.out.size))
    clear hb
    go_wp2
    go_ret
    exact ⟨by rw [HM.out]; first | done | rfl, HB1.out⟩
  · have HV := Lib.hid hv
    have hls := enum_size hv
    have HSM : Hid (∀ d ∈ ds, Sm d) := Lib.hid (enum_small hv)
    have HLN : Hid (ds.length ≤ 100) := Lib.hid (by have := vEnum_len hv; omega)
    obtain ⟨t, ht⟩ : ∃ t, linesB ds = t := ⟨_, rfl⟩
    have HM : Hid (mEnumT ds = (⟨#[101, 110, 117, 109, 10]⟩ : ByteArray) ++ t) := Lib.hid (by unfold mEnumT; rw [hv, if_pos rfl, ht]; rfl)
    have HDL : Hid (∀ (A : Option Addr) (n c : Nat) (w : World), SD w w.heap.size A n c ds → Calls Tryd.prog 52 #[.slice A n c] w fun e w' => e = .returned (.string t) ∧ Below w.heap.size w w') := Lib.hid (fun A n c w hr => by rw [← ht]; exact defLines_v ds A n c w hr HSM.out HLN.out)
    rw [ht] at hls
    have hz1 : ((⟨#[101, 110, 117, 109, 10]⟩ : ByteArray) ++ t).size ≤ 200 := by rw [ByteArray.size_append]; show 5 + _ ≤ 200; omega
    clear hv ht
    go_enter Tryd.func15, Tryd.ntmps15
    go_wp2_with fail
    rw [HW.out]
    clear HW f0
    refine (specVE_v ds _ _ _ _ HS.out HV.out).mono ?_
    rintro e w1 ⟨rfl, hb⟩
    have hc1 := keep1 hb hc0
    have HS1 := Lib.hid ((HS.out.below hb).call hb.size)
    have HB1 := Lib.hid (HB.out.trans (hb.mono HB.out.size))
    clear hb hc0
    go_wp2_with fail
    refine (HDL.out _ _ _ _ HS1.out).mono ?_
    rintro e w2 ⟨rfl, hb⟩
    have HB2 := Lib.hid (HB1.out.trans (hb.mono HB1.out.size))
    clear hb
    go_wp2
    go_ret
    exact ⟨by rw [HM.out]; first | done | rfl, HB2.out⟩
end Go.Proofs.YtlomhkhpnafooaaDoor
