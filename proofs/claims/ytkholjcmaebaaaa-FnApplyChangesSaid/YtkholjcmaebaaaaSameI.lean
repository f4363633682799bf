import Derived.Test.YtkholjcmaebaaaaSameP
import Derived.Test.YtkholjcmaebaaaaBaseC
import Derived.Test.YtkholjcmaebaaaaBaseB
namespace Go.Proofs.Ytkholjcmaebaaaa
open Go.RowKit
set_option linter.unusedVariables false
set_option maxRecDepth 100000

theorem mSame_no {ds es : List D} (h : vEnum ds = false ∨ vEnum es = false) : mSame ds es = false := by
  unfold mSame
  rcases h with h | h
  · rw [h]; rfl
  · rw [h]; simp

set_option maxHeartbeats 8000000 in
theorem implSame_any (ds es : List D) (A B : Option Addr) (n c m e : Nat) (w : World) (ha : SD w w.heap.size A n c ds) (hb : SD w w.heap.size B m e es) :
    Calls Try.prog 44 #[.agg #[.slice A n c], .agg #[.slice B m e]] w fun en w' => en = .returned (.bool (mSame ds es)) ∧ Below w.heap.size w w' := by
  obtain ⟨W0, hW0⟩ : ∃ W0 : World, W0 = ((w.alloc (.cells #[.slice A n c] 53)).alloc (.cells #[.slice B m e] 53)) := ⟨_, rfl⟩
  have hb0 : Below w.heap.size w W0 := by rw [hW0]; exact ((Below.refl _ _).alloc (Nat.le_refl _) _).alloc (by simp) _
  have HC0 : Hid (Cl W0 w.heap.size (.slice A n c)) := Lib.hid (by rw [hW0]; exact ⟨by simp [go_sem], by simp [go_sem]⟩)
  have HC1 : Hid (Cl W0 (w.heap.size + 1) (.slice B m e)) := Lib.hid (by rw [hW0]; exact ⟨by simp [go_sem], by simp [go_sem]⟩)
  have HB0 := Lib.hid hb0
  have HRA := Lib.hid ((ha.below hb0).call hb0.size)
  have HRB := Lib.hid ((hb.below hb0).call hb0.size)
  have HLA := Lib.hid ha.len
  have HLB := Lib.hid hb.len
  have HOA := Lib.hid ha.ok
  have HOB := Lib.hid hb.ok
  have HW0 := Lib.hid hW0.symm
  clear ha hb hb0 hW0
  have HZ0 : Hid (w.heap.size + 2 ≤ W0.heap.size) := Lib.hid (by rw [← HW0.out]; simp)
  cases hv : vEnum ds
  · have HV := Lib.hid hv
    have HM : Hid (mSame ds es = false) := Lib.hid (mSame_no (.inl hv))
    clear hv
    go_enter Try.func44, Try.ntmps44
    go_wp2_with fail
    rw [HW0.out]
    refine (implVE_v ds _ _ _ _ HRA.out HV.out).mono ?_
    rintro e1 w1 ⟨rfl, hb⟩
    have HB1 := Lib.hid (HB0.out.trans (hb.mono HB0.out.size))
    have hz1 : w.heap.size + 2 ≤ w1.heap.size := Nat.le_trans HZ0.out hb.size
    clear hb
    go_wp2
    go_ret
    exact ⟨ret_bool HM.out.symm, HB1.out⟩
  · have HV := Lib.hid hv
    cases hv2 : vEnum es
    · have HV2 := Lib.hid hv2
      have HM : Hid (mSame ds es = false) := Lib.hid (mSame_no (.inr hv2))
      clear hv hv2
      go_enter Try.func44, Try.ntmps44
      go_wp2_with fail
      rw [HW0.out]
      refine (implVE_v ds _ _ _ _ HRA.out HV.out).mono ?_
      rintro e1 w1 ⟨rfl, hb⟩
      have HB1 := Lib.hid (HB0.out.trans (hb.mono HB0.out.size))
      have hz1 : w.heap.size + 2 ≤ w1.heap.size := Nat.le_trans HZ0.out hb.size
      have x0 := (HC0.out.below hb).1
      have x1 := (HC1.out.below hb).1
      have HSA1 := Lib.hid ((HRA.out.below hb).call hb.size)
      have HSB1 := Lib.hid ((HRB.out.below hb).call hb.size)
      clear hb
      go_wp2_with fail
      refine (implVE_v es _ _ _ _ HSB1.out HV2.out).mono ?_
      rintro e1 w2 ⟨rfl, hb⟩
      have HB2 := Lib.hid (HB1.out.trans (hb.mono HB1.out.size))
      have hz2 := Nat.le_trans hz1 hb.size
      clear hb
      go_wp2
      go_ret
      exact ⟨ret_bool HM.out.symm, HB2.out⟩
    · have HV2 := Lib.hid hv2
      have h12 := vEnum_len hv
      have h13 := vEnum_len hv2
      have HNA : Hid (n ≤ 12) := Lib.hid (by have := HLA.out; omega)
      have HNB : Hid (m ≤ 12) := Lib.hid (by have := HLB.out; omega)
      by_cases hlen : n = m
      · have HMS : Hid (mSame ds es = true ↔ ∀ d ∈ ds, d ∈ es) := Lib.hid (by
          rw [mSame_iff]
          have hl : ds.length = es.length := by rw [HLA.out, HLB.out, hlen]
          exact ⟨fun h d hd => (h.2.2 d).1 hd, fun h => ⟨HV.out, HV2.out, same_of (vEnum_nodup HV.out) (vEnum_nodup HV2.out) hl h⟩⟩)
        clear hv hv2
        subst hlen
        go_enter Try.func44, Try.ntmps44
        go_wp2_with fail
        rw [HW0.out]
        refine (implVE_v ds _ _ _ _ HRA.out HV.out).mono ?_
        rintro e1 w1 ⟨rfl, hb⟩
        have HB1 := Lib.hid (HB0.out.trans (hb.mono HB0.out.size))
        have hz1 : w.heap.size + 2 ≤ w1.heap.size := Nat.le_trans HZ0.out hb.size
        have x0 := (HC0.out.below hb).1
        have x1 := (HC1.out.below hb).1
        have HSA1 := Lib.hid ((HRA.out.below hb).call hb.size)
        have HSB1 := Lib.hid ((HRB.out.below hb).call hb.size)
        clear hb
        go_wp2_with fail
        refine (implVE_v es _ _ _ _ HSB1.out HV2.out).mono ?_
        rintro e1 w2 ⟨rfl, hb⟩
        have HB2 := Lib.hid (HB1.out.trans (hb.mono HB1.out.size))
        have hz2 := Nat.le_trans hz1 hb.size
        have y0 := keep1 hb x0
        have y1 := keep1 hb x1
        have HSA2 := Lib.hid ((HSA1.out.below hb).call hb.size)
        have HSB2 := Lib.hid ((HSB1.out.below hb).call hb.size)
        clear hb x0 x1 HSA1 HSB1
        obtain rfl := HLA.out
        have hcap := HSA2.out.cap
        have hcm := HSA2.out.max
        unfold maxLen at hcm
        go_wp2
        go_loopw [27] (fun i wr => ∃ k : Nat, k ≤ ds.length ∧ i = .int .i64 k ∧ Hid (∀ j (h : j < ds.length), j < k → ds[j] ∈ es) ∧ Hid (Below w2.heap.size w2 wr)) (fun i _ => ds.length - (intOf i).toNat)
        case atStart => exact ⟨0, Nat.zero_le _, rfl, Lib.hid (fun j h hj => absurd hj (by omega)), Lib.hid (Below.refl _ _)⟩
        case round =>
          obtain ⟨k, hk, rfl, hok, hbel⟩ := hrel
          have z1 := keep1 hbel.out y1
          by_cases hlt : k < ds.length
          · have HSB3 := Lib.hid ((HSB2.out.below hbel.out).call hbel.out.size)
            obtain ⟨b, o, rfl, hbb, c1, c2⟩ := (HSA2.out.below hbel.out).at_ hlt
            have hb3 : Below wr.heap.size wr (wr.alloc (.cells #[.string ds[k].name, .int .i64 ds[k].val] 94)) := (Below.refl _ _).alloc (Nat.le_refl _) _
            have z2 := keep1 hb3 z1
            have HS4 := Lib.hid ((HSB3.out.below hb3).call hb3.size)
            have HB4 := Lib.hid hb3
            clear hb3
            cases hp : es.any (isD ds[k])
            · have HP := Lib.hid hp
              clear hp
              go_wp2_with (go_at_call 113; refine (containsD_v es ds[k] _ _ _ _ HS4.out HP.out).mono ?_; rintro e2 w5 ⟨rfl, hb5⟩; have HB5 := Lib.hid hb5; clear hb5)
              go_ret
              refine ⟨ret_bool ?_, HB2.out.trans ((hbel.out.trans ((HB4.out.trans (HB5.out.mono HB4.out.size)).mono hbel.out.size)).mono HB2.out.size)⟩
              cases hms : mSame ds es
              · rfl
              · have := HMS.out.1 hms _ (List.getElem_mem hlt)
                rw [← any_isD, HP.out] at this
                cases this
            · have HP := Lib.hid hp
              clear hp
              go_wp2_with (go_at_call 113; refine (containsD_v es ds[k] _ _ _ _ HS4.out HP.out).mono ?_; rintro e2 w5 ⟨rfl, hb5⟩; have HB5 := Lib.hid hb5; clear hb5)
              go_roundw
              case rel =>
                refine ⟨k + 1, by omega, by go_num, Lib.hid (fun j h hj => ?_), Lib.hid (hbel.out.trans ((HB4.out.trans (HB5.out.mono HB4.out.size)).mono hbel.out.size))⟩
                by_cases e : j = k
                · subst e; exact any_isD.1 HP.out
                · exact hok.out j h (by omega)
              case measure => simp [intOf]; omega
          · obtain rfl : k = ds.length := by omega
            go_wp2
            go_ret
            refine ⟨ret_bool (Eq.symm (HMS.out.2 fun d hd => ?_)), HB2.out.trans (hbel.out.mono HB2.out.size)⟩
            obtain ⟨i, hi, rfl⟩ := List.mem_iff_getElem.1 hd
            exact hok.out i hi hi
      · have HMS : Hid (mSame ds es = false) := Lib.hid (by
          cases h : mSame ds es
          · rfl
          · have := mSame_iff.1 h
            have hl := same_len (vEnum_nodup HV.out) (vEnum_nodup HV2.out) this.2.2
            rw [HLA.out, HLB.out] at hl
            exact absurd hl hlen)
        have hne : ((n : Int) != (m : Int)) = true := by rw [bne_iff_ne]; omega
        clear hv hv2 hlen
        go_enter Try.func44, Try.ntmps44
        go_wp2_with fail
        rw [HW0.out]
        refine (implVE_v ds _ _ _ _ HRA.out HV.out).mono ?_
        rintro e1 w1 ⟨rfl, hb⟩
        have HB1 := Lib.hid (HB0.out.trans (hb.mono HB0.out.size))
        have hz1 : w.heap.size + 2 ≤ w1.heap.size := Nat.le_trans HZ0.out hb.size
        have x0 := (HC0.out.below hb).1
        have x1 := (HC1.out.below hb).1
        have HSA1 := Lib.hid ((HRA.out.below hb).call hb.size)
        have HSB1 := Lib.hid ((HRB.out.below hb).call hb.size)
        clear hb
        go_wp2_with fail
        refine (implVE_v es _ _ _ _ HSB1.out HV2.out).mono ?_
        rintro e1 w2 ⟨rfl, hb⟩
        have HB2 := Lib.hid (HB1.out.trans (hb.mono HB1.out.size))
        have hz2 := Nat.le_trans hz1 hb.size
        have y0 := keep1 hb x0
        have y1 := keep1 hb x1
        have HSA2 := Lib.hid ((HSA1.out.below hb).call hb.size)
        have HSB2 := Lib.hid ((HSB1.out.below hb).call hb.size)
        clear hb x0 x1 HSA1 HSB1
        go_wp2
        go_ret
        exact ⟨ret_bool HMS.out.symm, HB2.out⟩
theorem implSame_v (ds es : List D) (A B : Option Addr) (n c m e : Nat) (w : World) (ha : SD w w.heap.size A n c ds) (hb : SD w w.heap.size B m e es) {v : Bool} (hv : mSame ds es = v) :
    Calls Try.prog 44 #[.agg #[.slice A n c], .agg #[.slice B m e]] w fun en w' => en = .returned (.bool v) ∧ Below w.heap.size w w' := hv ▸ implSame_any ds es A B n c m e w ha hb
end Go.Proofs.Ytkholjcmaebaaaa
