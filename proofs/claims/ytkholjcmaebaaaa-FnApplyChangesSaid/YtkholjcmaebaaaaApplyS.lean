import Derived.Test.YtkholjcmaebaaaaApplied
import Derived.Test.YtkholjcmaebaaaaBaseB
namespace Go.Proofs.Ytkholjcmaebaaaa
open Go.RowKit
set_option linter.unusedVariables false
set_option maxRecDepth 100000

set_option maxHeartbeats 16000000 in
theorem specApply_any (ds : List D) (cs : List Ch) (A B : Option Addr) (n c m e : Nat) (w : World) (ha : SD w w.heap.size A n c ds) (hb : SK w w.heap.size B m e cs) :
    Calls Try.prog 40 #[.agg #[.slice A n c], .slice B m e] w (EnumP (mApply ds cs) w) := by
  obtain ⟨W0, hW0⟩ : ∃ W0 : World, W0 = (w.alloc (.cells #[.slice A n c] 53)).alloc (.cells #[.slice none 0 0] 53) := ⟨_, rfl⟩
  have hb0 : Below w.heap.size w W0 := by rw [hW0]; exact ((Below.refl _ _).alloc (Nat.le_refl _) _).alloc (by simp) _
  have HC0 : Hid (Cl W0 w.heap.size (.slice A n c)) := Lib.hid (by rw [hW0]; exact ⟨by simp [go_sem], by simp [go_sem]⟩)
  have HC2 : Hid (Cl W0 (w.heap.size + 1) (.slice none 0 0)) := Lib.hid (by rw [hW0]; exact ⟨by simp [go_sem], by simp [go_sem]⟩)
  have HZ0 : Hid (w.heap.size + 2 ≤ W0.heap.size) := Lib.hid (by rw [hW0]; simp)
  have HB0 := Lib.hid hb0
  have HRA := Lib.hid ((ha.below hb0).call hb0.size)
  have HRK := Lib.hid ((hb.below hb0).call hb0.size)
  have HLA := Lib.hid ha.len
  have HLK := Lib.hid hb.len
  have HOA := Lib.hid ha.ok
  have HOK := Lib.hid hb.ok
  have HW0 := Lib.hid hW0.symm
  clear ha hb hb0 hW0
  cases hv : vEnum ds
  · have HV := Lib.hid hv
    have HM : Hid (mApply ds cs = none) := Lib.hid (mApply_no (.inl hv))
    clear hv
    go_enter Try.func40, Try.ntmps40
    go_wp2_with fail
    rw [HW0.out]
    refine (specVE_v ds _ _ _ _ HRA.out HV.out).mono ?_
    rintro e1 w1 ⟨rfl, hb⟩
    have HB1 := Lib.hid (HB0.out.trans (hb.mono HB0.out.size))
    have HX2 := Lib.hid (HC2.out.below hb)
    obtain ⟨x2, y2⟩ := HX2.out
    clear hb
    go_wp2
    rw [HM.out]
    exact bodyPost_ret (v := .tuple #[.agg #[.slice none 0 0], .bool false]) (by simp [results, Try.results40, go_sem, x2]) rfl (enumP_none (HB1.out.setCell (by show w.heap.size ≤ w.heap.size + 1; omega) _))
  · have HV := Lib.hid hv
    have h12 := vEnum_len hv
    by_cases hm : m ≤ 30
    · have HNA : Hid (n ≤ 12) := Lib.hid (by have := HLA.out; omega)
      have HME := Lib.hid (mApply_yes (cs := cs) hv (by have := HLK.out; omega))
      have hm2 : (m : Int) ≤ 30 := by omega
      clear hv
      go_enter Try.func40, Try.ntmps40
      go_wp2_with fail
      rw [HW0.out]
      refine (specVE_v ds _ _ _ _ HRA.out HV.out).mono ?_
      rintro e1 w1 ⟨rfl, hb⟩
      have HB1 := Lib.hid (HB0.out.trans (hb.mono HB0.out.size))
      have HX2 := Lib.hid (HC2.out.below hb)
      have hz1 : w.heap.size + 2 ≤ w1.heap.size := Nat.le_trans HZ0.out hb.size
      have x0 := (HC0.out.below hb).1
      have HSA1 := Lib.hid ((HRA.out.below hb).call hb.size)
      have HSK1 := Lib.hid ((HRK.out.below hb).call hb.size)
      clear hb
      obtain rfl := HLA.out
      obtain rfl := HLK.out
      have hcap := HSK1.out.cap
      have hcm := HSK1.out.max
      unfold maxLen at hcm
      go_wp2_with fail
      refine (copyDefs_n ds _ _ _ _ HSA1.out (by have := HNA.out; omega)).mono ?_
      rintro e2 w4 ⟨A4, c4, rfl, ho, hb4⟩
      have HB4 := Lib.hid hb4
      have HO4 := Lib.hid ho
      clear ho hb4
      go_wp2
      go_loopw [6, 7] (fun v i wr => ∃ (k : Nat) (es : List D), k ≤ cs.length ∧ i = .int .i64 k ∧ Hid (runCh es (cs.drop k) = runCh ds cs) ∧ Hid (vEnum es = true) ∧ Hid (∀ x ∈ es, x.ok) ∧ Hid (wr.ownsRow w1.heap.size 94 2 v es.length (flat es)) ∧ Hid (Below w1.heap.size w1 wr)) (fun _ i _ => cs.length - (intOf i).toNat)
      case atStart => exact ⟨0, ds, Nat.zero_le _, rfl, Lib.hid rfl, HV, HOA, HO4, HB4⟩
      case round =>
        obtain ⟨k, es, hk, rfl, hrun, hve, hoke, hown, hbel⟩ := hrel
        obtain ⟨A5, c5, rfl⟩ := own_form hown.out
        by_cases hlt : k < cs.length
        · have HX3 := Lib.hid (HX2.out.below hbel.out)
          have HCK := Lib.hid (HOK.out _ (List.getElem_mem hlt))
          have HRN : Hid (mStep es cs[k] = none → mApply ds cs = none) := Lib.hid (fun h => by rw [HME.out, ← hrun.out]; exact runCh_none hlt h)
          have HRS : Hid (∀ xs, mStep es cs[k] = some xs → runCh xs (cs.drop (k + 1)) = runCh ds cs) := Lib.hid (fun xs h => by rw [← hrun.out]; exact (runCh_some hlt h).symm)
          have HS3 := Lib.hid (sd_of_own hown.out hoke.out)
          obtain ⟨b, o, hB, hbb, g1, g2, g3, g4⟩ := (HSK1.out.below hbel.out).at_ hlt
          subst hB
          have hi1 : (k : Int) < (cs.length : Int) := by omega
          have hi0 : (0 : Int) ≤ (k : Int) := by omega
          generalize hdd : cs[k] = d at *
          clear hdd
          go_wp2_with fail
          refine (applied_v es d HCK.out hve.out _ _ _ _ HS3.out).mono ?_
          rintro e3 w3 ⟨xs, ok, ⟨A6, c6, rfl, ho, hb⟩, hxok, hxl, hms⟩
          have HO6 := Lib.hid (own_base ho hbel.out.size)
          have HB6 := Lib.hid (hbel.out.trans (hb.mono hbel.out.size))
          have HX4 := Lib.hid (HX3.out.below hb)
          have HXO := Lib.hid hxok
          clear ho hb g1 g2 g3 g4 hxok hxl
          cases ok
          · have HM := Lib.hid (HRN.out (by rw [hms]; rfl))
            have HBE := Lib.hid (HB1.out.trans (HB6.out.mono HB1.out.size))
            obtain ⟨x2, y2⟩ := HX4.out
            clear hms
            go_wp2
            rw [HM.out]
            exact bodyPost_ret (v := .tuple #[.agg #[.slice none 0 0], .bool false]) (by simp [results, Try.results40, go_sem, x2]) rfl (enumP_none (HBE.out.setCell (by show w.heap.size ≤ w.heap.size + 1; omega) _))
          · cases hv6 : vEnum xs
            · have HM := Lib.hid (HRN.out (by rw [hms]; simp [chkO, hv6]))
              have HV6 := Lib.hid hv6
              clear hms hv6
              go_wp2_with fail
              refine (specVE_v xs _ _ _ _ (sd_of_own HO6.out HXO.out) HV6.out).mono ?_
              rintro e4 w4 ⟨rfl, hb⟩
              obtain ⟨x2, y2⟩ := HX4.out.below hb
              have HBE := Lib.hid (HB1.out.trans ((HB6.out.trans (hb.mono HB6.out.size)).mono HB1.out.size))
              clear hb
              go_wp2
              rw [HM.out]
              exact bodyPost_ret (v := .tuple #[.agg #[.slice none 0 0], .bool false]) (by simp [results, Try.results40, go_sem, x2]) rfl (enumP_none (HBE.out.setCell (by show w.heap.size ≤ w.heap.size + 1; omega) _))
            · have HR2 := Lib.hid (HRS.out xs (by rw [hms]; simp [chkO, hv6]))
              have HV6 := Lib.hid hv6
              clear hms hv6
              go_wp2_with fail
              refine (specVE_v xs _ _ _ _ (sd_of_own HO6.out HXO.out) HV6.out).mono ?_
              rintro e4 w4 ⟨rfl, hb⟩
              have HB7 := Lib.hid (HB6.out.trans (hb.mono HB6.out.size))
              have HO7 := Lib.hid (own_below HO6.out hb)
              clear hb
              go_wp2
              go_roundw
              case rel => exact ⟨k + 1, xs, by omega, by go_num, HR2, HV6, HXO, HO7, HB7⟩
              case measure => simp [intOf]; omega
        · obtain rfl : k = cs.length := by omega
          have HM : Hid (mApply ds cs = some es) := Lib.hid (by rw [HME.out, ← hrun.out, List.drop_of_length_le (Nat.le_refl _)]; rfl)
          obtain ⟨x2, y2⟩ := HX2.out.below hbel.out
          have HO := Lib.hid hown.out
          have HBE := Lib.hid (HB1.out.trans (hbel.out.mono HB1.out.size))
          go_wp2
          refine bodyPost_ret (v := .tuple #[.agg #[.slice A5 es.length c5], .bool true]) (by simp [results, Try.results40, go_sem, x2]) rfl ?_
          rw [HM.out]
          exact enumP_some rfl (own_base (own_setCell HO.out (fun e => by have := (HO.out.lt _ e).1; simp at this; omega) _) (by omega)) (HBE.out.setCell (by show w.heap.size ≤ w.heap.size + 1; omega) _)
    · have HM : Hid (mApply ds cs = none) := Lib.hid (mApply_no (.inr (by have := HLK.out; omega)))
      have hm2 : (30 : Int) < (m : Int) := by omega
      clear hv
      go_enter Try.func40, Try.ntmps40
      go_wp2_with fail
      rw [HW0.out]
      refine (specVE_v ds _ _ _ _ HRA.out HV.out).mono ?_
      rintro e1 w1 ⟨rfl, hb⟩
      have HB1 := Lib.hid (HB0.out.trans (hb.mono HB0.out.size))
      have HX2 := Lib.hid (HC2.out.below hb)
      obtain ⟨x2, y2⟩ := HX2.out
      clear hb
      go_wp2
      rw [HM.out]
      exact bodyPost_ret (v := .tuple #[.agg #[.slice none 0 0], .bool false]) (by simp [results, Try.results40, go_sem, x2]) rfl (enumP_none (HB1.out.setCell (by show w.heap.size ≤ w.heap.size + 1; omega) _))
end Go.Proofs.Ytkholjcmaebaaaa
