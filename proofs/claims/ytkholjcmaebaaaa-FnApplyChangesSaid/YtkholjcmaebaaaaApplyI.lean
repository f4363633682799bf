import Derived.Test.YtkholjcmaebaaaaApplyP
import Derived.Test.YtkholjcmaebaaaaBaseB
import Derived.Test.YtkholjcmaebaaaaBaseC
namespace Go.Proofs.Ytkholjcmaebaaaa
open Go.RowKit
set_option linter.unusedVariables false
set_option maxRecDepth 100000

set_option maxHeartbeats 16000000 in
theorem implApply_any (ds : List D) (cs : List Ch) (A B : Option Addr) (n c m e : Nat) (w : World) (ha : SD w w.heap.size A n c ds) (hb : SK w w.heap.size B m e cs) :
    Calls Try.prog 39 #[.agg #[.slice A n c], .slice B m e] w (EnumP (mApply ds cs) w) := by
  obtain ⟨W0, hW0⟩ : ∃ W0 : World, W0 = (w.alloc (.cells #[.slice A n c] 53)).alloc (.cells #[.slice none 0 0] 53) := ⟨_, rfl⟩
  have hb0 : Below w.heap.size w W0 := by rw [hW0]; exact ((Below.refl _ _).alloc (Nat.le_refl _) _).alloc (by simp) _
  have HC0 : Hid (Cl W0 w.heap.size (.slice A n c)) := Lib.hid (by rw [hW0]; exact ⟨by simp [go_sem], by simp [go_sem]⟩)
  have HC2 : Hid (Cl W0 (w.heap.size + 1) (.slice none 0 0)) := Lib.hid (by rw [hW0]; exact ⟨by simp [go_sem], by simp [go_sem]⟩)
  have HZ0 : Hid (w.heap.size + 2 ≤ W0.heap.size) := Lib.hid (by rw [hW0]; simp)
  have HB0 := Lib.hid hb0
  have HRA := Lib.hid ((ha.below hb0).call hb0.size)
  have HRK := Lib.hid ((hb.below hb0).call hb0.size)
  have HLA := Lib.hid ha.len
  have HLK := Lib.hid hb.len
  have HOA := Lib.hid ha.ok
  have HOK := Lib.hid hb.ok
  have HW0 := Lib.hid hW0.symm
  clear ha hb hb0 hW0
  cases hv : vEnum ds
  · have HV := Lib.hid hv
    have HM : Hid (mApply ds cs = none) := Lib.hid (mApply_no (.inl hv))
    clear hv
    go_enter Try.func39, Try.ntmps39
    go_wp2_with fail
    rw [HW0.out]
    refine (implVE_v ds _ _ _ _ HRA.out HV.out).mono ?_
    rintro e1 w1 ⟨rfl, hb⟩
    have HB1 := Lib.hid (HB0.out.trans (hb.mono HB0.out.size))
    have HX2 := Lib.hid (HC2.out.below hb)
    obtain ⟨x2, y2⟩ := HX2.out
    clear hb
    go_wp2
    rw [HM.out]
    exact bodyPost_ret (v := .tuple #[.agg #[.slice none 0 0], .bool false]) (by simp [results, Try.results39, go_sem, x2]) rfl (enumP_none (HB1.out.setCell (by show w.heap.size ≤ w.heap.size + 1; omega) _))
  · have HV := Lib.hid hv
    have h12 := vEnum_len hv
    by_cases hm : m ≤ 30
    · have HNA : Hid (n ≤ 12) := Lib.hid (by have := HLA.out; omega)
      have HME := Lib.hid (mApply_yes (cs := cs) hv (by have := HLK.out; omega))
      have hm2 : (m : Int) ≤ 30 := by omega
      clear hv
      go_enter Try.func39, Try.ntmps39
      go_wp2_with fail
      rw [HW0.out]
      refine (implVE_v ds _ _ _ _ HRA.out HV.out).mono ?_
      rintro e1 w1 ⟨rfl, hb⟩
      have HB1 := Lib.hid (HB0.out.trans (hb.mono HB0.out.size))
      have HX2 := Lib.hid (HC2.out.below hb)
      have hz1 : w.heap.size + 2 ≤ w1.heap.size := Nat.le_trans HZ0.out hb.size
      have x0 := (HC0.out.below hb).1
      have HSA1 := Lib.hid ((HRA.out.below hb).call hb.size)
      have HSK1 := Lib.hid ((HRK.out.below hb).call hb.size)
      clear hb
      obtain rfl := HLA.out
      obtain rfl := HLK.out
      have hcap := HSK1.out.cap
      have hcm := HSK1.out.max
      unfold maxLen at hcm
      obtain ⟨W3, hW3⟩ : ∃ W : World, W = w1.alloc (.cells #[.slice A ds.length c] 23) := ⟨_, rfl⟩
      have hb3 : Below w1.heap.size w1 W3 := by rw [hW3]; exact (Below.refl _ _).alloc (Nat.le_refl _) _
      have hz3 : W3.heap.size = w1.heap.size + 1 := by rw [hW3]; simp
      have HPT : Hid (Rd W3 W3.heap.size 1 encP (some ⟨w1.heap.size, 0, none⟩) [(⟨A, ds.length, c, ds⟩ : Part D)]) := Lib.hid (part1 (by rw [hW3]; simp [go_sem]) (by omega))
      have HPS : Hid (∀ x ∈ [(⟨A, ds.length, c, ds⟩ : Part D)], SL encD 2 W3 W3.heap.size x.A x.n x.c x.xs) := Lib.hid (by
        intro x hx
        simp at hx
        subst hx
        exact ((HSA1.out.below hb3).call hb3.size).sl)
      have HE : Hid (cat [(⟨A, ds.length, c, ds⟩ : Part D)] = ds) := Lib.hid (by simp [cat])
      have HB3 := Lib.hid hb3
      have HW3 := Lib.hid hW3.symm
      clear hb3 hW3 hz3
      go_wp2_with fail
      rw [HW3.out]
      refine (concatD_v _ _ _ _ _ HPT.out rfl (by simp) (by omega) HPS.out HE.out (by have := HNA.out; omega)).mono ?_
      rintro e2 w4 ⟨A4, c4, rfl, ho, hb4⟩
      have HB4 := Lib.hid (HB3.out.trans (hb4.mono HB3.out.size))
      have HO4 := Lib.hid (own_base ho HB3.out.size)
      have HX4 := Lib.hid (HX2.out.below HB4.out)
      have HB4a : Hid (Below w1.heap.size w1 (w4.alloc (.cells #[.slice A4 ds.length c4] 53))) := Lib.hid (HB4.out.alloc HB4.out.size _)
      have HCL4 : Hid (Cl (w4.alloc (.cells #[.slice A4 ds.length c4] 53)) w4.heap.size (.slice A4 ds.length c4)) := Lib.hid ⟨by simp [go_sem], by simp [go_sem]⟩
      have HO4a := Lib.hid (HO4.out.alloc (.cells #[.slice A4 ds.length c4] 53))
      clear ho hb4 HB3 HPT HPS
      go_wp2
      go_loopw [27] (fun i wr => ∃ (k : Nat) (es : List D) (A5 : Option Addr) (c5 : Nat), k ≤ cs.length ∧ i = .int .i64 k ∧ Hid (runCh es (cs.drop k) = runCh ds cs) ∧ Hid (vEnum es = true) ∧ Hid (∀ x ∈ es, x.ok) ∧ Hid (Cl wr w4.heap.size (.slice A5 es.length c5)) ∧ Hid (wr.ownsRow w1.heap.size 94 2 (.slice A5 es.length c5) es.length (flat es)) ∧ Hid (Below w1.heap.size w1 wr)) (fun i _ => cs.length - (intOf i).toNat)
      case atStart => exact ⟨0, ds, A4, c4, Nat.zero_le _, rfl, Lib.hid rfl, HV, HOA, HCL4, HO4a, HB4a⟩
      case round =>
        obtain ⟨k, es, A5, c5, hk, rfl, hrun, hve, hoke, hcl, hown, hbel⟩ := hrel
        have z6 := hcl.out.1
        have zf6 := hcl.out.2
        by_cases hlt : k < cs.length
        · have HX3 := Lib.hid (HX2.out.below hbel.out)
          have HCK := Lib.hid (HOK.out _ (List.getElem_mem hlt))
          have HRN : Hid (mStep es cs[k] = none → mApply ds cs = none) := Lib.hid (fun h => by rw [HME.out, ← hrun.out]; exact runCh_none hlt h)
          have HRS : Hid (∀ xs, mStep es cs[k] = some xs → runCh xs (cs.drop (k + 1)) = runCh ds cs) := Lib.hid (fun xs h => by rw [← hrun.out]; exact (runCh_some hlt h).symm)
          have HS3 := Lib.hid (sd_of_own hown.out hoke.out)
          obtain ⟨b, o, hB, hbb, g1, g2, g3, g4⟩ := (HSK1.out.below hbel.out).at_ hlt
          subst hB
          have hi1 : (k : Int) < (cs.length : Int) := by omega
          have hi0 : (0 : Int) ≤ (k : Int) := by omega
          generalize hdd : cs[k] = d at *
          clear hdd
          have hb3 : Below wr.heap.size wr (wr.alloc (.cells #[.int .i64 d.kind, .string d.name, .int .i64 d.old, .int .i64 d.new] 137)) := (Below.refl _ _).alloc (Nat.le_refl _) _
          have HB3 := Lib.hid hb3
          have q1 : (wr.alloc (.cells #[.int .i64 d.kind, .string d.name, .int .i64 d.old, .int .i64 d.new] 137)).cell? ⟨wr.heap.size, 0, none⟩ = some (.int .i64 d.kind) := by simp [go_sem]
          have HNE : Hid (es.length ≤ 100) := Lib.hid (by have := vEnum_len hve.out; omega)
          clear hb3 q1
          cases hok : okC d
          · have HM := Lib.hid (HRN.out (by simp [mStep, hok]))
            have HOC := Lib.hid hok
            clear hok
            go_wp2_with fail
            refine (stepOf_v d _ HOC.out).mono ?_
            rintro e3 w5 ⟨⟨x, rfl, hx⟩, hb5⟩
            have HB5 := Lib.hid (HB3.out.trans (hb5.mono HB3.out.size))
            have HBE := Lib.hid (HB1.out.trans ((hbel.out.trans (HB5.out.mono hbel.out.size)).mono HB1.out.size))
            obtain ⟨x2, y2⟩ := HX3.out.below HB5.out
            clear hb5 hx z6 zf6
            go_wp2
            rw [HM.out]
            exact bodyPost_ret (v := .tuple #[.agg #[.slice none 0 0], .bool false]) (by simp [results, Try.results39, go_sem, x2]) rfl (enumP_none (HBE.out.setCell (by show w.heap.size ≤ w.heap.size + 1; omega) _))
          · have HOC := Lib.hid hok
            have HSE : Hid (mStep es d = mAfter es d) := Lib.hid (by simp [mStep, hok])
            clear hok
            go_wp2_with fail
            refine (stepOf_v d _ HOC.out).mono ?_
            rintro e3 w5 ⟨⟨x, rfl, hx⟩, hb5⟩
            obtain rfl := hx rfl
            have HB5 := Lib.hid (HB3.out.trans (hb5.mono HB3.out.size))
            have HC5 := Lib.hid (hcl.out.below HB5.out)
            have z5 := HC5.out.1
            have HX5 := Lib.hid (HX3.out.below HB5.out)
            have HS5 := Lib.hid ((HS3.out.below HB5.out).call HB5.out.size)
            have HBR5 := Lib.hid (hbel.out.trans (HB5.out.mono hbel.out.size))
            clear hb5 hx z6 zf6 g1 g2 g3 g4 HB5
            go_wp2_with fail
            generalize hq : mAfter es d = q at *
            refine (after_v es d HOC.out HCK.out _ _ _ _ HS5.out HNE.out hq).mono ?_
            have HQ := Lib.hid hq
            clear hq
            rintro e4 w6 ⟨A7, c7, rfl, ho, hb6⟩
            obtain ⟨z7, zf7⟩ := HC5.out.below hb6
            have HC7 := Lib.hid (HC5.out.below hb6)
            have HLT := Lib.hid HC5.out.lt
            have HX7 := Lib.hid (HX5.out.below hb6)
            have HB7 := Lib.hid (HBR5.out.trans (hb6.mono HBR5.out.size))
            have HO7 := Lib.hid ho
            have HGE := Lib.hid (show w1.heap.size ≤ w4.heap.size from HB4.out.size)
            clear ho hb6 z5
            cases q with
            | none =>
              have HM := Lib.hid (HRN.out HSE.out)
              have HBE := Lib.hid (HB1.out.trans ((HB7.out.setCell HGE.out (p := ⟨w4.heap.size, 0, none⟩) (.slice A7 0 c7)).mono HB1.out.size))
              obtain ⟨x2, y2⟩ := HX7.out
              have hg := HGE.out
              go_wp2
              rw [HM.out]
              exact bodyPost_ret (v := .tuple #[.agg #[.slice none 0 0], .bool false]) (by simp [results, Try.results39, go_sem, x2]) rfl (enumP_none (HBE.out.setCell (by show w.heap.size ≤ w.heap.size + 1; omega) _))
            | some xs =>
              have HR2 := Lib.hid (HRS.out xs HSE.out)
              have HS := Lib.hid (mStep_some HSE.out)
              have HXO := Lib.hid (mStep_ok HSE.out hoke.out HCK.out)
              go_wp2
              go_roundw
              case rel => exact ⟨k + 1, xs, A7, c7, by omega, by go_num, HR2, Lib.hid HS.out.1, HXO, Lib.hid ⟨World.cell?_setCell_same' _ _ _ (by rw [HC7.out.1]; rfl), by rw [World.frozen?_setCell]; exact HC7.out.2⟩, Lib.hid (own_base (own_setCell HO7.out (fun e => by have := (HO7.out.lt _ e).1; have := HLT.out; simp at *; omega) _) HBR5.out.size), Lib.hid (HB7.out.setCell HGE.out _)⟩
              case measure => simp [intOf]; omega
        · obtain rfl : k = cs.length := by omega
          have HM : Hid (mApply ds cs = some es) := Lib.hid (by rw [HME.out, ← hrun.out, List.drop_of_length_le (Nat.le_refl _)]; rfl)
          obtain ⟨x2, y2⟩ := HX2.out.below hbel.out
          have HO := Lib.hid hown.out
          have HBE := Lib.hid (HB1.out.trans (hbel.out.mono HB1.out.size))
          go_wp2
          refine bodyPost_ret (v := .tuple #[.agg #[.slice A5 es.length c5], .bool true]) (by simp [results, Try.results39, go_sem, x2]) rfl ?_
          rw [HM.out]
          exact enumP_some rfl (own_base (own_setCell HO.out (fun e => by have := (HO.out.lt _ e).1; simp at this; omega) _) (by omega)) (HBE.out.setCell (by show w.heap.size ≤ w.heap.size + 1; omega) _)
    · have HM : Hid (mApply ds cs = none) := Lib.hid (mApply_no (.inr (by have := HLK.out; omega)))
      have hm2 : (30 : Int) < (m : Int) := by omega
      clear hv
      go_enter Try.func39, Try.ntmps39
      go_wp2_with fail
      rw [HW0.out]
      refine (implVE_v ds _ _ _ _ HRA.out HV.out).mono ?_
      rintro e1 w1 ⟨rfl, hb⟩
      have HB1 := Lib.hid (HB0.out.trans (hb.mono HB0.out.size))
      have HX2 := Lib.hid (HC2.out.below hb)
      obtain ⟨x2, y2⟩ := HX2.out
      clear hb
      go_wp2
      rw [HM.out]
      exact bodyPost_ret (v := .tuple #[.agg #[.slice none 0 0], .bool false]) (by simp [results, Try.results39, go_sem, x2]) rfl (enumP_none (HB1.out.setCell (by show w.heap.size ≤ w.heap.size + 1; omega) _))
end Go.Proofs.Ytkholjcmaebaaaa
