import Derived.Test.YtbkfagncoekbkaaSortI
import Derived.Test.YtbkfagncoekbkaaBaseC
import Derived.Test.YtbkfagncoekbkaaEdit2
import Derived.Test.YtbkfagncoekbkaaBaseB
namespace Go.Proofs.Ytbkfagncoekbkaa
open Go.RowKit
set_option linter.unusedVariables false
set_option maxRecDepth 100000

set_option maxHeartbeats 16000000 in
theorem specSort_any (ds : List D) (A : Option Addr) (n c : Nat) (w : World) (ha : SD w w.heap.size A n c ds) :
    Calls Try.prog 123 #[.agg #[.slice A n c]] w (EnumE (mSort ds) w) := by
  obtain ⟨W0, hW0⟩ : ∃ W0 : World, W0 = (w.alloc (.cells #[.slice A n c] 58)).alloc (.cells #[.slice none 0 0] 58) := ⟨_, rfl⟩
  have hb0 : Below w.heap.size w W0 := by rw [hW0]; exact ((Below.refl _ _).alloc (Nat.le_refl _) _).alloc (by simp) _
  have HC0 : Hid (Cl W0 w.heap.size (.slice A n c)) := Lib.hid (by rw [hW0]; exact ⟨by simp [go_sem], by simp [go_sem]⟩)
  have HC2 : Hid (Cl W0 (w.heap.size + 1) (.slice none 0 0)) := Lib.hid (by rw [hW0]; exact ⟨by simp [go_sem], by simp [go_sem]⟩)
  have HZ0 : Hid (w.heap.size + 2 ≤ W0.heap.size) := Lib.hid (by rw [hW0]; simp)
  have HB0 := Lib.hid hb0
  have HRA := Lib.hid ((ha.below hb0).call hb0.size)
  have HLA := Lib.hid ha.len
  have HOA := Lib.hid ha.ok
  have HW0 := Lib.hid hW0.symm
  clear ha hb0 hW0
  cases hv : vEnum ds
  · have HV := Lib.hid hv
    have HM : Hid (mSort ds = []) := Lib.hid (by unfold mSort; rw [hv]; rfl)
    clear hv
    go_enter Try.func123, Try.ntmps123
    go_wp2_with fail
    rw [HW0.out]
    refine (specVE_v ds _ _ _ _ HRA.out HV.out).mono ?_
    rintro e1 w1 ⟨rfl, hb⟩
    have HB1 := Lib.hid (HB0.out.trans (hb.mono HB0.out.size))
    obtain ⟨x2, y2⟩ := HC2.out.below hb
    clear hb
    go_wp2
    rw [HM.out]
    exact bodyPost_ret (v := .agg #[.slice none 0 0]) (by simp [results, Try.results123, go_sem, x2]) rfl ⟨none, 0, rfl, World.ownsRow_nil _ _ _ _, HB1.out.setCell (by show w.heap.size ≤ w.heap.size + 1; omega) _⟩
  · have HV := Lib.hid hv
    have h12 := vEnum_len hv
    have HM : Hid (mSort ds = srt ds) := Lib.hid (by unfold mSort; rw [hv]; rfl)
    have HNA : Hid (ds.length ≤ 12) := Lib.hid h12
    clear hv
    go_enter Try.func123, Try.ntmps123
    go_wp2_with fail
    rw [HW0.out]
    refine (specVE_v ds _ _ _ _ HRA.out HV.out).mono ?_
    rintro e1 w1 ⟨rfl, hb⟩
    have HB1 := Lib.hid (HB0.out.trans (hb.mono HB0.out.size))
    have HX2 := Lib.hid (HC2.out.below hb)
    have hz1 : w.heap.size + 2 ≤ w1.heap.size := Nat.le_trans HZ0.out hb.size
    have x0 := (HC0.out.below hb).1
    have HSA1 := Lib.hid ((HRA.out.below hb).call hb.size)
    clear hb
    obtain rfl := HLA.out
    have H0 : Hid (Below w1.heap.size w1 (w1.alloc (.cells #[] 37))) := Lib.hid ((Below.refl _ _).alloc (Nat.le_refl _) _)
    have H1 : Hid ((w1.alloc (.cells #[] 37)).ownsRow w1.heap.size 37 2 (.slice (some ⟨w1.heap.size, 0, none⟩) 0 0) 0 []) := Lib.hid (World.ownsRow_made w1 #[] 0 (Nat.le_refl _) (by unfold maxLen; omega) rfl)
    go_wp2
    go_loopw [3, 4] (fun v i wr => ∃ k : Nat, k ≤ ds.length ∧ i = .int .i64 k ∧ Hid (wr.ownsRow w1.heap.size 37 2 v k (flat (srt (ds.take k)))) ∧ Hid (Below w1.heap.size w1 wr)) (fun _ i _ => ds.length - (intOf i).toNat)
    case atStart => exact ⟨0, Nat.zero_le _, rfl, Lib.hid (by exact H1.out), H0⟩
    case round =>
      clear H0 H1
      obtain ⟨k, hk, rfl, hown, hbel⟩ := hrel
      have z0 := keep1 hbel.out x0
      by_cases hlt : k < ds.length
      · obtain ⟨AV, cV, rfl⟩ := own_form hown.out
        have HFT := Lib.hid (srt_take ds k hlt)
        have HSL : Hid ((srt (ds.take k)).length = k) := Lib.hid (by rw [srt_length]; simp; omega)
        have HSS := Lib.hid (srt_sorted (ds.take k))
        have HSO : Hid (∀ x ∈ srt (ds.take k), x.ok) := Lib.hid (fun x hx => HOA.out x (List.mem_of_mem_take (srt_mem.1 hx)))
        obtain ⟨b, o, hA, hbb, c1, c2⟩ := (HSA1.out.below hbel.out).at_ hlt
        subst hA
        have hi1 : (k : Int) < (ds.length : Int) := by omega
        have hi0 : (0 : Int) ≤ (k : Int) := by omega
        have HDK := Lib.hid (HOA.out _ (List.getElem_mem hlt))
        generalize ds[k] = d at *
        generalize srt (ds.take k) = S at *
        rename World => wo
        go_wp2
        go_loopw [5] (fun jv wq => ∃ j : Nat, j ≤ k ∧ jv = .int .i64 j ∧ Hid (∀ i (hi : i < S.length), i < j → S[i].val ≤ d.val) ∧ Hid (∃ q, wq = wo.drewN q)) (fun jv _ => k - (intOf jv).toNat)
        case atStart => exact ⟨0, Nat.zero_le _, rfl, Lib.hid (fun i hi h => absurd h (by omega)), Lib.hid ⟨0, rfl⟩⟩
        case round =>
          obtain ⟨j, hj, rfl, hle, hdr⟩ := hrel
          have HOW : Hid (wr.ownsRow w1.heap.size 37 2 (.slice AV k cV) k (flat S)) := Lib.hid (by obtain ⟨q, rfl⟩ := hdr.out; exact own_drewN hown.out q)
          have HBQ : Hid (Below w1.heap.size w1 wr) := Lib.hid (by obtain ⟨q, rfl⟩ := hdr.out; exact below_drewN hbel.out q)
          have q0 : wr.cell? ⟨w.heap.size, 0, none⟩ = some (.slice (some ⟨b, o, none⟩) ds.length c) := by obtain ⟨q, rfl⟩ := hdr.out; exact z0
          have q1 : wr.cell? ⟨b, o + k * 2, none⟩ = some (.string d.name) := by obtain ⟨q, rfl⟩ := hdr.out; exact c1
          have q2 : wr.cell? ⟨b, o + k * 2 + 1, none⟩ = some (.int .i64 d.val) := by obtain ⟨q, rfl⟩ := hdr.out; exact c2
          rename World => wq
          have hj0 : (0 : Int) ≤ (j : Int) := by omega
          by_cases hjk : j < k
          · have hjs : j < S.length := by have := HSL.out; omega
            obtain ⟨b2, o2, hAV, hbb2, l1, l2⟩ := (sd_of_own HOW.out HSO.out).at_ hjs
            subst hAV
            have hji : (j : Int) < (k : Int) := by omega
            by_cases hvv : S[j].val ≤ d.val
            · have HLE : Hid (∀ i (hi : i < S.length), i < j + 1 → S[i].val ≤ d.val) := Lib.hid (fun i hi h => by by_cases e : i = j; subst e; exact hvv; exact hle.out i hi (by omega))
              generalize S[j].val = sv at *
              go_wp2
              go_quiet (fail)
              go_wp2
              go_roundw
              case rel => exact ⟨j + 1, by omega, by go_num, HLE, Lib.hid (by obtain ⟨q, rfl⟩ := hdr.out; exact ⟨q + nq, by simp⟩)⟩
              case measure => simp [intOf]; omega
            · have hpos : pos d.val S = j := Nat.le_antisymm (pos_at hjs (by omega)) (pos_ge (by omega) hle.out)
              have hgt : d.val < S[j].val := by omega
              generalize S[j].val = sv at *
              go_wp2
              go_quiet (fail)
              have HINS : Hid (insV S d = S.take j ++ (d :: S.drop j)) := Lib.hid (by unfold insV; rw [hpos])
              have HOWq := Lib.hid (own_drewN HOW.out nq)
              have HBq := Lib.hid (below_drewN HBQ.out nq)
              have v0 : (wq.drewN nq).cell? ⟨w.heap.size, 0, none⟩ = _ := q0
              have v1 : (wq.drewN nq).cell? ⟨b, o + k * 2, none⟩ = _ := q1
              have v2 : (wq.drewN nq).cell? ⟨b, o + k * 2 + 1, none⟩ = _ := q2
              clear q0 q1 q2
              generalize wq.drewN nq = wd at *
              have HSD := sd_of_own HOWq.out HSO.out
              have hcv := HSD.cap
              have hsl1 := run_to (some ⟨b2, o2, none⟩) k cV j (by omega)
              obtain ⟨A2, hsl2, hs2⟩ := run_from HSD j (by omega)
              have HT1 := Lib.hid (HSD.take_ j (by omega))
              have HT2 := Lib.hid hs2.sl
              have HFL : Hid ((S.take j).flatMap encD ++ [.string d.name, .int .i64 d.val] ++ (S.drop j).flatMap encD = flat (insV S d)) := Lib.hid (by rw [HINS.out]; simp [flat, encD])
              obtain ⟨i0, hi, hz0, hz1', hz2⟩ := info_parts info_D
              have HI := Lib.hid (And.intro hi (And.intro hz0 (And.intro hz1' hz2)))
              clear hi hz0 hz1' hz2 HSD hs2 hpos
              have hkj : j + 1 + (k - j) = k + 1 := by omega
              generalize hm2 : k - j = m2 at *
              have hm3 : m2 ≤ 12 := by omega
              generalize cV - j = c2x at *
              go_wp2_with fail
              have hb0 : Below wd.heap.size wd wd := Below.refl _ _
              go_region_held3 (fun w' => Below wd.heap.size wd w' ∧ w'.cell? ⟨w.heap.size, 0, none⟩ = some (.slice (some ⟨b, o, none⟩) ds.length c) ∧ w'.cell? ⟨b, o + k * 2, none⟩ = some (.string d.name) ∧ w'.cell? ⟨b, o + k * 2 + 1, none⟩ = some (.int .i64 d.val))
                (first | exact ⟨hb0.drew, v0, v1, v2⟩ | with_reducible exact ⟨hbN, z1, z2, z3⟩ | with_reducible exact ⟨hb4, u1, u2, u3⟩ | with_reducible exact ⟨hb5, s1, s2, s3⟩ | exact ⟨hbN.alloc hbN.size _, keepA z1, keepA z2, keepA z3⟩ | exact ⟨(hb0.drew).alloc hb0.size _, keepA v0, keepA v1, keepA v2⟩)
                (first
                  | (go_at_call 112; refine (copyDefs_n (S.take j) _ _ _ _ (by first | exact HT1.out.drew | exact (HT1.out.drew.alloc (Nat.le_refl _) _).call (by simp)) (by omega)).mono ?_; rintro e w2 ⟨A3, c3, rfl, ho, hb⟩; have hbN : Below wd.heap.size wd w2 := (by first | exact undrew hb | exact (((Below.refl _ _).drew).alloc (Nat.le_refl _) _).trans (hb.mono (by simp))); have ho2 := own_base (base' := wd.heap.size) ho (by simp); have z1 := keep1 hbN v0; have z2 := keep1 hbN v1; have z3 := keep1 hbN v2)
                  | (refine step_app_D rfl _ _ rfl wd.heap.size _ _ _ rfl (by first | exact ho2 | exact ho2.alloc _) _ _ _ _ rfl (by first | exact heap_alloc_new _ _ | exact (hb.block _ (by simp)).trans (heap_alloc_new _ _)) (by omega) (by first | exact hbN.size | (have := hbN.size; simp; omega)) ?_; intro v' w4 ho4 hg4; obtain ⟨A4, c4, rfl⟩ := own_form ho4; have hb4 : Below wd.heap.size wd w4 := (by first | exact hbN.grown hg4 hbN.size (fun k hk => (ho2.lt k hk).1) | exact hbN.grown ((World.grownBy_alloc _ _ _).trans hg4) hbN.size (fun k hk => (ho2.lt k hk).1)); have u1 := keep1 hb4 v0; have u2 := keep1 hb4 v1; have u3 := keep1 hb4 v2)
                  | (refine step_app_src rfl _ _ _ rfl wd.heap.size _ i0 _ 2 24 Try.underlying23 HI.out rfl (by omega) (by omega) _ (j + 1) _ rfl ho4 _ _ _ _ rfl ((HT2.out.below hb4).src (fun _ => rfl)) (one_D _) (by omega) hb4.size ?_; intro v' w5 ho5 hg5; rw [HFL.out] at ho5; obtain ⟨A5, c5, rfl⟩ := own_form ho5; have hb5 : Below wd.heap.size wd w5 := hb4.grown hg5 hb4.size (fun q hq => (ho4.lt q hq).1); have s1 := keep1 hb5 v0; have s2 := keep1 hb5 v1; have s3 := keep1 hb5 v2))
              all_goals
                have HO := Lib.hid (own_base ho5 HBq.out.size)
                have HB5 := Lib.hid (HBq.out.trans (hb5.mono HBq.out.size))
                clear ho5 hb5
                go_wp2
                go_roundw
                case rel => exact ⟨k + 1, by omega, by go_num, Lib.hid (by rw [HFT.out]; have h := HO.out; rw [hkj] at h; exact h), HB5⟩
                case measure => simp [intOf]; omega
          · obtain rfl : j = k := by omega
            have hpos : pos d.val S = j := Nat.le_antisymm (by have := pos_le d.val S; have := HSL.out; omega) (pos_ge (by have := HSL.out; omega) hle.out)
            go_wp2
            go_quiet (fail)
            have HINS : Hid (insV S d = S.take j ++ (d :: S.drop j)) := Lib.hid (by unfold insV; rw [hpos])
            have HOWq := Lib.hid (own_drewN HOW.out nq)
            have HBq := Lib.hid (below_drewN HBQ.out nq)
            have v0 : (wq.drewN nq).cell? ⟨w.heap.size, 0, none⟩ = _ := q0
            have v1 : (wq.drewN nq).cell? ⟨b, o + j * 2, none⟩ = _ := q1
            have v2 : (wq.drewN nq).cell? ⟨b, o + j * 2 + 1, none⟩ = _ := q2
            clear q0 q1 q2
            generalize wq.drewN nq = wd at *
            have HSD := sd_of_own HOWq.out HSO.out
            have hcv := HSD.cap
            have hsl1 := run_to AV j cV j (by omega)
            obtain ⟨A2, hsl2, hs2⟩ := run_from HSD j (by omega)
            have HT1 := Lib.hid (HSD.take_ j (by omega))
            have HT2 := Lib.hid hs2.sl
            have HFL : Hid ((S.take j).flatMap encD ++ [.string d.name, .int .i64 d.val] ++ (S.drop j).flatMap encD = flat (insV S d)) := Lib.hid (by rw [HINS.out]; simp [flat, encD])
            obtain ⟨i0, hi, hz0, hz1', hz2⟩ := info_parts info_D
            have HI := Lib.hid (And.intro hi (And.intro hz0 (And.intro hz1' hz2)))
            clear hi hz0 hz1' hz2 HSD hs2 hpos
            have hkj : j + 1 + (j - j) = j + 1 := by omega
            generalize hm2 : j - j = m2 at *
            have hm3 : m2 ≤ 12 := by omega
            generalize cV - j = c2x at *
            go_wp2_with fail
            have hb0 : Below wd.heap.size wd wd := Below.refl _ _
            go_region_held3 (fun w' => Below wd.heap.size wd w' ∧ w'.cell? ⟨w.heap.size, 0, none⟩ = some (.slice (some ⟨b, o, none⟩) ds.length c) ∧ w'.cell? ⟨b, o + j * 2, none⟩ = some (.string d.name) ∧ w'.cell? ⟨b, o + j * 2 + 1, none⟩ = some (.int .i64 d.val))
              (first | exact ⟨hb0.drew, v0, v1, v2⟩ | with_reducible exact ⟨hbN, z1, z2, z3⟩ | with_reducible exact ⟨hb4, u1, u2, u3⟩ | with_reducible exact ⟨hb5, s1, s2, s3⟩ | exact ⟨hbN.alloc hbN.size _, keepA z1, keepA z2, keepA z3⟩ | exact ⟨(hb0.drew).alloc hb0.size _, keepA v0, keepA v1, keepA v2⟩)
              (first
                | (go_at_call 112; refine (copyDefs_n (S.take j) _ _ _ _ (by first | exact HT1.out.drew | exact (HT1.out.drew.alloc (Nat.le_refl _) _).call (by simp)) (by omega)).mono ?_; rintro e w2 ⟨A3, c3, rfl, ho, hb⟩; have hbN : Below wd.heap.size wd w2 := (by first | exact undrew hb | exact (((Below.refl _ _).drew).alloc (Nat.le_refl _) _).trans (hb.mono (by simp))); have ho2 := own_base (base' := wd.heap.size) ho (by simp); have z1 := keep1 hbN v0; have z2 := keep1 hbN v1; have z3 := keep1 hbN v2)
                | (refine step_app_D rfl _ _ rfl wd.heap.size _ _ _ rfl (by first | exact ho2 | exact ho2.alloc _) _ _ _ _ rfl (by first | exact heap_alloc_new _ _ | exact (hb.block _ (by simp)).trans (heap_alloc_new _ _)) (by omega) (by first | exact hbN.size | (have := hbN.size; simp; omega)) ?_; intro v' w4 ho4 hg4; obtain ⟨A4, c4, rfl⟩ := own_form ho4; have hb4 : Below wd.heap.size wd w4 := (by first | exact hbN.grown hg4 hbN.size (fun k hk => (ho2.lt k hk).1) | exact hbN.grown ((World.grownBy_alloc _ _ _).trans hg4) hbN.size (fun k hk => (ho2.lt k hk).1)); have u1 := keep1 hb4 v0; have u2 := keep1 hb4 v1; have u3 := keep1 hb4 v2)
                | (refine step_app_src rfl _ _ _ rfl wd.heap.size _ i0 _ 2 24 Try.underlying23 HI.out rfl (by omega) (by omega) _ (j + 1) _ rfl ho4 _ _ _ _ rfl ((HT2.out.below hb4).src (fun _ => rfl)) (one_D _) (by omega) hb4.size ?_; intro v' w5 ho5 hg5; rw [HFL.out] at ho5; obtain ⟨A5, c5, rfl⟩ := own_form ho5; have hb5 : Below wd.heap.size wd w5 := hb4.grown hg5 hb4.size (fun q hq => (ho4.lt q hq).1); have s1 := keep1 hb5 v0; have s2 := keep1 hb5 v1; have s3 := keep1 hb5 v2))
            all_goals
              have HO := Lib.hid (own_base ho5 HBq.out.size)
              have HB5 := Lib.hid (HBq.out.trans (hb5.mono HBq.out.size))
              clear ho5 hb5
              go_wp2
              go_roundw
              case rel => exact ⟨j + 1, by omega, by go_num, Lib.hid (by rw [HFT.out]; have h := HO.out; rw [hkj] at h; exact h), HB5⟩
              case measure => simp [intOf]; omega
      · obtain rfl : k = ds.length := by omega
        obtain ⟨AV, cV, rfl⟩ := own_form hown.out
        obtain ⟨x2, y2⟩ := HX2.out.below hbel.out
        have HO := hown
        rw [List.take_of_length_le (Nat.le_refl _)] at HO
        have HBE := Lib.hid (HB1.out.trans (hbel.out.mono HB1.out.size))
        have HL := Lib.hid (srt_length ds)
        clear hown
        go_wp2
        refine bodyPost_ret (v := .agg #[.slice AV ds.length cV]) (by simp [results, Try.results123, go_sem, x2]) rfl ?_
        rw [HM.out]
        exact ⟨AV, cV, by rw [HL.out], by rw [HL.out]; exact own_base (own_setCell HO.out (fun e => by have := (HO.out.lt _ e).1; simp at this; omega) _) (by omega), HBE.out.setCell (by show w.heap.size ≤ w.heap.size + 1; omega) _⟩
end Go.Proofs.Ytbkfagncoekbkaa
