import Derived.Test.YteaiaglangmhbaaDoorSortA
import Derived.Test.YteaiaglangmhbaaDoorBaseP
import Derived.Test.YteaiaglangmhbaaDoorBaseC
import Derived.Test.YteaiaglangmhbaaDoorBaseB
import Derived.Deep.RegionWith
namespace Go.Proofs.YteaiaglangmhbaaDoor
open Go.RowKit
set_option linter.unusedVariables false
set_option maxRecDepth 100000

/-- Where the insertion stands: d has come down to j in front of what is sorted. -/
def stand (S : List D) (d : D) (R : List D) (j : Nat) : List D := S.take j ++ (d :: (S.drop j ++ R))
theorem stand_len {S R : List D} {d : D} {j : Nat} (h : j ≤ S.length) : (stand S d R j).length = S.length + 1 + R.length := by
  unfold stand; simp; omega
theorem stand_d {S R : List D} {d : D} {j : Nat} (h : j ≤ S.length) (h2 : j < (stand S d R j).length) : (stand S d R j)[j] = d := by
  have e : (stand S d R j)[j]? = some d := by
    unfold stand
    rw [List.getElem?_append_right (by simp; omega)]
    simp [Nat.min_eq_left h]
  rw [List.getElem?_eq_getElem h2] at e
  exact Option.some.inj e
theorem stand_s {S R : List D} {d : D} {j : Nat} (h : j < S.length) (h2 : j < (stand S d R (j + 1)).length) : (stand S d R (j + 1))[j] = S[j] := by
  have e : (stand S d R (j + 1))[j]? = some S[j] := by
    unfold stand
    rw [List.getElem?_append_left (by simp; omega), List.getElem?_take_of_lt (by omega), List.getElem?_eq_getElem h]
  rw [List.getElem?_eq_getElem h2] at e
  exact Option.some.inj e
theorem stand_p {S R : List D} {d : D} {j p : Nat} (hj : j = p + 1) (h : p < S.length) (h2 : p < (stand S d R j).length) : (stand S d R j)[p] = S[p] := by
  subst hj; exact stand_s h h2
theorem stand_swap {S R : List D} {d : D} {j : Nat} (h : j < S.length) : ((stand S d R (j + 1)).set (j + 1) S[j]).set j d = stand S d R j := by
  unfold stand
  rw [List.set_append_right _ _ (by simp; omega), List.set_append_left _ _ (by simp; omega)]
  have e : j + 1 - (S.take (j + 1)).length = 0 := by simp; omega
  rw [e, List.set_cons_zero, List.take_succ_eq_append_getElem h, List.set_append_right _ _ (by simp; omega)]
  have e2 : j - (S.take j).length = 0 := by simp; omega
  rw [e2, List.set_cons_zero, List.drop_eq_getElem_cons h]
  simp only [List.append_assoc, List.cons_append, List.nil_append]
theorem stand_mem {S R : List D} {d x : D} {j : Nat} (h : x ∈ stand S d R j) : x ∈ S ∨ x = d ∨ x ∈ R := by
  unfold stand at h
  simp only [List.mem_append, List.mem_cons] at h
  rcases h with h | h | h | h
  · exact .inl (List.mem_of_mem_take h)
  · exact .inr (.inl h)
  · exact .inl (List.mem_of_mem_drop h)
  · exact .inr (.inr h)
theorem stand_end {S R : List D} {d : D} : stand S d R (pos d.val S) = insV S d ++ R := by
  unfold stand insV; simp
theorem flat_setD (ds : List D) (k : Nat) (hk : k < ds.length) (e : D) : ((flat ds).set (k * 2) (.string e.name)).set (k * 2 + 1) (.int .i64 e.val) = flat (ds.set k e) := by
  rw [flat_set_name ds k hk, flat_set_val _ k (by simpa using hk)]
  simp
theorem stand_swapped {S R : List D} {d sj : D} {j p : Nat} (hj : j = p + 1) (h : p < S.length) (hs : S[p] = sj) : ((((flat (stand S d R j)).set (j * 2) (.string sj.name)).set (j * 2 + 1) (.int .i64 sj.val)).set (p * 2) (.string d.name)).set (p * 2 + 1) (.int .i64 d.val) = flat (stand S d R p) := by
  subst hj
  have hL := stand_len (S := S) (R := R) (d := d) (j := p + 1) (by omega)
  rw [flat_setD _ _ (by omega), flat_setD _ _ (by simp; omega), ← hs, stand_swap h]
theorem ins_pos {S : List D} {d : D} {j p : Nat} (hS : sortedV S) (hj : j = p + 1) (hjl : j ≤ S.length) (hp : p < S.length) (hle : S[p].val ≤ d.val) (hgt : ∀ i (hi : i < S.length), j ≤ i → d.val < S[i].val) : pos d.val S = j := by
  refine Nat.le_antisymm ?_ (pos_ge hjl (fun i hi hij => ?_))
  · by_cases h : j < S.length
    · exact pos_at h (hgt j h (Nat.le_refl _))
    · have := pos_le d.val S; omega
  · by_cases e : i = p
    · subst e; exact hle
    · have := List.pairwise_iff_getElem.1 hS i p hi hp (by omega); omega
theorem ins_pos0 {S : List D} {d : D} (hgt : ∀ i (hi : i < S.length), 0 ≤ i → d.val < S[i].val) : pos d.val S = 0 := by
  by_cases h : 0 < S.length
  · have := pos_at h (hgt 0 h (Nat.le_refl _)); omega
  · have := pos_le d.val S; omega
set_option maxHeartbeats 16000000 in
theorem insSort_any (ds : List D) (hok : ∀ x ∈ ds, x.ok) (hl : ds.length ≤ 12) (A : Option Addr) (c base : Nat) (w : World) (ho : w.ownsRow base 53 2 (.slice A ds.length c) ds.length (flat ds)) (hbase : base ≤ w.heap.size) :
    Calls Tryd.prog 92 #[.slice A ds.length c, .int .i64 0, .int .i64 ds.length, .func (.func 48) #[] #[]] w fun e w' => e = .returned (.tuple #[]) ∧ w'.ownsRow base 53 2 (.slice A ds.length c) ds.length (flat (srt ds)) ∧ Below base w w' := by
  have HO := Lib.hid ho
  clear ho
  go_enter Tryd.func92, Tryd.ntmps92
  go_wp2
  go_loopw [8] (fun i wr => ∃ k : Nat, 1 ≤ k ∧ (k ≤ ds.length ∨ k = 1) ∧ i = .int .i64 k ∧ Hid (wr.ownsRow base 53 2 (.slice A ds.length c) ds.length (flat (srt (ds.take k) ++ ds.drop k))) ∧ Hid (Below base w wr)) (fun i _ => ds.length - (intOf i).toNat)
  case atStart => exact ⟨1, Nat.le_refl _, by omega, rfl, Lib.hid (by
    have e : srt (ds.take 1) ++ ds.drop 1 = ds := by
      cases ds with
      | nil => rfl
      | cons d r => rfl
    rw [e]; exact HO.out), Lib.hid (Below.refl _ _)⟩
  case round =>
    obtain ⟨k, hk1, hk, rfl, hown, hbel⟩ := hrel
    by_cases hlt : k < ds.length
    · have hi1 : (k : Int) < (ds.length : Int) := by omega
      rename World => wo
      have HSL : Hid ((srt (ds.take k)).length = k) := Lib.hid (by rw [srt_length]; simp; omega)
      have HOKL : Hid (∀ x, x ∈ srt (ds.take k) ∨ x = ds[k] ∨ x ∈ ds.drop (k + 1) → x.ok) := Lib.hid (fun x hx => by
        rcases hx with h | rfl | h
        · exact hok x (List.mem_of_mem_take (srt_mem.1 h))
        · exact hok _ (List.getElem_mem hlt)
        · exact hok x (List.mem_of_mem_drop h))
      have HFT := Lib.hid (srt_take ds k hlt)
      have HRL : Hid ((ds.drop (k + 1)).length = ds.length - (k + 1)) := Lib.hid (by simp)
      have HST := Lib.hid (srt_sorted (ds.take k))
      have HDK := Lib.hid (List.drop_eq_getElem_cons hlt)
      generalize ds[k] = d at *
      generalize srt (ds.take k) = S at *
      generalize hR : ds.drop (k + 1) = R at *
      have HR := Lib.hid hR
      clear hR
      have HS0 : Hid (S ++ ds.drop k = stand S d R k) := Lib.hid (by
        rw [HDK.out]
        unfold stand
        rw [List.take_of_length_le (by rw [HSL.out]; omega), List.drop_of_length_le (by rw [HSL.out]; omega)]; rfl)
      go_wp2
      go_loopw [9] (fun jv wq => ∃ j : Nat, j ≤ k ∧ jv = .int .i64 j ∧ Hid (∀ i (hi : i < S.length), j ≤ i → d.val < S[i].val) ∧ Hid (wq.ownsRow base 53 2 (.slice A ds.length c) ds.length (flat (stand S d R j))) ∧ Hid (Below base w wq)) (fun jv _ => (intOf jv).toNat)
      case atStart => exact ⟨k, Nat.le_refl _, rfl, Lib.hid (fun i hi h => by have := HSL.out; omega), Lib.hid (by rw [← HS0.out]; exact hown.out), hbel⟩
      case round =>
        obtain ⟨j, hj, rfl, hgt, hown2, hbel2⟩ := hrel
        rename World => wq
        rcases Nat.eq_zero_or_pos j with rfl | hj0
        · have HPOS : Hid (pos d.val S = 0) := Lib.hid (ins_pos0 hgt.out)
          go_wp2
          go_quiet (fail)
          have HOX := Lib.hid (own_drewN hown2.out nq)
          have HBX := Lib.hid (below_drewN hbel2.out nq)
          go_wp2
          go_roundw
          case rel => exact ⟨k + 1, by omega, by omega, by go_num, Lib.hid (by rw [HFT.out, HR.out, ← stand_end, HPOS.out]; exact HOX.out), HBX⟩
          case measure => simp [intOf]; omega
        · obtain ⟨p, hp⟩ : ∃ i, j = i + 1 := ⟨j - 1, by omega⟩
          have HP := Lib.hid hp
          have hRL := HRL.out
          have hpS : p < S.length := by have := HSL.out; omega
          have hL := stand_len (S := S) (R := R) (d := d) (j := j) (by omega)
          have hjL : j < (stand S d R j).length := by omega
          have hpL : p < (stand S d R j).length := by omega
          have HSDL := sd_of_own hown2.out (fun x hx => HOKL.out x (stand_mem hx))
          obtain ⟨g, hA, hg1, hg2⟩ := own_addr hown2.out (by omega)
          obtain ⟨b2, o2, hAV, hbb2, l1, l2⟩ := HSDL.at_ hjL
          obtain ⟨b3, o3, hAV3, hbb3, m1, m2⟩ := HSDL.at_ hpL
          rw [hA] at hAV3 hAV
          injection hAV with hAV
          injection hAV with e1 e2
          injection hAV3 with hAV3
          injection hAV3 with e3 e4
          subst e1 e2 e3 e4
          rw [Nat.zero_add] at l1 l2 m1 m2
          rw [stand_d (by omega)] at l1 l2
          have hps : (stand S d R j)[p] = S[p] := stand_p hp hpS hpL
          rw [hps] at m1 m2
          generalize hsv : S[p] = sj at *
          have HSJ := Lib.hid hsv
          have HPS := Lib.hid hpS
          clear hsv
          subst hA
          have hji : (0 : Int) < (j : Int) := by omega
          have hji0 : (0 : Int) ≤ (j : Int) := by omega
          have hji2 : (j : Int) < (ds.length : Int) := by omega
          have hj1 : (0 : Int) ≤ (p : Int) := by omega
          have hji3 : (p : Int) < (ds.length : Int) := by omega
          have hsub : IntKind.i64.wrap ((j : Int) - 1) = (p : Int) := by rw [IntKind.wrap_i64]; omega
          clear hp hps
          by_cases hcmp : d.val < sj.val
          · have hv : cmpv d.val sj.val = -1 := by unfold cmpv; rw [if_pos hcmp]
            go_wp2_with fail
            go_region_held3 (fun w' => w'.cell? ⟨g, j * 2, none⟩ = some (.string d.name) ∧ w'.cell? ⟨g, j * 2 + 1, none⟩ = some (.int .i64 d.val) ∧ w'.cell? ⟨g, p * 2, none⟩ = some (.string sj.name) ∧ w'.cell? ⟨g, p * 2 + 1, none⟩ = some (.int .i64 sj.val))
              (first | exact ⟨l1, l2, m1, m2⟩ | exact ⟨z1, z2, z3, z4⟩)
              (first
                | (go_at_call 48; refine (byVal_any d sj _ hv).mono ?_; rintro e w2 ⟨rfl, hb⟩; have hbN : Below wq.heap.size wq w2 := (by first | exact undrew hb | exact hb); have z1 := keep1 hbN l1; have z2 := keep1 hbN l2; have z3 := keep1 hbN m1; have z4 := keep1 hbN m2))
            have HO2 := Lib.hid (own_below hown2.out hbN)
            have HB2 := Lib.hid (hbel2.out.trans (hbN.mono (Nat.le_trans hbase hbel2.out.size)))
            have f1 := HO2.out.frozenAt (j * 2)
            have f2 := HO2.out.frozenAt (j * 2 + 1)
            have f3 := HO2.out.frozenAt (p * 2)
            have f4 := HO2.out.frozenAt (p * 2 + 1)
            have hpj := HP.out
            have n1 : ¬ (p = j) := by omega
            have n2 : ¬ (j = p) := by omega
            have n3 : ¬ (p * 2 = j * 2 + 1) := by omega
            have n4 : ¬ (j * 2 + 1 = p * 2) := by omega
            have n5 : ¬ (p * 2 + 1 = j * 2) := by omega
            have n6 : ¬ (j * 2 = p * 2 + 1) := by omega
            clear l1 l2 m1 m2 hb hbN hpj
            go_wp2_with fail
            go_region_with (fail)
            all_goals
              have hle := HB2.out.size
              have HOX := Lib.hid ((((HO2.out.stored (j * 2) (.string sj.name)).1.stored (j * 2 + 1) (.int .i64 sj.val)).1.stored (p * 2) (.string d.name)).1.stored (p * 2 + 1) (.int .i64 d.val)).1
              have HBX := Lib.hid ((((HB2.out.setCell (p := ⟨g, j * 2, none⟩) hg1 (.string sj.name)).setCell (p := ⟨g, j * 2 + 1, none⟩) hg1 (.int .i64 sj.val)).setCell (p := ⟨g, p * 2, none⟩) hg1 (.string d.name)).setCell (p := ⟨g, p * 2 + 1, none⟩) hg1 (.int .i64 d.val))
              go_wp2
              go_roundw
              case rel => exact ⟨p, by have := HP.out; omega, by go_num, Lib.hid (fun i hi h => by by_cases e : i = p; subst e; rw [HSJ.out]; exact hcmp; exact hgt.out i hi (by have := HP.out; omega)), Lib.hid (by rw [← stand_swapped HP.out HPS.out HSJ.out]; exact HOX.out), Lib.hid (HBX.out.drew)⟩
              case measure => have := HP.out; simp [intOf]; omega
          · have HPOS : Hid (pos d.val S = j) := Lib.hid (ins_pos HST.out HP.out (by have := HSL.out; omega) HPS.out (by rw [HSJ.out]; omega) hgt.out)
            obtain ⟨v, hv, hv0⟩ : ∃ v, cmpv d.val sj.val = v ∧ (0 : Int) ≤ v := ⟨_, rfl, by unfold cmpv; rw [if_neg hcmp]; split <;> omega⟩
            go_wp2_with fail
            go_region_held3 (fun w' => w'.cell? ⟨g, j * 2, none⟩ = some (.string d.name) ∧ w'.cell? ⟨g, j * 2 + 1, none⟩ = some (.int .i64 d.val) ∧ w'.cell? ⟨g, p * 2, none⟩ = some (.string sj.name) ∧ w'.cell? ⟨g, p * 2 + 1, none⟩ = some (.int .i64 sj.val))
              (first | exact ⟨l1, l2, m1, m2⟩ | exact ⟨z1, z2, z3, z4⟩)
              (first
                | (go_at_call 48; refine (byVal_any d sj _ hv).mono ?_; rintro e w2 ⟨rfl, hb⟩; have hbN : Below wq.heap.size wq w2 := (by first | exact undrew hb | exact hb); have z1 := keep1 hbN l1; have z2 := keep1 hbN l2; have z3 := keep1 hbN m1; have z4 := keep1 hbN m2))
            have HOX := Lib.hid (own_below hown2.out hbN)
            have HBX := Lib.hid (hbel2.out.trans (hbN.mono (Nat.le_trans hbase hbel2.out.size)))
            clear l1 l2 m1 m2 hb hbN
            go_wp2
            go_roundw
            case rel => exact ⟨k + 1, by omega, by omega, by go_num, Lib.hid (by rw [HFT.out, HR.out, ← stand_end, HPOS.out]; exact HOX.out), HBX⟩
            case measure => simp [intOf]; omega
    · have hfin : srt (ds.take k) ++ ds.drop k = srt ds := by
        rcases Nat.lt_or_ge k ds.length with h | h
        · exact absurd h hlt
        · rw [List.take_of_length_le h, List.drop_of_length_le h, List.append_nil]
      have HO1 := hown
      rw [hfin] at HO1
      clear hown
      go_wp2
      exact bodyPost_end (v := .tuple #[]) (by simp [results, Tryd.results92, go_sem]) rfl ⟨rfl, HO1.out, hbel.out⟩
end Go.Proofs.YteaiaglangmhbaaDoor
