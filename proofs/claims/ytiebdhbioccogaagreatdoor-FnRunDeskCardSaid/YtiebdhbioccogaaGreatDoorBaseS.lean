import Derived.Test.YtiebdhbioccogaaGreatDoorFitP
import Derived.Test.YtiebdhbioccogaaGreatDoorAlgS
import Derived.Test.YtiebdhbioccogaaGreatDoorFewP
import Derived.Test.YtiebdhbioccogaaGreatDoorBaseC
namespace Go.Proofs.YtiebdhbioccogaaGreatDoor
open Go.RowKit
set_option linter.unusedVariables false
set_option linter.unusedSimpArgs false
set_option maxRecDepth 100000

set_option maxHeartbeats 8000000 in
theorem fitting_any (ds : List D) (a : Nat) (A : Option Addr) (n c : Nat) (w : World) (hr : SD w w.heap.size A n c ds) (hin : ∀ d ∈ ds, inR d) (hn : n ≤ 1048576) (ha : a < 4096) :
    Calls Tryz.prog 110 #[.slice A n c, .int .i64 a] w (DefsP (mFit ds a) w) := by
  obtain rfl := hr.len
  have hl := hr.max
  have hl2 := hr.cap
  unfold maxLen at hl
  have HR := Lib.hid hr
  have HIN := Lib.hid hin
  clear hr hin
  have hb : Below w.heap.size w (w.alloc (.cells #[] 108)) := (Below.refl _ _).alloc (Nat.le_refl _) _
  have ho : (w.alloc (.cells #[] 108)).ownsRow w.heap.size 108 2 (.slice (some ⟨w.heap.size, 0, none⟩) 0 0) 0 (flat []) := World.ownsRow_made w #[] 0 (Nat.le_refl _) (by unfold maxLen; omega) rfl
  have H0 := Lib.hid hb
  have H1 := Lib.hid ho
  clear hb ho
  go_enter Tryz.func110, Tryz.ntmps110
  go_wp2
  go_loopw [5, 6] (fun v i wr => ∃ k : Nat, k ≤ ds.length ∧ i = .int .i64 k ∧ Hid (wr.ownsRow w.heap.size 108 2 v (fitTo ds a k).length (flat (fitTo ds a k))) ∧ Hid (Below w.heap.size w wr)) (fun _ i _ => ds.length - (intOf i).toNat)
  case atStart => exact ⟨0, Nat.zero_le _, rfl, H1, H0⟩
  case round =>
    clear H0 H1
    obtain ⟨k, hk, rfl, hown, hbel⟩ := hrel
    by_cases hlt : k < ds.length
    · obtain ⟨b, o, rfl, hb, c1, c2⟩ := (HR.out.below hbel.out).at_ hlt
      have hi1 : (k : Int) < (ds.length : Int) := by omega
      have hi0 : (0 : Int) ≤ (k : Int) := by omega
      have HI := Lib.hid (HIN.out _ (List.getElem_mem hlt))
      obtain ⟨x, hx⟩ : ∃ x : Nat, ds[k].val = x := ⟨ds[k].val.toNat, (Int.toNat_of_nonneg HI.out.1).symm⟩
      have hx4 : x < 4096 := by have := HI.out.2; omega
      have HT := Lib.hid (fitTo_succ ds a k hlt)
      have HE : Hid (encD ds[k] = [.string ds[k].name, .int .i64 x]) := Lib.hid (by unfold encD; rw [hx])
      have HL := Lib.hid (fitTo_len ds a k)
      have HC : Hid (hasV ds[k] = decide (x ≠ 0) ∧ fitIn a ds[k] = decide (nl x a = 0)) := Lib.hid (by
        unfold hasV fitIn; rw [hx, Int.toNat_natCast]; refine ⟨?_, rfl⟩
        by_cases h0 : x = 0
        · subst h0; rfl
        · rw [decide_eq_true h0, decide_eq_true (by omega)])
      rw [hx] at c2
      clear hx
      by_cases h0 : x = 0
      · subst h0
        have HTT : Hid (fitTo ds a (k + 1) = fitTo ds a k) := Lib.hid (by rw [HT.out, HC.out.1]; simp)
        go_wp2
        go_roundw
        case rel => exact ⟨k + 1, by omega, by go_num, Lib.hid (by rw [HTT.out]; exact hown.out), hbel⟩
        case measure => simp [intOf]; omega
      · have hx0 : (0 : Int) < (x : Int) := by omega
        obtain ⟨z, hz⟩ : ∃ z, nl x a = z := ⟨_, rfl⟩
        have HZ := Lib.hid hz
        by_cases hz0 : z = 0
        · subst hz0
          have HTT : Hid (fitTo ds a (k + 1) = fitTo ds a k ++ [ds[k]]) := Lib.hid (by rw [HT.out, HC.out.1, HC.out.2, decide_eq_true h0, decide_eq_true hz]; rfl)
          clear hz
          go_wp2_with (first | (go_at_call 39; refine (less_any x a _ hx4 ha HZ.out).mono ?_; rintro e w' ⟨rfl, rfl⟩) | (at_builtin; refine wpList_app_D rfl _ _ rfl w.heap.size _ _ _ rfl hown.out _ _ _ _ rfl (by first | rfl | simp) (by have := HL.out; omega) hbel.out.size ?_; intro v' w5 ho hb5; have HO5 := Lib.hid ho; have HB5 := Lib.hid hb5; clear ho hb5))
          go_roundw
          case rel => exact ⟨k + 1, by omega, by go_num, Lib.hid (by rw [HTT.out, List.length_append]; simpa [flat, HE.out] using HO5.out), Lib.hid (hbel.out.trans HB5.out)⟩
          case measure => simp [intOf]; omega
        · have HTT : Hid (fitTo ds a (k + 1) = fitTo ds a k) := Lib.hid (by rw [HT.out, HC.out.2, hz, decide_eq_false hz0]; simp)
          have hz1 : ((z : Int) == 0) = false := by rw [beq_eq_false_iff_ne]; omega
          clear hz hz0
          go_wp2_with (go_at_call 39; refine (less_any x a _ hx4 ha HZ.out).mono ?_; rintro e w' ⟨rfl, rfl⟩)
          go_roundw
          case rel => exact ⟨k + 1, by omega, by go_num, Lib.hid (by rw [HTT.out]; exact hown.out), hbel⟩
          case measure => simp [intOf]; omega
    · obtain rfl : k = ds.length := by omega
      go_wp2
      go_ret
      obtain ⟨A', c', hv⟩ := own_form hown.out
      subst hv
      have h2 := hown.out
      rw [fitTo_all] at h2 ⊢
      exact ⟨A', c', rfl, h2, hbel.out⟩
end Go.Proofs.YtiebdhbioccogaaGreatDoor

namespace Go.Proofs.YtiebdhbioccogaaGreatDoor
open Go.RowKit
set_option linter.unusedVariables false
set_option linter.unusedSimpArgs false
set_option maxRecDepth 100000

/-- Definitions in new memory, or none. -/
def FewR (o : Option (List D)) (w : World) (e : Ending) (w' : World) : Prop :=
  ∃ A c, e = .returned (.tuple #[.slice A (o.getD []).length c, .bool o.isSome]) ∧ w'.ownsRow w.heap.size 108 2 (.slice A (o.getD []).length c) (o.getD []).length (flat (o.getD [])) ∧ Below w.heap.size w w'

set_option maxHeartbeats 8000000 in
theorem fewest_any (n : Nat) : ∀ (ds : List D) (k a : Nat) (A : Option Addr) (q c : Nat) (w : World) (hr : SD w w.heap.size A q c ds) (hin : ∀ d ∈ ds, inR d) (hq : q ≤ 1000) (hk : k ≤ ds.length) (ha : a < 4096) (hn : n ≤ 1000),
    Calls Tryz.prog 111 #[.slice A q c, .int .i64 k, .int .i64 n, .int .i64 a] w (FewR (few (ds.drop k) n a) w) := by
  induction n with
  | zero =>
    intro ds k a A q c w hr hin hq hk ha hn
    rw [few_zero]
    have HM := Lib.hid (World.ownsRow_made (e := 108) (size := 2) w #[] 0 (Nat.le_refl _) (by unfold maxLen; omega) rfl)
    clear hr hin
    go_enter Tryz.func111, Tryz.ntmps111
    by_cases h0 : a = 0
    · subst h0
      go_wp2
      go_ret2
      exact ⟨some ⟨w.heap.size, 0, none⟩, 0, rfl, HM.out, (Below.refl _ _).alloc (Nat.le_refl _) _⟩
    · have e0 : ((a : Int) == 0) = false := by rw [beq_eq_false_iff_ne]; omega
      rw [if_neg h0]
      clear h0
      go_wp2
      go_ret2
      exact ⟨some ⟨w.heap.size, 0, none⟩, 0, rfl, HM.out, (Below.refl _ _).alloc (Nat.le_refl _) _⟩
  | succ n ih =>
    intro ds k a A q c w hr hin hq hk ha hn
    obtain rfl := hr.len
    have hl := hr.max
    have hl2 := hr.cap
    unfold maxLen at hl
    have HR := Lib.hid hr
    have HIN := Lib.hid hin
    clear hr hin
    have hn0 : (((n + 1 : Nat) : Int) == 0) = false := by rw [beq_eq_false_iff_ne]; omega
    have hnw : IntKind.i64.wrap (((n + 1 : Nat) : Int) - 1) = (n : Int) := by rw [IntKind.wrap_i64]; omega
    obtain ⟨N1, hN1⟩ : ∃ N1 : Int, ((n + 1 : Nat) : Int) = N1 := ⟨_, rfl⟩
    rw [hN1] at hn0 hnw ⊢
    go_enter Tryz.func111, Tryz.ntmps111
    go_wp2
    go_loopw [10] (fun i wr => ∃ j : Nat, j ≤ ds.length ∧ i = .int .i64 j ∧ Hid (few (ds.drop j) (n + 1) a = few (ds.drop k) (n + 1) a) ∧ Hid (Below w.heap.size w wr)) (fun i _ => ds.length - (intOf i).toNat)
    case atStart => exact ⟨k, hk, rfl, Lib.hid rfl, Lib.hid (Below.refl _ _)⟩
    case round =>
      obtain ⟨j, hj, rfl, hfew, hbel⟩ := hrel
      by_cases hlt : j < ds.length
      · have HS := Lib.hid ((HR.out.below hbel.out).call hbel.out.size)
        obtain ⟨b, o, hA, hb, c1, c2⟩ := HS.out.at_ hlt
        have hi1 : (j : Int) < (ds.length : Int) := by omega
        have hi0 : (0 : Int) ≤ (j : Int) := by omega
        have hw1 : IntKind.i64.wrap ((j : Int) + 1) = ((j + 1 : Nat) : Int) := by rw [IntKind.wrap_i64]; omega
        have HI := Lib.hid (HIN.out _ (List.getElem_mem hlt))
        obtain ⟨x, hx⟩ : ∃ x : Nat, ds[j].val = x := ⟨ds[j].val.toNat, (Int.toNat_of_nonneg HI.out.1).symm⟩
        have hx4 : x < 4096 := by have := HI.out.2; omega
        obtain ⟨z, hz⟩ : ∃ z, nl a x = z := ⟨_, rfl⟩
        have hz4 : z < 4096 := by rw [← hz]; exact nl_lt ha
        have HZ := Lib.hid hz
        have HT := few_at hlt n a
        rw [hx, Int.toNat_natCast, hz] at HT
        rw [hx] at c2
        subst hA
        go_wp2_with (go_at_call 39; refine (less_any a x _ ha hx4 HZ.out).mono ?_; rintro e w' ⟨rfl, rfl⟩)
        refine (ih ds (j + 1) z _ _ _ _ HS.out HIN.out hq (by omega) hz4 (by omega)).mono ?_
        rintro e w2 ⟨A2, k2, rfl, ho, hb2⟩
        have HB2 : Hid (Below w.heap.size w w2) := Lib.hid (hbel.out.trans (hb2.mono hbel.out.size))
        have x1 := keep1 hb2 c1
        have x2 := keep1 hb2 c2
        obtain ⟨f, hf⟩ : ∃ f, few (ds.drop (j + 1)) n z = f := ⟨_, rfl⟩
        rw [hf] at HT ho ⊢
        cases f with
        | none =>
          have HF : Hid (few (ds.drop (j + 1)) (n + 1) a = few (ds.drop k) (n + 1) a) := Lib.hid (HT.symm.trans hfew.out)
          clear ho hb2 HT hf
          go_wp2
          go_roundw
          case rel => exact ⟨j + 1, by omega, by go_num, HF, HB2⟩
          case measure => simp [intOf]; omega
        | some m =>
          have HF : Hid (few (ds.drop k) (n + 1) a = some (ds[j] :: m)) := Lib.hid (hfew.out.symm.trans HT)
          have hml : m.length ≤ 1000 := by have := (few_len hf).1; omega
          have HE : Hid (encD ds[j] = [.string ds[j].name, .int .i64 x]) := Lib.hid (by unfold encD; rw [hx])
          simp only [Option.getD_some, Option.isSome_some] at ho ⊢
          have HOKm : Hid (∀ d ∈ m, d.ok) := Lib.hid (fun d hd => HS.out.ok d (List.mem_of_mem_drop ((few_len hf).2 d hd)))
          have HSM := Lib.hid (sd_of_own ho HOKm.out)
          have HMk := Lib.hid (World.ownsRow_lit (e := 108) (size := 2) (base := w.heap.size) w2 #[.string ds[j].name, .int .i64 x] 1 HB2.out.size (by unfold maxLen; omega) rfl)
          have hbA : Below w2.heap.size w2 (w2.alloc (.cells #[.string ds[j].name, .int .i64 x] 108)) := (Below.refl _ _).alloc (Nat.le_refl _) _
          have HSM2 := Lib.hid (HSM.out.below hbA)
          obtain ⟨i0, hi, hz0, hz1, hz2⟩ := info_parts info_D
          have HI0 := Lib.hid (And.intro hi (And.intro hz0 (And.intro hz1 hz2)))
          clear hi hz0 hz1 hz2 ho hb2 HT hf
          go_wp2_with (at_builtin; refine wpList_app_src rfl _ _ _ rfl w.heap.size _ i0 _ 2 24 Tryz.underlying33 HI0.out rfl (by omega) (by omega) _ 1 _ rfl HMk.out _ _ _ _ rfl (HSM2.out.sl.src (fun _ => rfl)) (one_D _) (by omega) (by have := HB2.out.size; simp; omega) ?_; intro v' w5 ho5 hb5; obtain ⟨A5, c5, rfl⟩ := own_form ho5; have HO5 := Lib.hid ho5; have HB5 : Hid (Below w.heap.size w w5) := Lib.hid ((HB2.out.trans (hbA.mono HB2.out.size)).grown hb5 (by have := HB2.out.size; simp; omega) (fun q hq => (HMk.out.lt q hq).1)); clear ho5 hb5)
          go_ret2
          rw [HF.out]
          have hl1 : (ds[j] :: m).length = 1 + m.length := by simp; omega
          refine ⟨A5, c5, ?_, ?_, HB5.out⟩
          · show _ = Ending.returned (.tuple #[.slice A5 (ds[j] :: m).length c5, .bool true])
            rw [hl1]; rfl
          · show w5.ownsRow _ _ _ (.slice A5 (ds[j] :: m).length c5) (ds[j] :: m).length (flat (ds[j] :: m))
            rw [hl1]
            have h := HO5.out
            simpa [flat, HE.out] using h
      · obtain rfl : j = ds.length := by omega
        have hi9 : ¬ (ds.length : Int) < (ds.length : Int) := by omega
        have HF : Hid (few (ds.drop k) (n + 1) a = none) := Lib.hid (by rw [← hfew.out, List.drop_of_length_le (Nat.le_refl _)]; exact few_nil _ _)
        clear hfew
        go_wp2
        go_ret2
        rw [HF.out]
        exact ⟨none, 0, rfl, World.ownsRow_nil _ _ _ _, hbel.out⟩
end Go.Proofs.YtiebdhbioccogaaGreatDoor

namespace Go.Proofs.YtiebdhbioccogaaGreatDoor
open Go.RowKit
set_option linter.unusedVariables false
set_option linter.unusedSimpArgs false
set_option maxRecDepth 100000

theorem fewUp_mono {l : List D} {w : Nat} {m : List D} : ∀ {k j : Nat}, fewUp l w k = some m → k ≤ j → fewUp l w j = some m
  | k, 0, h, hj => by
    have : k = 0 := by omega
    subst this
    exact h
  | k, j + 1, h, hj => by
    by_cases hk : k = j + 1
    · subst hk; exact h
    · have := fewUp_mono (j := j) h (by omega)
      unfold fewUp; rw [this]
theorem fewUp_hit {l m : List D} {k : Nat} (h : fewUp l (mMask l) (k + 1) = some m) (hk : k ≤ l.length) : m = mShortL l := by
  have := fewUp_mono h (show k + 1 ≤ l.length + 1 by omega)
  rw [fewUp_all] at this
  exact (Option.some.inj this).symm
set_option maxHeartbeats 8000000 in
theorem short_any (ds : List D) (a : Nat) (A : Option Addr) (n c : Nat) (w : World) (hr : SD w w.heap.size A n c ds) (hin : ∀ d ∈ ds, inR d) (hn : n ≤ 1000) (ha : a < 4096) :
    Calls Tryz.prog 74 #[.slice A n c, .int .i64 a] w (DefsP (mShortL (mFit ds a)) w) := by
  have HR := Lib.hid hr
  have HIN2 : Hid (∀ d ∈ mFit ds a, inR d) := Lib.hid fun d hd => hin d (mFit_mem hd)
  have HOK2 : Hid (∀ d ∈ mFit ds a, d.ok) := Lib.hid fun d hd => hr.ok d (mFit_mem hd)
  have hll : (mFit ds a).length ≤ 1000 := by have := mFit_len ds a; have := hr.len; omega
  have HFI := Lib.hid (fitting_any ds a A n c w hr hin (by omega) ha)
  unfold DefsP at HFI
  clear hr
  generalize mFit ds a = l at *
  obtain ⟨m, hm⟩ : ∃ m, mMask l = m := ⟨_, rfl⟩
  have HM := Lib.hid hm
  have hm4 : m < 4096 := by rw [← hm]; exact mMask_lt12 HIN2.out
  have HUP : Hid (∀ k m2, fewUp l m (k + 1) = some m2 → k ≤ l.length → m2 = mShortL l) := Lib.hid (by rw [← hm]; exact fun k m2 h hk => fewUp_hit h hk)
  have HALL : Hid (fewUp l m (l.length + 1) ≠ none) := Lib.hid (by rw [← hm, fewUp_all]; simp)
  clear hm hin
  go_enter Tryz.func74, Tryz.ntmps74
  go_wp2_with fail
  refine HFI.out.mono ?_
  rintro e w1 ⟨A1, c1, rfl, ho, hb⟩
  have HS1 := Lib.hid (sd_of_own ho HOK2.out)
  have HB1 := Lib.hid hb
  clear ho hb HFI
  go_wp2_with fail
  refine (mask_any l _ _ _ _ HS1.out HIN2.out HM.out).mono ?_
  rintro e w2 ⟨rfl, rfl⟩
  go_wp2_with fail
  go_loopw [7] (fun i wr => ∃ k : Nat, k ≤ l.length + 1 ∧ i = .int .i64 k ∧ Hid (fewUp l m k = none) ∧ Hid (Below w.heap.size w wr) ∧ Hid (SD wr wr.heap.size A1 l.length c1 l)) (fun i _ => l.length + 1 - (intOf i).toNat)
  case atStart => exact ⟨0, Nat.zero_le _, rfl, Lib.hid rfl, HB1, HS1⟩
  case round =>
    clear HB1 HS1
    obtain ⟨k, hk, rfl, hup, hbel, hS⟩ := hrel
    by_cases hlt : k ≤ l.length
    · have hi1 : (k : Int) ≤ (l.length : Int) := by omega
      go_wp2_with fail
      refine (fewest_any k l 0 m _ _ _ _ hS.out HIN2.out (by omega) (Nat.zero_le _) hm4 (by omega)).mono ?_
      rintro e w3 ⟨A3, c3, rfl, ho, hb⟩
      have HB3 : Hid (Below w.heap.size w w3) := Lib.hid (hbel.out.trans (hb.mono hbel.out.size))
      have HS3 := Lib.hid ((hS.out.below hb).call hb.size)
      rw [List.drop_zero] at ho ⊢
      obtain ⟨f, hf⟩ : ∃ f, few l k m = f := ⟨_, rfl⟩
      have hst : fewUp l m (k + 1) = f := by unfold fewUp; rw [hup.out]; exact hf
      rw [hf] at ho ⊢
      cases f with
      | none =>
        have HST := Lib.hid hst
        clear ho hb hst hf
        go_wp2
        go_roundw
        case rel => exact ⟨k + 1, by omega, by go_num, HST, HB3, HS3⟩
        case measure => simp [intOf]; omega
      | some m2 =>
        have HE := Lib.hid (HUP.out k m2 hst hlt)
        simp only [Option.getD_some, Option.isSome_some] at ho ⊢
        have HO := Lib.hid (own_base ho hbel.out.size)
        clear ho hb hst hf
        go_wp2
        go_ret
        rw [← HE.out]
        exact ⟨A3, c3, rfl, HO.out, HB3.out⟩
    · obtain rfl : k = l.length + 1 := by omega
      exact absurd hup.out HALL.out
end Go.Proofs.YtiebdhbioccogaaGreatDoor

