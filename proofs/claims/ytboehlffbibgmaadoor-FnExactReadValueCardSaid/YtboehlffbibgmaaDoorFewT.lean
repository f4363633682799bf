import Derived.Test.YtboehlffbibgmaaDoorFewS
namespace Go.Proofs.YtboehlffbibgmaaDoor
open Go.RowKit
set_option linter.unusedVariables false
set_option linter.unusedSimpArgs false
set_option maxRecDepth 100000

theorem fewUp_mono {l : List D} {w : Nat} {m : List D} : ∀ {k j : Nat}, fewUp l w k = some m → k ≤ j → fewUp l w j = some m
  | k, 0, h, hj => by
    have : k = 0 := by omega
    subst this
    exact h
  | k, j + 1, h, hj => by
    by_cases hk : k = j + 1
    · subst hk; exact h
    · have := fewUp_mono (j := j) h (by omega)
      unfold fewUp; rw [this]
theorem fewUp_hit {l m : List D} {k : Nat} (h : fewUp l (mMask l) (k + 1) = some m) (hk : k ≤ l.length) : m = mShortL l := by
  have := fewUp_mono h (show k + 1 ≤ l.length + 1 by omega)
  rw [fewUp_all] at this
  exact (Option.some.inj this).symm
set_option maxHeartbeats 8000000 in
theorem short_any (ds : List D) (a : Nat) (A : Option Addr) (n c : Nat) (w : World) (hr : SD w w.heap.size A n c ds) (hin : ∀ d ∈ ds, inR d) (hn : n ≤ 1000) (ha : a < 4096) :
    Calls Tryd.prog 40 #[.slice A n c, .int .i64 a] w (DefsP (mShortL (mFit ds a)) w) := by
  have HR := Lib.hid hr
  have HIN2 : Hid (∀ d ∈ mFit ds a, inR d) := Lib.hid fun d hd => hin d (mFit_mem hd)
  have HOK2 : Hid (∀ d ∈ mFit ds a, d.ok) := Lib.hid fun d hd => hr.ok d (mFit_mem hd)
  have hll : (mFit ds a).length ≤ 1000 := by have := mFit_len ds a; have := hr.len; omega
  have HFI := Lib.hid (fitting_any ds a A n c w hr hin (by omega) ha)
  unfold DefsP at HFI
  clear hr
  generalize mFit ds a = l at *
  obtain ⟨m, hm⟩ : ∃ m, mMask l = m := ⟨_, rfl⟩
  have HM := Lib.hid hm
  have hm4 : m < 4096 := by rw [← hm]; exact mMask_lt12 HIN2.out
  have HUP : Hid (∀ k m2, fewUp l m (k + 1) = some m2 → k ≤ l.length → m2 = mShortL l) := Lib.hid (by rw [← hm]; exact fun k m2 h hk => fewUp_hit h hk)
  have HALL : Hid (fewUp l m (l.length + 1) ≠ none) := Lib.hid (by rw [← hm, fewUp_all]; simp)
  clear hm hin
  go_enter Tryd.func40, Tryd.ntmps40
  go_wp2_with fail
  refine HFI.out.mono ?_
  rintro e w1 ⟨A1, c1, rfl, ho, hb⟩
  have HS1 := Lib.hid (sd_of_own ho HOK2.out)
  have HB1 := Lib.hid hb
  clear ho hb HFI
  go_wp2_with fail
  refine (mask_any l _ _ _ _ HS1.out HIN2.out HM.out).mono ?_
  rintro e w2 ⟨rfl, rfl⟩
  go_wp2_with fail
  go_loopw [7] (fun i wr => ∃ k : Nat, k ≤ l.length + 1 ∧ i = .int .i64 k ∧ Hid (fewUp l m k = none) ∧ Hid (Below w.heap.size w wr) ∧ Hid (SD wr wr.heap.size A1 l.length c1 l)) (fun i _ => l.length + 1 - (intOf i).toNat)
  case atStart => exact ⟨0, Nat.zero_le _, rfl, Lib.hid rfl, HB1, HS1⟩
  case round =>
    clear HB1 HS1
    obtain ⟨k, hk, rfl, hup, hbel, hS⟩ := hrel
    by_cases hlt : k ≤ l.length
    · have hi1 : (k : Int) ≤ (l.length : Int) := by omega
      go_wp2_with fail
      refine (fewest_any k l 0 m _ _ _ _ hS.out HIN2.out (by omega) (Nat.zero_le _) hm4 (by omega)).mono ?_
      rintro e w3 ⟨A3, c3, rfl, ho, hb⟩
      have HB3 : Hid (Below w.heap.size w w3) := Lib.hid (hbel.out.trans (hb.mono hbel.out.size))
      have HS3 := Lib.hid ((hS.out.below hb).call hb.size)
      rw [List.drop_zero] at ho ⊢
      obtain ⟨f, hf⟩ : ∃ f, few l k m = f := ⟨_, rfl⟩
      have hst : fewUp l m (k + 1) = f := by unfold fewUp; rw [hup.out]; exact hf
      rw [hf] at ho ⊢
      cases f with
      | none =>
        have HST := Lib.hid hst
        clear ho hb hst hf
        go_wp2
        go_roundw
        case rel => exact ⟨k + 1, by omega, by go_num, HST, HB3, HS3⟩
        case measure => simp [intOf]; omega
      | some m2 =>
        have HE := Lib.hid (HUP.out k m2 hst hlt)
        simp only [Option.getD_some, Option.isSome_some] at ho ⊢
        have HO := Lib.hid (own_base ho hbel.out.size)
        clear ho hb hst hf
        go_wp2
        go_ret
        rw [← HE.out]
        exact ⟨A3, c3, rfl, HO.out, HB3.out⟩
    · obtain rfl : k = l.length + 1 := by omega
      exact absurd hup.out HALL.out
end Go.Proofs.YtboehlffbibgmaaDoor
