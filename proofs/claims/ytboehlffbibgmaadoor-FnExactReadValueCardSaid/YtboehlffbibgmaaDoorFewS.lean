import Derived.Test.YtboehlffbibgmaaDoorFewP
import Derived.Test.YtboehlffbibgmaaDoorFitS
import Derived.Test.YtboehlffbibgmaaDoorBaseC
namespace Go.Proofs.YtboehlffbibgmaaDoor
open Go.RowKit
set_option linter.unusedVariables false
set_option linter.unusedSimpArgs false
set_option maxRecDepth 100000

/-- Definitions in new memory, or none. -/
def FewR (o : Option (List D)) (w : World) (e : Ending) (w' : World) : Prop :=
  ∃ A c, e = .returned (.tuple #[.slice A (o.getD []).length c, .bool o.isSome]) ∧ w'.ownsRow w.heap.size 83 2 (.slice A (o.getD []).length c) (o.getD []).length (flat (o.getD [])) ∧ Below w.heap.size w w'

set_option maxHeartbeats 8000000 in
theorem fewest_any (n : Nat) : ∀ (ds : List D) (k a : Nat) (A : Option Addr) (q c : Nat) (w : World) (hr : SD w w.heap.size A q c ds) (hin : ∀ d ∈ ds, inR d) (hq : q ≤ 1000) (hk : k ≤ ds.length) (ha : a < 4096) (hn : n ≤ 1000),
    Calls Tryd.prog 81 #[.slice A q c, .int .i64 k, .int .i64 n, .int .i64 a] w (FewR (few (ds.drop k) n a) w) := by
  induction n with
  | zero =>
    intro ds k a A q c w hr hin hq hk ha hn
    rw [few_zero]
    have HM := Lib.hid (World.ownsRow_made (e := 83) (size := 2) w #[] 0 (Nat.le_refl _) (by unfold maxLen; omega) rfl)
    clear hr hin
    go_enter Tryd.func81, Tryd.ntmps81
    by_cases h0 : a = 0
    · subst h0
      go_wp2
      go_ret2
      exact ⟨some ⟨w.heap.size, 0, none⟩, 0, rfl, HM.out, (Below.refl _ _).alloc (Nat.le_refl _) _⟩
    · have e0 : ((a : Int) == 0) = false := by rw [beq_eq_false_iff_ne]; omega
      rw [if_neg h0]
      clear h0
      go_wp2
      go_ret2
      exact ⟨some ⟨w.heap.size, 0, none⟩, 0, rfl, HM.out, (Below.refl _ _).alloc (Nat.le_refl _) _⟩
  | succ n ih =>
    intro ds k a A q c w hr hin hq hk ha hn
    obtain rfl := hr.len
    have hl := hr.max
    have hl2 := hr.cap
    unfold maxLen at hl
    have HR := Lib.hid hr
    have HIN := Lib.hid hin
    clear hr hin
    have hn0 : (((n + 1 : Nat) : Int) == 0) = false := by rw [beq_eq_false_iff_ne]; omega
    have hnw : IntKind.i64.wrap (((n + 1 : Nat) : Int) - 1) = (n : Int) := by rw [IntKind.wrap_i64]; omega
    obtain ⟨N1, hN1⟩ : ∃ N1 : Int, ((n + 1 : Nat) : Int) = N1 := ⟨_, rfl⟩
    rw [hN1] at hn0 hnw ⊢
    go_enter Tryd.func81, Tryd.ntmps81
    go_wp2
    go_loopw [10] (fun i wr => ∃ j : Nat, j ≤ ds.length ∧ i = .int .i64 j ∧ Hid (few (ds.drop j) (n + 1) a = few (ds.drop k) (n + 1) a) ∧ Hid (Below w.heap.size w wr)) (fun i _ => ds.length - (intOf i).toNat)
    case atStart => exact ⟨k, hk, rfl, Lib.hid rfl, Lib.hid (Below.refl _ _)⟩
    case round =>
      obtain ⟨j, hj, rfl, hfew, hbel⟩ := hrel
      by_cases hlt : j < ds.length
      · have HS := Lib.hid ((HR.out.below hbel.out).call hbel.out.size)
        obtain ⟨b, o, hA, hb, c1, c2⟩ := HS.out.at_ hlt
        have hi1 : (j : Int) < (ds.length : Int) := by omega
        have hi0 : (0 : Int) ≤ (j : Int) := by omega
        have hw1 : IntKind.i64.wrap ((j : Int) + 1) = ((j + 1 : Nat) : Int) := by rw [IntKind.wrap_i64]; omega
        have HI := Lib.hid (HIN.out _ (List.getElem_mem hlt))
        obtain ⟨x, hx⟩ : ∃ x : Nat, ds[j].val = x := ⟨ds[j].val.toNat, (Int.toNat_of_nonneg HI.out.1).symm⟩
        have hx4 : x < 4096 := by have := HI.out.2; omega
        obtain ⟨z, hz⟩ : ∃ z, nl a x = z := ⟨_, rfl⟩
        have hz4 : z < 4096 := by rw [← hz]; exact nl_lt ha
        have HZ := Lib.hid hz
        have HT := few_at hlt n a
        rw [hx, Int.toNat_natCast, hz] at HT
        rw [hx] at c2
        subst hA
        go_wp2_with (go_at_call 43; refine (less_any a x _ ha hx4 HZ.out).mono ?_; rintro e w' ⟨rfl, rfl⟩)
        refine (ih ds (j + 1) z _ _ _ _ HS.out HIN.out hq (by omega) hz4 (by omega)).mono ?_
        rintro e w2 ⟨A2, k2, rfl, ho, hb2⟩
        have HB2 : Hid (Below w.heap.size w w2) := Lib.hid (hbel.out.trans (hb2.mono hbel.out.size))
        have x1 := keep1 hb2 c1
        have x2 := keep1 hb2 c2
        obtain ⟨f, hf⟩ : ∃ f, few (ds.drop (j + 1)) n z = f := ⟨_, rfl⟩
        rw [hf] at HT ho ⊢
        cases f with
        | none =>
          have HF : Hid (few (ds.drop (j + 1)) (n + 1) a = few (ds.drop k) (n + 1) a) := Lib.hid (HT.symm.trans hfew.out)
          clear ho hb2 HT hf
          go_wp2
          go_roundw
          case rel => exact ⟨j + 1, by omega, by go_num, HF, HB2⟩
          case measure => simp [intOf]; omega
        | some m =>
          have HF : Hid (few (ds.drop k) (n + 1) a = some (ds[j] :: m)) := Lib.hid (hfew.out.symm.trans HT)
          have hml : m.length ≤ 1000 := by have := (few_len hf).1; omega
          have HE : Hid (encD ds[j] = [.string ds[j].name, .int .i64 x]) := Lib.hid (by unfold encD; rw [hx])
          simp only [Option.getD_some, Option.isSome_some] at ho ⊢
          have HOKm : Hid (∀ d ∈ m, d.ok) := Lib.hid (fun d hd => HS.out.ok d (List.mem_of_mem_drop ((few_len hf).2 d hd)))
          have HSM := Lib.hid (sd_of_own ho HOKm.out)
          have HMk := Lib.hid (World.ownsRow_lit (e := 83) (size := 2) (base := w.heap.size) w2 #[.string ds[j].name, .int .i64 x] 1 HB2.out.size (by unfold maxLen; omega) rfl)
          have hbA : Below w2.heap.size w2 (w2.alloc (.cells #[.string ds[j].name, .int .i64 x] 83)) := (Below.refl _ _).alloc (Nat.le_refl _) _
          have HSM2 := Lib.hid (HSM.out.below hbA)
          obtain ⟨i0, hi, hz0, hz1, hz2⟩ := info_parts info_D
          have HI0 := Lib.hid (And.intro hi (And.intro hz0 (And.intro hz1 hz2)))
          clear hi hz0 hz1 hz2 ho hb2 HT hf
          go_wp2_with (at_builtin; refine wpList_app_src rfl _ _ _ rfl w.heap.size _ i0 _ 2 24 Tryd.underlying27 HI0.out rfl (by omega) (by omega) _ 1 _ rfl HMk.out _ _ _ _ rfl (HSM2.out.sl.src (fun _ => rfl)) (one_D _) (by omega) (by have := HB2.out.size; simp; omega) ?_; intro v' w5 ho5 hb5; obtain ⟨A5, c5, rfl⟩ := own_form ho5; have HO5 := Lib.hid ho5; have HB5 : Hid (Below w.heap.size w w5) := Lib.hid ((HB2.out.trans (hbA.mono HB2.out.size)).grown hb5 (by have := HB2.out.size; simp; omega) (fun q hq => (HMk.out.lt q hq).1)); clear ho5 hb5)
          go_ret2
          rw [HF.out]
          have hl1 : (ds[j] :: m).length = 1 + m.length := by simp; omega
          refine ⟨A5, c5, ?_, ?_, HB5.out⟩
          · show _ = Ending.returned (.tuple #[.slice A5 (ds[j] :: m).length c5, .bool true])
            rw [hl1]; rfl
          · show w5.ownsRow _ _ _ (.slice A5 (ds[j] :: m).length c5) (ds[j] :: m).length (flat (ds[j] :: m))
            rw [hl1]
            have h := HO5.out
            simpa [flat, HE.out] using h
      · obtain rfl : j = ds.length := by omega
        have hi9 : ¬ (ds.length : Int) < (ds.length : Int) := by omega
        have HF : Hid (few (ds.drop k) (n + 1) a = none) := Lib.hid (by rw [← hfew.out, List.drop_of_length_le (Nat.le_refl _)]; exact few_nil _ _)
        clear hfew
        go_wp2
        go_ret2
        rw [HF.out]
        exact ⟨none, 0, rfl, World.ownsRow_nil _ _ _ _, hbel.out⟩
end Go.Proofs.YtboehlffbibgmaaDoor
