import Derived.Laws.EntriesVeiled
import Derived.Test.YtboehlffbibgmaaDoorFewI
import Derived.Test.YtboehlffbibgmaaDoorFewT
namespace Go.Proofs.YtboehlffbibgmaaDoor
open Go.RowKit
set_option linter.unusedVariables false
set_option linter.unusedSimpArgs false
set_option maxRecDepth 100000

theorem Ch1.below {w w' : World} {n0 B1 B2 B3 c : Nat} {A : Option Addr} {l pre : List D} {v : Value} (h : Ch1 w n0 B1 B2 B3 A c l pre v) (hb : Below w.heap.size w w') : Ch1 w' n0 B1 B2 B3 A c l pre v :=
  ⟨(hb.block B2 h.bx.lt).trans h.bx, own_below h.own hb, (hb.block B3 (Array.getElem?_eq_some_iff.1 h.fn).1).trans h.fn, keep1 hb h.lst, h.sd.below (hb.mono (by have := h.bx.lt; have := h.n2; omega)), h.n1, h.n2, h.n3, h.ne⟩
/-- Definitions in a slice, wherever it lies. -/
def SdP (ms : List D) (w : World) (e : Ending) (w' : World) : Prop :=
  ∃ A c, e = .returned (.slice A ms.length c) ∧ SD w' w'.heap.size A ms.length c ms ∧ Below w.heap.size w w'
set_option maxHeartbeats 16000000 in
theorem implFewest_any (l : List D) (A : Option Addr) (n c : Nat) (w : World) (hr : SD w w.heap.size A n c l) (hin : ∀ d ∈ l, inR d) (hn : n ≤ 1000) :
    Calls Tryd.prog 87 #[.slice A n c] w (SdP (mShortL l) w) := by
  obtain rfl := hr.len
  have hl := hn
  have HIN := Lib.hid hin
  have HOK := Lib.hid hr.ok
  have HS40 : Hid (Small40 l) := Lib.hid fun d hd => by have := hin d hd; unfold inR at this; omega
  obtain ⟨m, hm⟩ : ∃ m, mMask l = m := ⟨_, rfl⟩
  have HM := Lib.hid hm
  have hm4 : m < 4096 := by rw [← hm]; exact mMask_lt12 hin
  have HUP : Hid (∀ k m2, fewUp l m (k + 1) = some m2 → k ≤ l.length → m2 = mShortL l) := Lib.hid (by rw [← hm]; exact fun k m2 h hk => fewUp_hit h hk)
  have HALL : Hid (fewUp l m l.length = none → mShortL l = l) := Lib.hid (by rw [← hm]; intro h; unfold mShortL; rw [h]; rfl)
  clear hm
  obtain ⟨W, hW⟩ : ∃ W : World, W = (((w.alloc (.cells #[.slice A l.length c] 56)).alloc (.cells #[.slice none 0 0] 56)).alloc (.cells #[(.func (.func 109) #[] #[.pointer (some ⟨w.heap.size, 0, none⟩), .pointer (some ⟨w.heap.size + 1, 0, none⟩), .pointer (some ⟨w.heap.size + 1 + 1, 0, none⟩)])] 139)) := ⟨_, rfl⟩
  have b3 := (Boxed.new ((w.alloc (.cells #[.slice A l.length c] 56)).alloc (.cells #[.slice none 0 0] 56)) 139 (.func (.func 109) #[] #[.pointer (some ⟨w.heap.size, 0, none⟩), .pointer (some ⟨w.heap.size + 1, 0, none⟩), .pointer (some ⟨w.heap.size + 1 + 1, 0, none⟩)]))
  have b2 := (Boxed.new (w.alloc (.cells #[.slice A l.length c] 56)) 56 (.slice none 0 0)).alloc (.cells #[(.func (.func 109) #[] #[.pointer (some ⟨w.heap.size, 0, none⟩), .pointer (some ⟨w.heap.size + 1, 0, none⟩), .pointer (some ⟨w.heap.size + 1 + 1, 0, none⟩)])] 139)
  simp only [World.size_alloc] at b2 b3
  have hbl : Below w.heap.size w (((w.alloc (.cells #[.slice A l.length c] 56)).alloc (.cells #[.slice none 0 0] 56)).alloc (.cells #[(.func (.func 109) #[] #[.pointer (some ⟨w.heap.size, 0, none⟩), .pointer (some ⟨w.heap.size + 1, 0, none⟩), .pointer (some ⟨w.heap.size + 1 + 1, 0, none⟩)])] 139)) := (((Below.refl _ _).alloc (Nat.le_refl _) _).alloc (by simp) _).alloc (by simp; omega) _
  have hbW : Below w.heap.size w W := by rw [hW]; exact hbl
  have HC : Hid (Ch1 W (w.heap.size + 1) w.heap.size (w.heap.size + 1) (w.heap.size + 1 + 1) A c l [] (.slice none 0 0)) := Lib.hid ⟨by rw [hW]; exact b2, World.ownsRow_nil _ _ _ _, by rw [hW]; exact b3, by rw [hW]; simp [go_sem], (hr.below hbW).more (by omega), by omega, by omega, by omega, by omega⟩
  have HBW := Lib.hid hbW
  have hcl : (World.cell? ((((w.alloc (.cells #[.slice A l.length c] 56)).alloc (.cells #[.slice none 0 0] 56)).alloc (.cells #[(.func (.func 109) #[] #[.pointer (some ⟨w.heap.size, 0, none⟩), .pointer (some ⟨w.heap.size + 1, 0, none⟩), .pointer (some ⟨w.heap.size + 1 + 1, 0, none⟩)])] 139))) ⟨w.heap.size, 0, none⟩) = some (.slice A l.length c) := by simp [go_sem]
  have HW := Lib.hid hW.symm
  clear hr hin hW b2 b3 hbl hbW hn
  go_enter Tryd.func87, Tryd.ntmps87
  go_wp2_with fail
  rw [HW.out]
  clear HW hcl
  go_loopw [9] (fun i wr => ∃ (k : Nat) (v : Value), k ≤ l.length ∧ i = .int .i64 k ∧ Hid (fewUp l m k = none) ∧ Hid (Ch1 wr (w.heap.size + 1) w.heap.size (w.heap.size + 1) (w.heap.size + 1 + 1) A c l [] v) ∧ Hid (Below w.heap.size w wr)) (fun i _ => l.length - (intOf i).toNat)
  case atStart => exact ⟨0, _, Nat.zero_le _, rfl, Lib.hid rfl, HC, HBW⟩
  case round =>
    clear HC HBW
    obtain ⟨k, v, hk, rfl, hup, H, hbel⟩ := hrel
    have hz : w.heap.size + 1 ≤ wr.heap.size := by have := H.out.bx.lt; omega
    by_cases hlt : k < l.length
    · have hi1 : (k : Int) < (l.length : Int) := by omega
      go_wp2_with fail
      refine wp_region_held_drew (S := fun w' => w'.cell? ⟨w.heap.size + 1 + 1, 0, none⟩ = some (.func (.func 109) #[] #[.pointer (some ⟨w.heap.size, 0, none⟩), .pointer (some ⟨w.heap.size + 1, 0, none⟩), .pointer (some ⟨w.heap.size + 1 + 1, 0, none⟩)]) ∧ w'.cell? ⟨w.heap.size, 0, none⟩ = some (.slice A l.length c)) (by kernel_rfl) ⟨H.out.fn.cell, H.out.lst⟩ (fun hHeld => ?_)
      refine wpAnyH_take (i := 0) (v := ?_) rfl (by kernel_rfl) (by kernel_rfl) (by kernel_rfl) (fun _ _ _ h => h) (Or.inl ⟨by kernel_rfl, ?_⟩) hHeld ?_
      rotate_left
      · intro wz hSw
        try dsimp only at hSw
        first
        | (go_simp; done)
        | (go_simp; with_reducible rfl)
      try simp only [Act.put, List.setIfInBounds_toArray, List.set_cons_zero, List.set_cons_succ]
      refine wpAnyH_take (i := 1) (v := ?_) rfl (by kernel_rfl) (by kernel_rfl) (by kernel_rfl) (fun _ _ _ h => h) (Or.inl ⟨by kernel_rfl, ?_⟩) hHeld ?_
      rotate_left
      · intro wz hSw
        try dsimp only at hSw
        first
        | (go_simp; done)
        | (go_simp; with_reducible rfl)
      try simp only [Act.put, List.setIfInBounds_toArray, List.set_cons_zero, List.set_cons_succ]
      refine wpAnyH_take (i := 2) (v := ?_) rfl (by kernel_rfl) (by kernel_rfl) (by kernel_rfl) (fun _ _ _ h => h) (Or.inl ⟨by kernel_rfl, ?_⟩) hHeld ?_
      rotate_left
      · intro wz hSw
        try dsimp only at hSw
        first
        | (go_simp; done)
        | (go_simp; with_reducible rfl)
      try simp only [Act.put, List.setIfInBounds_toArray, List.set_cons_zero, List.set_cons_succ]
      refine wpAnyH_ready (rs := [3]) (by kernel_rfl) (by simp) ?_
      refine AllReadyH.cons rfl (fun K hK => ?_) AllReadyH.nil
      go_simp
      refine (implMask_v l _ _ _ _ ((H.out.sd.drew.call hz)) HS40.out HM.out).mono ?_
      rintro e w2 ⟨rfl, hb⟩
      have H2 := Lib.hid (H.out.drew.below hb)
      have hb2 : Below wr.heap.size wr w2 := ((Below.refl wr.heap.size wr).drew).trans hb
      clear hb
      go_simp
      refine hK.out _ _ ⟨H2.out.fn.cell, H2.out.lst⟩ (fun hHeld => ?_)
      clear hK K
      try simp only [Act.put, List.setIfInBounds_toArray, List.set_cons_zero, List.set_cons_succ]
      refine wpAnyH_ready (rs := [4]) (by kernel_rfl) (by simp) ?_
      refine AllReadyH.cons rfl (fun K hK => ?_) AllReadyH.nil
      go_simp
      refine (choose_any (w.heap.size + 1) w.heap.size (w.heap.size + 1) (w.heap.size + 1 + 1) A c l HIN.out hl k 0 m [] v w2 H2.out (Nat.zero_le _) hm4 (by omega) (by simp; omega)).mono ?_
      rintro e w6 ⟨v6, rfl, h6, hb6⟩
      have H6 := Lib.hid h6
      have HB6 : Hid (Below w.heap.size w w6) := Lib.hid ((hbel.out.trans (hb2.mono hbel.out.size)).trans (hb6.mono (by omega)))
      clear h6 hb6 hb2
      go_simp
      refine hK.out _ _ ⟨H6.out.fn.cell, H6.out.lst⟩ (fun hHeld => ?_)
      clear hK K
      try simp only [Act.put, List.setIfInBounds_toArray, List.set_cons_zero, List.set_cons_succ]
      refine wpAnyH_done (by kernel_rfl) ?_ _
      try go_simp
      rw [List.drop_zero] at H6
      try rw [List.drop_zero]
      obtain ⟨f, hf⟩ : ∃ f, few l k m = f := ⟨_, rfl⟩
      have hst : fewUp l m (k + 1) = f := by unfold fewUp; rw [hup.out]; exact hf
      rw [hf] at H6 ⊢
      cases f with
      | none =>
        have HST := Lib.hid hst
        simp only [Option.isSome_none, Option.getD_none, List.append_nil] at H6 ⊢
        clear hst hf
        go_wp2
        go_roundw
        case rel => exact ⟨k + 1, v6, by omega, by go_num, HST, H6, HB6⟩
        case measure => simp [intOf]; omega
      | some m2 =>
        have HE := Lib.hid (HUP.out k m2 hst hk)
        simp only [Option.isSome_some, Option.getD_some, List.nil_append] at H6 ⊢
        have HO2 : Hid (∀ d ∈ m2, d.ok) := Lib.hid fun d hd => HOK.out d ((few_len hf).2 d hd)
        clear hst hf
        obtain ⟨A6, c6, hv6⟩ := own_form H6.out.own
        subst hv6
        have cS := H6.out.bx.cell
        go_wp2
        go_ret
        rw [← HE.out]
        exact ⟨A6, c6, rfl, sd_of_own H6.out.own HO2.out, HB6.out⟩
    · obtain rfl : k = l.length := by omega
      have hi9 : ¬ (l.length : Int) < (l.length : Int) := by omega
      have cl := H.out.lst
      go_wp2
      go_ret
      rw [HALL.out hup.out]
      exact ⟨A, c, rfl, H.out.sd.call hz, hbel.out⟩
end Go.Proofs.YtboehlffbibgmaaDoor
