import Derived.Test.YtboehlffbibgmaaDoorShwL
import Derived.Test.YtboehlffbibgmaaDoorShwP
import Derived.Test.YtboehlffbibgmaaDoorBaseB
namespace Go.Proofs.YtboehlffbibgmaaDoor
open Go.RowKit
set_option linter.unusedVariables false
set_option linter.unusedSimpArgs false
set_option maxRecDepth 100000

/-! ### the program's ShowEnum -/
set_option maxHeartbeats 4000000 in
theorem implShowE_no (ds : List D) (x : Int) (A : Option Addr) (n c : Nat) (w : World) (hr : SD w w.heap.size A n c ds) (hno : vEnum ds = false ∨ x < -1000 ∨ 1000 < x) :
    Calls Tryd.prog 20 #[.agg #[.slice A n c], .int .i64 x] w fun e w' => e = .returned (.string ⟨#[]⟩) ∧ Below w.heap.size w w' := by
  have HR := Lib.hid hr
  clear hr
  have h0 : Below w.heap.size w (w.alloc (.cells #[.slice A n c] 41)) := (Below.refl _ _).alloc (Nat.le_refl _) _
  have H0 := Lib.hid h0
  have HS := Lib.hid ((HR.out.below h0).call h0.size)
  clear h0
  obtain ⟨v, hv⟩ : ∃ v, vEnum ds = v := ⟨_, rfl⟩
  have HV := Lib.hid hv
  have hvr : v = false ∨ (v = true ∧ x < -1000) ∨ (v = true ∧ ¬ x < -1000 ∧ 1000 < x) := by
    cases v
    · exact .inl rfl
    · rcases hno with h | h | h
      · rw [hv] at h; cases h
      · exact .inr (.inl ⟨rfl, h⟩)
      · exact .inr (.inr ⟨rfl, by omega, h⟩)
  clear hv hno
  rcases hvr with rfl | ⟨rfl, hlo⟩ | ⟨rfl, hlo, hhi⟩
  all_goals
    go_enter Tryd.func20, Tryd.ntmps20
    go_wp2_with (go_at_call 50; refine (implVE_v ds _ _ _ _ HS.out HV.out).mono ?_; rintro e w' ⟨rfl, hb⟩)
    go_ret
    exact ⟨rfl, H0.out.trans (hb.mono H0.out.size)⟩
set_option maxHeartbeats 4000000 in
theorem implShowE_yes (ds : List D) (x : Int) (A : Option Addr) (n c : Nat) (w : World) (hr : SD w w.heap.size A n c ds) (hv : vEnum ds = true) (h1 : -1000 ≤ x) (h2 : x ≤ 1000) (hT : P10 w) (hG : p10G < w.heap.size) :
    Calls Tryd.prog 20 #[.agg #[.slice A n c], .int .i64 x] w fun e w' => e = .returned (.string (mShowE ds x)) ∧ Below w.heap.size w w' := by
  obtain rfl := hr.len
  have hl := hr.max
  have hl2 := hr.cap
  unfold maxLen at hl
  have HR := Lib.hid hr
  have HT := Lib.hid hT
  clear hr hT
  obtain ⟨w0, hw⟩ : ∃ W : World, W = w.alloc (.cells #[.slice A ds.length c] 41) := ⟨_, rfl⟩
  have hb0 : Below w.heap.size w w0 := by rw [hw]; exact (Below.refl _ _).alloc (Nat.le_refl _) _
  have c0 : w0.cell? ⟨w.heap.size, 0, none⟩ = some (.slice A ds.length c) := by rw [hw]; simp [go_sem]
  have lf0 : (w.alloc (.cells #[.slice A ds.length c] 41)).cell? ⟨w.heap.size, 0, none⟩ = some (.slice A ds.length c) := by rw [← hw]; exact c0
  have HB0 := Lib.hid hb0
  have HW := Lib.hid hw.symm
  have HV := Lib.hid hv
  have hlo : ¬ x < -1000 := by omega
  have hhi : ¬ 1000 < x := by omega
  clear hb0 hw
  go_enter Tryd.func20, Tryd.ntmps20
  go_wp2_with fail
  rw [HW.out]
  clear HW lf0
  refine (implVE_v ds _ _ _ _ ((HR.out.below HB0.out).call HB0.out.size) HV.out).mono ?_
  rintro e w1 ⟨rfl, hb⟩
  have c1 := keep1 hb c0
  have HB1 : Hid (Below w.heap.size w w1) := Lib.hid (HB0.out.trans (hb.mono HB0.out.size))
  clear hb c0 HB0
  go_wp2_with fail
  rcases fidx_cases (isVal x) ds with ⟨hx, hno⟩ | ⟨k, hk, hx, hp, hno⟩
  · refine (implNameOf_no ds x _ _ _ _ ((HR.out.below HB1.out).call HB1.out.size) ⟨by omega, by omega⟩ HV.out hx (.inr (by omega))).mono ?_
    rintro e w2 ⟨rfl, hb⟩
    have HB2 : Hid (Below w.heap.size w w2) := Lib.hid (HB1.out.trans (hb.mono HB1.out.size))
    have HM := Lib.hid (showE_num hv h1 h2 (by omega))
    clear hb hx hno hv c1
    go_wp2_with fail
    refine (itoa_v x (by omega) (by omega) _ (HT.out.below HB2.out hG)).mono ?_
    rintro e w3 ⟨rfl, hb⟩
    have HB3 : Hid (Below w.heap.size w w3) := Lib.hid (HB2.out.trans (hb.mono HB2.out.size))
    clear hb
    go_wp2
    go_ret
    rw [HM.out]
    exact ⟨rfl, HB3.out⟩
  · refine (implNameOf_yes ds x _ _ _ _ ((HR.out.below HB1.out).call HB1.out.size) HV.out k hk hx).mono ?_
    rintro e w2 ⟨rfl, hb⟩
    have HB2 : Hid (Below w.heap.size w w2) := Lib.hid (HB1.out.trans (hb.mono HB1.out.size))
    have HM := Lib.hid (showE_name hv h1 h2 hk hx)
    clear hb hx hno hv c1 hp
    go_wp2
    go_ret
    rw [HM.out]
    exact ⟨rfl, HB2.out⟩
theorem implShowE_v (ds : List D) (x : Int) (A : Option Addr) (n c : Nat) (w : World) (hr : SD w w.heap.size A n c ds) (hT : P10 w) (hG : p10G < w.heap.size) {s : ByteArray} (hs : mShowE ds x = s) :
    Calls Tryd.prog 20 #[.agg #[.slice A n c], .int .i64 x] w fun e w' => e = .returned (.string s) ∧ Below w.heap.size w w' := by
  subst hs
  by_cases h : vEnum ds = true ∧ -1000 ≤ x ∧ x ≤ 1000
  · exact implShowE_yes ds x A n c w hr h.1 h.2.1 h.2.2 hT hG
  · have hno : vEnum ds = false ∨ x < -1000 ∨ 1000 < x := by
      cases hv : vEnum ds
      · exact .inl rfl
      · rw [hv] at h; right
        by_cases h1 : x < -1000
        · exact .inl h1
        · right
          by_cases h2 : 1000 < x
          · exact h2
          · exact absurd ⟨rfl, by omega, by omega⟩ h
    rw [showE_no hno]
    exact implShowE_no ds x A n c w hr hno
end Go.Proofs.YtboehlffbibgmaaDoor
