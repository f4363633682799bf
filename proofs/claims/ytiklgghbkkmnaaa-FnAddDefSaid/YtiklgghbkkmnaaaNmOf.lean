import Derived.Test.YtiklgghbkkmnaaaMembers
namespace Go.Proofs.Ytiklgghbkkmnaaa
open Go.RowKit Go.Maps
set_option linter.unusedVariables false
set_option maxRecDepth 100000

set_option maxHeartbeats 1000000 in
theorem implNameOf_inv (ds : List D) (s : Int) (A : Option Addr) (c n : Nat) (w : World) (hr : SD w w.heap.size A n c ds) (hv : vEnum ds = false) :
    Calls Try.prog 47 #[.agg #[.slice A n c], .int .i64 s] w fun e w' => e = .returned (.tuple #[.string ⟨#[]⟩, .bool false]) ∧ Below w.heap.size w w' := by
  have HR := Lib.hid hr
  clear hr
  have h0 : Below w.heap.size w (w.alloc (.cells #[.slice A n c] 25)) := (Below.refl _ _).alloc (Nat.le_refl _) _
  have H0 := Lib.hid h0
  have HS := Lib.hid ((HR.out.below h0).call h0.size)
  clear h0
  have HV := Lib.hid hv
  clear hv
  go_enter Try.func47, Try.ntmps47
  go_wp2_with (go_at_call 23; refine (implVE_v ds _ _ _ _ HS.out HV.out).mono ?_; rintro e w' ⟨rfl, hb⟩)
  go_ret2
  exact ⟨rfl, H0.out.trans (hb.mono H0.out.size)⟩

set_option maxHeartbeats 1000000 in
theorem implNameOf_none (ds : List D) (s : Int) (A : Option Addr) (c n : Nat) (w : World) (hr : SD w w.heap.size A n c ds) (hv : vEnum ds = true) (hx : fidx (isVal s) ds < 0) (hs : -9223372036854775808 ≤ s ∧ s ≤ 9223372036854775807) :
    Calls Try.prog 47 #[.agg #[.slice A n c], .int .i64 s] w fun e w' => e = .returned (.tuple #[.string ⟨#[]⟩, .bool false]) ∧ Below w.heap.size w w' := by
  have HR := Lib.hid hr
  clear hr
  have h0 : Below w.heap.size w (w.alloc (.cells #[.slice A n c] 25)) := (Below.refl _ _).alloc (Nat.le_refl _) _
  have H0 := Lib.hid h0
  have HS := Lib.hid ((HR.out.below h0).call h0.size)
  clear h0
  have HV := Lib.hid hv
  have HX := Lib.hid hx
  have HW := Lib.hid hs
  clear hv hx hs
  go_enter Try.func47, Try.ntmps47
  go_wp2_with (first | (go_at_call 23; refine (implVE_v ds _ _ _ _ HS.out HV.out).mono ?_; rintro e w1 ⟨rfl, hb⟩; have c1 := keep1 hb (show (w.alloc (.cells #[.slice A n c] 25)).cell? ⟨w.heap.size, 0, none⟩ = some (.slice A n c) by simp [go_sem]); have HS1 := Lib.hid ((HS.out.below hb).call hb.size); have HB1 : Hid (Below w.heap.size w w1) := Lib.hid (H0.out.trans (hb.mono H0.out.size)); clear hb) | (go_at_call 94; refine (memberIndexes_any ds _ _ _ _ HS1.out).mono ?_; rintro e w2 ⟨rfl, hi2, hb2⟩; have c2 := keep1 hb2 c1; have hlk := hi2.look_no s HW.out HX.out; have HB2 : Hid (Below w.heap.size w w2) := Lib.hid (HB1.out.trans (hb2.mono HB1.out.size)); clear hb2 hi2))
  go_ret2
  exact ⟨rfl, HB2.out⟩

set_option maxHeartbeats 1000000 in
theorem implNameOf_yes (ds : List D) (s : Int) (A : Option Addr) (c n : Nat) (w : World) (hr : SD w w.heap.size A n c ds) (hv : vEnum ds = true) (k : Nat) (hk : k < ds.length) (hx : fidx (isVal s) ds = k) :
    Calls Try.prog 47 #[.agg #[.slice A n c], .int .i64 s] w fun e w' => e = .returned (.tuple #[.string ds[k].name, .bool true]) ∧ Below w.heap.size w w' := by
  obtain rfl := hr.len
  have hl := hr.max
  have hl2 := hr.cap
  unfold maxLen at hl
  have HR := Lib.hid hr
  clear hr
  have h0 : Below w.heap.size w (w.alloc (.cells #[.slice A ds.length c] 25)) := (Below.refl _ _).alloc (Nat.le_refl _) _
  have H0 := Lib.hid h0
  have HS := Lib.hid ((HR.out.below h0).call h0.size)
  clear h0
  have HV := Lib.hid hv
  have hs : -9223372036854775808 ≤ s ∧ s ≤ 9223372036854775807 := by
    rcases fidx_cases (isVal s) ds with ⟨h1, _⟩ | ⟨j, hj, h1, hp, _⟩
    · omega
    · unfold isVal at hp
      simp at hp
      have := vEnum_val hv _ (List.getElem_mem hj)
      omega
  have HX := Lib.hid hx
  have HW := Lib.hid hs
  clear hv hx hs
  have hi1 : (k : Int) < (ds.length : Int) := by omega
  go_enter Try.func47, Try.ntmps47
  go_wp2_with (first | (go_at_call 23; refine (implVE_v ds _ _ _ _ HS.out HV.out).mono ?_; rintro e w1 ⟨rfl, hb⟩; have c1 := keep1 hb (show (w.alloc (.cells #[.slice A ds.length c] 25)).cell? ⟨w.heap.size, 0, none⟩ = some (.slice A ds.length c) by simp [go_sem]); have HS1 := Lib.hid ((HS.out.below hb).call hb.size); have HB1 : Hid (Below w.heap.size w w1) := Lib.hid (H0.out.trans (hb.mono H0.out.size)); clear hb) | (go_at_call 94; refine (memberIndexes_any ds _ _ _ _ HS1.out).mono ?_; rintro e w2 ⟨rfl, hi2, hb2⟩; have c2 := keep1 hb2 c1; have hlk := hi2.look_yes s HW.out (by simp only [HX.out]; omega); simp only [HX.out] at hlk; obtain ⟨b, o, rfl, hbb, d1, d2⟩ := (HS1.out.below hb2).at_ hk; have HB2 : Hid (Below w.heap.size w w2) := Lib.hid (HB1.out.trans (hb2.mono HB1.out.size)); clear hb2 hi2))
  go_ret2
  exact ⟨rfl, HB2.out⟩

theorem implNameOf_no (ds : List D) (s : Int) (A : Option Addr) (c n : Nat) (w : World) (hr : SD w w.heap.size A n c ds) (hs : -9223372036854775808 ≤ s ∧ s ≤ 9223372036854775807) {v : Bool} {x : Int} (hv : vEnum ds = v) (hx : fidx (isVal s) ds = x) (h : v = false ∨ x < 0) :
    Calls Try.prog 47 #[.agg #[.slice A n c], .int .i64 s] w fun e w' => e = .returned (.tuple #[.string ⟨#[]⟩, .bool false]) ∧ Below w.heap.size w w' := by
  cases v
  · exact implNameOf_inv ds s A c n w hr hv
  · exact implNameOf_none ds s A c n w hr hv (by simp at h; omega) hs
end Go.Proofs.Ytiklgghbkkmnaaa
