import Derived.Test.YtjccnahebafepaaApp
namespace Go.Proofs.Ytjccnahebafepaa
open Go.RowKit Go.Maps
set_option linter.unusedVariables false

/-! ### IsUnique -/
def mUniq (ds : List D) : Bool := vEnum ds && decide ((mems ds).length = ds.length)

set_option maxHeartbeats 1000000 in
theorem specIsUnique_any (ds : List D) (A : Option Addr) (c n : Nat) (w : World) (hr : SD w w.heap.size A n c ds) :
    Calls Try.prog 41 #[.agg #[.slice A n c]] w fun e w' => e = .returned (.bool (mUniq ds)) ∧ Below w.heap.size w w' := by
  obtain rfl := hr.len
  have hl := hr.max
  have hl2 := hr.cap
  unfold maxLen at hl
  have HR := Lib.hid hr
  clear hr
  have h0 : Below w.heap.size w (w.alloc (.cells #[.slice A ds.length c] 28)) := (Below.refl _ _).alloc (Nat.le_refl _) _
  have H0 := Lib.hid h0
  have HS := Lib.hid ((HR.out.below h0).call h0.size)
  have d0 : (w.alloc (.cells #[.slice A ds.length c] 28)).cell? ⟨w.heap.size, 0, none⟩ = some (.slice A ds.length c) := by simp [go_sem]
  clear h0
  cases hv : vEnum ds
  · have HV := Lib.hid hv
    have HU : Hid (mUniq ds = false) := Lib.hid (by unfold mUniq; rw [hv]; rfl)
    clear hv
    go_enter Try.func41, Try.ntmps41
    go_wp2_with fail
    generalize hW : w.alloc (.cells #[.slice A ds.length c] 28) = W at *
    have HW := Lib.hid hW
    clear hW
    refine wp_region_still (by kernel_rfl) (by kernel_rfl) ?_
    refine BigFrame.wpQuiet_want (by rfl) (fun K hK => ⟨.agg #[.slice A ds.length c], fun w' hw' => ?_, ?_⟩)
    · have c1 := keep1 hw' d0
      unfold Oper.quietAt
      go_simp
    go_simp
    refine hK _ ?_
    clear hK K
    refine BigFrame.wpQuiet_want (by rfl) (fun K hK => ⟨.bool false, fun w' hw' => ?_, ?_⟩)
    · unfold Oper.quietAt
      go_simp
      exact (specVE_v ds _ _ _ _ ((HS.out.below hw').call hw'.size) HV.out).mono fun e w1 ⟨he, hb⟩ => ⟨he, hw'.trans (hb.mono hw'.size)⟩
    go_simp
    refine hK _ ?_
    clear hK K
    repeat (go_big_quiet_step (fail))
    refine BigFrame.wpQuiet_want (by rfl) (fun K hK => ⟨.bool false, fun w' hw' => ?_, ?_⟩)
    · unfold Oper.quietAt
      go_simp
    go_simp
    refine hK _ ?_
    clear hK K
    repeat (go_big_quiet_step (fail))
    refine wpQuiet_nil ?_
    intro w1 hb
    go_wp2
    go_ret
    exact ⟨ret_bool HU.out.symm, H0.out.trans (hb.mono H0.out.size)⟩
  · have HV := Lib.hid hv
    have h12 : Hid (ds.length ≤ 1048576) := Lib.hid (by have := vEnum_len hv; omega)
    have HU : Hid (mUniq ds = decide ((mems ds).length = ds.length)) := Lib.hid (by unfold mUniq; rw [hv]; rfl)
    clear hv
    go_enter Try.func41, Try.ntmps41
    go_wp2_with fail
    generalize hW : w.alloc (.cells #[.slice A ds.length c] 28) = W at *
    have HW := Lib.hid hW
    clear hW
    go_region_held3 (fun w' => w'.cell? ⟨w.heap.size, 0, none⟩ = some (.slice A ds.length c)) (first | go_keep | exact c1 | exact c2)
      (first | (go_at_call 57; refine (specVE_v ds _ _ _ _ (by first | exact HS.out | exact HS.out.drew) HV.out).mono ?_; rintro e w1 ⟨rfl, hb⟩; replace hb : Below W.heap.size W w1 := (by first | exact hb | exact undrew hb); have c1 := keep1 hb d0; have HS1 := Lib.hid ((HS.out.below hb).call hb.size)) | (go_at_call 71; refine (members_any ds _ _ _ _ (by first | exact HS1.out | exact HS1.out.drew) h12.out).mono ?_; rintro e w2 ⟨A2, cc2, rfl, ho2, hb2⟩; replace hb2 : Below w1.heap.size w1 w2 := (by first | exact hb2 | exact undrew hb2); have c2 := keep1 hb2 c1))
    go_wp2
    go_ret
    exact ⟨ret_bool (by rw [HU.out, Bool.eq_iff_iff]; simp; omega), H0.out.trans ((hb.trans (hb2.mono hb.size)).mono H0.out.size)⟩

set_option maxHeartbeats 1000000 in
theorem implIsUnique_any (ds : List D) (A : Option Addr) (c n : Nat) (w : World) (hr : SD w w.heap.size A n c ds) :
    Calls Try.prog 40 #[.agg #[.slice A n c]] w fun e w' => e = .returned (.bool (mUniq ds)) ∧ Below w.heap.size w w' := by
  obtain rfl := hr.len
  have hl := hr.max
  have hl2 := hr.cap
  unfold maxLen at hl
  have HR := Lib.hid hr
  clear hr
  have h0 : Below w.heap.size w (w.alloc (.cells #[.slice A ds.length c] 28)) := (Below.refl _ _).alloc (Nat.le_refl _) _
  have H0 := Lib.hid h0
  have HS := Lib.hid ((HR.out.below h0).call h0.size)
  have d0 : (w.alloc (.cells #[.slice A ds.length c] 28)).cell? ⟨w.heap.size, 0, none⟩ = some (.slice A ds.length c) := by simp [go_sem]
  clear h0
  cases hv : vEnum ds
  · have HV := Lib.hid hv
    have HU : Hid (mUniq ds = false) := Lib.hid (by unfold mUniq; rw [hv]; rfl)
    clear hv
    go_enter Try.func40, Try.ntmps40
    go_wp2_with fail
    generalize hW : w.alloc (.cells #[.slice A ds.length c] 28) = W at *
    have HW := Lib.hid hW
    clear hW
    refine wp_region_still (by kernel_rfl) (by kernel_rfl) ?_
    refine BigFrame.wpQuiet_want (by rfl) (fun K hK => ⟨.agg #[.slice A ds.length c], fun w' hw' => ?_, ?_⟩)
    · have c1 := keep1 hw' d0
      unfold Oper.quietAt
      go_simp
    go_simp
    refine hK _ ?_
    clear hK K
    refine BigFrame.wpQuiet_want (by rfl) (fun K hK => ⟨.bool false, fun w' hw' => ?_, ?_⟩)
    · unfold Oper.quietAt
      go_simp
      exact (implVE_v ds _ _ _ _ ((HS.out.below hw').call hw'.size) HV.out).mono fun e w1 ⟨he, hb⟩ => ⟨he, hw'.trans (hb.mono hw'.size)⟩
    go_simp
    refine hK _ ?_
    clear hK K
    repeat (go_big_quiet_step (fail))
    refine BigFrame.wpQuiet_want (by rfl) (fun K hK => ⟨.bool false, fun w' hw' => ?_, ?_⟩)
    · unfold Oper.quietAt
      go_simp
    go_simp
    refine hK _ ?_
    clear hK K
    repeat (go_big_quiet_step (fail))
    refine wpQuiet_nil ?_
    intro w1 hb
    go_wp2
    go_ret
    exact ⟨ret_bool HU.out.symm, H0.out.trans (hb.mono H0.out.size)⟩
  · have HV := Lib.hid hv
    have HU : Hid (mUniq ds = decide ((mems ds).length = ds.length)) := Lib.hid (by unfold mUniq; rw [hv]; rfl)
    have HM : Hid ((mems ds).length = memCnt ds ds.length) := Lib.hid (memTo_len ds ds.length)
    clear hv
    have hlen := fun (ty : TypeId) (W' : World) (b n cnt : Nat) (f : Int → Int) (h : IdxP W' b n f cnt) => h.len_ ty
    go_enter Try.func40, Try.ntmps40
    go_wp2_with fail
    generalize hW : w.alloc (.cells #[.slice A ds.length c] 28) = W at *
    have HW := Lib.hid hW
    clear hW
    go_region_with
      (first | (go_at_call 19; refine (implVE_v ds _ _ _ _ (by first | exact HS.out | exact HS.out.drew) HV.out).mono ?_; rintro e w1 ⟨rfl, hb⟩; replace hb : Below W.heap.size W w1 := (by first | exact hb | exact undrew hb); have c1 := keep1 hb d0; have HS1 := Lib.hid ((HS.out.below hb).call hb.size)) | (go_at_call 58; refine (memberIndexes_any ds _ _ _ _ (by first | exact HS1.out | exact HS1.out.drew)).mono ?_; rintro e w2 ⟨rfl, hi2, hb2⟩; replace hb2 : Below w1.heap.size w1 w2 := (by first | exact hb2 | exact undrew hb2); have c2 := keep1 hb2 c1; have hln : ∀ (ty : TypeId), (Builtin.len_ #[64] ty #[.map (some w1.heap.size)]).run Try.prog w2 = .ok (.int .i64 (memCnt ds ds.length)) w2 := fun ty => hi2.len_ ty))
    all_goals
      go_wp2
      go_ret
      exact ⟨ret_bool (by rw [HU.out, HM.out, Bool.eq_iff_iff]; simp; omega), H0.out.trans ((hb.trans (hb2.mono hb.size)).mono H0.out.size)⟩
end Go.Proofs.Ytjccnahebafepaa
