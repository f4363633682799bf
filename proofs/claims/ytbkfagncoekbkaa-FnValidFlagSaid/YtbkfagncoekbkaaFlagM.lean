import Derived.Test.YtbkfagncoekbkaaFlagK
import Derived.Test.YtbkfagncoekbkaaFlagT
namespace Go.Proofs.Ytbkfagncoekbkaa
open Go.RowKit Go.Maps
set_option linter.unusedVariables false
set_option maxRecDepth 100000

/-! ### the program's functions of chapter 3 -/
theorem classOf_x (ds : List D) (b : Int) (A : Option Addr) (n c : Nat) (w : World) (hr : SD w w.heap.size A n c ds) (hv : vFlag ds b = true) {fid wh : Nat} (hf : bdF b = .func (.func fid) #[] #[]) (hw : mWhole ds b = wh) :
    Calls Try.prog 83 #[.agg #[.slice A n c, .int .i64 b]] w fun e w' => e = .returned (.tuple #[.agg #[.slice A n c, .func (.func fid) #[] #[], .int .i64 wh], .bool true]) ∧ Below w.heap.size w w' := by
  rw [← hf, ← hw]; exact classOf_yes ds b A n c w hr hv
theorem classMade_x (ds : List D) (b n : Int) (A : Option Addr) (m c : Nat) (w : World) (hr : SD w w.heap.size A m c ds) (hv : vFlag ds b = true) {fid wh : Nat} (hf : bdF b = .func (.func fid) #[] #[]) (hw : mWhole ds b = wh) {x y : Int} (hx : (mValue ds b n).1 = x) (hy : (mValue ds b n).2 = y) :
    Calls Try.prog 95 #[.agg #[.slice A m c, .func (.func fid) #[] #[], .int .i64 wh], .int .i64 n] w fun e w' => e = .returned (.tuple #[.int .i64 x, .int .i64 y]) ∧ Below w.heap.size w w' := by
  have e : mValue ds b n = if inV n then mMade ds b n else (0, 2) := by unfold mValue; rw [hv, Bool.true_and]
  rw [e] at hx hy
  rw [← hf, ← hw]; exact classMade_v ds b n A m c w hr (vFlag_in hv) (vFlag_bound hv) hx hy
theorem bdF_form (b : Int) : ∃ fid : Nat, bdF b = .func (.func fid) #[] #[] := ⟨_, rfl⟩
/-- The class behind classOf, in a cell of its own. -/
structure FC (w0 w : World) (g : Nat) (A : Option Addr) (n c : Nat) (ds : List D) (fid wh : Nat) : Prop where
  c0 : w.cell? ⟨g, 0, none⟩ = some (.slice A n c)
  c1 : w.cell? ⟨g, 1, none⟩ = some (.func (.func fid) #[] #[])
  c2 : w.cell? ⟨g, 2, none⟩ = some (.int .i64 wh)
  sd0 : SD w w0.heap.size A n c ds
  bel : Below w0.heap.size w0 w
section
variable {w0 w w' : World} {A : Option Addr} {g n c fid wh : Nat} {ds : List D} {b : Int}
theorem FC.start (h : FB w0 w g A n c ds b) (fid wh : Nat) : FC w0 (w.alloc (.cells #[.slice A n c, .func (.func fid) #[] #[], .int .i64 wh] 99)) w.heap.size A n c ds fid wh :=
  have h0 : Below w.heap.size w (w.alloc (.cells #[.slice A n c, .func (.func fid) #[] #[], .int .i64 wh] 99)) := (Below.refl _ _).alloc (Nat.le_refl _) _
  ⟨by simp [go_sem], by simp [go_sem], by simp [go_sem], h.sd0.below' h0 h.bel.size, h.after h0⟩
theorem FC.sd (h : FC w0 w g A n c ds fid wh) : SD w w.heap.size A n c ds := h.sd0.more h.bel.size
theorem FC.call (h : FC w0 w g A n c ds fid wh) (hb : Below w.heap.size w w') : FC w0 w' g A n c ds fid wh :=
  ⟨keep1 hb h.c0, keep1 hb h.c1, keep1 hb h.c2, h.sd0.below' hb h.bel.size, h.bel.trans (hb.mono h.bel.size)⟩
theorem FC.after (h : FC w0 w g A n c ds fid wh) (hb : Below w.heap.size w w') : Below w0.heap.size w0 w' := h.bel.trans (hb.mono h.bel.size)
end
set_option maxHeartbeats 2000000 in
theorem implMaskOf_v (ds : List D) (b : Int) (A : Option Addr) (n c : Nat) (w : World) (hr : SD w w.heap.size A n c ds) (hn : n ≤ 1048576) {r : Int} (hm : mMaskOf ds b = r) :
    Calls Try.prog 31 #[.agg #[.slice A n c, .int .i64 b]] w fun e w' => e = .returned (.int .i64 r) ∧ Below w.heap.size w w' := by
  subst hm
  have HF := Lib.hid (FB.start hr b)
  clear hr
  cases hv : vFlag ds b
  · have HV := Lib.hid hv
    have HM : Hid (mMaskOf ds b = -1) := Lib.hid (if_no hv)
    clear hv
    go_enter Try.func31, Try.ntmps31
    go_wp2_with fail
    refine (classOf_no ds b _ _ _ _ HF.out.sd hn HV.out).mono ?_
    rintro e w1 ⟨rfl, hb⟩
    have HB1 := Lib.hid (HF.out.after hb)
    have hst := st_nilFunc
    clear hb
    go_wp2
    go_ret
    exact ⟨by rw [HM.out]; first | done | rfl, HB1.out.alloc HB1.out.size _⟩
  · have HV := Lib.hid hv
    have HM : Hid (mMaskOf ds b = ((mMask ds : Nat) : Int)) := Lib.hid (if_yes hv)
    have HIN := Lib.hid (small40 (vFlag_in hv))
    clear hv
    obtain ⟨x, hx⟩ : ∃ x, mMask ds = x := ⟨_, rfl⟩
    rw [hx] at HM
    have HX := Lib.hid hx
    clear hx
    obtain ⟨fid, hfid⟩ := bdF_form b
    obtain ⟨wh, hwh⟩ : ∃ wh, mWhole ds b = wh := ⟨_, rfl⟩
    have HFID := Lib.hid hfid
    have HWH := Lib.hid hwh
    clear hfid hwh
    go_enter Try.func31, Try.ntmps31
    go_wp2_with fail
    refine (classOf_x ds b _ _ _ _ HF.out.sd HV.out HFID.out HWH.out).mono ?_
    rintro e w1 ⟨rfl, hb⟩
    have HF1 := Lib.hid (HF.out.call hb)
    have HK := Lib.hid (FC.start HF1.out fid wh)
    have hst := st_func
    clear hb HF
    go_wp2_with fail
    refine (implMask_v ds _ _ _ _ HK.out.sd HIN.out HX.out).mono ?_
    rintro e w2 ⟨rfl, hb⟩
    have HB2 := Lib.hid (HK.out.after hb)
    clear hb
    go_wp2
    go_ret
    exact ⟨by rw [HM.out]; first | done | rfl, HB2.out⟩
set_option maxHeartbeats 2000000 in
theorem implSgOf_any (ds : List D) (b : Int) (A : Option Addr) (n c : Nat) (w : World) (hr : SD w w.heap.size A n c ds) (hn : n ≤ 1048576) :
    Calls Try.prog 26 #[.agg #[.slice A n c, .int .i64 b]] w (StrsP (mSgOf ds b) w) := by
  have HF := Lib.hid (FB.start hr b)
  have HOK := Lib.hid hr.ok
  clear hr
  cases hv : vFlag ds b
  · have HV := Lib.hid hv
    have HM : Hid (mSgOf ds b = []) := Lib.hid (if_no hv)
    clear hv
    go_enter Try.func26, Try.ntmps26
    go_wp2_with fail
    refine (classOf_no ds b _ _ _ _ HF.out.sd hn HV.out).mono ?_
    rintro e w1 ⟨rfl, hb⟩
    have HB1 := Lib.hid (HF.out.after hb)
    have hst := st_nilFunc
    clear hb
    go_wp2
    go_ret
    exact ⟨none, 0, by rw [HM.out]; rfl, by rw [HM.out]; exact World.ownsRow_nil _ _ _ _, HB1.out.alloc HB1.out.size _⟩
  · have HV := Lib.hid hv
    have HM : Hid (mSgOf ds b = (mSg ds).map (·.name)) := Lib.hid (if_yes hv)
    have HN : Hid ((mSg ds).length ≤ 1048576) := Lib.hid (by have := mSg_len ds; omega)
    clear hv
    obtain ⟨fid, hfid⟩ := bdF_form b
    obtain ⟨wh, hwh⟩ : ∃ wh, mWhole ds b = wh := ⟨_, rfl⟩
    have HFID := Lib.hid hfid
    have HWH := Lib.hid hwh
    clear hfid hwh
    go_enter Try.func26, Try.ntmps26
    go_wp2_with fail
    refine (classOf_x ds b _ _ _ _ HF.out.sd HV.out HFID.out HWH.out).mono ?_
    rintro e w1 ⟨rfl, hb⟩
    have HF1 := Lib.hid (HF.out.call hb)
    have HK := Lib.hid (FC.start HF1.out fid wh)
    have hst := st_func
    clear hb HF
    go_wp2_with fail
    refine (implSg_any ds _ _ _ _ HK.out.sd).mono ?_
    rintro e w2 ⟨A2, k2, rfl, ho, hb⟩
    have HS2 := Lib.hid (sd_of_own ho (mSg_ok HOK.out))
    have HB2 := Lib.hid (HK.out.after hb)
    clear ho hb
    go_wp2_with fail
    refine (implNames_any (mSg ds) _ _ _ _ HS2.out HN.out).mono ?_
    rintro e w3 ⟨A3, k3, rfl, ho, hb⟩
    have HO3 := Lib.hid ho
    have HB3 := Lib.hid hb
    clear ho hb
    go_wp2
    go_ret
    exact ⟨A3, k3, by rw [HM.out, List.length_map]; rfl, by rw [HM.out, List.length_map]; rw [List.length_map] at HO3; exact own_base HO3.out HB2.out.size, HB2.out.trans (HB3.out.mono HB2.out.size)⟩

theorem mComp_len (ds : List D) : (mComp ds).length ≤ ds.length := List.length_filter_le _ _
theorem mComp_ok {ds : List D} (h : ∀ d ∈ ds, d.ok) : ∀ d ∈ mComp ds, d.ok := fun d hd => h d (List.mem_filter.1 hd).1
set_option maxHeartbeats 2000000 in
theorem implCompOf_any (ds : List D) (b : Int) (A : Option Addr) (n c : Nat) (w : World) (hr : SD w w.heap.size A n c ds) (hn : n ≤ 1048576) :
    Calls Try.prog 33 #[.agg #[.slice A n c, .int .i64 b]] w (StrsP (mCompOf ds b) w) := by
  have HF := Lib.hid (FB.start hr b)
  have HOK := Lib.hid hr.ok
  have HNL := Lib.hid hr.len
  clear hr
  cases hv : vFlag ds b
  · have HV := Lib.hid hv
    have HM : Hid (mCompOf ds b = []) := Lib.hid (if_no hv)
    clear hv
    go_enter Try.func33, Try.ntmps33
    go_wp2_with fail
    refine (classOf_no ds b _ _ _ _ HF.out.sd hn HV.out).mono ?_
    rintro e w1 ⟨rfl, hb⟩
    have HB1 := Lib.hid (HF.out.after hb)
    have hst := st_nilFunc
    clear hb
    go_wp2
    go_ret
    exact ⟨none, 0, by rw [HM.out]; rfl, by rw [HM.out]; exact World.ownsRow_nil _ _ _ _, HB1.out.alloc HB1.out.size _⟩
  · have HV := Lib.hid hv
    have HM : Hid (mCompOf ds b = (mComp ds).map (·.name)) := Lib.hid (if_yes hv)
    have HN : Hid ((mComp ds).length ≤ 1048576) := Lib.hid (by have := mComp_len ds; have := HNL.out; omega)
    have HIN := Lib.hid (vFlag_in hv)
    clear hv
    obtain ⟨fid, hfid⟩ := bdF_form b
    obtain ⟨wh, hwh⟩ : ∃ wh, mWhole ds b = wh := ⟨_, rfl⟩
    have HFID := Lib.hid hfid
    have HWH := Lib.hid hwh
    clear hfid hwh
    go_enter Try.func33, Try.ntmps33
    go_wp2_with fail
    refine (classOf_x ds b _ _ _ _ HF.out.sd HV.out HFID.out HWH.out).mono ?_
    rintro e w1 ⟨rfl, hb⟩
    have HF1 := Lib.hid (HF.out.call hb)
    have HK := Lib.hid (FC.start HF1.out fid wh)
    have hst := st_func
    clear hb HF
    go_wp2_with fail
    refine (implComp_any ds _ _ _ _ HK.out.sd hn HIN.out).mono ?_
    rintro e w2 ⟨A2, k2, rfl, ho, hb⟩
    have HS2 := Lib.hid (sd_of_own ho (mComp_ok HOK.out))
    have HB2 := Lib.hid (HK.out.after hb)
    clear ho hb
    go_wp2_with fail
    refine (implNames_any (mComp ds) _ _ _ _ HS2.out HN.out).mono ?_
    rintro e w3 ⟨A3, k3, rfl, ho, hb⟩
    have HO3 := Lib.hid ho
    have HB3 := Lib.hid hb
    clear ho hb
    go_wp2
    go_ret
    exact ⟨A3, k3, by rw [HM.out, List.length_map]; rfl, by rw [HM.out, List.length_map]; rw [List.length_map] at HO3; exact own_base HO3.out HB2.out.size, HB2.out.trans (HB3.out.mono HB2.out.size)⟩

set_option maxHeartbeats 2000000 in
theorem implMake_v (ds : List D) (b n : Int) (A : Option Addr) (m c : Nat) (w : World) (hr : SD w w.heap.size A m c ds) (hn : m ≤ 1048576) {x y : Int} (hx : (mValue ds b n).1 = x) (hy : (mValue ds b n).2 = y) :
    Calls Try.prog 37 #[.agg #[.slice A m c, .int .i64 b], .int .i64 n] w fun e w' => e = .returned (.tuple #[.int .i64 x, .int .i64 y]) ∧ Below w.heap.size w w' := by
  have HF := Lib.hid (FB.start hr b)
  clear hr
  cases hv : vFlag ds b
  · have HV := Lib.hid hv
    have HM : Hid (mValue ds b n = (0, 2)) := Lib.hid (by unfold mValue; rw [hv]; rfl)
    subst hx hy
    clear hv
    go_enter Try.func37, Try.ntmps37
    go_wp2_with fail
    refine (classOf_no ds b _ _ _ _ HF.out.sd hn HV.out).mono ?_
    rintro e w1 ⟨rfl, hb⟩
    have HB1 := Lib.hid (HF.out.after hb)
    have hst := st_nilFunc
    clear hb
    go_wp2
    go_ret2
    exact ⟨by rw [HM.out]; first | done | rfl, HB1.out.alloc HB1.out.size _⟩
  · have HV := Lib.hid hv
    have HX := Lib.hid hx
    have HY := Lib.hid hy
    clear hv hx hy
    obtain ⟨fid, hfid⟩ := bdF_form b
    obtain ⟨wh, hwh⟩ : ∃ wh, mWhole ds b = wh := ⟨_, rfl⟩
    have HFID := Lib.hid hfid
    have HWH := Lib.hid hwh
    clear hfid hwh
    go_enter Try.func37, Try.ntmps37
    go_wp2_with fail
    refine (classOf_x ds b _ _ _ _ HF.out.sd HV.out HFID.out HWH.out).mono ?_
    rintro e w1 ⟨rfl, hb⟩
    have HF1 := Lib.hid (HF.out.call hb)
    have HK := Lib.hid (FC.start HF1.out fid wh)
    have hst := st_func
    clear hb HF
    go_wp2_with fail
    refine (classMade_x ds b n _ _ _ _ HK.out.sd HV.out HFID.out HWH.out HX.out HY.out).mono ?_
    rintro e w2 ⟨rfl, hb⟩
    have HB2 := Lib.hid (HK.out.after hb)
    clear hb
    go_wp2
    go_ret2
    exact ⟨rfl, HB2.out⟩

/-- A number is a value of a class just if it makes itself. -/
theorem isV_made (ds : List D) (b n : Int) (hv : vFlag ds b = true) : mIsV ds b n = (decide ((mValue ds b n).2 = 0) && decide ((mValue ds b n).1 = n)) := by
  have hin := vFlag_in hv
  have hbd := vFlag_bound hv
  unfold mIsV mValue
  rw [hv]
  by_cases hlo : n < -4096
  · have : inV n = false := by unfold inV; rw [decide_eq_false (by omega)]; rfl
    rw [this]; simp; omega
  by_cases hhi : 4095 < n
  · have : inV n = false := by unfold inV; rw [decide_eq_false (p := n ≤ 4095) (by omega)]; simp
    rw [this]; simp; omega
  have hi : inV n = true := by unfold inV; simp; omega
  rw [hi]
  by_cases hneg : n < 0
  · rw [Bool.and_self, if_pos rfl, mMade_neg hneg, decide_eq_false (p := 0 ≤ n) (by omega)]
    simp; omega
  · rw [decide_eq_true (p := 0 ≤ n) (by omega), decide_eq_true (p := n ≤ 4095) (by omega)]
    by_cases hz : nl n.toNat (mMask ds) = 0
    · rw [Bool.and_self, if_pos rfl, mMade_in hneg hz]; simp [hz]
    · rw [Bool.and_self, if_pos rfl, mMade_un hneg hz]
      rcases (show b = 0 ∨ b = 1 ∨ b = 2 ∨ b = 3 by omega) with rfl | rfl | rfl | rfl
      · simp [hz]
      · have := nl_add_and n.toNat (mMask ds)
        simp [hz]; omega
      · simp [hz]
      · simp
set_option maxHeartbeats 2000000 in
theorem implIsV_v (ds : List D) (b n : Int) (A : Option Addr) (m c : Nat) (w : World) (hr : SD w w.heap.size A m c ds) (hn : m ≤ 1048576) {v : Bool} (hm : mIsV ds b n = v) :
    Calls Try.prog 41 #[.agg #[.slice A m c, .int .i64 b], .int .i64 n] w fun e w' => e = .returned (.bool v) ∧ Below w.heap.size w w' := by
  have HF := Lib.hid (FB.start hr b)
  clear hr
  cases hv : vFlag ds b
  · have HV := Lib.hid hv
    have HM : Hid (mIsV ds b n = false) := Lib.hid (by unfold mIsV; rw [hv]; rfl)
    subst hm
    clear hv
    go_enter Try.func41, Try.ntmps41
    go_wp2_with fail
    refine (classOf_no ds b _ _ _ _ HF.out.sd hn HV.out).mono ?_
    rintro e w1 ⟨rfl, hb⟩
    have HB1 := Lib.hid (HF.out.after hb)
    have hst := st_nilFunc
    clear hb
    go_wp2
    go_ret
    exact ⟨by rw [HM.out]; first | done | rfl, HB1.out.alloc HB1.out.size _⟩
  · have HV := Lib.hid hv
    have HI := Lib.hid (isV_made ds b n hv)
    rw [hm] at HI
    clear hm
    obtain ⟨x, hx⟩ : ∃ x, (mValue ds b n).1 = x := ⟨_, rfl⟩
    obtain ⟨y, hy⟩ : ∃ y, (mValue ds b n).2 = y := ⟨_, rfl⟩
    rw [hx, hy] at HI
    have HX := Lib.hid hx
    have HY := Lib.hid hy
    clear hv hx hy
    obtain ⟨fid, hfid⟩ := bdF_form b
    obtain ⟨wh, hwh⟩ : ∃ wh, mWhole ds b = wh := ⟨_, rfl⟩
    have HFID := Lib.hid hfid
    have HWH := Lib.hid hwh
    clear hfid hwh
    go_enter Try.func41, Try.ntmps41
    go_wp2_with fail
    refine (classOf_x ds b _ _ _ _ HF.out.sd HV.out HFID.out HWH.out).mono ?_
    rintro e w1 ⟨rfl, hb⟩
    have HF1 := Lib.hid (HF.out.call hb)
    have HK := Lib.hid (FC.start HF1.out fid wh)
    have hst := st_func
    clear hb HF
    go_wp2_with fail
    refine (classMade_x ds b n _ _ _ _ HK.out.sd HV.out HFID.out HWH.out HX.out HY.out).mono ?_
    rintro e w2 ⟨rfl, hb⟩
    have HB2 := Lib.hid (HK.out.after hb)
    clear hb
    by_cases h0 : y = 0
    · have HZ : Hid (v = decide (x = n)) := Lib.hid (by rw [HI.out, decide_eq_true h0]; simp)
      subst h0
      go_wp2
      go_ret
      exact ⟨ret_bool (by rw [HZ.out, Bool.eq_iff_iff]; simp), HB2.out⟩
    · have HZ : Hid (v = false) := Lib.hid (by rw [HI.out, decide_eq_false h0]; simp)
      have h1 : (y == 0) = false := beq_eq_false_iff_ne.2 h0
      go_wp2
      go_ret
      exact ⟨by rw [HZ.out]; first | done | rfl, HB2.out⟩
theorem mSgOf_ok {ds : List D} {b : Int} (h : ∀ d ∈ ds, d.ok) : ∀ s ∈ mSgOf ds b, s.size ≤ maxLen := by
  intro s hs
  unfold mSgOf at hs
  cases hv : vFlag ds b
  · rw [hv] at hs; cases hs
  · rw [hv] at hs
    obtain ⟨d, hd, rfl⟩ := List.mem_map.1 hs
    exact (mSg_ok h d hd).1
theorem mSgOf_len (ds : List D) (b : Int) : (mSgOf ds b).length ≤ 12 := by
  unfold mSgOf
  cases hv : vFlag ds b
  · exact Nat.zero_le _
  · show ((mSg ds).map _).length ≤ 12
    rw [List.length_map]; exact mSg_len ds
theorem mCompOf_ok {ds : List D} {b : Int} (h : ∀ d ∈ ds, d.ok) : ∀ s ∈ mCompOf ds b, s.size ≤ maxLen := by
  intro s hs
  unfold mCompOf at hs
  cases hv : vFlag ds b
  · rw [hv] at hs; cases hs
  · rw [hv] at hs
    obtain ⟨d, hd, rfl⟩ := List.mem_map.1 hs
    exact (mComp_ok h d hd).1
theorem mCompOf_len (ds : List D) (b : Int) : (mCompOf ds b).length ≤ 12 := by
  unfold mCompOf
  cases hv : vFlag ds b
  · exact Nat.zero_le _
  · show ((mComp ds).map _).length ≤ 12
    rw [List.length_map]; have := mComp_len ds; have := vFlag_len hv; omega
end Go.Proofs.Ytbkfagncoekbkaa
