import Derived.Test.YtpmanbmhbfnefaaConvT
namespace Go.Proofs.Ytpmanbmhbfnefaa
open Go.RowKit Go.Maps
set_option linter.unusedVariables false
set_option maxRecDepth 100000


/-! ### tables of numbers: plain facts -/
def bey (z : Int) : Bool := decide (z < -1000) || decide (1000 < z)
theorem bey_in (z : Int) : (decide (-1000 ≤ z) && decide (z ≤ 1000)) = !bey z := by
  unfold bey
  rw [Bool.eq_iff_iff]
  simp
def tabN (ds : List D) (ss : List Int) : Bool := tabOk ds ss.length && !ss.any bey
theorem tabN_enum {ds : List D} {ss : List Int} (h : tabN ds ss = true) : vEnum ds = true := by unfold tabN tabOk at h; simp only [Bool.and_eq_true] at h; exact h.1.1
theorem tabN_len {ds : List D} {ss : List Int} (h : tabN ds ss = true) : ss.length = (mems ds).length := by
  have hv := tabN_enum h
  unfold tabN tabOk at h
  simp only [Bool.and_eq_true, decide_eq_true_eq] at h
  rw [h.1.2]; unfold mMembers; rw [if_pos hv, List.length_map]
theorem tabN_rng {ds : List D} {ss : List Int} (h : tabN ds ss = true) : ∀ z ∈ ss, -1000 ≤ z ∧ z ≤ 1000 := by
  intro z hz
  unfold tabN at h
  simp only [Bool.and_eq_true, Bool.not_eq_true', List.any_eq_false] at h
  have := h.2 z hz
  unfold bey at this
  simp at this
  omega
theorem any_noTo {ss : List Int} (h : noTo bey ss ss.length) : ss.any bey = false := by
  rw [List.any_eq_false]
  intro z hz
  obtain ⟨i, hi, rfl⟩ := List.mem_iff_getElem.1 hz
  rw [h i hi hi]; simp
def rowR (ss : List Int) (r : Int) : Int := ss[r.toNat]?.getD 0
theorem rowR_at {ss : List Int} {r : Nat} (h : r < ss.length) : rowR ss r = ss[r] := by unfold rowR; rw [Int.toNat_natCast, List.getElem?_eq_getElem h]; rfl
def lkOk (ds : List D) (ss : List Int) (s : ByteArray) : Bool := tabN ds ss && decide (0 ≤ fidx (isNm s) ds)
def mLook (ds : List D) (ss : List Int) (s : ByteArray) : Int := if lkOk ds ss s then rowR ss (fidx (isVal (valI ds s)) (mems ds)) else 0
def mReval (ds : List D) (ss : List Int) : List D := if tabN ds ss then rkL (rowR ss) ds else []
theorem mReval_len (ds : List D) (ss : List Int) : (mReval ds ss).length ≤ 12 := by
  unfold mReval
  cases h : tabN ds ss
  · exact Nat.zero_le _
  · rw [if_pos rfl, rkL_len]; exact vEnum_len (tabN_enum h)
theorem mReval_ok {ds : List D} {ss : List Int} (hok : ∀ d ∈ ds, d.ok) : ∀ d ∈ mReval ds ss, d.ok := by
  unfold mReval
  cases h : tabN ds ss
  · intro d hd; cases hd
  · rw [if_pos rfl]
    refine rkL_ok (tabN_enum h) hok fun r hr => ?_
    have hl : r < ss.length := by rw [tabN_len h]; exact hr
    rw [rowR_at hl]
    have := tabN_rng h _ (List.getElem_mem hl)
    omega

set_option maxHeartbeats 8000000 in
theorem validTab_v (ds : List D) (ss : List Int) (A R : Option Addr) (n c q k : Nat) (w : World) (ha : SD w w.heap.size A n c ds) (hs : SI w w.heap.size R q k ss) (hn : n ≤ 1048576) {v : Bool} (h1 : tabN ds ss = v) :
    Calls Try.prog 46 #[.agg #[.slice A n c], .slice R q k] w (fun en w' => en = .returned (.bool v) ∧ Below w.heap.size w w') := by
  subst h1
  have HRa := Lib.hid ha
  have HOA := Lib.hid ha.ok
  have HLA := Lib.hid ha.len
  clear ha
  have hmx := hs.max
  have hcp := hs.cap
  unfold maxLen at hmx
  have hlq := hs.len
  subst hlq
  have HSI := Lib.hid hs
  clear hs
  obtain ⟨va, hva⟩ : ∃ v, vEnum ds = v := ⟨_, rfl⟩
  have HV := Lib.hid hva
  obtain ⟨w0, hw⟩ : ∃ W : World, W = (w.alloc (.cells #[.slice A n c] 32)) := ⟨_, rfl⟩
  have hb : Below w.heap.size w w0 := by rw [hw]; exact ((Below.refl _ _).alloc (by first | exact Nat.le_refl _ | (simp; done) | (simp; omega)) _)
  have hs0 : w.heap.size + 1 ≤ w0.heap.size := by rw [hw]; simp
  have pa_0 : w0.cell? ⟨w.heap.size, 0, none⟩ = some (.slice A n c) := by rw [hw]; simp [go_sem]
  have HB_0 := Lib.hid hb
  have HW0 : Hid ((w.alloc (.cells #[.slice A n c] 32)) = w0) := Lib.hid hw.symm
  clear hb hw
  cases va
  · have HM : Hid (tabN ds ss = false) := Lib.hid (by unfold tabN tabOk; rw [hva]; rfl)
    clear hva
    go_enter Try.func46, Try.ntmps46
    go_wp2_with fail
    rw [HW0.out]
    refine (specVE_v ds _ _ _ _ ((HRa.out.below HB_0.out).call HB_0.out.size) HV.out).mono ?_
    rintro e w1 ⟨rfl, hb⟩
    have hs1 : w0.heap.size ≤ w1.heap.size := hb.size
    have pa_1 := keep1 hb pa_0
    have HB_1 : Hid (Below w.heap.size w w1) := Lib.hid (HB_0.out.trans (hb.mono HB_0.out.size))
    clear hb  pa_0 HB_0
    go_wp2
    go_ret
    exact ⟨ret_bool HM.out.symm, HB_1.out⟩
  have hmm : (mMembers ds).length = (mems ds).length := by unfold mMembers; rw [if_pos hva, List.length_map]
  have hm12 := mems_12 hva
  by_cases hq : ss.length = (mems ds).length
  · skip
    have HTO : Hid (tabOk ds ss.length = true) := Lib.hid (by unfold tabOk; rw [hva, hmm, decide_eq_true hq]; rfl)
    have HMB : Hid (∀ (A : Option Addr) (n c : Nat) (w : World), SD w w.heap.size A n c ds → n ≤ 1048576 → Calls Try.prog 43 #[.slice A n c] w fun e w' => ∃ A' c', e = .returned (.slice A' ss.length c') ∧ Below w.heap.size w w') := Lib.hid (fun A n c w h hn => (members_any ds A c n w h hn).mono fun e w' ⟨A', c', h1, _, h3⟩ => ⟨A', c', by rw [hq]; exact h1, h3⟩)
    clear hva hmm hq hm12
    go_enter Try.func46, Try.ntmps46
    go_wp2_with fail
    rw [HW0.out]
    refine (specVE_v ds _ _ _ _ ((HRa.out.below HB_0.out).call HB_0.out.size) HV.out).mono ?_
    rintro e w1 ⟨rfl, hb⟩
    have hs1 : w0.heap.size ≤ w1.heap.size := hb.size
    have pa_1 := keep1 hb pa_0
    have HB_1 : Hid (Below w.heap.size w w1) := Lib.hid (HB_0.out.trans (hb.mono HB_0.out.size))
    clear hb  pa_0 HB_0
    go_wp2_with fail
    refine (HMB.out _ _ _ _ ((HRa.out.below HB_1.out).call HB_1.out.size) hn).mono ?_
    rintro e w2 ⟨A2, c2, rfl, hb⟩
    have hs2 : w1.heap.size ≤ w2.heap.size := hb.size
    have pa_2 := keep1 hb pa_1
    have HB_2 : Hid (Below w.heap.size w w2) := Lib.hid (HB_1.out.trans (hb.mono HB_1.out.size))
    clear hb  pa_1 HB_1
    go_wp2
    go_loopw [5] (fun i wr => ∃ k : Nat, k ≤ ss.length ∧ i = .int .i64 k ∧ Hid (noTo bey ss k) ∧ Hid (Below w2.heap.size w2 wr)) (fun i _ => ss.length - (intOf i).toNat)
    case atStart => exact ⟨0, Nat.zero_le _, rfl, Lib.hid (noTo_zero _ _), Lib.hid (Below.refl _ _)⟩
    case round =>
      obtain ⟨k, hk, rfl, hok, hbel⟩ := hrel
      have HBR : Hid (Below w.heap.size w wr) := Lib.hid (HB_2.out.trans (hbel.out.mono HB_2.out.size))
      by_cases hlt : k < ss.length
      · obtain ⟨b, o, hA, hbb, d1⟩ := (HSI.out.below HBR.out).at_ hlt
        subst hA
        have hi1 : (k : Int) < (ss.length : Int) := by omega
        have hi0 : (0 : Int) ≤ (k : Int) := by omega
        have HBI := Lib.hid (bey_in ss[k])
        obtain ⟨u, hu⟩ : ∃ u, bey ss[k] = u := ⟨_, rfl⟩
        have HU := Lib.hid hu
        rw [hu] at HBI
        clear hu
        cases u
        · go_wp2_with (go_at_call 67; refine (inRange_v _ _ _ _ HBI.out).mono ?_; rintro e w' ⟨rfl, rfl⟩)
          go_roundw
          case rel => exact ⟨k + 1, by omega, by go_num, Lib.hid (noTo_succ hok.out hlt HU.out), hbel⟩
          case measure => simp [intOf]; omega
        · have HM : Hid (tabN ds ss = false) := Lib.hid (by unfold tabN; rw [List.any_eq_true.2 ⟨_, List.getElem_mem hlt, HU.out⟩, Bool.not_true, Bool.and_false])
          go_wp2_with (go_at_call 67; refine (inRange_v _ _ _ _ HBI.out).mono ?_; rintro e w' ⟨rfl, rfl⟩)
          go_ret
          exact ⟨ret_bool HM.out.symm, HBR.out⟩
      · obtain rfl : k = ss.length := by omega
        have HM : Hid (tabN ds ss = true) := Lib.hid (by unfold tabN; rw [HTO.out, any_noTo hok.out]; rfl)
        go_wp2
        go_ret
        exact ⟨ret_bool HM.out.symm, HBR.out⟩
  · skip
    have HM : Hid (tabN ds ss = false) := Lib.hid (by unfold tabN tabOk; rw [hva, hmm, decide_eq_false hq]; rfl)
    have hq2 : ¬ ((ss.length : Int) = ((mems ds).length : Int)) := by omega
    clear hva hmm hq
    go_enter Try.func46, Try.ntmps46
    go_wp2_with fail
    rw [HW0.out]
    refine (specVE_v ds _ _ _ _ ((HRa.out.below HB_0.out).call HB_0.out.size) HV.out).mono ?_
    rintro e w1 ⟨rfl, hb⟩
    have hs1 : w0.heap.size ≤ w1.heap.size := hb.size
    have pa_1 := keep1 hb pa_0
    have HB_1 : Hid (Below w.heap.size w w1) := Lib.hid (HB_0.out.trans (hb.mono HB_0.out.size))
    clear hb  pa_0 HB_0
    go_wp2_with fail
    refine (members_any ds _ _ _ _ ((HRa.out.below HB_1.out).call HB_1.out.size) hn).mono ?_
    rintro e2 w2 ⟨A2, c2, rfl, ho, hb⟩
    have hs2 : w1.heap.size ≤ w2.heap.size := hb.size
    have pa_2 := keep1 hb pa_1
    have HB_2 : Hid (Below w.heap.size w w2) := Lib.hid (HB_1.out.trans (hb.mono HB_1.out.size))
    clear ho hb pa_1 HB_1
    go_wp2
    go_ret
    exact ⟨ret_bool HM.out.symm, HB_2.out⟩

theorem isBey_v (z : Int) (w : World) {v : Bool} (hv : bey z = v) : Calls Try.prog 52 #[.int .i64 z] w fun e w' => e = .returned (.bool v) ∧ w' = w := by
  subst hv
  have HB : Hid (bey z = (decide (z < -1000) || decide (1000 < z))) := Lib.hid rfl
  by_cases h1 : z < -1000
  · go_enter Try.func52, Try.ntmps52
    go_wp2
    go_ret
    exact ⟨ret_bool (by rw [HB.out, decide_eq_true (p := z < -1000) (by omega)]; rfl), rfl⟩
  · by_cases h2 : 1000 < z
    · go_enter Try.func52, Try.ntmps52
      go_wp2
      go_ret
      exact ⟨ret_bool (by rw [HB.out, decide_eq_false (p := z < -1000) (by omega), decide_eq_true (p := 1000 < z) (by omega)]; rfl), rfl⟩
    · go_enter Try.func52, Try.ntmps52
      go_wp2
      go_ret
      exact ⟨ret_bool (by rw [HB.out, decide_eq_false (p := z < -1000) (by omega), decide_eq_false (p := 1000 < z) (by omega)]; rfl), rfl⟩

set_option maxHeartbeats 1000000 in
theorem idxBey_v (ss : List Int) (A : Option Addr) (n c : Nat) (w : World) (hr : SI w w.heap.size A n c ss) {v : Int} (hv : fidx bey ss = v) :
    Calls Try.prog 116 #[.slice A n c, .func (.func 52) #[] #[]] w fun e w' => e = .returned (.int .i64 v) ∧ w' = w := by
  subst hv
  obtain rfl := hr.len
  have hl := hr.max
  have hl2 := hr.cap
  unfold maxLen at hl
  have HR := Lib.hid hr
  clear hr
  go_enter Try.func116, Try.ntmps116
  go_wp2
  go_loopw [8] (fun i wr => ∃ k : Nat, k ≤ ss.length ∧ i = .int .i64 k ∧ Hid (noTo bey ss k) ∧ Hid (wr = w)) (fun i _ => ss.length - (intOf i).toNat)
  case atStart => exact ⟨0, Nat.zero_le _, rfl, Lib.hid (noTo_zero _ _), Lib.hid rfl⟩
  case round =>
    obtain ⟨k, hk, rfl, hok, hw⟩ := hrel
    have hww := hw.out
    subst hww
    by_cases hlt : k < ss.length
    · obtain ⟨b, o, rfl, hb, c1⟩ := HR.out.at_ hlt
      have hi1 : (k : Int) < (ss.length : Int) := by omega
      have hi0 : (0 : Int) ≤ (k : Int) := by omega
      cases hp : bey ss[k]
      · have HP := Lib.hid hp
        clear hp
        go_wp2_with (go_at_call 52; refine (isBey_v _ _ HP.out).mono ?_; rintro e w1 ⟨rfl, rfl⟩)
        go_roundw
        case rel => exact ⟨k + 1, by omega, by go_num, Lib.hid (noTo_succ hok.out hlt HP.out), by first | exact Lib.hid rfl | exact Lib.hid trivial⟩
        case measure => simp [intOf]; omega
      · have HP := Lib.hid hp
        clear hp
        go_wp2_with (go_at_call 52; refine (isBey_v _ _ HP.out).mono ?_; rintro e w1 ⟨rfl, rfl⟩)
        go_ret
        exact ⟨ret_int (fidx_some hok.out hlt HP.out).symm, rfl⟩
    · obtain rfl : k = ss.length := by omega
      go_wp2
      go_ret
      exact ⟨ret_int (fidx_none hok.out).symm, rfl⟩
set_option maxHeartbeats 1000000 in
theorem anyBey_v (ss : List Int) (A : Option Addr) (n c : Nat) (w : World) (hr : SI w w.heap.size A n c ss) {v : Bool} (hv : ss.any bey = v) :
    Calls Try.prog 95 #[.slice A n c, .func (.func 52) #[] #[]] w fun e w' => e = .returned (.bool v) ∧ Below w.heap.size w w' := by
  subst hv
  have HR := Lib.hid hr
  have HD := Lib.hid (fidx_any bey ss)
  clear hr
  obtain ⟨x, hx⟩ : ∃ x, fidx bey ss = x := ⟨_, rfl⟩
  have HX := Lib.hid hx
  rw [hx] at HD
  clear hx
  by_cases h : x < 0
  · go_enter Try.func95, Try.ntmps95
    go_wp2_with (go_at_call 116; refine (idxBey_v ss _ _ _ _ HR.out HX.out).mono ?_; rintro e w1 ⟨rfl, rfl⟩)
    go_ret
    exact ⟨ret_bool (by have h1 := HD.out; rw [decide_eq_true (p := x < 0) (by omega)] at h1; cases h2 : ss.any bey; simp; omega; rw [h2] at h1; cases h1), Below.refl _ _⟩
  · go_enter Try.func95, Try.ntmps95
    go_wp2_with (go_at_call 116; refine (idxBey_v ss _ _ _ _ HR.out HX.out).mono ?_; rintro e w1 ⟨rfl, rfl⟩)
    go_ret
    exact ⟨ret_bool (by have h1 := HD.out; rw [decide_eq_false (p := x < 0) (by omega)] at h1; cases h2 : ss.any bey; rw [h2] at h1; cases h1; first | (simp; done) | (simp; omega)), Below.refl _ _⟩

set_option maxHeartbeats 4000000 in
theorem numTab_v (ds : List D) (ss : List Int) (A R : Option Addr) (n c q k : Nat) (w : World) (ha : SD w w.heap.size A n c ds) (hs : SI w w.heap.size R q k ss) {v : Bool} (h1 : tabN ds ss = v) :
    Calls Try.prog 61 #[.agg #[.slice A n c], .slice R q k] w (fun en w' => en = .returned (.tuple #[tabV v A n c R q k, .bool v]) ∧ Below w.heap.size w w') := by
  subst h1
  have HRa := Lib.hid ha
  have HOA := Lib.hid ha.ok
  have HLA := Lib.hid ha.len
  clear ha
  have hlq := hs.len
  subst hlq
  have HSI := Lib.hid hs
  clear hs
  obtain ⟨vt, hvt⟩ : ∃ v, tabOk ds ss.length = v := ⟨_, rfl⟩
  have HVT := Lib.hid hvt
  obtain ⟨u, hu⟩ : ∃ u, ss.any bey = u := ⟨_, rfl⟩
  have HU := Lib.hid hu
  obtain ⟨w0, hw⟩ : ∃ W : World, W = ((w.alloc (.cells #[.slice A n c] 32)).alloc (.cells #[.slice none 0 0, .slice none 0 0] 101)) := ⟨_, rfl⟩
  have hb : Below w.heap.size w w0 := by rw [hw]; exact (((Below.refl _ _).alloc (by first | exact Nat.le_refl _ | (simp; done) | (simp; omega)) _).alloc (by first | exact Nat.le_refl _ | (simp; done) | (simp; omega)) _)
  have hs0 : w.heap.size + 2 ≤ w0.heap.size := by rw [hw]; simp
  have pa_0 : w0.cell? ⟨w.heap.size, 0, none⟩ = some (.slice A n c) := by rw [hw]; simp [go_sem]
  have za_0 : w0.cell? ⟨w.heap.size + 1, 0, none⟩ = some (.slice none 0 0) := by rw [hw]; simp [go_sem]
  have zb_0 : w0.cell? ⟨w.heap.size + 1, 1, none⟩ = some (.slice none 0 0) := by rw [hw]; simp [go_sem]
  have HB_0 := Lib.hid hb
  have HW0 : Hid (((w.alloc (.cells #[.slice A n c] 32)).alloc (.cells #[.slice none 0 0, .slice none 0 0] 101)) = w0) := Lib.hid hw.symm
  clear hb hw
  have HF0 : Hid (w0.frozen? ⟨w.heap.size + 1, 0, none⟩ = false ∧ w0.frozen? ⟨w.heap.size + 1, 1, none⟩ = false) := Lib.hid (by rw [← HW0.out]; simp [go_sem])
  cases vt
  · skip
    have HO : Hid (tabN ds ss = false) := Lib.hid (by unfold tabN; rw [hvt]; rfl)
    clear hvt hu
    go_enter Try.func61, Try.ntmps61
    go_wp2_with fail
    rw [HW0.out]
    refine (tableOver_int ds A R n c ss.length k _ ((HRa.out.below HB_0.out).call HB_0.out.size) HVT.out).mono ?_
    rintro e1 w1 ⟨he1, hb⟩
    have hs1 : w0.heap.size ≤ w1.heap.size := hb.size
    replace he1 : e1 = .returned (.tuple #[.agg #[.slice none 0 0, .slice none 0 0], .bool false]) := he1
    subst he1
    have pa_1 := keep1 hb pa_0
    have za_1 := keep1 hb za_0
    have zb_1 := keep1 hb zb_0
    have HB_1 : Hid (Below w.heap.size w w1) := Lib.hid (HB_0.out.trans (hb.mono HB_0.out.size))
    have ZF := Lib.hid (And.intro ((hb.frozen (p := ⟨w.heap.size + 1, 0, none⟩) hs0).trans HF0.out.1) ((hb.frozen (p := ⟨w.heap.size + 1, 1, none⟩) hs0).trans HF0.out.2))
    clear hb pa_0 za_0 zb_0 HB_0
    obtain ⟨zf, zg⟩ := ZF.out
    have hbz : Below w1.heap.size w1 (w1.alloc (.cells #[.slice none 0 0, .slice none 0 0] 101)) := (Below.refl _ _).alloc (Nat.le_refl _) _
    have la := keep1 hbz za_1
    have lb := keep1 hbz zb_1
    have lf := (hbz.frozen (p := ⟨w.heap.size + 1, 0, none⟩) (by show w.heap.size + 1 < w1.heap.size; omega)).trans zf
    have lg := (hbz.frozen (p := ⟨w.heap.size + 1, 1, none⟩) (by show w.heap.size + 1 < w1.heap.size; omega)).trans zg
    clear hbz
    go_wp2
    refine bodyPost_ret (v := .tuple #[.agg #[.slice none 0 0, .slice none 0 0], .bool false]) (by simp [results, Try.results61, go_sem, la, lb]) rfl ?_
    exact ⟨by rw [HO.out]; rfl, ((HB_1.out.alloc (HB_1.out.size) _).setCell (by simp) _).setCell (by simp) _⟩
  cases u
  · skip
    have HO : Hid (tabN ds ss = true) := Lib.hid (by unfold tabN; rw [hvt, hu]; rfl)
    clear hvt hu
    go_enter Try.func61, Try.ntmps61
    go_wp2_with fail
    rw [HW0.out]
    refine (tableOver_int ds A R n c ss.length k _ ((HRa.out.below HB_0.out).call HB_0.out.size) HVT.out).mono ?_
    rintro e1 w1 ⟨he1, hb⟩
    have hs1 : w0.heap.size ≤ w1.heap.size := hb.size
    replace he1 : e1 = .returned (.tuple #[.agg #[.slice A n c, .slice R ss.length k], .bool true]) := he1
    subst he1
    have pa_1 := keep1 hb pa_0
    have za_1 := keep1 hb za_0
    have zb_1 := keep1 hb zb_0
    have HB_1 : Hid (Below w.heap.size w w1) := Lib.hid (HB_0.out.trans (hb.mono HB_0.out.size))
    have ZF := Lib.hid (And.intro ((hb.frozen (p := ⟨w.heap.size + 1, 0, none⟩) hs0).trans HF0.out.1) ((hb.frozen (p := ⟨w.heap.size + 1, 1, none⟩) hs0).trans HF0.out.2))
    clear hb pa_0 za_0 zb_0 HB_0
    go_wp2_with fail
    obtain ⟨w2, hw⟩ : ∃ W : World, W = (w1.alloc (.cells #[.slice A n c, .slice R ss.length k] 101)) := ⟨_, rfl⟩
    have hb : Below w1.heap.size w1 w2 := by rw [hw]; exact (Below.refl _ _).alloc (Nat.le_refl _) _
    have hs2 : w1.heap.size + 1 ≤ w2.heap.size := by rw [hw]; simp
    have pa_2 := keep1 hb pa_1
    have za_2 := keep1 hb za_1
    have zb_2 := keep1 hb zb_1
    have HB_2 : Hid (Below w.heap.size w w2) := Lib.hid (HB_1.out.trans (hb.mono HB_1.out.size))
    have ta_2 : w2.cell? ⟨w1.heap.size, 0, none⟩ = some (.slice A n c) := by rw [hw]; simp [go_sem]
    have tc_2 : w2.cell? ⟨w1.heap.size, 1, none⟩ = some (.slice R ss.length k) := by rw [hw]; simp [go_sem]
    have lf_pa : (w1.alloc (.cells #[.slice A n c, .slice R ss.length k] 101)).cell? ⟨w.heap.size, 0, none⟩ = some (.slice A n c) := by rw [← hw]; exact pa_2
    have lf_za : (w1.alloc (.cells #[.slice A n c, .slice R ss.length k] 101)).cell? ⟨w.heap.size + 1, 0, none⟩ = some (.slice none 0 0) := by rw [← hw]; exact za_2
    have lf_zb : (w1.alloc (.cells #[.slice A n c, .slice R ss.length k] 101)).cell? ⟨w.heap.size + 1, 1, none⟩ = some (.slice none 0 0) := by rw [← hw]; exact zb_2
    have lf_ta : (w1.alloc (.cells #[.slice A n c, .slice R ss.length k] 101)).cell? ⟨w1.heap.size, 0, none⟩ = some (.slice A n c) := by rw [← hw]; exact ta_2
    have lf_tc : (w1.alloc (.cells #[.slice A n c, .slice R ss.length k] 101)).cell? ⟨w1.heap.size, 1, none⟩ = some (.slice R ss.length k) := by rw [← hw]; exact tc_2
    have HW2 : Hid ((w1.alloc (.cells #[.slice A n c, .slice R ss.length k] 101)) = w2) := Lib.hid hw.symm
    clear hb hw pa_1 za_1 zb_1 HB_1
    have hbz : Below w1.heap.size w1 w2 := by rw [← HW2.out]; exact (Below.refl _ _).alloc (Nat.le_refl _) _
    have ZG := Lib.hid (And.intro ((hbz.frozen (p := ⟨w.heap.size + 1, 0, none⟩) (by show w.heap.size + 1 < w1.heap.size; omega)).trans ZF.out.1) ((hbz.frozen (p := ⟨w.heap.size + 1, 1, none⟩) (by show w.heap.size + 1 < w1.heap.size; omega)).trans ZF.out.2))
    have hsz2 := hbz.size
    clear hbz
    go_wp2_with fail
    rw [HW2.out]
    clear lf_pa lf_za lf_zb lf_ta lf_tc
    refine (anyBey_v ss _ _ _ _ ((HSI.out.below HB_2.out).call HB_2.out.size) HU.out).mono ?_
    rintro e w3 ⟨rfl, hb⟩
    have hs3 : w2.heap.size ≤ w3.heap.size := hb.size
    have pa_3 := keep1 hb pa_2
    have za_3 := keep1 hb za_2
    have zb_3 := keep1 hb zb_2
    have ta_3 := keep1 hb ta_2
    have tc_3 := keep1 hb tc_2
    have HB_3 : Hid (Below w.heap.size w w3) := Lib.hid (HB_2.out.trans (hb.mono HB_2.out.size))
    have ZH := Lib.hid (And.intro ((hb.frozen (p := ⟨w.heap.size + 1, 0, none⟩) (by show w.heap.size + 1 < w2.heap.size; omega)).trans ZG.out.1) ((hb.frozen (p := ⟨w.heap.size + 1, 1, none⟩) (by show w.heap.size + 1 < w2.heap.size; omega)).trans ZG.out.2))
    clear hb  pa_2 za_2 zb_2 ta_2 tc_2 HB_2
    obtain ⟨zf, zg⟩ := ZH.out
    have hne : ¬ (w.heap.size + 1 = w1.heap.size) := by omega
    go_wp2
    refine bodyPost_ret (v := .tuple #[.agg #[.slice A n c, .slice R ss.length k], .bool true]) (by simp [results, Try.results61, go_sem, za_3, zb_3]) rfl ?_
    exact ⟨by rw [HO.out]; rfl, (HB_3.out.setCell (by simp) _).setCell (by simp) _⟩
  have HO : Hid (tabN ds ss = false) := Lib.hid (by unfold tabN; rw [hu, Bool.not_true, Bool.and_false])
  clear hvt hu
  go_enter Try.func61, Try.ntmps61
  go_wp2_with fail
  rw [HW0.out]
  refine (tableOver_int ds A R n c ss.length k _ ((HRa.out.below HB_0.out).call HB_0.out.size) HVT.out).mono ?_
  rintro e1 w1 ⟨he1, hb⟩
  have hs1 : w0.heap.size ≤ w1.heap.size := hb.size
  replace he1 : e1 = .returned (.tuple #[.agg #[.slice A n c, .slice R ss.length k], .bool true]) := he1
  subst he1
  have pa_1 := keep1 hb pa_0
  have za_1 := keep1 hb za_0
  have zb_1 := keep1 hb zb_0
  have HB_1 : Hid (Below w.heap.size w w1) := Lib.hid (HB_0.out.trans (hb.mono HB_0.out.size))
  have ZF := Lib.hid (And.intro ((hb.frozen (p := ⟨w.heap.size + 1, 0, none⟩) hs0).trans HF0.out.1) ((hb.frozen (p := ⟨w.heap.size + 1, 1, none⟩) hs0).trans HF0.out.2))
  clear hb pa_0 za_0 zb_0 HB_0
  go_wp2_with fail
  obtain ⟨w2, hw⟩ : ∃ W : World, W = (w1.alloc (.cells #[.slice A n c, .slice R ss.length k] 101)) := ⟨_, rfl⟩
  have hb : Below w1.heap.size w1 w2 := by rw [hw]; exact (Below.refl _ _).alloc (Nat.le_refl _) _
  have hs2 : w1.heap.size + 1 ≤ w2.heap.size := by rw [hw]; simp
  have pa_2 := keep1 hb pa_1
  have za_2 := keep1 hb za_1
  have zb_2 := keep1 hb zb_1
  have HB_2 : Hid (Below w.heap.size w w2) := Lib.hid (HB_1.out.trans (hb.mono HB_1.out.size))
  have ta_2 : w2.cell? ⟨w1.heap.size, 0, none⟩ = some (.slice A n c) := by rw [hw]; simp [go_sem]
  have tc_2 : w2.cell? ⟨w1.heap.size, 1, none⟩ = some (.slice R ss.length k) := by rw [hw]; simp [go_sem]
  have lf_pa : (w1.alloc (.cells #[.slice A n c, .slice R ss.length k] 101)).cell? ⟨w.heap.size, 0, none⟩ = some (.slice A n c) := by rw [← hw]; exact pa_2
  have lf_za : (w1.alloc (.cells #[.slice A n c, .slice R ss.length k] 101)).cell? ⟨w.heap.size + 1, 0, none⟩ = some (.slice none 0 0) := by rw [← hw]; exact za_2
  have lf_zb : (w1.alloc (.cells #[.slice A n c, .slice R ss.length k] 101)).cell? ⟨w.heap.size + 1, 1, none⟩ = some (.slice none 0 0) := by rw [← hw]; exact zb_2
  have lf_ta : (w1.alloc (.cells #[.slice A n c, .slice R ss.length k] 101)).cell? ⟨w1.heap.size, 0, none⟩ = some (.slice A n c) := by rw [← hw]; exact ta_2
  have lf_tc : (w1.alloc (.cells #[.slice A n c, .slice R ss.length k] 101)).cell? ⟨w1.heap.size, 1, none⟩ = some (.slice R ss.length k) := by rw [← hw]; exact tc_2
  have HW2 : Hid ((w1.alloc (.cells #[.slice A n c, .slice R ss.length k] 101)) = w2) := Lib.hid hw.symm
  clear hb hw pa_1 za_1 zb_1 HB_1
  have hbz : Below w1.heap.size w1 w2 := by rw [← HW2.out]; exact (Below.refl _ _).alloc (Nat.le_refl _) _
  have ZG := Lib.hid (And.intro ((hbz.frozen (p := ⟨w.heap.size + 1, 0, none⟩) (by show w.heap.size + 1 < w1.heap.size; omega)).trans ZF.out.1) ((hbz.frozen (p := ⟨w.heap.size + 1, 1, none⟩) (by show w.heap.size + 1 < w1.heap.size; omega)).trans ZF.out.2))
  have hsz2 := hbz.size
  clear hbz
  go_wp2_with fail
  rw [HW2.out]
  clear lf_pa lf_za lf_zb lf_ta lf_tc
  refine (anyBey_v ss _ _ _ _ ((HSI.out.below HB_2.out).call HB_2.out.size) HU.out).mono ?_
  rintro e w3 ⟨rfl, hb⟩
  have hs3 : w2.heap.size ≤ w3.heap.size := hb.size
  have pa_3 := keep1 hb pa_2
  have za_3 := keep1 hb za_2
  have zb_3 := keep1 hb zb_2
  have ta_3 := keep1 hb ta_2
  have tc_3 := keep1 hb tc_2
  have HB_3 : Hid (Below w.heap.size w w3) := Lib.hid (HB_2.out.trans (hb.mono HB_2.out.size))
  have ZH := Lib.hid (And.intro ((hb.frozen (p := ⟨w.heap.size + 1, 0, none⟩) (by show w.heap.size + 1 < w2.heap.size; omega)).trans ZG.out.1) ((hb.frozen (p := ⟨w.heap.size + 1, 1, none⟩) (by show w.heap.size + 1 < w2.heap.size; omega)).trans ZG.out.2))
  clear hb  pa_2 za_2 zb_2 ta_2 tc_2 HB_2
  obtain ⟨zf, zg⟩ := ZH.out
  go_wp2
  refine bodyPost_ret (v := .tuple #[.agg #[.slice none 0 0, .slice none 0 0], .bool false]) (by simp [results, Try.results61, go_sem, za_3, zb_3]) rfl ?_
  exact ⟨by rw [HO.out]; rfl, (HB_3.out.setCell (by simp) _).setCell (by simp) _⟩
end Go.Proofs.Ytpmanbmhbfnefaa
