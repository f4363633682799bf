import Derived.Test.YtpmanbmhbfnefaaConvP
import Derived.Test.YtpmanbmhbfnefaaBaseB
import Derived.Test.YtpmanbmhbfnefaaBaseC
namespace Go.Proofs.Ytpmanbmhbfnefaa
open Go.RowKit Go.Maps
set_option linter.unusedVariables false
set_option maxRecDepth 100000


/-- There is a table of q rows. -/
def tabOk (ds : List D) (q : Nat) : Bool := vEnum ds && decide (q = (mMembers ds).length)
/-- A table, or none. -/
def tabV (v : Bool) (A : Option Addr) (n c : Nat) (R : Option Addr) (q k : Nat) : Value := if v then .agg #[.slice A n c, .slice R q k] else .agg #[.slice none 0 0, .slice none 0 0]

set_option maxHeartbeats 4000000 in
theorem tableOver_string (ds : List D) (A R : Option Addr) (n c q k : Nat) (w : World) (ha : SD w w.heap.size A n c ds) {v : Bool} (h1 : tabOk ds q = v) :
    Calls Try.prog 88 #[.agg #[.slice A n c], .slice R q k] w (fun en w' => en = .returned (.tuple #[tabV v A n c R q k, .bool v]) ∧ Below w.heap.size w w') := by
  subst h1
  have HRa := Lib.hid ha
  have HOA := Lib.hid ha.ok
  have HLA := Lib.hid ha.len
  clear ha
  have HOK : Hid (∀ s ∈ mMembers ds, s.size ≤ maxLen) := Lib.hid (mMembers_ok HOA.out)
  obtain ⟨va, hva⟩ : ∃ v, vEnum ds = v := ⟨_, rfl⟩
  have HVA := Lib.hid hva
  obtain ⟨ns, hns⟩ : ∃ l, mMembers ds = l := ⟨_, rfl⟩
  have HMI : Hid (∀ (A : Option Addr) (n c : Nat) (w : World), SD w w.heap.size A n c ds → Calls Try.prog 23 #[.agg #[.slice A n c]] w (StrsP ns w)) := Lib.hid (by rw [← hns]; exact fun A n c w h => implMembersOf_any ds _ _ _ _ h)
  have HNS := Lib.hid hns
  have HL12 : Hid (ns.length ≤ 12) := Lib.hid (by rw [← hns]; exact mMembers_len ds)
  clear hns
  obtain ⟨w0, hw⟩ : ∃ W : World, W = ((w.alloc (.cells #[.slice A n c] 32)).alloc (.cells #[.slice none 0 0, .slice none 0 0] 84)) := ⟨_, rfl⟩
  have hb : Below w.heap.size w w0 := by rw [hw]; exact (((Below.refl _ _).alloc (by first | exact Nat.le_refl _ | (simp; done) | (simp; omega)) _).alloc (by first | exact Nat.le_refl _ | (simp; done) | (simp; omega)) _)
  have hs0 : w.heap.size + 2 ≤ w0.heap.size := by rw [hw]; simp
  have pa_0 : w0.cell? ⟨w.heap.size, 0, none⟩ = some (.slice A n c) := by rw [hw]; simp [go_sem]
  have za_0 : w0.cell? ⟨w.heap.size + 1, 0, none⟩ = some (.slice none 0 0) := by rw [hw]; simp [go_sem]
  have zb_0 : w0.cell? ⟨w.heap.size + 1, 1, none⟩ = some (.slice none 0 0) := by rw [hw]; simp [go_sem]
  have HB_0 := Lib.hid hb
  have HW0 : Hid (((w.alloc (.cells #[.slice A n c] 32)).alloc (.cells #[.slice none 0 0, .slice none 0 0] 84)) = w0) := Lib.hid hw.symm
  clear hb hw
  have zf : w0.frozen? ⟨w.heap.size + 1, 0, none⟩ = false := by rw [← HW0.out]; simp [go_sem]
  have zg : w0.frozen? ⟨w.heap.size + 1, 1, none⟩ = false := by rw [← HW0.out]; simp [go_sem]
  have ZF := Lib.hid (And.intro zf zg)
  clear zf zg
  cases va
  · clear hva
    have HO : Hid (tabOk ds q = false) := Lib.hid (by unfold tabOk; rw [HVA.out]; rfl)
    go_enter Try.func88, Try.ntmps88
    go_wp2_with fail
    rw [HW0.out]
    refine (implVE_v ds _ _ _ _ ((HRa.out.below HB_0.out).call HB_0.out.size) HVA.out).mono ?_
    rintro e w1 ⟨rfl, hb⟩
    have hs1 : w0.heap.size ≤ w1.heap.size := hb.size
    have pa_1 := keep1 hb pa_0
    have za_1 := keep1 hb za_0
    have zb_1 := keep1 hb zb_0
    have HB_1 : Hid (Below w.heap.size w w1) := Lib.hid (HB_0.out.trans (hb.mono HB_0.out.size))
    have ZB := Lib.hid hb
    clear hb  pa_0 za_0 zb_0 HB_0
    have zf := ((ZB.out).frozen (p := ⟨w.heap.size + 1, 0, none⟩) hs0).trans ZF.out.1
    have zg := ((ZB.out).frozen (p := ⟨w.heap.size + 1, 1, none⟩) hs0).trans ZF.out.2
    go_wp2
    refine bodyPost_ret (v := .tuple #[.agg #[.slice none 0 0, .slice none 0 0], .bool false]) (by simp [results, Try.results88, go_sem, za_1, zb_1]) rfl ?_
    exact ⟨by rw [HO.out]; rfl, (HB_1.out.setCell (by simp) _).setCell (by simp) _⟩
  by_cases hq : q = ns.length
  · clear hva
    have HO : Hid (tabOk ds q = true) := Lib.hid (by unfold tabOk; rw [HVA.out, HNS.out, decide_eq_true hq]; rfl)
    subst hq
    have hl12 := HL12.out
    go_enter Try.func88, Try.ntmps88
    go_wp2_with fail
    rw [HW0.out]
    refine (implVE_v ds _ _ _ _ ((HRa.out.below HB_0.out).call HB_0.out.size) HVA.out).mono ?_
    rintro e w1 ⟨rfl, hb⟩
    have hs1 : w0.heap.size ≤ w1.heap.size := hb.size
    have pa_1 := keep1 hb pa_0
    have za_1 := keep1 hb za_0
    have zb_1 := keep1 hb zb_0
    have HB_1 : Hid (Below w.heap.size w w1) := Lib.hid (HB_0.out.trans (hb.mono HB_0.out.size))
    have ZB := Lib.hid hb
    clear hb  pa_0 za_0 zb_0 HB_0
    go_wp2_with fail
    refine (HMI.out _ _ _ _ ((HRa.out.below HB_1.out).call HB_1.out.size)).mono ?_
    rintro e w2 ⟨A2, c2, rfl, ho, hb⟩
    have hs2 : w1.heap.size ≤ w2.heap.size := hb.size
    have pa_2 := keep1 hb pa_1
    have za_2 := keep1 hb za_1
    have zb_2 := keep1 hb zb_1
    have HB_2 : Hid (Below w.heap.size w w2) := Lib.hid (HB_1.out.trans (hb.mono HB_1.out.size))
    have ZB := Lib.hid (ZB.out.trans (hb.mono ZB.out.size))
    clear ho hb pa_1 za_1 zb_1 HB_1
    have zf := ((ZB.out).frozen (p := ⟨w.heap.size + 1, 0, none⟩) hs0).trans ZF.out.1
    have zg := ((ZB.out).frozen (p := ⟨w.heap.size + 1, 1, none⟩) hs0).trans ZF.out.2
    go_wp2
    refine bodyPost_ret (v := .tuple #[.agg #[.slice A n c, .slice R ns.length k], .bool true]) (by simp [results, Try.results88, go_sem, za_2, zb_2]) rfl ?_
    exact ⟨by rw [HO.out]; rfl, (HB_2.out.setCell (by simp) _).setCell (by simp) _⟩
  · clear hva
    have HO : Hid (tabOk ds q = false) := Lib.hid (by unfold tabOk; rw [HVA.out, HNS.out, decide_eq_false hq]; rfl)
    have hl12 := HL12.out
    have hq2 : ¬ ((q : Int) = (ns.length : Int)) := by omega
    go_enter Try.func88, Try.ntmps88
    go_wp2_with fail
    rw [HW0.out]
    refine (implVE_v ds _ _ _ _ ((HRa.out.below HB_0.out).call HB_0.out.size) HVA.out).mono ?_
    rintro e w1 ⟨rfl, hb⟩
    have hs1 : w0.heap.size ≤ w1.heap.size := hb.size
    have pa_1 := keep1 hb pa_0
    have za_1 := keep1 hb za_0
    have zb_1 := keep1 hb zb_0
    have HB_1 : Hid (Below w.heap.size w w1) := Lib.hid (HB_0.out.trans (hb.mono HB_0.out.size))
    have ZB := Lib.hid hb
    clear hb  pa_0 za_0 zb_0 HB_0
    go_wp2_with fail
    refine (HMI.out _ _ _ _ ((HRa.out.below HB_1.out).call HB_1.out.size)).mono ?_
    rintro e w2 ⟨A2, c2, rfl, ho, hb⟩
    have hs2 : w1.heap.size ≤ w2.heap.size := hb.size
    have pa_2 := keep1 hb pa_1
    have za_2 := keep1 hb za_1
    have zb_2 := keep1 hb zb_1
    have HB_2 : Hid (Below w.heap.size w w2) := Lib.hid (HB_1.out.trans (hb.mono HB_1.out.size))
    have ZB := Lib.hid (ZB.out.trans (hb.mono ZB.out.size))
    clear ho hb pa_1 za_1 zb_1 HB_1
    have zf := ((ZB.out).frozen (p := ⟨w.heap.size + 1, 0, none⟩) hs0).trans ZF.out.1
    have zg := ((ZB.out).frozen (p := ⟨w.heap.size + 1, 1, none⟩) hs0).trans ZF.out.2
    go_wp2
    refine bodyPost_ret (v := .tuple #[.agg #[.slice none 0 0, .slice none 0 0], .bool false]) (by simp [results, Try.results88, go_sem, za_2, zb_2]) rfl ?_
    exact ⟨by rw [HO.out]; rfl, (HB_2.out.setCell (by simp) _).setCell (by simp) _⟩

set_option maxHeartbeats 4000000 in
theorem tableOver_int (ds : List D) (A R : Option Addr) (n c q k : Nat) (w : World) (ha : SD w w.heap.size A n c ds) {v : Bool} (h1 : tabOk ds q = v) :
    Calls Try.prog 94 #[.agg #[.slice A n c], .slice R q k] w (fun en w' => en = .returned (.tuple #[tabV v A n c R q k, .bool v]) ∧ Below w.heap.size w w') := by
  subst h1
  have HRa := Lib.hid ha
  have HOA := Lib.hid ha.ok
  have HLA := Lib.hid ha.len
  clear ha
  have HOK : Hid (∀ s ∈ mMembers ds, s.size ≤ maxLen) := Lib.hid (mMembers_ok HOA.out)
  obtain ⟨va, hva⟩ : ∃ v, vEnum ds = v := ⟨_, rfl⟩
  have HVA := Lib.hid hva
  obtain ⟨ns, hns⟩ : ∃ l, mMembers ds = l := ⟨_, rfl⟩
  have HMI : Hid (∀ (A : Option Addr) (n c : Nat) (w : World), SD w w.heap.size A n c ds → Calls Try.prog 23 #[.agg #[.slice A n c]] w (StrsP ns w)) := Lib.hid (by rw [← hns]; exact fun A n c w h => implMembersOf_any ds _ _ _ _ h)
  have HNS := Lib.hid hns
  have HL12 : Hid (ns.length ≤ 12) := Lib.hid (by rw [← hns]; exact mMembers_len ds)
  clear hns
  obtain ⟨w0, hw⟩ : ∃ W : World, W = ((w.alloc (.cells #[.slice A n c] 32)).alloc (.cells #[.slice none 0 0, .slice none 0 0] 101)) := ⟨_, rfl⟩
  have hb : Below w.heap.size w w0 := by rw [hw]; exact (((Below.refl _ _).alloc (by first | exact Nat.le_refl _ | (simp; done) | (simp; omega)) _).alloc (by first | exact Nat.le_refl _ | (simp; done) | (simp; omega)) _)
  have hs0 : w.heap.size + 2 ≤ w0.heap.size := by rw [hw]; simp
  have pa_0 : w0.cell? ⟨w.heap.size, 0, none⟩ = some (.slice A n c) := by rw [hw]; simp [go_sem]
  have za_0 : w0.cell? ⟨w.heap.size + 1, 0, none⟩ = some (.slice none 0 0) := by rw [hw]; simp [go_sem]
  have zb_0 : w0.cell? ⟨w.heap.size + 1, 1, none⟩ = some (.slice none 0 0) := by rw [hw]; simp [go_sem]
  have HB_0 := Lib.hid hb
  have HW0 : Hid (((w.alloc (.cells #[.slice A n c] 32)).alloc (.cells #[.slice none 0 0, .slice none 0 0] 101)) = w0) := Lib.hid hw.symm
  clear hb hw
  have zf : w0.frozen? ⟨w.heap.size + 1, 0, none⟩ = false := by rw [← HW0.out]; simp [go_sem]
  have zg : w0.frozen? ⟨w.heap.size + 1, 1, none⟩ = false := by rw [← HW0.out]; simp [go_sem]
  have ZF := Lib.hid (And.intro zf zg)
  clear zf zg
  cases va
  · clear hva
    have HO : Hid (tabOk ds q = false) := Lib.hid (by unfold tabOk; rw [HVA.out]; rfl)
    go_enter Try.func94, Try.ntmps94
    go_wp2_with fail
    rw [HW0.out]
    refine (implVE_v ds _ _ _ _ ((HRa.out.below HB_0.out).call HB_0.out.size) HVA.out).mono ?_
    rintro e w1 ⟨rfl, hb⟩
    have hs1 : w0.heap.size ≤ w1.heap.size := hb.size
    have pa_1 := keep1 hb pa_0
    have za_1 := keep1 hb za_0
    have zb_1 := keep1 hb zb_0
    have HB_1 : Hid (Below w.heap.size w w1) := Lib.hid (HB_0.out.trans (hb.mono HB_0.out.size))
    have ZB := Lib.hid hb
    clear hb  pa_0 za_0 zb_0 HB_0
    have zf := ((ZB.out).frozen (p := ⟨w.heap.size + 1, 0, none⟩) hs0).trans ZF.out.1
    have zg := ((ZB.out).frozen (p := ⟨w.heap.size + 1, 1, none⟩) hs0).trans ZF.out.2
    go_wp2
    refine bodyPost_ret (v := .tuple #[.agg #[.slice none 0 0, .slice none 0 0], .bool false]) (by simp [results, Try.results94, go_sem, za_1, zb_1]) rfl ?_
    exact ⟨by rw [HO.out]; rfl, (HB_1.out.setCell (by simp) _).setCell (by simp) _⟩
  by_cases hq : q = ns.length
  · clear hva
    have HO : Hid (tabOk ds q = true) := Lib.hid (by unfold tabOk; rw [HVA.out, HNS.out, decide_eq_true hq]; rfl)
    subst hq
    have hl12 := HL12.out
    go_enter Try.func94, Try.ntmps94
    go_wp2_with fail
    rw [HW0.out]
    refine (implVE_v ds _ _ _ _ ((HRa.out.below HB_0.out).call HB_0.out.size) HVA.out).mono ?_
    rintro e w1 ⟨rfl, hb⟩
    have hs1 : w0.heap.size ≤ w1.heap.size := hb.size
    have pa_1 := keep1 hb pa_0
    have za_1 := keep1 hb za_0
    have zb_1 := keep1 hb zb_0
    have HB_1 : Hid (Below w.heap.size w w1) := Lib.hid (HB_0.out.trans (hb.mono HB_0.out.size))
    have ZB := Lib.hid hb
    clear hb  pa_0 za_0 zb_0 HB_0
    go_wp2_with fail
    refine (HMI.out _ _ _ _ ((HRa.out.below HB_1.out).call HB_1.out.size)).mono ?_
    rintro e w2 ⟨A2, c2, rfl, ho, hb⟩
    have hs2 : w1.heap.size ≤ w2.heap.size := hb.size
    have pa_2 := keep1 hb pa_1
    have za_2 := keep1 hb za_1
    have zb_2 := keep1 hb zb_1
    have HB_2 : Hid (Below w.heap.size w w2) := Lib.hid (HB_1.out.trans (hb.mono HB_1.out.size))
    have ZB := Lib.hid (ZB.out.trans (hb.mono ZB.out.size))
    clear ho hb pa_1 za_1 zb_1 HB_1
    have zf := ((ZB.out).frozen (p := ⟨w.heap.size + 1, 0, none⟩) hs0).trans ZF.out.1
    have zg := ((ZB.out).frozen (p := ⟨w.heap.size + 1, 1, none⟩) hs0).trans ZF.out.2
    go_wp2
    refine bodyPost_ret (v := .tuple #[.agg #[.slice A n c, .slice R ns.length k], .bool true]) (by simp [results, Try.results94, go_sem, za_2, zb_2]) rfl ?_
    exact ⟨by rw [HO.out]; rfl, (HB_2.out.setCell (by simp) _).setCell (by simp) _⟩
  · clear hva
    have HO : Hid (tabOk ds q = false) := Lib.hid (by unfold tabOk; rw [HVA.out, HNS.out, decide_eq_false hq]; rfl)
    have hl12 := HL12.out
    have hq2 : ¬ ((q : Int) = (ns.length : Int)) := by omega
    go_enter Try.func94, Try.ntmps94
    go_wp2_with fail
    rw [HW0.out]
    refine (implVE_v ds _ _ _ _ ((HRa.out.below HB_0.out).call HB_0.out.size) HVA.out).mono ?_
    rintro e w1 ⟨rfl, hb⟩
    have hs1 : w0.heap.size ≤ w1.heap.size := hb.size
    have pa_1 := keep1 hb pa_0
    have za_1 := keep1 hb za_0
    have zb_1 := keep1 hb zb_0
    have HB_1 : Hid (Below w.heap.size w w1) := Lib.hid (HB_0.out.trans (hb.mono HB_0.out.size))
    have ZB := Lib.hid hb
    clear hb  pa_0 za_0 zb_0 HB_0
    go_wp2_with fail
    refine (HMI.out _ _ _ _ ((HRa.out.below HB_1.out).call HB_1.out.size)).mono ?_
    rintro e w2 ⟨A2, c2, rfl, ho, hb⟩
    have hs2 : w1.heap.size ≤ w2.heap.size := hb.size
    have pa_2 := keep1 hb pa_1
    have za_2 := keep1 hb za_1
    have zb_2 := keep1 hb zb_1
    have HB_2 : Hid (Below w.heap.size w w2) := Lib.hid (HB_1.out.trans (hb.mono HB_1.out.size))
    have ZB := Lib.hid (ZB.out.trans (hb.mono ZB.out.size))
    clear ho hb pa_1 za_1 zb_1 HB_1
    have zf := ((ZB.out).frozen (p := ⟨w.heap.size + 1, 0, none⟩) hs0).trans ZF.out.1
    have zg := ((ZB.out).frozen (p := ⟨w.heap.size + 1, 1, none⟩) hs0).trans ZF.out.2
    go_wp2
    refine bodyPost_ret (v := .tuple #[.agg #[.slice none 0 0, .slice none 0 0], .bool false]) (by simp [results, Try.results94, go_sem, za_2, zb_2]) rfl ?_
    exact ⟨by rw [HO.out]; rfl, (HB_2.out.setCell (by simp) _).setCell (by simp) _⟩

set_option maxHeartbeats 4000000 in
theorem ofS_no (ds : List D) (s : ByteArray) (A R : Option Addr) (n c q k : Nat) (w : World) (ha : SD w w.heap.size A n c ds) {v : Bool} {x : Int} (hv : vEnum ds = v) (hx : fidx (isNm s) ds = x) (h : v = false ∨ x < 0) :
    Calls Try.prog 51 #[.agg #[.slice A n c, .slice R q k], .string s] w (fun en w' => en = .returned (.tuple #[.string ⟨#[]⟩, .bool false]) ∧ Below w.heap.size w w') := by
  have HRa := Lib.hid ha
  have HOA := Lib.hid ha.ok
  have HLA := Lib.hid ha.len
  clear ha
  have HV := Lib.hid hv
  have HX := Lib.hid hx
  have HNO := Lib.hid h
  clear hv hx h
  obtain ⟨w0, hw⟩ : ∃ W : World, W = (w.alloc (.cells #[.slice A n c, .slice R q k] 84)) := ⟨_, rfl⟩
  have hb : Below w.heap.size w w0 := by rw [hw]; exact ((Below.refl _ _).alloc (by first | exact Nat.le_refl _ | (simp; done) | (simp; omega)) _)
  have hs0 : w.heap.size + 1 ≤ w0.heap.size := by rw [hw]; simp
  have pa_0 : w0.cell? ⟨w.heap.size, 0, none⟩ = some (.slice A n c) := by rw [hw]; simp [go_sem]
  have pr_0 : w0.cell? ⟨w.heap.size, 1, none⟩ = some (.slice R q k) := by rw [hw]; simp [go_sem]
  have HB_0 := Lib.hid hb
  have HW0 : Hid ((w.alloc (.cells #[.slice A n c, .slice R q k] 84)) = w0) := Lib.hid hw.symm
  clear hb hw
  go_enter Try.func51, Try.ntmps51
  go_wp2_with fail
  rw [HW0.out]
  refine (implRankOf_no ds s _ _ _ _ ((HRa.out.below HB_0.out).call HB_0.out.size) HV.out HX.out HNO.out).mono ?_
  rintro e w1 ⟨rfl, hb⟩
  have hs1 : w0.heap.size ≤ w1.heap.size := hb.size
  have pa_1 := keep1 hb pa_0
  have pr_1 := keep1 hb pr_0
  have HB_1 : Hid (Below w.heap.size w w1) := Lib.hid (HB_0.out.trans (hb.mono HB_0.out.size))
  clear hb  pa_0 pr_0 HB_0
  go_wp2
  go_ret2
  exact ⟨rfl, HB_1.out⟩

set_option maxHeartbeats 4000000 in
theorem ofS_yes (ds : List D) (s : ByteArray) (A R : Option Addr) (n c q k : Nat) (ss : List ByteArray) (w : World) (ha : SD w w.heap.size A n c ds) (hs : SS w w.heap.size R q k ss) (hv : vEnum ds = true) (j : Nat) (hj : j < ds.length) (hx : fidx (isNm s) ds = j) (r : Nat) (hr : r < ss.length) (hrk : fidx (isVal ds[j].val) (mems ds) = (r : Int)) :
    Calls Try.prog 51 #[.agg #[.slice A n c, .slice R q k], .string s] w (fun en w' => en = .returned (.tuple #[.string ss[r], .bool true]) ∧ Below w.heap.size w w') := by
  have HRa := Lib.hid ha
  have HOA := Lib.hid ha.ok
  have HLA := Lib.hid ha.len
  clear ha
  have HV := Lib.hid hv
  have HX := Lib.hid hx
  have HRK := Lib.hid hrk
  have HS := Lib.hid hs
  clear hv hx hrk hs
  obtain ⟨w0, hw⟩ : ∃ W : World, W = (w.alloc (.cells #[.slice A n c, .slice R q k] 84)) := ⟨_, rfl⟩
  have hb : Below w.heap.size w w0 := by rw [hw]; exact ((Below.refl _ _).alloc (by first | exact Nat.le_refl _ | (simp; done) | (simp; omega)) _)
  have hs0 : w.heap.size + 1 ≤ w0.heap.size := by rw [hw]; simp
  have pa_0 : w0.cell? ⟨w.heap.size, 0, none⟩ = some (.slice A n c) := by rw [hw]; simp [go_sem]
  have pr_0 : w0.cell? ⟨w.heap.size, 1, none⟩ = some (.slice R q k) := by rw [hw]; simp [go_sem]
  have HB_0 := Lib.hid hb
  have HW0 : Hid ((w.alloc (.cells #[.slice A n c, .slice R q k] 84)) = w0) := Lib.hid hw.symm
  clear hb hw
  go_enter Try.func51, Try.ntmps51
  go_wp2_with fail
  rw [HW0.out]
  refine (HRK.out ▸ implRankOf_yes ds s _ _ _ _ ((HRa.out.below HB_0.out).call HB_0.out.size) HV.out j hj HX.out).mono ?_
  rintro e w1 ⟨rfl, hb⟩
  have hs1 : w0.heap.size ≤ w1.heap.size := hb.size
  have pa_1 := keep1 hb pa_0
  have pr_1 := keep1 hb pr_0
  have HB_1 : Hid (Below w.heap.size w w1) := Lib.hid (HB_0.out.trans (hb.mono HB_0.out.size))
  clear hb  pa_0 pr_0 HB_0
  obtain ⟨b, o, hA, hbb, d1⟩ := (HS.out.below HB_1.out).at_ hr
  subst hA
  have hlq := HS.out.len
  have hmx := HS.out.max
  have hcp := HS.out.cap
  unfold maxLen at hmx
  have hi1 : (r : Int) < (q : Int) := by omega
  have hi0 : (0 : Int) ≤ (r : Int) := by omega
  go_wp2
  go_ret2
  exact ⟨rfl, HB_1.out⟩

set_option maxHeartbeats 4000000 in
theorem ofI_no (ds : List D) (s : ByteArray) (A R : Option Addr) (n c q k : Nat) (w : World) (ha : SD w w.heap.size A n c ds) {v : Bool} {x : Int} (hv : vEnum ds = v) (hx : fidx (isNm s) ds = x) (h : v = false ∨ x < 0) :
    Calls Try.prog 62 #[.agg #[.slice A n c, .slice R q k], .string s] w (fun en w' => en = .returned (.tuple #[.int .i64 0, .bool false]) ∧ Below w.heap.size w w') := by
  have HRa := Lib.hid ha
  have HOA := Lib.hid ha.ok
  have HLA := Lib.hid ha.len
  clear ha
  have HV := Lib.hid hv
  have HX := Lib.hid hx
  have HNO := Lib.hid h
  clear hv hx h
  obtain ⟨w0, hw⟩ : ∃ W : World, W = (w.alloc (.cells #[.slice A n c, .slice R q k] 101)) := ⟨_, rfl⟩
  have hb : Below w.heap.size w w0 := by rw [hw]; exact ((Below.refl _ _).alloc (by first | exact Nat.le_refl _ | (simp; done) | (simp; omega)) _)
  have hs0 : w.heap.size + 1 ≤ w0.heap.size := by rw [hw]; simp
  have pa_0 : w0.cell? ⟨w.heap.size, 0, none⟩ = some (.slice A n c) := by rw [hw]; simp [go_sem]
  have pr_0 : w0.cell? ⟨w.heap.size, 1, none⟩ = some (.slice R q k) := by rw [hw]; simp [go_sem]
  have HB_0 := Lib.hid hb
  have HW0 : Hid ((w.alloc (.cells #[.slice A n c, .slice R q k] 101)) = w0) := Lib.hid hw.symm
  clear hb hw
  go_enter Try.func62, Try.ntmps62
  go_wp2_with fail
  rw [HW0.out]
  refine (implRankOf_no ds s _ _ _ _ ((HRa.out.below HB_0.out).call HB_0.out.size) HV.out HX.out HNO.out).mono ?_
  rintro e w1 ⟨rfl, hb⟩
  have hs1 : w0.heap.size ≤ w1.heap.size := hb.size
  have pa_1 := keep1 hb pa_0
  have pr_1 := keep1 hb pr_0
  have HB_1 : Hid (Below w.heap.size w w1) := Lib.hid (HB_0.out.trans (hb.mono HB_0.out.size))
  clear hb  pa_0 pr_0 HB_0
  go_wp2
  go_ret2
  exact ⟨rfl, HB_1.out⟩

set_option maxHeartbeats 4000000 in
theorem ofI_yes (ds : List D) (s : ByteArray) (A R : Option Addr) (n c q k : Nat) (ss : List Int) (w : World) (ha : SD w w.heap.size A n c ds) (hs : SI w w.heap.size R q k ss) (hv : vEnum ds = true) (j : Nat) (hj : j < ds.length) (hx : fidx (isNm s) ds = j) (r : Nat) (hr : r < ss.length) (hrk : fidx (isVal ds[j].val) (mems ds) = (r : Int)) :
    Calls Try.prog 62 #[.agg #[.slice A n c, .slice R q k], .string s] w (fun en w' => en = .returned (.tuple #[.int .i64 ss[r], .bool true]) ∧ Below w.heap.size w w') := by
  have HRa := Lib.hid ha
  have HOA := Lib.hid ha.ok
  have HLA := Lib.hid ha.len
  clear ha
  have HV := Lib.hid hv
  have HX := Lib.hid hx
  have HRK := Lib.hid hrk
  have HS := Lib.hid hs
  clear hv hx hrk hs
  obtain ⟨w0, hw⟩ : ∃ W : World, W = (w.alloc (.cells #[.slice A n c, .slice R q k] 101)) := ⟨_, rfl⟩
  have hb : Below w.heap.size w w0 := by rw [hw]; exact ((Below.refl _ _).alloc (by first | exact Nat.le_refl _ | (simp; done) | (simp; omega)) _)
  have hs0 : w.heap.size + 1 ≤ w0.heap.size := by rw [hw]; simp
  have pa_0 : w0.cell? ⟨w.heap.size, 0, none⟩ = some (.slice A n c) := by rw [hw]; simp [go_sem]
  have pr_0 : w0.cell? ⟨w.heap.size, 1, none⟩ = some (.slice R q k) := by rw [hw]; simp [go_sem]
  have HB_0 := Lib.hid hb
  have HW0 : Hid ((w.alloc (.cells #[.slice A n c, .slice R q k] 101)) = w0) := Lib.hid hw.symm
  clear hb hw
  go_enter Try.func62, Try.ntmps62
  go_wp2_with fail
  rw [HW0.out]
  refine (HRK.out ▸ implRankOf_yes ds s _ _ _ _ ((HRa.out.below HB_0.out).call HB_0.out.size) HV.out j hj HX.out).mono ?_
  rintro e w1 ⟨rfl, hb⟩
  have hs1 : w0.heap.size ≤ w1.heap.size := hb.size
  have pa_1 := keep1 hb pa_0
  have pr_1 := keep1 hb pr_0
  have HB_1 : Hid (Below w.heap.size w w1) := Lib.hid (HB_0.out.trans (hb.mono HB_0.out.size))
  clear hb  pa_0 pr_0 HB_0
  obtain ⟨b, o, hA, hbb, d1⟩ := (HS.out.below HB_1.out).at_ hr
  subst hA
  have hlq := HS.out.len
  have hmx := HS.out.max
  have hcp := HS.out.cap
  unfold maxLen at hmx
  have hi1 : (r : Int) < (q : Int) := by omega
  have hi0 : (0 : Int) ≤ (r : Int) := by omega
  go_wp2
  go_ret2
  exact ⟨rfl, HB_1.out⟩
end Go.Proofs.Ytpmanbmhbfnefaa
