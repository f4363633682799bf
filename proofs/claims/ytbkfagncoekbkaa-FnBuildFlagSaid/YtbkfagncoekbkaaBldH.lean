import Derived.Test.YtbkfagncoekbkaaBldF
namespace Go.Proofs.Ytbkfagncoekbkaa
open Go.RowKit Go.Maps
set_option linter.unusedVariables false
set_option maxRecDepth 100000

set_option maxHeartbeats 4000000 in
theorem implBuildF_any (ts : List It) (b : Int) (A : Option Addr) (c n : Nat) (w : World) (hr : ST w w.heap.size A n c ts) :
    Calls Try.prog 20 #[.slice A n c, .int .i64 b] w (BldFP ts b w) := by
  have HR := Lib.hid hr
  have HL := Lib.hid hr.len
  have hl := hr.max
  have hl2 := hr.cap
  have hlen := hr.len
  unfold maxLen at hl
  clear hr
  have HC1 : Hid (C2 (w.alloc (.cells #[.slice none 0 0, .int .i64 0] 25)) w.heap.size (.slice none 0 0) (.int .i64 0)) := Lib.hid (c2New _ _ _ _)
  have HB1 : Hid (Below w.heap.size w (w.alloc (.cells #[.slice none 0 0, .int .i64 0] 25))) := Lib.hid ((Below.refl _ _).alloc (Nat.le_refl _) _)
  by_cases h12 : 12 < (n : Int)
  · have HNO : Hid (builtF ts b = false) := Lib.hid (builtF_not (.inr (by omega)))
    clear hlen
    obtain ⟨x0, x1, y0, y1⟩ := HC1.out
    go_enter Try.func20, Try.ntmps20
    go_wp2
    refine bodyPost_ret (v := .tuple #[.agg #[.slice none 0 0, .int .i64 0], .bool false]) (by simp [results, Try.results20, go_sem, x0, x1]) rfl (bldFP_no HNO.out (by first | exact HB1.out | exact (HB1.out.setCell (Nat.le_refl _) _).setCell (Nat.le_refl _) _))
  have hv12 : ts.length ≤ 12 := by omega
  have HZ1 : Hid (w.heap.size + 1 ≤ (w.alloc (.cells #[.slice none 0 0, .int .i64 0] 25)).heap.size) := Lib.hid (by simp)
  clear hlen
  go_enter Try.func20, Try.ntmps20
  go_wp2_with fail
  generalize (w.alloc (.cells #[.slice none 0 0, .int .i64 0] 25)) = w1 at *
  go_loopw [6, 16] (fun v i wr => ∃ (k : Nat) (es : List D), k ≤ ts.length ∧ i = .int .i64 k ∧ Hid (onceTo ts k) ∧ Hid (KeepB w wr (w.heap.size + 1) ts k es v) ∧ Hid (C2 wr w.heap.size (.slice none 0 0) (.int .i64 0)) ∧ Hid (w.heap.size + 1 ≤ wr.heap.size)) (fun _ i _ => ts.length - (intOf i).toNat)
  case atStart => exact ⟨0, [], Nat.zero_le _, rfl, Lib.hid (onceTo_zero _), Lib.hid ⟨rfl, by simp, invB_zero ts, World.ownsRow_nil _ _ _ _, HB1.out⟩, HC1, HZ1⟩
  case round =>
    clear HC1 HB1 HZ1
    obtain ⟨k, es, hk, rfl, hon, HK, HC, hzr⟩ := hrel
    have hnl := HL.out
    have hzr0 := hzr.out
    by_cases hlt : k < ts.length
    · obtain ⟨bb, o, rfl, hbb, d1, d2, d3⟩ := (HR.out.below HK.out.bel).at_ hlt
      have HOKT := Lib.hid (HR.out.ok _ (List.getElem_mem hlt))
      have hi1 : (k : Int) < (n : Int) := by omega
      have hi0 : (0 : Int) ≤ (k : Int) := by omega
      have HNM : Hid (∀ v : Int, (ts[k].auto = false → v = ts[k].val) → (ts[k].auto = true → rngT ts k → v = ((mNb es : Nat) : Int)) → InvB ts (k + 1) (es ++ [⟨ts[k].name, v⟩])) := Lib.hid fun v h1 h2 => invB_succ HK.out.inv HK.out.len hlt h1 h2
      have HTO : Hid ((ts[k].auto && ts[k].val != 0) = false → onceTo ts (k + 1)) := Lib.hid fun h => onceTo_succ hon.out hlt h
      have HTW : Hid ((ts[k].auto && ts[k].val != 0) = true → builtF ts b = false) := Lib.hid fun h => builtF_not (.inl ⟨k, hlt, h⟩)
      obtain ⟨nm, hnm⟩ : ∃ nm, ts[k].name = nm := ⟨_, rfl⟩
      obtain ⟨au, hau⟩ : ∃ au, ts[k].auto = au := ⟨_, rfl⟩
      obtain ⟨vl, hvl⟩ : ∃ vl, ts[k].val = vl := ⟨_, rfl⟩
      have hok1 := HOKT.out.1
      have hok2 := HOKT.out.2
      rw [hnm] at d1 HNM hok1
      rw [hau] at d2 HNM HTO HTW
      rw [hvl] at d3 HNM HTO HTW hok2
      clear hnm hau hvl HOKT
      obtain ⟨A', c', hform⟩ := own_form HK.out.own
      subst hform
      have bV : Below wr.heap.size wr (wr.alloc (.cells #[.string nm, .bool au, .int .i64 vl] 39)) := (Below.refl _ _).alloc (Nat.le_refl _) _
      have a0 : (wr.alloc (.cells #[.string nm, .bool au, .int .i64 vl] 39)).cell? ⟨wr.heap.size, 0, none⟩ = some (.string nm) := by simp [go_sem]
      have a2 : (wr.alloc (.cells #[.string nm, .bool au, .int .i64 vl] 39)).cell? ⟨wr.heap.size, 2, none⟩ = some (.int .i64 vl) := by simp [go_sem]
      have bW : Below wr.heap.size wr ((wr.alloc (.cells #[.string nm, .bool au, .int .i64 vl] 39)).alloc (.cells #[.string nm, .int .i64 vl] 37)) := bV.alloc (by simp) _
      have i0 : ((wr.alloc (.cells #[.string nm, .bool au, .int .i64 vl] 39)).alloc (.cells #[.string nm, .int .i64 vl] 37)).cell? ⟨wr.heap.size, 0, none⟩ = some (.string nm) := by simp [go_sem]
      have i1 : ((wr.alloc (.cells #[.string nm, .bool au, .int .i64 vl] 39)).alloc (.cells #[.string nm, .int .i64 vl] 37)).cell? ⟨wr.heap.size, 1, none⟩ = some (.bool au) := by simp [go_sem]
      have i2 : ((wr.alloc (.cells #[.string nm, .bool au, .int .i64 vl] 39)).alloc (.cells #[.string nm, .int .i64 vl] 37)).cell? ⟨wr.heap.size, 2, none⟩ = some (.int .i64 vl) := by simp [go_sem]
      have HJ : Hid (C2 ((wr.alloc (.cells #[.string nm, .bool au, .int .i64 vl] 39)).alloc (.cells #[.string nm, .int .i64 vl] 37)) (wr.heap.size + 1) (.string nm) (.int .i64 vl)) := Lib.hid (c2New' _ _ _ _ _)
      have HCW := Lib.hid (HC.out.below bW)
      have HOW := Lib.hid (own_below HK.out.own bW)
      have HBW : Hid (Below w.heap.size w ((wr.alloc (.cells #[.string nm, .bool au, .int .i64 vl] 39)).alloc (.cells #[.string nm, .int .i64 vl] 37))) := Lib.hid (HK.out.bel.trans (bW.mono HK.out.bel.size))
      have hzW : wr.heap.size + 2 ≤ ((wr.alloc (.cells #[.string nm, .bool au, .int .i64 vl] 39)).alloc (.cells #[.string nm, .int .i64 vl] 37)).heap.size := by simp
      have HEL := Lib.hid HK.out.len
      have HEO := Lib.hid HK.out.ok
      have HEI := Lib.hid HK.out.inv.2
      have NEO : Hid (∀ q, (Value.slice A' k c').ownBlock = some q → q < wr.heap.size) := Lib.hid (fun q hq => (HK.out.own.lt q hq).2)
      obtain ⟨q, hq⟩ : ∃ q, toldOf au vl = q := ⟨_, rfl⟩
      have HQ := Lib.hid hq
      clear bV bW hon HK HC hzr
      go_wp2_with fail
      generalize ((wr.alloc (.cells #[.string nm, .bool au, .int .i64 vl] 39)).alloc (.cells #[.string nm, .int .i64 vl] 37)) = W at *
      generalize wr.heap.size = D at *
      refine (howTold_any nm au vl _ (q := q) HQ.out).mono ?_
      rintro e w3 ⟨rfl, hb⟩
      have HJ3 := Lib.hid (HJ.out.below hb)
      have HC3 := Lib.hid (HCW.out.below hb)
      have HO3 := Lib.hid (own_below HOW.out hb)
      have HB3 : Hid (Below w.heap.size w w3) := Lib.hid (HBW.out.trans (hb.mono HBW.out.size))
      have hz3 : D + 2 ≤ w3.heap.size := by have := hb.size; omega
      clear hb HJ HCW HOW HBW a0 a2 i0 i1 i2 hzW d1 d2 d3
      obtain ⟨x0, x1, y0, y1⟩ := HC3.out
      obtain ⟨j0, j1, f0, f1⟩ := HJ3.out
      cases au
      · obtain rfl : q = 0 := by rw [← hq]; rfl
        clear hq
        go_wp2_with (
          at_builtin
          refine wpList_app_Df rfl _ _ rfl (w.heap.size + 1) _ _ _ rfl HO3.out _ _ _ _ rfl (by first | rfl | simp) (by omega) (by omega) ?_
          intro v' w5 ho hb
          have HO5 := Lib.hid ho
          have HB5 : Hid (Below w.heap.size w w5) := Lib.hid (HB3.out.trans (hb.mono (by omega)))
          have HC5 := Lib.hid (HC3.out.low hb (Nat.lt_succ_self _))
          have HZ5 : Hid (w.heap.size + 1 ≤ w5.heap.size) := Lib.hid (by have := hb.size; omega)
          clear ho hb)
        go_roundw
        case rel => exact ⟨k + 1, es ++ [⟨nm, vl⟩], by omega, by go_num, Lib.hid (HTO.out rfl), Lib.hid ⟨by rw [List.length_append, HEL.out]; rfl, by intro d hd; rcases List.mem_append.1 hd with hd | hd; exact HEO.out d hd; simp at hd; subst hd; exact ⟨hok1, hok2⟩, HNM.out vl (fun _ => rfl) (fun h => by cases h), by have := HO5.out; simpa [flat, encD] using this, HB5.out⟩, HC5, HZ5⟩
        case measure => simp [intOf]; omega
      cases hz : (vl == 0)
      · obtain rfl : q = 2 := by rw [← hq]; unfold toldOf; rw [hz]; rfl
        have HNO := Lib.hid (HTW.out (by rw [Bool.true_and]; unfold bne; rw [hz]; rfl))
        clear hq hz
        go_wp2
        refine bodyPost_ret (v := .tuple #[.agg #[.slice none 0 0, .int .i64 0], .bool false]) (by simp [results, Try.results20, go_sem, x0, x1]) rfl (bldFP_no HNO.out ((HB3.out.setCell (Nat.le_refl _) _).setCell (Nat.le_refl _) _))
      · obtain rfl : q = 1 := by rw [← hq]; unfold toldOf; rw [hz]; rfl
        have HON := Lib.hid (HTO.out (by rw [Bool.true_and]; unfold bne; rw [hz]; rfl))
        have HSD : Hid (SD w3 w3.heap.size A' k c' es) := Lib.hid (sd_of_own HO3.out HEO.out)
        clear hq hz
        go_wp2_with fail
        refine (implNb_u es _ _ _ _ HSD.out).mono ?_
        rintro e w4 ⟨r, rfl, hr1, hr2, hb⟩
        have HR2 := Lib.hid hr2
        have HJ4 := Lib.hid (HJ3.out.below hb)
        have HC4 := Lib.hid (HC3.out.below hb)
        have HO4 := Lib.hid (own_below HO3.out hb)
        have HB4 : Hid (Below w.heap.size w w4) := Lib.hid (HB3.out.trans (hb.mono HB3.out.size))
        have hz4 : D + 2 ≤ w4.heap.size := by have := hb.size; omega
        have HJV := Lib.hid (HJ4.out.set1 (.int .i64 r))
        have HCV := Lib.hid (HC4.out.setO (p := ⟨D + 1, 1, none⟩) (by simp only; omega) (.int .i64 r))
        have HOV := Lib.hid (own_setCell HO4.out (p := ⟨D + 1, 1, none⟩) (fun e => by have := NEO.out _ e; simp only at this; omega) (.int .i64 r))
        have HBV : Hid (Below w.heap.size w (w4.setCell ⟨D + 1, 1, none⟩ (.int .i64 r))) := Lib.hid (HB4.out.setCell (by simp only; omega) _)
        have hzV : D + 2 ≤ (w4.setCell ⟨D + 1, 1, none⟩ (.int .i64 r)).heap.size := by rw [World.size_setCell]; exact hz4
        clear hb hr2 HJ3 HC3 HO3 HB3 j0 j1 f0 f1 x0 x1 y0 y1 HSD
        obtain ⟨j0, j1, f0, f1⟩ := HJ4.out
        obtain ⟨l0, l1, g0, g1⟩ := HJV.out
        go_wp2_with (
          at_builtin
          refine wpList_app_Df rfl _ _ rfl (w.heap.size + 1) _ _ _ rfl HOV.out _ _ _ _ rfl (by first | rfl | simp) (by omega) (by omega) ?_
          intro v' w5 ho hb
          have HO5 := Lib.hid ho
          have HB5 : Hid (Below w.heap.size w w5) := Lib.hid (HBV.out.trans (hb.mono (by omega)))
          have HC5 := Lib.hid (HCV.out.low hb (Nat.lt_succ_self _))
          have HZ5 : Hid (w.heap.size + 1 ≤ w5.heap.size) := Lib.hid (by have := hb.size; omega)
          clear ho hb)
        go_roundw
        case rel => exact ⟨k + 1, es ++ [⟨nm, r⟩], by omega, by go_num, HON, Lib.hid ⟨by rw [List.length_append, HEL.out]; rfl, by intro d hd; rcases List.mem_append.1 hd with hd | hd; exact HEO.out d hd; simp at hd; subst hd; exact ⟨hok1, hr1⟩, HNM.out r (fun h => by cases h) (fun _ hrk => HR2.out (by rw [HEI.out hrk]; exact bldF_small k (by omega) (by omega) hrk)), by have := HO5.out; simpa [flat, encD] using this, HB5.out⟩, HC5, HZ5⟩
        case measure => simp [intOf]; omega
    · obtain rfl : k = ts.length := by omega
      obtain ⟨A', c', hform⟩ := own_form HK.out.own
      subst hform
      have HSD : Hid (SD wr wr.heap.size A' ts.length c' es) := Lib.hid (sd_of_own HK.out.own HK.out.ok)
      have HE := Lib.hid (builtF_end (b := b) HK.out.len HK.out.inv hon.out hv12)
      have hi1 : ¬ ((ts.length : Int) < (n : Int)) := by omega
      obtain ⟨u, hve⟩ : ∃ u, vFlag es b = u := ⟨_, rfl⟩
      have HVE := Lib.hid hve
      have HBU : Hid (builtF ts b = u) := Lib.hid (by rw [HE.out.1, hve])
      clear hve hnl
      cases u
      · have HNO := HBU
        go_wp2_with fail
        refine (checkedFlag_v es b _ _ _ _ HSD.out (by omega) HVE.out (A' := none) (n' := 0) (c' := 0) (b' := 0) ⟨rfl, rfl, rfl, rfl⟩).mono ?_
        rintro e w4 ⟨rfl, hb⟩
        have HB4 : Hid (Below w.heap.size w w4) := Lib.hid (HK.out.bel.trans (hb.mono HK.out.bel.size))
        obtain ⟨x0, x1, y0, y1⟩ := HC.out.below hb
        clear hb
        go_wp2
        refine bodyPost_ret (v := .tuple #[.agg #[.slice none 0 0, .int .i64 0], .bool false]) (by simp [results, Try.results20, go_sem, x0, x1]) rfl (bldFP_no HNO.out ((HB4.out.setCell (Nat.le_refl _) _).setCell (Nat.le_refl _) _))
      · have HES : Hid (es = bldF ts ts.length) := Lib.hid (HE.out.2 HVE.out)
        have HEL := Lib.hid HK.out.len
        go_wp2_with fail
        refine (checkedFlag_v es b _ _ _ _ HSD.out (by omega) HVE.out (A' := A') (n' := ts.length) (c' := c') (b' := b) ⟨rfl, rfl, rfl, rfl⟩).mono ?_
        rintro e w4 ⟨rfl, hb⟩
        have HB4 : Hid (Below w.heap.size w w4) := Lib.hid (HK.out.bel.trans (hb.mono HK.out.bel.size))
        have HO4 := Lib.hid (own_below HK.out.own hb)
        obtain ⟨x0, x1, y0, y1⟩ := HC.out.below hb
        clear hb
        go_wp2
        refine bodyPost_ret (v := .tuple #[.agg #[.slice A' ts.length c', .int .i64 b], .bool true]) (by simp [results, Try.results20, go_sem, x0, x1]) rfl (bldFP_yes HBU.out HES.out HEL.out (own_setCell (own_setCell (own_base HO4.out (by omega)) (fun e => by have := (HO4.out.lt _ e).1; simp at this; omega) _) (fun e => by have := (HO4.out.lt _ e).1; simp at this; omega) _) ((HB4.out.setCell (Nat.le_refl _) _).setCell (Nat.le_refl _) _))
end Go.Proofs.Ytbkfagncoekbkaa
