import Derived.Shelf.Strings.Builder1
import Derived.Shelf.Strings.Builder2
import Derived.Shelf.Strings.OnBuilder
import Derived.Shelf.Small.Wraps
import Derived.Shelf.Strconv.Atoi
import Derived.Shelf.Strconv.Itoa0
import Derived.Shelf.Strconv.Itoa1
import Derived.Shelf.LaysM
import Derived.Shelf.Strconv.Itoa2
import Derived.Shelf.Strconv.Itoa3
import Derived.Shelf.Strconv.AtoiErrFast
import Derived.Shelf.Strconv.ParseIntEmpty
import Derived.Shelf.Strconv.AtoiFail
import Derived.Shelf.Strconv.Clone
import Derived.Shelf.Strconv.SyntaxError
import Derived.Shelf.LaysC
import Derived.Shelf.Strconv.ToError
import Derived.Shelf.Strconv.Lower
import Derived.Shelf.Strconv.ParseUint10
import Derived.Shelf.Strconv.ParseUint10Empty
import Derived.Shelf.Strconv.ParseUint10Any
import Derived.Shelf.Strconv.ParseInt10
import Derived.Shelf.Strconv.AtoiLong
import Derived.Shelf.Strconv.AtoiInnerAll
import Derived.Shelf.Strconv.RangeError
import Derived.Shelf.Strconv.ToErrorRange
import Derived.Shelf.Strconv.AtoiAll
import Derived.Shelf.Strconv.ErrVarAll
import Derived.Shelf.Strings.Search1
import Derived.Shelf.Strings.Search2
import Derived.Shelf.Strings.Search3
import Derived.Shelf.Strings.Cut
import Derived.Shelf.Strings.Count
import Derived.Shelf.Strings.Prefix
import Derived.Shelf.Strings.Split
import Derived.Shelf.Strings.SplitShaped
import Derived.Test.YtiebdhbioccogaaGreatDoorProg
import Derived.Test.YtiebdhbioccogaaGreatDoorBaseH
import Derived.Test.YtiebdhbioccogaaGreatDoorBaseI
import Derived.Test.YtiebdhbioccogaaGreatDoorBaseY
import Derived.Test.YtiebdhbioccogaaGreatDoorItemsC
import Derived.Test.YtiebdhbioccogaaGreatDoorZapT
import Derived.Test.YtiebdhbioccogaaGreatDoorBaseC
import Derived.Lib.OthersKept
import Derived.WalkSmall
import Derived.Test.YtiebdhbioccogaaGreatDoorBaseX
import Derived.Lib.Slices
namespace Go.Proofs
open Go.Shelf
def Tryz.lays145_ren : Go.Shelf.Ren := ⟨fun | 145 => 51 | 220 => 90 | 219 => 119 | 217 => 140 | 225 => 141 | 224 => 142 | 267 => 143 | 266 => 167 | 314 => 168 | n => n, fun | 9 => 9 | 4 => 4 | 59 => 89 | 3 => 3 | 5 => 5 | 46 => 75 | 146 => 127 | 51 => 126 | n => n, fun | 1 => 1 | n => n⟩
theorem Tryz.lays145 : Go.Proofs.Lays.n145 Tryz.prog Tryz.lays145_ren := {
  mixed := by kernel_rfl
  f145 := Tryz.func51.trans (congrArg some (by kernel_rfl))
  f217 := Tryz.func140.trans (congrArg some (by kernel_rfl))
  f219 := Tryz.func119.trans (congrArg some (by kernel_rfl))
  f220 := Tryz.func90.trans (congrArg some (by kernel_rfl))
  f224 := Tryz.func142.trans (congrArg some (by kernel_rfl))
  f225 := Tryz.func141.trans (congrArg some (by kernel_rfl))
  f266 := Tryz.func167.trans (congrArg some (by kernel_rfl))
  f267 := Tryz.func143.trans (congrArg some (by kernel_rfl))
  f314 := Tryz.func168.trans (congrArg some (by kernel_rfl))
  t3 := Tryz.underlying3
  a3 := Tryz.isAgg3
  z3 := Tryz.sizeOf3
  v3 := Tryz.zeroValue3
  t4 := Tryz.underlying4
  a4 := Tryz.isAgg4
  z4 := Tryz.sizeOf4
  v4 := Tryz.zeroValue4
  t5 := Tryz.underlying5
  a5 := Tryz.isAgg5
  z5 := Tryz.sizeOf5
  v5 := Tryz.zeroValue5
  t9 := Tryz.underlying9
  a9 := Tryz.isAgg9
  z9 := Tryz.sizeOf9
  v9 := Tryz.zeroValue9
  t46 := Tryz.underlying75
  a46 := Tryz.isAgg75
  z46 := Tryz.sizeOf75
  v46 := Tryz.zeroValue75
  t51 := Tryz.underlying126
  a51 := Tryz.isAgg126
  z51 := Tryz.sizeOf126
  v51 := Tryz.zeroValue126
  t59 := Tryz.underlying89
  a59 := Tryz.isAgg89
  z59 := Tryz.sizeOf89
  v59 := Tryz.zeroValue89
  t146 := Tryz.underlying127
  a146 := Tryz.isAgg127
  z146 := Tryz.sizeOf127
  v146 := Tryz.zeroValue127
  g1 := by kernel_rfl }
open Go.RowKit Go.Lib in
theorem Tryz.strings_Cut (s sep : ByteArray) (m : Int) (w : World) (hs : s.size < 4294967281) (hm : w.cell? ⟨1, 0, none⟩ = some (.int .i64 m)) :
    Calls Tryz.prog 51 #[.string s, .string sep] w fun e w' => e = .returned (.tuple #[.string ⟨(Lib.cut s.data.toList sep.data.toList).1.toArray⟩, .string ⟨(Lib.cut s.data.toList sep.data.toList).2.1.toArray⟩, .bool (Lib.cut s.data.toList sep.data.toList).2.2]) ∧ ∃ n, w' = w.drewN n := Any.strings_Cut Tryz.lays145 s sep m w hs hm
end Go.Proofs

namespace Go.Proofs.YtiebdhbioccogaaGreatDoor
open Go.RowKit Go.Maps
set_option linter.unusedVariables false
set_option maxRecDepth 100000

set_option maxHeartbeats 4000000 in
theorem implBuildF_any (ts : List It) (b : Int) (A : Option Addr) (c n : Nat) (w : World) (hr : ST w w.heap.size A n c ts) :
    Calls Tryz.prog 41 #[.slice A n c, .int .i64 b] w (BldFP ts b w) := by
  have HR := Lib.hid hr
  have HL := Lib.hid hr.len
  have hl := hr.max
  have hl2 := hr.cap
  have hlen := hr.len
  unfold maxLen at hl
  clear hr
  have HC1 : Hid (C2 (w.alloc (.cells #[.slice none 0 0, .int .i64 0] 35)) w.heap.size (.slice none 0 0) (.int .i64 0)) := Lib.hid (c2New _ _ _ _)
  have HB1 : Hid (Below w.heap.size w (w.alloc (.cells #[.slice none 0 0, .int .i64 0] 35))) := Lib.hid ((Below.refl _ _).alloc (Nat.le_refl _) _)
  by_cases h12 : 12 < (n : Int)
  · have HNO : Hid (builtF ts b = false) := Lib.hid (builtF_not (.inr (by omega)))
    clear hlen
    obtain ⟨x0, x1, y0, y1⟩ := HC1.out
    go_enter Tryz.func41, Tryz.ntmps41
    go_wp2
    refine bodyPost_ret (v := .tuple #[.agg #[.slice none 0 0, .int .i64 0], .bool false]) (by simp [results, Tryz.results41, go_sem, x0, x1]) rfl (bldFP_no HNO.out (by first | exact HB1.out | exact (HB1.out.setCell (Nat.le_refl _) _).setCell (Nat.le_refl _) _))
  have hv12 : ts.length ≤ 12 := by omega
  have HZ1 : Hid (w.heap.size + 1 ≤ (w.alloc (.cells #[.slice none 0 0, .int .i64 0] 35)).heap.size) := Lib.hid (by simp)
  clear hlen
  go_enter Tryz.func41, Tryz.ntmps41
  go_wp2_with fail
  generalize (w.alloc (.cells #[.slice none 0 0, .int .i64 0] 35)) = w1 at *
  go_loopw [6, 16] (fun v i wr => ∃ (k : Nat) (es : List D), k ≤ ts.length ∧ i = .int .i64 k ∧ Hid (onceTo ts k) ∧ Hid (KeepB w wr (w.heap.size + 1) ts k es v) ∧ Hid (C2 wr w.heap.size (.slice none 0 0) (.int .i64 0)) ∧ Hid (w.heap.size + 1 ≤ wr.heap.size)) (fun _ i _ => ts.length - (intOf i).toNat)
  case atStart => exact ⟨0, [], Nat.zero_le _, rfl, Lib.hid (onceTo_zero _), Lib.hid ⟨rfl, by simp, invB_zero ts, World.ownsRow_nil _ _ _ _, HB1.out⟩, HC1, HZ1⟩
  case round =>
    clear HC1 HB1 HZ1
    obtain ⟨k, es, hk, rfl, hon, HK, HC, hzr⟩ := hrel
    have hnl := HL.out
    have hzr0 := hzr.out
    by_cases hlt : k < ts.length
    · obtain ⟨bb, o, rfl, hbb, d1, d2, d3⟩ := (HR.out.below HK.out.bel).at_ hlt
      have HOKT := Lib.hid (HR.out.ok _ (List.getElem_mem hlt))
      have hi1 : (k : Int) < (n : Int) := by omega
      have hi0 : (0 : Int) ≤ (k : Int) := by omega
      have HNM : Hid (∀ v : Int, (ts[k].auto = false → v = ts[k].val) → (ts[k].auto = true → rngT ts k → v = ((mNb es : Nat) : Int)) → InvB ts (k + 1) (es ++ [⟨ts[k].name, v⟩])) := Lib.hid fun v h1 h2 => invB_succ HK.out.inv HK.out.len hlt h1 h2
      have HTO : Hid ((ts[k].auto && ts[k].val != 0) = false → onceTo ts (k + 1)) := Lib.hid fun h => onceTo_succ hon.out hlt h
      have HTW : Hid ((ts[k].auto && ts[k].val != 0) = true → builtF ts b = false) := Lib.hid fun h => builtF_not (.inl ⟨k, hlt, h⟩)
      obtain ⟨nm, hnm⟩ : ∃ nm, ts[k].name = nm := ⟨_, rfl⟩
      obtain ⟨au, hau⟩ : ∃ au, ts[k].auto = au := ⟨_, rfl⟩
      obtain ⟨vl, hvl⟩ : ∃ vl, ts[k].val = vl := ⟨_, rfl⟩
      have hok1 := HOKT.out.1
      have hok2 := HOKT.out.2
      rw [hnm] at d1 HNM hok1
      rw [hau] at d2 HNM HTO HTW
      rw [hvl] at d3 HNM HTO HTW hok2
      clear hnm hau hvl HOKT
      obtain ⟨A', c', hform⟩ := own_form HK.out.own
      subst hform
      have bV : Below wr.heap.size wr (wr.alloc (.cells #[.string nm, .bool au, .int .i64 vl] 103)) := (Below.refl _ _).alloc (Nat.le_refl _) _
      have a0 : (wr.alloc (.cells #[.string nm, .bool au, .int .i64 vl] 103)).cell? ⟨wr.heap.size, 0, none⟩ = some (.string nm) := by simp [go_sem]
      have a2 : (wr.alloc (.cells #[.string nm, .bool au, .int .i64 vl] 103)).cell? ⟨wr.heap.size, 2, none⟩ = some (.int .i64 vl) := by simp [go_sem]
      have bW : Below wr.heap.size wr ((wr.alloc (.cells #[.string nm, .bool au, .int .i64 vl] 103)).alloc (.cells #[.string nm, .int .i64 vl] 108)) := bV.alloc (by simp) _
      have i0 : ((wr.alloc (.cells #[.string nm, .bool au, .int .i64 vl] 103)).alloc (.cells #[.string nm, .int .i64 vl] 108)).cell? ⟨wr.heap.size, 0, none⟩ = some (.string nm) := by simp [go_sem]
      have i1 : ((wr.alloc (.cells #[.string nm, .bool au, .int .i64 vl] 103)).alloc (.cells #[.string nm, .int .i64 vl] 108)).cell? ⟨wr.heap.size, 1, none⟩ = some (.bool au) := by simp [go_sem]
      have i2 : ((wr.alloc (.cells #[.string nm, .bool au, .int .i64 vl] 103)).alloc (.cells #[.string nm, .int .i64 vl] 108)).cell? ⟨wr.heap.size, 2, none⟩ = some (.int .i64 vl) := by simp [go_sem]
      have HJ : Hid (C2 ((wr.alloc (.cells #[.string nm, .bool au, .int .i64 vl] 103)).alloc (.cells #[.string nm, .int .i64 vl] 108)) (wr.heap.size + 1) (.string nm) (.int .i64 vl)) := Lib.hid (c2New' _ _ _ _ _)
      have HCW := Lib.hid (HC.out.below bW)
      have HOW := Lib.hid (own_below HK.out.own bW)
      have HBW : Hid (Below w.heap.size w ((wr.alloc (.cells #[.string nm, .bool au, .int .i64 vl] 103)).alloc (.cells #[.string nm, .int .i64 vl] 108))) := Lib.hid (HK.out.bel.trans (bW.mono HK.out.bel.size))
      have hzW : wr.heap.size + 2 ≤ ((wr.alloc (.cells #[.string nm, .bool au, .int .i64 vl] 103)).alloc (.cells #[.string nm, .int .i64 vl] 108)).heap.size := by simp
      have HEL := Lib.hid HK.out.len
      have HEO := Lib.hid HK.out.ok
      have HEI := Lib.hid HK.out.inv.2
      have NEO : Hid (∀ q, (Value.slice A' k c').ownBlock = some q → q < wr.heap.size) := Lib.hid (fun q hq => (HK.out.own.lt q hq).2)
      obtain ⟨q, hq⟩ : ∃ q, toldOf au vl = q := ⟨_, rfl⟩
      have HQ := Lib.hid hq
      clear bV bW hon HK HC hzr
      go_wp2_with fail
      generalize ((wr.alloc (.cells #[.string nm, .bool au, .int .i64 vl] 103)).alloc (.cells #[.string nm, .int .i64 vl] 108)) = W at *
      generalize wr.heap.size = D at *
      refine (howTold_any nm au vl _ (q := q) HQ.out).mono ?_
      rintro e w3 ⟨rfl, hb⟩
      have HJ3 := Lib.hid (HJ.out.below hb)
      have HC3 := Lib.hid (HCW.out.below hb)
      have HO3 := Lib.hid (own_below HOW.out hb)
      have HB3 : Hid (Below w.heap.size w w3) := Lib.hid (HBW.out.trans (hb.mono HBW.out.size))
      have hz3 : D + 2 ≤ w3.heap.size := by have := hb.size; omega
      clear hb HJ HCW HOW HBW a0 a2 i0 i1 i2 hzW d1 d2 d3
      obtain ⟨x0, x1, y0, y1⟩ := HC3.out
      obtain ⟨j0, j1, f0, f1⟩ := HJ3.out
      cases au
      · obtain rfl : q = 0 := by rw [← hq]; rfl
        clear hq
        go_wp2_with (
          at_builtin
          refine wpList_app_Df rfl _ _ rfl (w.heap.size + 1) _ _ _ rfl HO3.out _ _ _ _ rfl (by first | rfl | simp) (by omega) (by omega) ?_
          intro v' w5 ho hb
          have HO5 := Lib.hid ho
          have HB5 : Hid (Below w.heap.size w w5) := Lib.hid (HB3.out.trans (hb.mono (by omega)))
          have HC5 := Lib.hid (HC3.out.low hb (Nat.lt_succ_self _))
          have HZ5 : Hid (w.heap.size + 1 ≤ w5.heap.size) := Lib.hid (by have := hb.size; omega)
          clear ho hb)
        go_roundw
        case rel => exact ⟨k + 1, es ++ [⟨nm, vl⟩], by omega, by go_num, Lib.hid (HTO.out rfl), Lib.hid ⟨by rw [List.length_append, HEL.out]; rfl, by intro d hd; rcases List.mem_append.1 hd with hd | hd; exact HEO.out d hd; simp at hd; subst hd; exact ⟨hok1, hok2⟩, HNM.out vl (fun _ => rfl) (fun h => by cases h), by have := HO5.out; simpa [flat, encD] using this, HB5.out⟩, HC5, HZ5⟩
        case measure => simp [intOf]; omega
      cases hz : (vl == 0)
      · obtain rfl : q = 2 := by rw [← hq]; unfold toldOf; rw [hz]; rfl
        have HNO := Lib.hid (HTW.out (by rw [Bool.true_and]; unfold bne; rw [hz]; rfl))
        clear hq hz
        go_wp2
        refine bodyPost_ret (v := .tuple #[.agg #[.slice none 0 0, .int .i64 0], .bool false]) (by simp [results, Tryz.results41, go_sem, x0, x1]) rfl (bldFP_no HNO.out ((HB3.out.setCell (Nat.le_refl _) _).setCell (Nat.le_refl _) _))
      · obtain rfl : q = 1 := by rw [← hq]; unfold toldOf; rw [hz]; rfl
        have HON := Lib.hid (HTO.out (by rw [Bool.true_and]; unfold bne; rw [hz]; rfl))
        have HSD : Hid (SD w3 w3.heap.size A' k c' es) := Lib.hid (sd_of_own HO3.out HEO.out)
        clear hq hz
        go_wp2_with fail
        refine (implNb_u es _ _ _ _ HSD.out).mono ?_
        rintro e w4 ⟨r, rfl, hr1, hr2, hb⟩
        have HR2 := Lib.hid hr2
        have HJ4 := Lib.hid (HJ3.out.below hb)
        have HC4 := Lib.hid (HC3.out.below hb)
        have HO4 := Lib.hid (own_below HO3.out hb)
        have HB4 : Hid (Below w.heap.size w w4) := Lib.hid (HB3.out.trans (hb.mono HB3.out.size))
        have hz4 : D + 2 ≤ w4.heap.size := by have := hb.size; omega
        have HJV := Lib.hid (HJ4.out.set1 (.int .i64 r))
        have HCV := Lib.hid (HC4.out.setO (p := ⟨D + 1, 1, none⟩) (by simp only; omega) (.int .i64 r))
        have HOV := Lib.hid (own_setCell HO4.out (p := ⟨D + 1, 1, none⟩) (fun e => by have := NEO.out _ e; simp only at this; omega) (.int .i64 r))
        have HBV : Hid (Below w.heap.size w (w4.setCell ⟨D + 1, 1, none⟩ (.int .i64 r))) := Lib.hid (HB4.out.setCell (by simp only; omega) _)
        have hzV : D + 2 ≤ (w4.setCell ⟨D + 1, 1, none⟩ (.int .i64 r)).heap.size := by rw [World.size_setCell]; exact hz4
        clear hb hr2 HJ3 HC3 HO3 HB3 j0 j1 f0 f1 x0 x1 y0 y1 HSD
        obtain ⟨j0, j1, f0, f1⟩ := HJ4.out
        obtain ⟨l0, l1, g0, g1⟩ := HJV.out
        go_wp2_with (
          at_builtin
          refine wpList_app_Df rfl _ _ rfl (w.heap.size + 1) _ _ _ rfl HOV.out _ _ _ _ rfl (by first | rfl | simp) (by omega) (by omega) ?_
          intro v' w5 ho hb
          have HO5 := Lib.hid ho
          have HB5 : Hid (Below w.heap.size w w5) := Lib.hid (HBV.out.trans (hb.mono (by omega)))
          have HC5 := Lib.hid (HCV.out.low hb (Nat.lt_succ_self _))
          have HZ5 : Hid (w.heap.size + 1 ≤ w5.heap.size) := Lib.hid (by have := hb.size; omega)
          clear ho hb)
        go_roundw
        case rel => exact ⟨k + 1, es ++ [⟨nm, r⟩], by omega, by go_num, HON, Lib.hid ⟨by rw [List.length_append, HEL.out]; rfl, by intro d hd; rcases List.mem_append.1 hd with hd | hd; exact HEO.out d hd; simp at hd; subst hd; exact ⟨hok1, hr1⟩, HNM.out r (fun h => by cases h) (fun _ hrk => HR2.out (by rw [HEI.out hrk]; exact bldF_small k (by omega) (by omega) hrk)), by have := HO5.out; simpa [flat, encD] using this, HB5.out⟩, HC5, HZ5⟩
        case measure => simp [intOf]; omega
    · obtain rfl : k = ts.length := by omega
      obtain ⟨A', c', hform⟩ := own_form HK.out.own
      subst hform
      have HSD : Hid (SD wr wr.heap.size A' ts.length c' es) := Lib.hid (sd_of_own HK.out.own HK.out.ok)
      have HE := Lib.hid (builtF_end (b := b) HK.out.len HK.out.inv hon.out hv12)
      have hi1 : ¬ ((ts.length : Int) < (n : Int)) := by omega
      obtain ⟨u, hve⟩ : ∃ u, vFlag es b = u := ⟨_, rfl⟩
      have HVE := Lib.hid hve
      have HBU : Hid (builtF ts b = u) := Lib.hid (by rw [HE.out.1, hve])
      clear hve hnl
      cases u
      · have HNO := HBU
        go_wp2_with fail
        refine (checkedFlag_v es b _ _ _ _ HSD.out (by omega) HVE.out (A' := none) (n' := 0) (c' := 0) (b' := 0) ⟨rfl, rfl, rfl, rfl⟩).mono ?_
        rintro e w4 ⟨rfl, hb⟩
        have HB4 : Hid (Below w.heap.size w w4) := Lib.hid (HK.out.bel.trans (hb.mono HK.out.bel.size))
        obtain ⟨x0, x1, y0, y1⟩ := HC.out.below hb
        clear hb
        go_wp2
        refine bodyPost_ret (v := .tuple #[.agg #[.slice none 0 0, .int .i64 0], .bool false]) (by simp [results, Tryz.results41, go_sem, x0, x1]) rfl (bldFP_no HNO.out ((HB4.out.setCell (Nat.le_refl _) _).setCell (Nat.le_refl _) _))
      · have HES : Hid (es = bldF ts ts.length) := Lib.hid (HE.out.2 HVE.out)
        have HEL := Lib.hid HK.out.len
        go_wp2_with fail
        refine (checkedFlag_v es b _ _ _ _ HSD.out (by omega) HVE.out (A' := A') (n' := ts.length) (c' := c') (b' := b) ⟨rfl, rfl, rfl, rfl⟩).mono ?_
        rintro e w4 ⟨rfl, hb⟩
        have HB4 : Hid (Below w.heap.size w w4) := Lib.hid (HK.out.bel.trans (hb.mono HK.out.bel.size))
        have HO4 := Lib.hid (own_below HK.out.own hb)
        obtain ⟨x0, x1, y0, y1⟩ := HC.out.below hb
        clear hb
        go_wp2
        refine bodyPost_ret (v := .tuple #[.agg #[.slice A' ts.length c', .int .i64 b], .bool true]) (by simp [results, Tryz.results41, go_sem, x0, x1]) rfl (bldFP_yes HBU.out HES.out HEL.out (own_setCell (own_setCell (own_base HO4.out (by omega)) (fun e => by have := (HO4.out.lt _ e).1; simp at this; omega) _) (fun e => by have := (HO4.out.lt _ e).1; simp at this; omega) _) ((HB4.out.setCell (Nat.le_refl _) _).setCell (Nat.le_refl _) _))
end Go.Proofs.YtiebdhbioccogaaGreatDoor

namespace Go.Proofs.YtiebdhbioccogaaGreatDoor
open Go.RowKit Go.Maps
set_option linter.unusedVariables false
set_option linter.unusedSimpArgs false
set_option maxRecDepth 100000

def wrongB : ByteArray := ⟨#[119, 114, 111, 110, 103]⟩
def errV : Value := .iface 74 (.agg #[.string wrongB])
/-- What is told of lines that are read. -/
def LnP (o : Option (List ByteArray)) (w : World) (e : Ending) (w' : World) : Prop :=
  ∃ (A : Option Addr) (c : Nat) (ls : List ByteArray) (er : Value), e = .returned (.tuple #[.slice A ls.length c, er]) ∧ ((o = some ls ∧ er = .nilIface) ∨ (o = none ∧ er = errV)) ∧ w'.ownsRow w.heap.size 9 1 (.slice A ls.length c) ls.length (flatS ls) ∧ Below w.heap.size w w'
set_option maxHeartbeats 16000000 in
theorem linesOf_v (s : ByteArray) (w : World) (hs : s.size ≤ 1048576) :
    Calls Tryz.prog 76 #[.string s] w (LnP (mLn s) w) := by
  have HE := Lib.hid (fun done q => mLn_end (s := s) (done := done) (q := q))
  generalize mLn s = o at *
  go_enter Tryz.func76, Tryz.ntmps76
  go_wp2
  go_loopw [4, 5] (fun v q wr => ∃ (pos n k : Nat) (done : List ByteArray), q = .int .i64 k ∧ k ≤ pos ∧ pos ≤ s.size ∧ Hid (done.length = n) ∧ n ≤ k ∧ Hid (splSt 10 s done k pos) ∧ Hid (wr.heap[w.heap.size]? = some (.stringIter s pos)) ∧ Hid (wr.ownsRow (w.heap.size + 1) 9 1 v n (flatS done)) ∧ Hid (Below w.heap.size w wr) ∧ w.heap.size + 1 ≤ wr.heap.size) (fun _ _ wr => s.size - wr.iterPos w.heap.size)
  case atStart =>
    refine ⟨0, 0, 0, [], rfl, Nat.le_refl _, Nat.zero_le _, Lib.hid rfl, Nat.le_refl _, Lib.hid (spl_zero 10 s), Lib.hid ?_, Lib.hid (World.ownsRow_nil _ _ _ _), Lib.hid ((Below.refl _ w).alloc (Nat.le_refl _) _), (show w.heap.size + 1 ≤ (w.alloc (.stringIter s 0)).heap.size by simp)⟩
    have := World.iter_heap w s 0
    simpa using this
  case round =>
    obtain ⟨pos, n, k, done, rfl, hkp, hps, HDL, hnk, HST, HIT, HOW, HBE, hsz⟩ := hrel
    have hk0 : (0 : Int) ≤ (k : Int) := by omega
    by_cases hp : pos < s.size
    · have hnx : ∀ ty, (Instr.next (.pointer (some ⟨w.heap.size, 0, none⟩)) true ty).run Tryz.prog wr = _ := fun ty => Lib.run_next_any_at wr w.heap.size s pos ty HIT.out hp
      have hkI : (k : Int) ≤ (pos : Int) := by omega
      have hpI : (pos : Int) ≤ (s.size : Int) := by omega
      rcases nl_step s pos hp with ⟨e1, e2, e3⟩ | ⟨e1, e2, e3, e4⟩
      · rw [e1, e2] at hnx
        have HIT2 := Lib.hid (Lib.iterAt_heap wr w.heap.size s pos (pos + 1) HIT.out)
        have HOW2 := Lib.hid (ownsRow_iterAt HOW.out (k := w.heap.size) (by omega) s (pos + 1))
        have HBE2 := Lib.hid (Lib.below_iterAt HBE.out (k := w.heap.size) (Nat.le_refl _) s (pos + 1))
        have hsz2 : w.heap.size + 1 ≤ (wr.iterAt w.heap.size s (pos + 1)).heap.size := by rw [Lib.iterAt_size]; exact hsz
        have HST2 := Lib.hid (spl_hit hp e3 HST.out)
        have HITP := Lib.hid HIT.out
        clear e1 e2 e3 HST HIT HOW HBE
        go_wp2_with (at_builtin; refine wpList_app_S rfl _ _ rfl (w.heap.size + 1) _ _ _ rfl HOW2.out _ _ _ rfl (by first | rfl | simp) (by omega) hsz2 ?_; intro v' w1 ho1 hb1; have HO1 := Lib.hid ho1; have HB1 := Lib.hid hb1; clear ho1 hb1)
        have HIT3 : Hid (w1.heap[w.heap.size]? = some (.stringIter s (pos + 1))) := Lib.hid ((HB1.out.block w.heap.size (by omega)).trans HIT2.out)
        go_roundw
        case rel => exact ⟨pos + 1, n + 1, pos + 1, done ++ [s.extract k pos], by go_num, Nat.le_refl _, by omega, Lib.hid (by rw [List.length_append, HDL.out]; rfl), by omega, HST2, HIT3, Lib.hid (by have h := HO1.out; simpa [flatS] using h), Lib.hid (HBE2.out.trans (HB1.out.mono (by omega))), Nat.le_trans hsz2 HB1.out.size⟩
        case measure =>
          simp only [World.iterPos, HIT3.out, HITP.out]
          omega
      · generalize (Utf8.decode s pos).1 = ru at *
        generalize (Utf8.decode s pos).2 = wd at *
        have hr10 : ((ru : Int) == 10) = false := by rw [beq_eq_false_iff_ne]; omega
        have HIT2 := Lib.hid (Lib.iterAt_heap wr w.heap.size s pos (pos + wd) HIT.out)
        have HOW2 := Lib.hid (ownsRow_iterAt HOW.out (k := w.heap.size) (by omega) s (pos + wd))
        have HBE2 := Lib.hid (Lib.below_iterAt HBE.out (k := w.heap.size) (Nat.le_refl _) s (pos + wd))
        have hsz2 : w.heap.size + 1 ≤ (wr.iterAt w.heap.size s (pos + wd)).heap.size := by rw [Lib.iterAt_size]; exact hsz
        have HST2 := Lib.hid (spl_miss_n wd pos hkp e3 e4 HST.out)
        have HITP := Lib.hid HIT.out
        clear e1 e4 HST HIT HOW HBE
        go_wp2
        go_roundw
        case rel => exact ⟨pos + wd, n, k, done, rfl, by omega, e3, HDL, hnk, HST2, HIT2, HOW2, HBE2, hsz2⟩
        case measure =>
          simp only [World.iterPos, HIT2.out, HITP.out]
          omega
    · obtain rfl : pos = s.size := by omega
      have hnx : ∀ ty, (Instr.next (.pointer (some ⟨w.heap.size, 0, none⟩)) true ty).run Tryz.prog wr = _ := fun ty => Lib.run_next_end_at wr w.heap.size s s.size ty HIT.out hp
      have HR := Lib.hid (HE.out done k hkp HST.out)
      obtain ⟨A', c', hv⟩ := own_form HOW.out
      subst hv
      by_cases h0 : n = 0
      · have e0 : ((n : Int) == 0) = true := by rw [h0]; rfl
        have HR2 : Hid (o = none) := Lib.hid (by rw [HR.out, if_neg (fun h => h.1 (List.eq_nil_of_length_eq_zero (by rw [HDL.out, h0])))])
        clear HR h0
        go_wp2
        go_ret2
        exact ⟨none, 0, [], errV, rfl, .inr ⟨HR2.out, rfl⟩, World.ownsRow_nil _ _ _ _, HBE.out⟩
      · have e0 : ((n : Int) == 0) = false := by rw [beq_eq_false_iff_ne]; omega
        by_cases hk : k < s.size
        · have hkI : (k : Int) < (s.size : Int) := by omega
          have HR2 : Hid (o = none) := Lib.hid (by rw [HR.out, if_neg (fun h => by omega)])
          clear HR h0
          go_wp2
          go_ret2
          exact ⟨none, 0, [], errV, rfl, .inr ⟨HR2.out, rfl⟩, World.ownsRow_nil _ _ _ _, HBE.out⟩
        · have hkI : ¬ (k : Int) < (s.size : Int) := by omega
          have HR2 : Hid (o = some done) := Lib.hid (by rw [HR.out, if_pos ⟨fun e => h0 (by rw [← HDL.out, e]; rfl), by omega⟩])
          clear HR h0
          go_wp2
          go_ret2
          exact ⟨A', c', done, .nilIface, by rw [HDL.out]; first | done | rfl, .inl ⟨HR2.out, rfl⟩, by rw [HDL.out]; exact own_base HOW.out (by omega), HBE.out⟩

theorem RT.low {w w' : World} (h : RT w w.heap.size) (hb : Below w.heap.size w w') : RT w' w'.heap.size := RT.call h hb
/-- What is told of an item that the program reads. -/
def ItE (r : Option It) (w : World) (e : Ending) (w' : World) : Prop :=
  ∃ (nm : ByteArray) (au : Bool) (v : Int) (er : Value), e = .returned (.tuple #[.agg #[.string nm, .bool au, .int .i64 v], er]) ∧ ((r = some ⟨nm, au, v⟩ ∧ er = .nilIface) ∨ (r = none ∧ er = errV)) ∧ Below w.heap.size w w'
set_option maxHeartbeats 8000000 in
theorem readItem_v (s : ByteArray) (w : World) (hs : s.size ≤ 1048576) (hT : RT w w.heap.size) :
    Calls Tryz.prog 77 #[.string s] w (ItE (itI s) w) := by
  have HCUT := Lib.hid (fun m w hm => Tryz.strings_Cut s ⟨#[32, 61, 32]⟩ m w (by omega) hm)
  have hal : (Lib.cut s.data.toList eqB.data.toList).2.1.length ≤ s.data.toList.length := cut_le2 _ _
  have HI : Hid (itI s = if (Lib.cut s.data.toList eqB.data.toList).2.2 then (match numOf ⟨(Lib.cut s.data.toList eqB.data.toList).2.1.toArray⟩ with
    | some v => some ⟨⟨(Lib.cut s.data.toList eqB.data.toList).1.toArray⟩, false, v⟩
    | none => none) else some ⟨s, true, 0⟩) := Lib.hid rfl
  have he : (⟨#[32, 61, 32]⟩ : ByteArray).data.toList = eqB.data.toList := rfl
  rw [he] at HCUT
  generalize itI s = r at *
  have haz : (⟨(Lib.cut s.data.toList eqB.data.toList).2.1.toArray⟩ : ByteArray).size ≤ 1048576 := by
    show ((Lib.cut s.data.toList eqB.data.toList).2.1.toArray).size ≤ 1048576
    rw [List.size_toArray]
    rw [Array.length_toList] at hal
    have h3 : s.data.size = s.size := rfl
    omega
  generalize (Lib.cut s.data.toList eqB.data.toList).2.2 = f at *
  generalize (⟨(Lib.cut s.data.toList eqB.data.toList).2.1.toArray⟩ : ByteArray) = a at *
  generalize (⟨(Lib.cut s.data.toList eqB.data.toList).1.toArray⟩ : ByteArray) = b at *
  obtain ⟨W0, hW⟩ : ∃ W : World, W = w.alloc (.cells #[.string ⟨#[]⟩, .bool false, .int .i64 0] 103) := ⟨_, rfl⟩
  have hb0 : Below w.heap.size w W0 := by rw [hW]; exact (Below.refl _ _).alloc (Nat.le_refl _) _
  have HB0 := Lib.hid hb0
  have HT0 := Lib.hid (hT.low hb0)
  have HC0 : Hid (C3 W0 w.heap.size (.string ⟨#[]⟩) (.bool false) (.int .i64 0)) := Lib.hid (by rw [hW]; exact c3New _ _ _ _ _)
  have HW := Lib.hid hW.symm
  obtain ⟨mx, hmx⟩ := HT0.out.mln
  clear hW hal he hb0 hT
  cases f
  · have HR : Hid (r = some ⟨s, true, 0⟩) := Lib.hid HI.out
    clear HI
    go_enter Tryz.func77, Tryz.ntmps77
    go_wp2_with fail
    rw [HW.out]
    clear HW
    refine (HCUT.out mx _ hmx).mono ?_
    rintro e w1 ⟨rfl, nd, rfl⟩
    obtain ⟨W1, hW1⟩ : ∃ W : World, W = W0.drewN nd := ⟨_, rfl⟩
    have hb1 : Below W0.heap.size W0 W1 := by rw [hW1]; exact below_drewN (Below.refl _ _) nd
    rw [← hW1]
    have HB1 : Hid (Below w.heap.size w W1) := Lib.hid (HB0.out.trans (hb1.mono HB0.out.size))
    obtain ⟨r0, r1, r2, f0, f1, f2⟩ := HC0.out.below hb1
    clear hW1 hb1 HC0
    go_wp2
    exact bodyPost_ret (v := .tuple #[.agg #[.string s, .bool true, .int .i64 0], .nilIface]) (by simp [results, Tryz.results77, go_sem, r0, r1, r2, f0, f1, f2]) rfl ⟨s, true, 0, .nilIface, rfl, .inl ⟨HR.out, rfl⟩, ((HB1.out.setCell (Nat.le_refl _) _).setCell (Nat.le_refl _) _).setCell (Nat.le_refl _) _⟩
  · cases hn : numOf a with
    | none =>
      have HR : Hid (r = none) := Lib.hid (by rw [HI.out, if_pos rfl, hn])
      have HNUM := Lib.hid (fun w hT => implRdN_none a w haz hT hn)
      clear HI hn
      go_enter Tryz.func77, Tryz.ntmps77
      go_wp2_with fail
      rw [HW.out]
      clear HW
      refine (HCUT.out mx _ hmx).mono ?_
      rintro e w1 ⟨rfl, nd, rfl⟩
      obtain ⟨W1, hW1⟩ : ∃ W : World, W = W0.drewN nd := ⟨_, rfl⟩
      have hb1 : Below W0.heap.size W0 W1 := by rw [hW1]; exact below_drewN (Below.refl _ _) nd
      rw [← hW1]
      have HB1 : Hid (Below w.heap.size w W1) := Lib.hid (HB0.out.trans (hb1.mono HB0.out.size))
      have HC1 := Lib.hid (HC0.out.below hb1)
      have HT1 := Lib.hid (HT0.out.low hb1)
      clear hW1 hb1 HC0
      go_wp2_with fail
      refine (HNUM.out _ HT1.out).mono ?_
      rintro e w2 ⟨rfl, hb⟩
      have HB2 : Hid (Below w.heap.size w w2) := Lib.hid (HB1.out.trans (hb.mono HB1.out.size))
      obtain ⟨r0, r1, r2, f0, f1, f2⟩ := HC1.out.below hb
      clear hb HC1
      go_wp2
      exact bodyPost_ret (v := .tuple #[.agg #[.string ⟨#[]⟩, .bool false, .int .i64 0], errV]) (by simp [results, Tryz.results77, go_sem, r0, r1, r2, f0, f1, f2, errV, wrongB]) rfl ⟨⟨#[]⟩, false, 0, errV, rfl, .inr ⟨HR.out, rfl⟩, ((HB2.out.setCell (Nat.le_refl _) _).setCell (Nat.le_refl _) _).setCell (Nat.le_refl _) _⟩
    | some v =>
      have HR : Hid (r = some ⟨b, false, v⟩) := Lib.hid (by rw [HI.out, if_pos rfl, hn])
      have HNUM := Lib.hid (fun w hT => implRdN_some a w haz hT hn)
      clear HI hn
      go_enter Tryz.func77, Tryz.ntmps77
      go_wp2_with fail
      rw [HW.out]
      clear HW
      refine (HCUT.out mx _ hmx).mono ?_
      rintro e w1 ⟨rfl, nd, rfl⟩
      obtain ⟨W1, hW1⟩ : ∃ W : World, W = W0.drewN nd := ⟨_, rfl⟩
      have hb1 : Below W0.heap.size W0 W1 := by rw [hW1]; exact below_drewN (Below.refl _ _) nd
      rw [← hW1]
      have HB1 : Hid (Below w.heap.size w W1) := Lib.hid (HB0.out.trans (hb1.mono HB0.out.size))
      have HC1 := Lib.hid (HC0.out.below hb1)
      have HT1 := Lib.hid (HT0.out.low hb1)
      clear hW1 hb1 HC0
      go_wp2_with fail
      refine (HNUM.out _ HT1.out).mono ?_
      rintro e w2 ⟨rfl, hb⟩
      have HB2 : Hid (Below w.heap.size w w2) := Lib.hid (HB1.out.trans (hb.mono HB1.out.size))
      obtain ⟨r0, r1, r2, f0, f1, f2⟩ := HC1.out.below hb
      clear hb HC1
      go_wp2
      exact bodyPost_ret (v := .tuple #[.agg #[.string b, .bool false, .int .i64 v], .nilIface]) (by simp [results, Tryz.results77, go_sem, r0, r1, r2, f0, f1, f2]) rfl ⟨b, false, v, .nilIface, rfl, .inl ⟨HR.out, rfl⟩, ((HB2.out.setCell (Nat.le_refl _) _).setCell (Nat.le_refl _) _).setCell (Nat.le_refl _) _⟩
end Go.Proofs.YtiebdhbioccogaaGreatDoor

namespace Go.Proofs.YtiebdhbioccogaaGreatDoor
open Go.RowKit Go.Maps
set_option linter.unusedVariables false
set_option maxRecDepth 100000

theorem flat_bldF (ts : List It) (k : Nat) (h : k < ts.length) : flat (bldF ts (k + 1)) = flat (bldF ts k) ++ [.string ts[k].name, .int .i64 (bldFD (bldF ts k) ts[k]).val] := by
  rw [bldF_succ ts k h]; simp [flat, encD, bldFD]

set_option maxHeartbeats 4000000 in
theorem specBuildF_any (ts : List It) (b : Int) (A : Option Addr) (c n : Nat) (w : World) (hr : ST w w.heap.size A n c ts) :
    Calls Tryz.prog 27 #[.slice A n c, .int .i64 b] w (BldFP ts b w) := by
  have HR := Lib.hid hr
  have HL := Lib.hid hr.len
  have hl := hr.max
  have hl2 := hr.cap
  unfold maxLen at hl
  clear hr
  have b1 : Below w.heap.size w (w.alloc (.cells #[.slice none 0 0, .int .i64 0] 35)) := (Below.refl _ _).alloc (Nat.le_refl _) _
  have HC1 : Hid (C2 (w.alloc (.cells #[.slice none 0 0, .int .i64 0] 35)) w.heap.size (.slice none 0 0) (.int .i64 0)) := Lib.hid (c2New _ _ _ _)
  cases hv : vItems 0 4095 ts
  · have HNO : Hid (builtF ts b = false) := Lib.hid (by unfold builtF; rw [hv]; rfl)
    have HV := Lib.hid hv
    clear hv
    go_enter Tryz.func27, Tryz.ntmps27
    go_wp2_with fail
    refine (validItems_any ts _ _ _ _ _ _ ((HR.out.below b1).call b1.size) HV.out).mono ?_
    rintro e w1 ⟨rfl, hb⟩
    obtain ⟨x0, x1, y0, y1⟩ := HC1.out.below hb
    have HB := Lib.hid (b1.trans (hb.mono b1.size))
    clear hb b1 HC1
    go_wp2
    refine bodyPost_ret (v := .tuple #[.agg #[.slice none 0 0, .int .i64 0], .bool false]) (by simp [results, Tryz.results27, go_sem, x0, x1]) rfl (bldFP_no HNO.out ((HB.out.setCell (Nat.le_refl _) _).setCell (Nat.le_refl _) _))
  · have hv12 : ts.length ≤ 12 := by unfold vItems at hv; simp at hv; exact hv.2
    have HRG := Lib.hid (vItems_rng hv)
    have HBT : Hid (builtF ts b = vFlag (bldF ts ts.length) b) := Lib.hid (by unfold builtF; rw [hv]; rfl)
    have HV := Lib.hid hv
    clear hv
    go_enter Tryz.func27, Tryz.ntmps27
    go_wp2_with fail
    refine (validItems_any ts _ _ _ _ _ _ ((HR.out.below b1).call b1.size) HV.out).mono ?_
    rintro e w1 ⟨rfl, hb⟩
    have HC2 := Lib.hid (HC1.out.below hb)
    have HB := Lib.hid (b1.trans (hb.mono b1.size))
    have hz1 : w.heap.size + 1 ≤ w1.heap.size := by have := hb.size; simpa using this
    clear hb b1 HC1
    have bW : Below w1.heap.size w1 (w1.alloc (.cells #[.slice none 0 0, .int .i64 b] 35)) := (Below.refl _ _).alloc (Nat.le_refl _) _
    have HC : Hid (C2 (w1.alloc (.cells #[.slice none 0 0, .int .i64 b] 35)) w.heap.size (.slice none 0 0) (.int .i64 0)) := Lib.hid (HC2.out.below bW)
    have HD : Hid (C2 (w1.alloc (.cells #[.slice none 0 0, .int .i64 b] 35)) w1.heap.size (.slice none 0 0) (.int .i64 b)) := Lib.hid (c2New _ _ _ _)
    have HB2 : Hid (Below w.heap.size w (w1.alloc (.cells #[.slice none 0 0, .int .i64 b] 35))) := Lib.hid (HB.out.alloc HB.out.size _)
    have HZ2 : Hid (w1.heap.size + 1 ≤ (w1.alloc (.cells #[.slice none 0 0, .int .i64 b] 35)).heap.size) := Lib.hid (by simp)
    clear bW HC2 HB
    go_wp2_with fail
    generalize (w1.alloc (.cells #[.slice none 0 0, .int .i64 b] 35)) = w2 at *
    generalize w1.heap.size = G at *
    go_loopw [7] (fun i wr => ∃ (k : Nat) (A' : Option Addr) (c' : Nat), k ≤ ts.length ∧ i = .int .i64 k ∧ Hid (C2 wr G (.slice A' k c') (.int .i64 b)) ∧ Hid (C2 wr w.heap.size (.slice none 0 0) (.int .i64 0)) ∧ Hid (wr.ownsRow (G + 1) 108 2 (.slice A' k c') k (flat (bldF ts k))) ∧ Hid (Below w.heap.size w wr) ∧ Hid (G + 1 ≤ wr.heap.size)) (fun i _ => ts.length - (intOf i).toNat)
    case atStart => exact ⟨0, none, 0, Nat.zero_le _, rfl, HD, HC, Lib.hid (World.ownsRow_nil _ _ _ _), HB2, HZ2⟩
    case round =>
      clear HC HD HB2 HZ2
      obtain ⟨k, A', c', hk, rfl, HD, HC, HO, hbel, hzr⟩ := hrel
      have hnl := HL.out
      by_cases hlt : k < ts.length
      · obtain ⟨bb, o, rfl, hbb, d1, d2, d3⟩ := (HR.out.below hbel.out).at_ hlt
        have HFB := Lib.hid (flat_bldF ts k hlt)
        have HOKT := Lib.hid (HR.out.ok _ (List.getElem_mem hlt))
        have hi1 : (k : Int) < (n : Int) := by omega
        have hi0 : (0 : Int) ≤ (k : Int) := by omega
        have hbG : bb ≠ G := by omega
        go_wp2_with fail
        have n1 := World.new_ne wr ⟨bb, o + k * 3, none⟩ d1
        have n3 := World.new_ne wr ⟨bb, o + k * 3 + 2, none⟩ d3
        go_region_held3 (fun w' => w'.cell? ⟨bb, o + k * 3, none⟩ = some (.string ts[k].name) ∧ w'.cell? ⟨bb, o + k * 3 + 2, none⟩ = some (.int .i64 ts[k].val)) (go_keep) (fail)
        have hzr0 := hzr.out
        have bW : Below wr.heap.size wr (wr.alloc (.cells #[.string ts[k].name, .int .i64 ts[k].val] 108)).drew := ((Below.refl _ _).alloc (Nat.le_refl _) _).drew
        have e2 := keep1 bW d2
        have HDW := Lib.hid (HD.out.below bW)
        have HCW := Lib.hid (HC.out.below bW)
        have a0 : (wr.alloc (.cells #[.string ts[k].name, .int .i64 ts[k].val] 108)).drew.cell? ⟨wr.heap.size, 0, none⟩ = some (.string ts[k].name) := by simp [go_sem]
        have a1 : (wr.alloc (.cells #[.string ts[k].name, .int .i64 ts[k].val] 108)).drew.cell? ⟨wr.heap.size, 1, none⟩ = some (.int .i64 ts[k].val) := by simp [go_sem]
        have q1 : (wr.alloc (.cells #[.string ts[k].name, .int .i64 ts[k].val] 108)).drew.frozen? ⟨wr.heap.size, 1, none⟩ = false := by simp [go_sem]
        have HOW := Lib.hid (own_below HO.out bW)
        have HBW : Hid (Below w.heap.size w (wr.alloc (.cells #[.string ts[k].name, .int .i64 ts[k].val] 108)).drew) := Lib.hid (hbel.out.trans (bW.mono hbel.out.size))
        have hzW : wr.heap.size + 1 ≤ (wr.alloc (.cells #[.string ts[k].name, .int .i64 ts[k].val] 108)).drew.heap.size := by simp
        have NEO : Hid (∀ q, (Value.slice A' k c').ownBlock = some q → q < wr.heap.size) := Lib.hid (fun q hq => (HO.out.lt q hq).2)
        clear bW d1 d2 d3 n1 n3 HC HD HO hbel hzr
        rename_i hheld
        clear hheld
        generalize (wr.alloc (.cells #[.string ts[k].name, .int .i64 ts[k].val] 108)).drew = W at *
        generalize wr.heap.size = D0 at *
        obtain ⟨e3, e4, g3, g4⟩ := HDW.out
        cases ha : ts[k].auto
        · rw [ha] at e2
          have HVAL : Hid ((bldFD (bldF ts k) ts[k]).val = ts[k].val) := Lib.hid (by unfold bldFD; simp [ha])
          clear ha
          generalize ts[k].val = vl at *
          generalize ts[k].name = nm at *
          go_wp2_with (
            at_builtin
            refine wpList_app_D rfl _ _ rfl (G + 1) _ _ _ rfl HOW.out _ _ _ _ rfl (by first | rfl | simp) (by omega) (by omega) ?_
            intro v' w4 ho hb
            obtain ⟨A4, c4, rfl⟩ := own_form ho
            have HO4 := Lib.hid ho
            have HB4 : Hid (Below w.heap.size w w4) := Lib.hid (HBW.out.trans (hb.mono (by omega)))
            have hz4 : G + 1 ≤ w4.heap.size := (by have := hb.size; omega)
            have HD4 := Lib.hid (HDW.out.low hb (Nat.lt_succ_self _))
            have HC4 := Lib.hid (HCW.out.low hb (by omega))
            obtain ⟨y3, y4, z3, z4⟩ := HD4.out
            clear ho hb)
          go_roundw
          case rel =>
            refine ⟨k + 1, A4, c4, by omega, by go_num, Lib.hid (HD4.out.set0 _), Lib.hid (HC4.out.setO (by simp only; omega) _), Lib.hid ?_, Lib.hid (HB4.out.setCell (by show w.heap.size ≤ G; omega) _), Lib.hid (by rw [World.size_setCell]; exact hz4)⟩
            rw [HFB.out]
            refine own_setCell ?_ (fun e => by have := (HO4.out.lt _ e).1; simp at this; omega) _
            have := HO4.out
            rw [HVAL.out]
            exact this
          case measure => simp [intOf]; omega
        · rw [ha] at e2
          have HVAL : Hid ((bldFD (bldF ts k) ts[k]).val = ((mNb (bldF ts k) : Nat) : Int)) := Lib.hid (by unfold bldFD; simp [ha])
          clear ha
          have hrk : rngT ts k := fun i hi hik => HRG.out i hi hi
          have HSD : Hid (SD W W.heap.size A' k c' (bldF ts k)) := Lib.hid (sd_of_own HOW.out (bldF_ok HR.out.ok k (by omega) (by omega) hrk))
          have HSM := Lib.hid (bldF_small k (by omega) (by omega) hrk)
          obtain ⟨nx, hnx⟩ : ∃ nx, mNb (bldF ts k) = nx := ⟨_, rfl⟩
          rw [hnx] at HVAL
          have HNX := Lib.hid hnx
          clear hnx hrk
          generalize ts[k].val = vl at *
          generalize ts[k].name = nm at *
          have hne : D0 ≠ G := by omega
          have hne0 : w.heap.size ≠ D0 := by omega
          go_wp2_with fail
          refine (nextBit_any (bldF ts k) _ _ _ _ HSD.out HSM.out HNX.out).mono ?_
          rintro e w' ⟨rfl, rfl⟩
          have HOV : Hid ((W.setCell ⟨D0, 1, none⟩ (.int .i64 nx)).ownsRow (G + 1) 108 2 (.slice A' k c') k (flat (bldF ts k))) := Lib.hid (own_setCell HOW.out (fun e => by have := NEO.out _ e; simp at this) _)
          have HBV : Hid (Below w.heap.size w (W.setCell ⟨D0, 1, none⟩ (.int .i64 nx))) := Lib.hid (HBW.out.setCell (by show w.heap.size ≤ D0; omega) _)
          have HDV := Lib.hid (HDW.out.setO (p := ⟨D0, 1, none⟩) hne (.int .i64 nx))
          have HCV := Lib.hid (HCW.out.setO (p := ⟨D0, 1, none⟩) (Ne.symm hne0) (.int .i64 nx))
          have hzV : D0 + 1 ≤ (W.setCell ⟨D0, 1, none⟩ (.int .i64 nx)).heap.size := by rw [World.size_setCell]; exact hzW
          obtain ⟨r3, r4, s3, s4⟩ := HDV.out
          go_wp2_with (
            at_builtin
            refine wpList_app_D rfl _ _ rfl (G + 1) _ _ _ rfl HOV.out _ _ _ _ rfl (by first | rfl | simp) (by omega) (by omega) ?_
            intro v' w4 ho hb
            obtain ⟨A4, c4, rfl⟩ := own_form ho
            have HO4 := Lib.hid ho
            have HB4 : Hid (Below w.heap.size w w4) := Lib.hid (HBV.out.trans (hb.mono (by omega)))
            have hz4 : G + 1 ≤ w4.heap.size := (by have := hb.size; omega)
            have HD4 := Lib.hid (HDV.out.low hb (Nat.lt_succ_self _))
            have HC4 := Lib.hid (HCV.out.low hb (by omega))
            obtain ⟨y3, y4, z3, z4⟩ := HD4.out
            clear ho hb)
          go_roundw
          case rel =>
            refine ⟨k + 1, A4, c4, by omega, by go_num, Lib.hid (HD4.out.set0 _), Lib.hid (HC4.out.setO (by simp only; omega) _), Lib.hid ?_, Lib.hid (HB4.out.setCell (by show w.heap.size ≤ G; omega) _), Lib.hid (by rw [World.size_setCell]; exact hz4)⟩
            rw [HFB.out]
            refine own_setCell ?_ (fun e => by have := (HO4.out.lt _ e).1; simp at this; omega) _
            have := HO4.out
            rw [HVAL.out]
            exact this
          case measure => simp [intOf]; omega
      · obtain rfl : k = ts.length := by omega
        have HSD : Hid (SD wr wr.heap.size A' ts.length c' (bldF ts ts.length)) := Lib.hid (sd_of_own HO.out (bldF_ok HR.out.ok _ (Nat.le_refl _) (by omega) HRG.out))
        have hi1 : ¬ ((ts.length : Int) < (n : Int)) := by omega
        obtain ⟨e3, e4, g3, g4⟩ := HD.out
        obtain ⟨u, hve⟩ : ∃ u, vFlag (bldF ts ts.length) b = u := ⟨_, rfl⟩
        have HVE := Lib.hid hve
        have HBU : Hid (builtF ts b = u) := Lib.hid (by rw [HBT.out, hve])
        have HLB := Lib.hid (bldF_len ts ts.length (Nat.le_refl _))
        clear hve hnl
        go_wp2_with fail
        refine (specVF_v (bldF ts ts.length) b _ _ _ _ HSD.out HVE.out).mono ?_
        rintro e w4 ⟨rfl, hb⟩
        have HC4 := Lib.hid (HC.out.below hb)
        have HD4 := Lib.hid (HD.out.below hb)
        have HO4 := Lib.hid (own_below HO.out hb)
        have HB4 : Hid (Below w.heap.size w w4) := Lib.hid (hbel.out.trans (hb.mono hbel.out.size))
        obtain ⟨x0, x1, y0, y1⟩ := HC4.out
        obtain ⟨r3, r4, s3, s4⟩ := HD4.out
        have hzG := hzr.out
        clear hb e3 e4 g3 g4
        cases u
        · go_wp2
          refine bodyPost_ret (v := .tuple #[.agg #[.slice none 0 0, .int .i64 0], .bool false]) (by simp [results, Tryz.results27, go_sem, x0, x1]) rfl (bldFP_no HBU.out ((HB4.out.setCell (Nat.le_refl _) _).setCell (Nat.le_refl _) _))
        · go_wp2
          refine bodyPost_ret (v := .tuple #[.agg #[.slice A' ts.length c', .int .i64 b], .bool true]) (by simp [results, Tryz.results27, go_sem, x0, x1]) rfl (bldFP_yes HBU.out rfl HLB.out (own_setCell (own_setCell (own_base HO4.out (by omega)) (fun e => by have := (HO4.out.lt _ e).1; simp at this; omega) _) (fun e => by have := (HO4.out.lt _ e).1; simp at this; omega) _) ((HB4.out.setCell (Nat.le_refl _) _).setCell (Nat.le_refl _) _))
end Go.Proofs.YtiebdhbioccogaaGreatDoor

namespace Go.Proofs.YtiebdhbioccogaaGreatDoor
open Go.RowKit Go.Maps
set_option linter.unusedVariables false
set_option linter.unusedSimpArgs false
set_option maxRecDepth 100000

theorem listNe {u : ByteArray} (h : 0 < u.size) : (u.toList == []) = false := by
  rw [beq_eq_false_iff_ne]
  intro e
  have : u = ⟨#[]⟩ := nm_inj (by rw [e]; first | rfl | decide | simp [go_sem])
  rw [this] at h
  exact absurd h (by decide)
theorem sizeZ {u : ByteArray} (h : ¬ 0 < u.size) : u = ⟨#[]⟩ := by
  apply ByteArray.ext
  apply Array.eq_empty_of_size_eq_zero
  show u.size = 0
  omega
theorem minus_at {u : ByteArray} (h : 0 < u.size) : minus u = decide (u[0] = 45) := by
  have e : u.data.toList.head? = some u[0] := by
    rw [List.head?_eq_getElem?, Array.getElem?_toList]
    exact Array.getElem?_eq_getElem h
  unfold minus
  rw [e]
  rw [Bool.eq_iff_iff, decide_eq_true_iff, decide_eq_true_iff]
  exact ⟨fun h => Option.some.inj h, fun h => by rw [h]⟩
theorem eq1_no {b : ByteArray} (h : ¬ b = eq1B) : (b.toList == [61]) = false := by
  rw [beq_eq_false_iff_ne]
  intro e
  exact h (nm_inj (by rw [e]; first | rfl | decide | simp [eq1B, go_sem]))
theorem enum_no {b : ByteArray} (h : ¬ b = enumB) : (b.toList == [101, 110, 117, 109]) = false := by
  rw [beq_eq_false_iff_ne]
  intro e
  exact h (nm_inj (by rw [e]; first | rfl | decide | simp [enumB, go_sem]))
theorem nil_no {b : ByteArray} (h : ¬ b = ⟨#[]⟩) : (b.toList == []) = false := by
  rw [beq_eq_false_iff_ne]
  intro e
  exact h (nm_inj (by rw [e]; first | rfl | decide | simp [go_sem]))
theorem mRdN_range (s : ByteArray) : -1 ≤ mRdN s ∧ mRdN s ≤ 4096 := by rcases mRdN_cases s with h | ⟨n, hn, _, h⟩ <;> omega

set_option maxHeartbeats 4000000 in
theorem specSg_v (s : ByteArray) (w : World) (hs : s.size ≤ 1048576) {x : Int} {v : Bool} (hx : (rdSg s).getD 0 = x) (hv : (rdSg s).isSome = v) :
    Calls Tryz.prog 29 #[.string s] w fun e w' => e = .returned (.tuple #[.int .i64 x, .bool v]) ∧ w = w' := by
  by_cases h0 : 0 < s.size
  · have hne := listNe h0
    have hu1 : (0 : Int) < (s.size : Int) := by omega
    have hu2 : (1 : Int) ≤ (s.size : Int) := by omega
    by_cases h45 : s[0] = 45
    · have e1 : ((s[0].toNat : Int) == 45) = true := by rw [h45]; rfl
      have hmi : minus s = true := by rw [minus_at h0, decide_eq_true h45]
      rw [rdSg_minus hmi] at hx hv
      have hz : (s.extract 1 s.size).size ≤ 1048576 := by rw [ByteArray.size_extract]; omega
      obtain ⟨hr0, hr1⟩ := mRdN_range (s.extract 1 s.size)
      have HNUM := Lib.hid (fun w => specRdN_any (s.extract 1 s.size) w hz)
      clear hmi h45
      generalize hnm : s.extract 1 s.size = u at *
      generalize mRdN u = n at *
      by_cases h1 : n ≤ 0
      · rw [if_pos h1] at hx hv
        obtain rfl : x = 0 := hx.symm
        obtain rfl : v = false := hv.symm
        by_cases h2 : n < 0
        · go_enter Tryz.func29, Tryz.ntmps29
          go_wp2_with (go_at_call 66; refine (HNUM.out _).mono ?_; rintro e w' ⟨rfl, rfl⟩)
          go_ret2
          exact ⟨rfl, rfl⟩
        · obtain rfl : n = 0 := by omega
          go_enter Tryz.func29, Tryz.ntmps29
          go_wp2_with (go_at_call 66; refine (HNUM.out _).mono ?_; rintro e w' ⟨rfl, rfl⟩)
          go_ret2
          exact ⟨rfl, rfl⟩
      · rw [if_neg h1] at hx hv
        obtain rfl : v = true := hv.symm
        have HX : Hid (x = -n) := Lib.hid hx.symm
        have h2 : ¬ n < 0 := by omega
        have h3 : (n == 0) = false := by rw [beq_eq_false_iff_ne]; omega
        have hw : IntKind.i64.wrap (0 - n) = -n := by rw [IntKind.wrap_i64]; omega
        have hw2 : IntKind.i64.wrap (-n) = -n := by rw [IntKind.wrap_i64]; omega
        clear hx hv
        go_enter Tryz.func29, Tryz.ntmps29
        go_wp2_with (go_at_call 66; refine (HNUM.out _).mono ?_; rintro e w' ⟨rfl, rfl⟩)
        go_ret2
        exact ⟨by rw [HX.out]; first | done | rfl, rfl⟩
    · have e1 : ((s[0].toNat : Int) == 45) = false := by
        rw [beq_eq_false_iff_ne]
        intro e
        exact h45 (UInt8.toNat_inj.1 (by show s[0].toNat = 45; omega))
      have hmi : minus s = false := by rw [minus_at h0, decide_eq_false h45]
      rw [rdSg_plain hmi] at hx hv
      obtain ⟨hr0, hr1⟩ := mRdN_range s
      have HNUM := Lib.hid (fun w => specRdN_any s w hs)
      clear hmi h45
      generalize mRdN s = n at *
      by_cases h1 : n < 0
      · rw [if_pos h1] at hx hv
        obtain rfl : x = 0 := hx.symm
        obtain rfl : v = false := hv.symm
        go_enter Tryz.func29, Tryz.ntmps29
        go_wp2_with (go_at_call 66; refine (HNUM.out _).mono ?_; rintro e w' ⟨rfl, rfl⟩)
        go_ret2
        exact ⟨rfl, rfl⟩
      · rw [if_neg h1] at hx hv
        obtain rfl : x = n := hx.symm
        obtain rfl : v = true := hv.symm
        clear hx hv
        go_enter Tryz.func29, Tryz.ntmps29
        go_wp2_with (go_at_call 66; refine (HNUM.out _).mono ?_; rintro e w' ⟨rfl, rfl⟩)
        go_ret2
        exact ⟨rfl, rfl⟩
  · obtain rfl := sizeZ h0
    have hr : rdSg ⟨#[]⟩ = none := by rw [rdSg_plain (by decide), if_pos (by decide)]
    rw [hr] at hx hv
    obtain rfl : x = 0 := hx.symm
    obtain rfl : v = false := hv.symm
    have hn : mRdN ⟨#[]⟩ = -1 := by decide
    have HNUM := Lib.hid (fun w => specRdN_any ⟨#[]⟩ w hs)
    rw [hn] at HNUM
    clear hr hn h0
    go_enter Tryz.func29, Tryz.ntmps29
    go_wp2_with (go_at_call 66; refine (HNUM.out _).mono ?_; rintro e w' ⟨rfl, rfl⟩)
    go_ret2
    exact ⟨rfl, rfl⟩

/-- What is told of an item that is read. -/
def ItR (r : Option It) (w : World) (e : Ending) (w' : World) : Prop :=
  ∃ (nm : ByteArray) (au : Bool) (v : Int) (ok : Bool), e = .returned (.tuple #[.agg #[.string nm, .bool au, .int .i64 v], .bool ok]) ∧ (ok = true → r = some ⟨nm, au, v⟩) ∧ (ok = false → r = none) ∧ Below w.heap.size w w'
set_option maxHeartbeats 8000000 in
theorem parseItem_v (s : ByteArray) (w : World) (hs : s.size ≤ 1048576) :
    Calls Tryz.prog 62 #[.string s] w (ItR (itS s) w) := by
  have HSP := Lib.hid (fun w => splitAt_any s 32 32 rfl w hs)
  unfold StrsP at HSP
  have hwl := splitT_len 32 s
  have HWS : Hid (∀ x ∈ splitT 32 s, x.size ≤ 1048576) := Lib.hid fun x hx => by have := splitT_size 32 s x hx; omega
  have H1 : Hid ((splitT 32 s).length = 1 → itS s = some ⟨s, true, 0⟩) := Lib.hid fun h => by
    unfold itS
    rcases hw : splitT 32 s with _ | ⟨a, _ | ⟨b, r⟩⟩
    · rw [hw] at h; cases h
    · rfl
    · rw [hw] at h; simp at h
  have HN : Hid ((splitT 32 s).length ≠ 1 → (splitT 32 s).length ≠ 3 → itS s = none) := Lib.hid fun h1 h3 => by
    unfold itS
    rcases hw : splitT 32 s with _ | ⟨a, _ | ⟨b, _ | ⟨c, _ | ⟨d, r⟩⟩⟩⟩
    · rfl
    · rw [hw] at h1; exact absurd rfl h1
    · rfl
    · rw [hw] at h3; exact absurd rfl h3
    · rfl
  have H3 : Hid (∀ a b c, splitT 32 s = [a, b, c] → itS s = if b = eq1B then (match rdSg c with | some v => some ⟨a, false, v⟩ | none => none) else none) := Lib.hid fun a b c hw => by
    unfold itS
    rw [hw]
    rfl
  generalize splitT 32 s = ws at *
  generalize itS s = r at *
  obtain ⟨W0, hW⟩ : ∃ W : World, W = w.alloc (.cells #[.string ⟨#[]⟩, .bool false, .int .i64 0] 103) := ⟨_, rfl⟩
  have HB0 : Hid (Below w.heap.size w W0) := Lib.hid (by rw [hW]; exact (Below.refl _ _).alloc (Nat.le_refl _) _)
  have HC0 : Hid (C3 W0 w.heap.size (.string ⟨#[]⟩) (.bool false) (.int .i64 0)) := Lib.hid (by rw [hW]; exact c3New _ _ _ _ _)
  have HOKS : Hid (∀ x ∈ ws, x.size ≤ maxLen) := Lib.hid fun x hx => by have := HWS.out x hx; unfold maxLen; omega
  have HW := Lib.hid hW.symm
  clear hW
  go_enter Tryz.func62, Tryz.ntmps62
  go_wp2_with fail
  rw [HW.out]
  clear HW
  refine (HSP.out _).mono ?_
  rintro e w1 ⟨A1, c1, rfl, ho, hb⟩
  have HO1 := Lib.hid (ss_of_own ho HOKS.out)
  have HB1 : Hid (Below w.heap.size w w1) := Lib.hid (HB0.out.trans (hb.mono HB0.out.size))
  obtain ⟨r0, r1, r2, f0, f1, f2⟩ := HC0.out.below hb
  clear ho hb HSP HB0 HC0
  by_cases h1 : ws.length = 1
  · have hR := Lib.hid (H1.out h1)
    have e1 : ((ws.length : Int) == 1) = true := by rw [h1]; rfl
    clear H1 HN H3 h1 hwl
    go_wp2
    exact bodyPost_ret (v := .tuple #[.agg #[.string s, .bool true, .int .i64 0], .bool true]) (by simp [results, Tryz.results62, go_sem, r0, r1, r2, f0, f1, f2]) rfl ⟨s, true, 0, true, rfl, fun _ => hR.out, fun h => (by cases h), ((HB1.out.setCell (Nat.le_refl _) _).setCell (Nat.le_refl _) _).setCell (Nat.le_refl _) _⟩
  have e1 : ((ws.length : Int) == 1) = false := by rw [beq_eq_false_iff_ne]; omega
  by_cases h3 : ws.length = 3
  · have e3 : ((ws.length : Int) == 3) = true := by rw [h3]; rfl
    obtain ⟨a, b, c, hw⟩ : ∃ a b c, ws = [a, b, c] := by
      rcases ws with _ | ⟨a, _ | ⟨b, _ | ⟨c, _ | ⟨d, r⟩⟩⟩⟩
      · cases h3
      · cases h3
      · simp at h3
      · exact ⟨a, b, c, rfl⟩
      · simp at h3
    have hR := Lib.hid (H3.out a b c hw)
    have hz := HWS.out c (by rw [hw]; simp)
    subst hw
    obtain ⟨bb, o, hA, hbb, d0⟩ := HO1.out.at_ (k := 0) (by simp)
    obtain ⟨bb1, o1, hA1, hbb1, d1⟩ := HO1.out.at_ (k := 1) (by simp)
    obtain ⟨bb2, o2, hA2, hbb2, d2⟩ := HO1.out.at_ (k := 2) (by simp)
    obtain ⟨rfl, rfl⟩ : bb1 = bb ∧ o1 = o := by rw [hA] at hA1; injection hA1 with e; injection e with e e'; exact ⟨e.symm, e'.symm⟩
    obtain ⟨rfl, rfl⟩ : bb2 = bb1 ∧ o2 = o1 := by rw [hA] at hA2; injection hA2 with e; injection e with e e'; exact ⟨e.symm, e'.symm⟩
    subst hA
    simp only [List.getElem_cons_zero, List.getElem_cons_succ, Nat.add_zero] at d0 d1 d2
    clear H1 HN H3 h1 h3 hwl hA1 hA2 hbb1 hbb2 HWS HOKS HO1
    by_cases hbq : b = eq1B
    · have e5 : (b.toList == [61]) = true := by subst hbq; first | rfl | decide | simp [eq1B, go_sem]
      rw [if_pos hbq] at hR
      have HSG := Lib.hid (fun w => specSg_v c w hz rfl rfl)
      obtain ⟨x, hx⟩ : ∃ x, (rdSg c).getD 0 = x := ⟨_, rfl⟩
      obtain ⟨v, hv⟩ : ∃ v, (rdSg c).isSome = v := ⟨_, rfl⟩
      have hR2 : Hid ((v = true → r = some ⟨a, false, x⟩) ∧ (v = false → r = none)) := Lib.hid (by
        have h := hR.out
        cases hq : rdSg c with
        | none => rw [hq] at hx hv h; exact ⟨fun h2 => (by rw [← hv] at h2; cases h2), fun _ => h⟩
        | some q => rw [hq] at hx hv h; simp at hx; subst hx; exact ⟨fun _ => h, fun h2 => (by rw [← hv] at h2; cases h2)⟩)
      rw [hx, hv] at HSG
      clear hR hx hv hbq
      go_wp2_with (go_at_call 29; refine (HSG.out _).mono ?_; rintro e w9 ⟨rfl, rfl⟩)
      exact bodyPost_ret (v := .tuple #[.agg #[.string a, .bool false, .int .i64 x], .bool v]) (by simp [results, Tryz.results62, go_sem, r0, r1, r2, f0, f1, f2]) rfl ⟨a, false, x, v, rfl, hR2.out.1, hR2.out.2, ((HB1.out.setCell (Nat.le_refl _) _).setCell (Nat.le_refl _) _).setCell (Nat.le_refl _) _⟩
    · have e5 : (b.toList == [61]) = false := eq1_no hbq
      rw [if_neg hbq] at hR
      clear hbq
      go_wp2
      exact bodyPost_ret (v := .tuple #[.agg #[.string ⟨#[]⟩, .bool false, .int .i64 0], .bool false]) (by simp [results, Tryz.results62, go_sem, r0, r1, r2, f0, f1, f2]) rfl ⟨⟨#[]⟩, false, 0, false, rfl, fun h => (by cases h), fun _ => hR.out, ((HB1.out.setCell (Nat.le_refl _) _).setCell (Nat.le_refl _) _).setCell (Nat.le_refl _) _⟩
  · have hR := Lib.hid (HN.out h1 h3)
    have e3 : ((ws.length : Int) == 3) = false := by rw [beq_eq_false_iff_ne]; omega
    have e4 : ¬ (ws.length : Int) = 3 := by omega
    clear H1 HN H3 h1 h3 hwl
    go_wp2
    exact bodyPost_ret (v := .tuple #[.agg #[.string ⟨#[]⟩, .bool false, .int .i64 0], .bool false]) (by simp [results, Tryz.results62, go_sem, r0, r1, r2, f0, f1, f2]) rfl ⟨⟨#[]⟩, false, 0, false, rfl, fun h => (by cases h), fun _ => hR.out, ((HB1.out.setCell (Nat.le_refl _) _).setCell (Nat.le_refl _) _).setCell (Nat.le_refl _) _⟩
/-- What is told of a text that is read. -/
def ItsR (r : Option (ByteArray × List It)) (w : World) (e : Ending) (w' : World) : Prop :=
  ∃ (h : ByteArray) (A : Option Addr) (c : Nat) (ts : List It) (ok : Bool), e = .returned (.tuple #[.string h, .slice A ts.length c, .bool ok]) ∧ (ok = true → r = some (h, ts)) ∧ (ok = false → r = none) ∧ (∀ t ∈ ts, t.ok) ∧ w'.ownsRow w.heap.size 103 3 (.slice A ts.length c) ts.length (flatT ts) ∧ Below w.heap.size w w'
set_option maxHeartbeats 16000000 in
theorem parseItems_v (s : ByteArray) (w : World) (hs : s.size ≤ 1048576) :
    Calls Tryz.prog 25 #[.string s] w (ItsR (itemsOf itS s) w) := by
  have HSP := Lib.hid (fun w => splitAt_any s 10 10 rfl w hs)
  unfold StrsP at HSP
  have hwl := (splitT_len 10 s).1
  have HWS : Hid (∀ x ∈ splitT 10 s, x.size ≤ 1048576) := Lib.hid fun x hx => by have := splitT_size 10 s x hx; omega
  have HSH : Hid ((splitT 10 s).length < 2 → itemsOf itS s = none) := Lib.hid fun h => itemsOf_no (mLn_short h)
  have HPT : Hid (∀ x mid last, splitT 10 s = x :: (mid ++ [last]) → itemsOf itS s = if last = ⟨#[]⟩ then (match allIt itS mid with | some ts => some (x, ts) | none => none) else none) := Lib.hid fun x mid last hw => by
    have h := mLn_parts hw
    by_cases hl : last = ⟨#[]⟩
    · rw [if_pos hl] at h ⊢
      cases ha : allIt itS mid with
      | none => exact itemsOf_bad h ha
      | some ts => exact itemsOf_yes h ha
    · rw [if_neg hl] at h ⊢
      exact itemsOf_no h
  generalize itemsOf itS s = r at *
  generalize splitT 10 s = ls at *
  have HOKS : Hid (∀ x ∈ ls, x.size ≤ maxLen) := Lib.hid fun x hx => by have := HWS.out x hx; unfold maxLen; omega
  go_enter Tryz.func25, Tryz.ntmps25
  go_wp2_with fail
  refine (HSP.out _).mono ?_
  rintro e w1 ⟨A1, c1, rfl, ho, hb⟩
  have HO1 := Lib.hid ho
  have HB1 := Lib.hid hb
  have hs1 := hb.size
  clear ho hb HSP
  by_cases h2 : ls.length < 2
  · have HR := Lib.hid (HSH.out h2)
    have hi2 : (ls.length : Int) < 2 := by omega
    clear HSH HPT
    go_wp2
    go_ret3
    exact ⟨⟨#[]⟩, none, 0, [], false, rfl, fun h => (by cases h), fun _ => HR.out, (fun t ht => by cases ht), World.ownsRow_nil _ _ _ _, HB1.out⟩
  obtain ⟨x, mid, last, hls⟩ := lines_three (by omega : 2 ≤ ls.length)
  have HR := Lib.hid (HPT.out x mid last hls)
  clear HPT HSH
  obtain ⟨N, hN⟩ : ∃ N, ls.length = N := ⟨_, rfl⟩
  obtain ⟨m, hm⟩ : ∃ m, mid.length + 1 = m := ⟨_, rfl⟩
  have hNm : N = m + 1 := by rw [← hN, hls, ← hm]; simp
  have hNs : N ≤ 1048577 := by omega
  have HN := Lib.hid hN
  have HM := Lib.hid hm
  have hN2 : ¬ (N : Int) < 2 := by omega
  have hw1 : IntKind.i64.wrap ((N : Int) - 1) = (m : Int) := by rw [IntKind.wrap_i64]; omega
  have hm0 : (0 : Int) ≤ (m : Int) := by omega
  have hmN : (m : Int) < (N : Int) := by omega
  have HAT : Hid (∀ (W : World), W.ownsRow w.heap.size 9 1 (.slice A1 N c1) N (flatS ls) → ∀ (k : Nat) (hk : k < ls.length), ∃ b o, A1 = some ⟨b, o, none⟩ ∧ b < W.heap.size ∧ W.cell? ⟨b, o + k, none⟩ = some (.string ls[k])) := Lib.hid (fun W h k hk => (ss_of_own h HOKS.out).at_ hk)
  rw [hN] at HO1
  obtain ⟨bb, o, hA, hbb, d9⟩ := HAT.out _ HO1.out m (by omega)
  have hlast : ∀ h : m < ls.length, ls[m] = last := fun h => by subst hls; subst hm; simp
  rw [hlast] at d9
  have HX0 : Hid (∀ h : 0 < ls.length, ls[0] = x) := Lib.hid (fun h => by subst hls; simp)
  have HMID : Hid (∀ k (hk : k < mid.length) (hk2 : k + 1 < ls.length), ls[k + 1] = mid[k]) := Lib.hid (fun k hk hk2 => by subst hls; simp [List.getElem_append_left hk])
  rw [hN] at h2
  clear hN hlast hm
  rw [HN.out]
  by_cases hl : last = ⟨#[]⟩
  · rw [if_pos hl] at HR
    have e1 : (last.toList == []) = true := by subst hl; first | rfl | decide | simp [go_sem]
    clear hl
    subst hA
    have hs2 : w1.heap.size ≤ (w1.alloc (.cells #[] 103)).heap.size := by simp
    have HO2 : Hid ((w1.alloc (.cells #[] 103)).ownsRow w.heap.size 9 1 (.slice (some ⟨bb, o, none⟩) N c1) N (flatS ls)) := Lib.hid (HO1.out.alloc _)
    have HQ2 : Hid ((w1.alloc (.cells #[] 103)).ownsRow w1.heap.size 103 3 (.slice (some ⟨w1.heap.size, 0, none⟩) 0 0) 0 (flatT [])) := Lib.hid (World.ownsRow_made w1 #[] 0 (Nat.le_refl _) (by unfold maxLen; omega) rfl)
    have HB2 : Hid (Below w.heap.size w (w1.alloc (.cells #[] 103))) := Lib.hid (HB1.out.alloc HB1.out.size _)
    clear HO1 HB1
    go_wp2
    go_loopw [6, 7] (fun v i wr => ∃ (j k : Nat) (us : List It), Hid (j = k + 1) ∧ k ≤ mid.length ∧ i = .int .i64 j ∧ Hid (stAt itS mid k us) ∧ Hid (us.length = k) ∧ Hid (∀ t ∈ us, t.ok) ∧ Hid (wr.ownsRow w.heap.size 9 1 (.slice (some ⟨bb, o, none⟩) N c1) N (flatS ls)) ∧ Hid (wr.ownsRow w1.heap.size 103 3 v k (flatT us)) ∧ Hid (Below w.heap.size w wr) ∧ w1.heap.size ≤ wr.heap.size) (fun _ i _ => m - (intOf i).toNat)
    case atStart => exact ⟨1, 0, [], Lib.hid rfl, Nat.zero_le _, rfl, Lib.hid (stAt_zero itS mid), Lib.hid rfl, Lib.hid (fun t ht => by cases ht), HO2, HQ2, HB2, hs2⟩
    case round =>
      clear HO2 HQ2 HB2 hs2 d9 e1
      obtain ⟨j, k, us, HJ, hk, rfl, HST, HUL, HUO, HOL, HOQ, HBR, hsz⟩ := hrel
      obtain ⟨q, hq⟩ : ∃ q : Nat, j + 1 = q := ⟨_, rfl⟩
      have hjk := HJ.out
      have hMM := HM.out
      have HQ := Lib.hid hq
      have hqw : IntKind.i64.wrap ((j : Int) + 1) = (q : Int) := by rw [IntKind.wrap_i64]; omega
      have hj0 : (0 : Int) ≤ (j : Int) := by omega
      have hjN : (j : Int) < (N : Int) := by omega
      by_cases hlt : k < mid.length
      · have hqN : (q : Int) < (N : Int) := by omega
        have hjl : k + 1 < ls.length := by rw [HN.out]; omega
        obtain ⟨b2, o2, hA2, hbb2, d1⟩ := HAT.out _ HOL.out (k + 1) hjl
        obtain ⟨rfl, rfl⟩ : bb = b2 ∧ o = o2 := by injection hA2 with e; injection e with e e'; exact ⟨e, e'⟩
        rw [HMID.out k hlt hjl, show k + 1 = j by omega] at d1
        have hz : (mid[k]).size ≤ 1048576 := by rw [← HMID.out k hlt hjl]; exact HWS.out _ (List.getElem_mem hjl)
        have HPI := Lib.hid (fun w => parseItem_v mid[k] w hz)
        have HBAD := Lib.hid (fun h => stAt_bad hlt HST.out h)
        have HSTEP := Lib.hid (fun x h => stAt_step (x := x) hlt HST.out h)
        have HOKX := Lib.hid (fun x h => itS_ok (x := x) hz h)
        unfold ItR at HPI
        generalize itS mid[k] = ru at *
        generalize mid[k] = u at *
        clear HST hjk hq hA2
        go_wp2_with fail
        refine (HPI.out _).mono ?_
        rintro e w6 ⟨nm, au, vl, ok, rfl, hy, hno, hb⟩
        have HY := Lib.hid hy
        have HNO := Lib.hid hno
        have HOL6 : Hid ((w6.alloc (.cells #[.string nm, .bool au, .int .i64 vl] 103)).ownsRow w.heap.size 9 1 (.slice (some ⟨bb, o, none⟩) N c1) N (flatS ls)) := Lib.hid ((own_below HOL.out hb).alloc _)
        have HOQ6 := Lib.hid ((own_below HOQ.out hb).alloc (.cells #[.string nm, .bool au, .int .i64 vl] 103))
        have HB6' := HBR.out.trans (hb.mono HBR.out.size)
        have HB6 : Hid (Below w.heap.size w (w6.alloc (.cells #[.string nm, .bool au, .int .i64 vl] 103))) := Lib.hid (HB6'.alloc HB6'.size _)
        have hs6 : w1.heap.size ≤ (w6.alloc (.cells #[.string nm, .bool au, .int .i64 vl] 103)).heap.size := by have := hb.size; simp; omega
        clear hy hno hb HOL HOQ HBR HPI HB6' d1
        cases ok
        · have HRN : Hid (r = none) := Lib.hid (by rw [HR.out, HBAD.out (HNO.out rfl)])
          clear HR HBAD HSTEP HOKX HY HNO
          go_wp2
          go_ret3
          exact ⟨⟨#[]⟩, none, 0, [], false, rfl, fun h => (by cases h), fun _ => HRN.out, (fun t ht => by cases ht), World.ownsRow_nil _ _ _ _, HB6.out⟩
        · have HX := Lib.hid (HY.out rfl)
          have HST2 := Lib.hid (HSTEP.out _ HX.out)
          have HOK2 := Lib.hid (HOKX.out _ HX.out)
          have hkl : k ≤ 2000000 := by omega
          clear HBAD HSTEP HOKX HY HNO HX
          go_wp2_with (at_builtin; refine wpList_app_T rfl _ _ rfl w1.heap.size _ _ _ rfl HOQ6.out nm au vl _ _ rfl (by first | rfl | simp) hkl hs6 ?_; intro v' w8 ho1 hg1; have HO8 := Lib.hid ho1; have HG8 := Lib.hid hg1; clear ho1 hg1)
          go_roundw
          case rel => exact ⟨q, k + 1, us ++ [⟨nm, au, vl⟩], Lib.hid (by have := HJ.out; have := HQ.out; omega), hlt, by first | rfl | go_num, HST2, Lib.hid (by rw [List.length_append, HUL.out]; rfl), Lib.hid (fun t ht => by
              rcases List.mem_append.1 ht with ht | ht
              · exact HUO.out t ht
              · rw [List.mem_singleton.1 ht]; exact HOK2.out), Lib.hid (HOL6.out.kept HG8.out (own_ne_type HOL6.out HOQ6.out (by decide))), Lib.hid (by have h := HO8.out; simpa [flatT, encT] using h), Lib.hid (HB6.out.grown HG8.out HB6.out.size (fun r hr => by have := (HOQ6.out.lt r hr).1; omega)), Nat.le_trans hs6 HG8.out.size⟩
          case measure =>
            have h1 := HJ.out
            have h2 := HQ.out
            simp [intOf]
            omega
      · obtain rfl : k = mid.length := by omega
        have hqN : ¬ (q : Int) < (N : Int) := by omega
        obtain ⟨b2, o2, hA2, hbb2, d1⟩ := HAT.out _ HOL.out 0 (by rw [HN.out]; omega)
        obtain ⟨rfl, rfl⟩ : bb = b2 ∧ o = o2 := by injection hA2 with e; injection e with e e'; exact ⟨e, e'⟩
        rw [HX0.out, Nat.add_zero] at d1
        have HRY : Hid (r = some (x, us)) := Lib.hid (by rw [HR.out, stAt_end HST.out])
        have hN0 : (0 : Int) < (N : Int) := by omega
        obtain ⟨A', c', hv⟩ := own_form HOQ.out
        subst hv
        clear HR HST hjk hq hA2
        go_wp2
        go_ret3
        exact ⟨x, A', c', us, true, by rw [HUL.out]; first | done | rfl, fun _ => HRY.out, fun h => (by cases h), HUO.out, by rw [HUL.out]; exact own_base HOQ.out hs1, HBR.out⟩
  · rw [if_neg hl] at HR
    have e1 : (last.toList == []) = false := nil_no hl
    clear hl
    subst hA
    go_wp2
    go_ret3
    exact ⟨⟨#[]⟩, none, 0, [], false, rfl, fun h => (by cases h), fun _ => HR.out, (fun t ht => by cases ht), World.ownsRow_nil _ _ _ _, HB1.out⟩
end Go.Proofs.YtiebdhbioccogaaGreatDoor

namespace Go.Proofs.YtiebdhbioccogaaGreatDoor
open Go.RowKit Go.Maps
set_option linter.unusedVariables false
set_option linter.unusedSimpArgs false
set_option maxRecDepth 100000

/-- What is told of a text that the program reads. -/
def TxR (r : Option (ByteArray × List It)) (w : World) (e : Ending) (w' : World) : Prop :=
  ∃ (h : ByteArray) (A : Option Addr) (c : Nat) (ts : List It) (er : Value), e = .returned (.tuple #[.string h, .slice A ts.length c, er]) ∧ ((r = some (h, ts) ∧ er = .nilIface) ∨ (r = none ∧ er = errV)) ∧ (∀ t ∈ ts, t.ok) ∧ w'.ownsRow w.heap.size 103 3 (.slice A ts.length c) ts.length (flatT ts) ∧ Below w.heap.size w w'
theorem run_slice1S (g o n c : Nat) (hc : n + 1 ≤ c) (W : World) : (Instr.slice 22 (.slice (some ⟨g, o, none⟩) (n + 1) c) (some (.int .i64 1)) none none).run Tryz.prog W = .ok (.slice (if c = 1 then some ⟨g, o, none⟩ else some ⟨g, o + 1, none⟩) n (c - 1)) W := by
  rw [run_slice_l (P := Tryz.prog) W 22 (some ⟨g, o, none⟩) (n + 1) c (by kernel_rfl) .i64 1 (by omega) (by omega)]
  have hs : (sizeOf (Tryz.prog.elem 22)).run Tryz.prog W = .ok 1 W := by kernel_rfl
  rw [hs]
  by_cases h : c = 1
  · subst h; simp [Result.andThen, sliced]
  · simp [Result.andThen, sliced, h, Addr.add]
set_option maxHeartbeats 16000000 in
theorem readText_v (s : ByteArray) (w : World) (hs : s.size ≤ 1048576) (hT : RT w w.heap.size) :
    Calls Tryz.prog 40 #[.string s] w (TxR (itemsOf itI s) w) := by
  have HLN := Lib.hid (linesOf_v s w hs)
  have HNO : Hid (mLn s = none → itemsOf itI s = none) := Lib.hid itemsOf_no
  have HYS : Hid (∀ x mid, mLn s = some (x :: mid) → itemsOf itI s = match allIt itI mid with | some ts => some (x, ts) | none => none) := Lib.hid fun x mid h => by
    cases ha : allIt itI mid with
    | none => exact itemsOf_bad h ha
    | some ts => exact itemsOf_yes h ha
  have HLS : Hid (∀ l, mLn s = some l → (∃ x r, l = x :: r) ∧ ∀ x ∈ l, x.size ≤ 1048576) := Lib.hid fun l h => ⟨mLn_some h, fun x hx => by have := mLn_size h x hx; omega⟩
  have HLL : Hid (∀ l, mLn s = some l → l.length ≤ 1048577) := Lib.hid fun l h => by have := mLn_len h; omega
  unfold LnP at HLN
  have HT := Lib.hid hT
  clear hT
  generalize mLn s = o at *
  generalize itemsOf itI s = r at *
  go_enter Tryz.func40, Tryz.ntmps40
  go_wp2_with fail
  refine (HLN.out).mono ?_
  rintro e w1 ⟨A1, c1, ls, er, rfl, hcase, ho, hb⟩
  have HB1 := Lib.hid hb
  have hs1 := hb.size
  rcases hcase with ⟨hso, rfl⟩ | ⟨hno, rfl⟩
  · obtain ⟨⟨x, mid, rfl⟩, hsz⟩ := HLS.out ls hso
    have HR := Lib.hid (HYS.out x mid hso)
    have HWS := Lib.hid hsz
    have HOKS : Hid (∀ y ∈ x :: mid, y.size ≤ maxLen) := Lib.hid fun y hy => by have := HWS.out y hy; unfold maxLen; omega
    obtain ⟨n, hn⟩ : ∃ n, mid.length = n := ⟨_, rfl⟩
    have HN := Lib.hid hn
    have hlen : (x :: mid).length = n + 1 := by rw [List.length_cons, hn]
    rw [hlen] at ho ⊢
    have HO1 := Lib.hid ho
    have HAT : Hid (∀ (W : World), W.ownsRow w.heap.size 9 1 (.slice A1 (n + 1) c1) (n + 1) (flatS (x :: mid)) → ∀ (k : Nat) (hk : k < (x :: mid).length), ∃ b o, A1 = some ⟨b, o, none⟩ ∧ b < W.heap.size ∧ W.cell? ⟨b, o + k, none⟩ = some (.string (x :: mid)[k])) := Lib.hid (fun W h k hk => (ss_of_own h HOKS.out).at_ hk)
    obtain ⟨bb, o1, hA, hbb, d0⟩ := HAT.out _ HO1.out 0 (by simp)
    subst hA
    have hcap := (ss_of_own HO1.out HOKS.out).cap
    have hsl := fun W => run_slice1S bb o1 n c1 hcap W
    generalize hA2 : (if c1 = 1 then some (⟨bb, o1, none⟩ : Addr) else some ⟨bb, o1 + 1, none⟩) = A2 at hsl
    have HA2 : Hid (0 < n → A2 = some ⟨bb, o1 + 1, none⟩) := Lib.hid fun h => by rw [← hA2, if_neg (by omega)]
    have HCM := Lib.hid (ss_of_own HO1.out HOKS.out).max
    have hnl : n ≤ 1048577 := by have := HLL.out _ hso; rw [List.length_cons, hn] at this; omega
    clear hA2 hn hlen ho hso hsz HYS HNO HLS HLL hb
    go_wp2
    go_loopw [7, 23] (fun v i wr => ∃ (k : Nat) (us : List It), k ≤ n ∧ i = .int .i64 k ∧ Hid (stAt itI mid k us) ∧ Hid (us.length = k) ∧ Hid (∀ t ∈ us, t.ok) ∧ Hid (wr.ownsRow w.heap.size 9 1 (.slice (some ⟨bb, o1, none⟩) (n + 1) c1) (n + 1) (flatS (x :: mid))) ∧ Hid (wr.ownsRow w1.heap.size 103 3 v k (flatT us)) ∧ Hid (Below w.heap.size w wr) ∧ w1.heap.size ≤ wr.heap.size) (fun _ i _ => n - (intOf i).toNat)
    case atStart => exact ⟨0, [], Nat.zero_le _, rfl, Lib.hid (stAt_zero itI mid), Lib.hid rfl, Lib.hid (fun t ht => by cases ht), HO1, Lib.hid (World.ownsRow_nil _ _ _ _), HB1, Nat.le_refl _⟩
    case round =>
      clear HO1 HB1 d0
      obtain ⟨k, us, hk, rfl, HST, HUL, HUO, HOL, HOQ, HBR, hsz⟩ := hrel
      have hk0 : (0 : Int) ≤ (k : Int) := by omega
      by_cases hlt : k < n
      · have hkn : (k : Int) < (n : Int) := by omega
        obtain rfl := HA2.out (by omega)
        have hkm : k < mid.length := by rw [HN.out]; exact hlt
        obtain ⟨b2, o2, hA3, hbb2, d1⟩ := HAT.out _ HOL.out (k + 1) (by rw [List.length_cons]; omega)
        obtain ⟨rfl, rfl⟩ : b2 = bb ∧ o2 = o1 := by injection hA3 with e; injection e with e e'; exact ⟨e.symm, e'.symm⟩
        rw [List.getElem_cons_succ, show o2 + (k + 1) = o2 + 1 + k by omega] at d1
        have hz : (mid[k]).size ≤ 1048576 := HWS.out _ (List.mem_cons_of_mem _ (List.getElem_mem hkm))
        have HPI := Lib.hid (fun w hT => readItem_v mid[k] w hz hT)
        have HBAD := Lib.hid (fun h => stAt_bad hkm HST.out h)
        have HSTEP := Lib.hid (fun x h => stAt_step (x := x) hkm HST.out h)
        have HOKX := Lib.hid (fun x h => itI_ok (x := x) hz h)
        have HTR : Hid (RT wr wr.heap.size) := Lib.hid (HT.out.low HBR.out)
        unfold ItE at HPI
        generalize itI mid[k] = ru at *
        generalize mid[k] = u at *
        clear HST hA3
        go_wp2_with fail
        refine (HPI.out _ HTR.out).mono ?_
        rintro e w6 ⟨nm, au, vl, er, rfl, hcase, hb⟩
        have HOL6 : Hid ((w6.alloc (.cells #[.string nm, .bool au, .int .i64 vl] 103)).ownsRow w.heap.size 9 1 (.slice (some ⟨b2, o2, none⟩) (n + 1) c1) (n + 1) (flatS (x :: mid))) := Lib.hid ((own_below HOL.out hb).alloc _)
        have HOQ6 := Lib.hid ((own_below HOQ.out hb).alloc (.cells #[.string nm, .bool au, .int .i64 vl] 103))
        have HB6' := HBR.out.trans (hb.mono HBR.out.size)
        have HB6 : Hid (Below w.heap.size w (w6.alloc (.cells #[.string nm, .bool au, .int .i64 vl] 103))) := Lib.hid (HB6'.alloc HB6'.size _)
        have hs6 : w1.heap.size ≤ (w6.alloc (.cells #[.string nm, .bool au, .int .i64 vl] 103)).heap.size := by have := hb.size; simp; omega
        clear hb HOL HOQ HBR HPI HB6' d1 HTR
        rcases hcase with ⟨hy, rfl⟩ | ⟨hno, rfl⟩
        · have HST2 := Lib.hid (HSTEP.out _ hy)
          have HOK2 := Lib.hid (HOKX.out _ hy)
          have hkl : k ≤ 2000000 := by omega
          clear HBAD HSTEP HOKX hy
          go_wp2_with (at_builtin; refine wpList_app_T rfl _ _ rfl w1.heap.size _ _ _ rfl HOQ6.out nm au vl _ _ rfl (by first | rfl | simp) hkl hs6 ?_; intro v' w8 ho1 hg1; have HO8 := Lib.hid ho1; have HG8 := Lib.hid hg1; clear ho1 hg1)
          go_roundw
          case rel => exact ⟨k + 1, us ++ [⟨nm, au, vl⟩], hlt, by go_num, HST2, Lib.hid (by rw [List.length_append, HUL.out]; rfl), Lib.hid (fun t ht => by
              rcases List.mem_append.1 ht with ht | ht
              · exact HUO.out t ht
              · rw [List.mem_singleton.1 ht]; exact HOK2.out), Lib.hid (HOL6.out.kept HG8.out (own_ne_type HOL6.out HOQ6.out (by decide))), Lib.hid (by have h := HO8.out; simpa [flatT, encT] using h), Lib.hid (HB6.out.grown HG8.out HB6.out.size (fun r hr => by have := (HOQ6.out.lt r hr).1; omega)), Nat.le_trans hs6 HG8.out.size⟩
          case measure => simp [intOf]; omega
        · have HRN : Hid (r = none) := Lib.hid (by rw [HR.out, HBAD.out hno])
          clear HR HBAD HSTEP HOKX hno
          unfold errV wrongB
          go_wp2
          go_ret3
          exact ⟨⟨#[]⟩, none, 0, [], errV, rfl, .inr ⟨HRN.out, rfl⟩, (fun t ht => by cases ht), World.ownsRow_nil _ _ _ _, HB6.out⟩
      · obtain rfl : k = n := by omega
        have hkn : ¬ (k : Int) < (k : Int) := by omega
        obtain ⟨b2, o2, hA3, hbb2, d1⟩ := HAT.out _ HOL.out 0 (by simp)
        obtain ⟨rfl, rfl⟩ : b2 = bb ∧ o2 = o1 := by injection hA3 with e; injection e with e e'; exact ⟨e.symm, e'.symm⟩
        rw [List.getElem_cons_zero, Nat.add_zero] at d1
        have HRY : Hid (r = some (x, us)) := Lib.hid (by
          have h := HST.out
          rw [← HN.out] at h
          rw [HR.out, stAt_end h])
        have hN0 : (0 : Int) < ((k + 1 : Nat) : Int) := by omega
        obtain ⟨A', c', hv⟩ := own_form HOQ.out
        subst hv
        clear HR HST hA3
        go_wp2
        go_ret3
        exact ⟨x, A', c', us, .nilIface, by rw [HUL.out]; first | done | rfl, .inl ⟨HRY.out, rfl⟩, HUO.out, by rw [HUL.out]; exact own_base HOQ.out hs1, HBR.out⟩
  · have HRN := Lib.hid (HNO.out hno)
    clear HNO HYS HLS HLL hno ho hb
    unfold errV wrongB
    go_wp2
    go_ret3
    exact ⟨⟨#[]⟩, none, 0, [], errV, rfl, .inr ⟨HRN.out, rfl⟩, (fun t ht => by cases ht), World.ownsRow_nil _ _ _ _, HB1.out⟩
end Go.Proofs.YtiebdhbioccogaaGreatDoor

namespace Go.Proofs.YtiebdhbioccogaaGreatDoor
open Go.RowKit Go.Maps
set_option linter.unusedVariables false
set_option linter.unusedSimpArgs false
set_option maxRecDepth 100000


set_option maxHeartbeats 4000000 in
theorem indexS_v (h : ByteArray) (ts : List ByteArray) (A : Option Addr) (n c : Nat) (w : World) (hr : SS w w.heap.size A n c ts) {x : Int} (hx : fidx (isS h) ts = x) :
    Calls Tryz.prog 42 #[.slice A n c, .string h] w fun e w' => e = .returned (.int .i64 x) ∧ w = w' := by
  obtain rfl := hr.len
  have hl := hr.max
  have hl2 := hr.cap
  unfold maxLen at hl
  have HR := Lib.hid hr
  have HX := Lib.hid hx
  clear hr hx
  go_enter Tryz.func42, Tryz.ntmps42
  go_wp2
  go_loop [8] (fun i => ∃ k : Nat, k ≤ ts.length ∧ i = .int .i64 k ∧ Hid (noTo (isS h) ts k)) (fun i => ts.length - (intOf i).toNat)
  case atStart => exact ⟨0, Nat.zero_le _, rfl, Lib.hid (fun i hi h => absurd h (by omega))⟩
  case round =>
    obtain ⟨k, hk, rfl, HNO⟩ := hrel
    have hk0 : (0 : Int) ≤ (k : Int) := by omega
    by_cases hlt : k < ts.length
    · have hki : (k : Int) < (ts.length : Int) := by omega
      obtain ⟨bb, o, hA, hbb, d0⟩ := HR.out.at_ hlt
      subst hA
      have HSO := Lib.hid (fun (hp : isS h ts[k] = true) => fidx_some HNO.out hlt hp)
      have HSN : Hid (isS h ts[k] = false → noTo (isS h) ts (k + 1)) := Lib.hid (fun hp i hi hik => by
          by_cases e : i = k
          · subst e; exact hp
          · exact HNO.out i hi (by omega))
      generalize ts[k] = t at *
      by_cases he : h = t
      · have e1 : (h.toList == t.toList) = true := nm_true he
        have HRX : Hid (x = (k : Int)) := Lib.hid (by rw [← HX.out]; exact HSO.out (decide_eq_true he))
        clear he
        go_wp2
        go_ret
        exact ⟨by rw [HRX.out]; first | done | rfl, rfl⟩
      · have e1 : (h.toList == t.toList) = false := nm_false he
        have HN2 := Lib.hid (HSN.out (decide_eq_false he))
        clear he
        go_wp2
        go_round
        case rel => exact ⟨k + 1, hlt, by go_num, HN2⟩
        case measure => simp [intOf]; omega
    · obtain rfl : k = ts.length := by omega
      have hki : ¬ (ts.length : Int) < (ts.length : Int) := by omega
      have HRX : Hid (x = -1) := Lib.hid (by rw [← HX.out]; exact fidx_none HNO.out)
      go_wp2
      go_ret
      exact ⟨by rw [HRX.out]; first | done | rfl, rfl⟩

/-- What is told of a class that the program reads. -/
def FlE (ms : List D) (b : Int) (v : Bool) (w : World) (e : Ending) (w' : World) : Prop :=
  ∃ (A : Option Addr) (c : Nat) (er : Value), e = .returned (.tuple #[.agg #[.slice A ms.length c, .int .i64 b], er]) ∧ ((v = true ∧ er = .nilIface) ∨ (v = false ∧ er = errV ∧ ms = [] ∧ b = 0)) ∧ w'.ownsRow w.heap.size 108 2 (.slice A ms.length c) ms.length (flat ms) ∧ Below w.heap.size w w'
set_option maxHeartbeats 8000000 in
theorem readFlag_v (s : ByteArray) (w : World) (hs : s.size ≤ 1048576) (hT : RT w w.heap.size) :
    Calls Tryz.prog 14 #[.string s] w (FlE (mPF s) (bPF s) (okPF s) w) := by
  have HPI := Lib.hid (fun w hT => readText_v s w hs hT)
  unfold TxR at HPI
  have HNO : Hid (itemsOf itI s = none → mPF s = [] ∧ bPF s = 0 ∧ okPF s = false) := Lib.hid pf_noI
  have HYS : Hid (∀ h ts, itemsOf itI s = some (h, ts) → mPF s = mBldF ts (bndH h) ∧ bPF s = mBldB ts (bndH h) ∧ okPF s = builtF ts (bndH h)) := Lib.hid fun h ts e => pf_yesI e
  generalize mPF s = M at *
  generalize bPF s = B at *
  generalize okPF s = V at *
  generalize itemsOf itI s = r at *
  obtain ⟨W0, hW⟩ : ∃ W : World, W = w.alloc (.cells #[.slice none 0 0, .int .i64 0] 35) := ⟨_, rfl⟩
  have hb0 : Below w.heap.size w W0 := by rw [hW]; exact (Below.refl _ _).alloc (Nat.le_refl _) _
  have HB0 := Lib.hid hb0
  have HT0 := Lib.hid (hT.low hb0)
  have hs0 : w.heap.size + 1 ≤ W0.heap.size := by rw [hW]; simp
  have HC0 : Hid (C2 W0 w.heap.size (.slice none 0 0) (.int .i64 0)) := Lib.hid (by rw [hW]; exact c2New _ _ _ _)
  have HW := Lib.hid hW.symm
  have HFH := Lib.hid (fun w => flagHeads_v w)
  clear hW hb0 hT
  go_enter Tryz.func14, Tryz.ntmps14
  go_wp2_with fail
  rw [HW.out]
  clear HW
  refine (HPI.out _ HT0.out).mono ?_
  rintro e w1 ⟨h, A1, c1, ts, er, rfl, hcase, hok, ho, hb⟩
  have hs1 := hb.size
  have HC1 := Lib.hid (HC0.out.below hb)
  have HB1 : Hid (Below w.heap.size w w1) := Lib.hid (HB0.out.trans (hb.mono HB0.out.size))
  clear hb HB0 HPI HC0
  rcases hcase with ⟨hy, rfl⟩ | ⟨hno, rfl⟩
  · obtain ⟨hM, hB, hV⟩ := HYS.out h ts hy
    obtain ⟨x, hx⟩ : ∃ x, bndH h = x := ⟨_, rfl⟩
    have HX := Lib.hid hx
    rw [hx] at hM hB hV
    have HO1 := Lib.hid ho
    have HOK := Lib.hid hok
    have HBU := Lib.hid (fun A c n w hr => implBuildF_any ts x A c n w hr)
    have HNV : Hid (V = false → M = [] ∧ B = 0) := Lib.hid fun hv => by
      rw [hM, hB]
      exact mBldF_no (by rw [← hV]; exact hv)
    unfold BldFP FlagR at HBU
    rw [← hM, ← hB, ← hV] at HBU
    clear hM hB hV hx hy HNO HYS hok ho
    go_wp2_with fail
    refine (HFH.out _).mono ?_
    rintro e w2 ⟨A2, c2, rfl, hss, hb⟩
    have HC2 := Lib.hid (HC1.out.below hb)
    have HO2 := Lib.hid (own_below HO1.out hb)
    have HS2 := Lib.hid hss
    have hs2 := hb.size
    have HB2 : Hid (Below w.heap.size w w2) := Lib.hid (HB1.out.trans (hb.mono HB1.out.size))
    clear hb hss HC1 HO1 HB1 HFH
    go_wp2_with fail
    refine (indexS_v h fhs _ _ _ _ HS2.out (x := x) HX.out).mono ?_
    rintro e w3 ⟨rfl, rfl⟩
    go_wp2_with fail
    refine (HBU.out _ _ _ _ (st_of_own HO2.out HOK.out)).mono ?_
    rintro e w4 ⟨A4, c4, rfl, ho, hb⟩
    obtain ⟨w5, hw5⟩ : ∃ W : World, W = w4.alloc (.cells #[.slice A4 M.length c4, .int .i64 B] 35) := ⟨_, rfl⟩
    have hb5 : Below w4.heap.size w4 w5 := by rw [hw5]; exact (Below.refl _ _).alloc (Nat.le_refl _) _
    have hs4 := hb.size
    have HC5 := Lib.hid ((HC2.out.below hb).below hb5)
    have HO5 := Lib.hid (own_below ho hb5)
    have HB5 : Hid (Below w.heap.size w w5) := Lib.hid ((HB2.out.trans (hb.mono HB2.out.size)).trans (hb5.mono (HB2.out.trans (hb.mono HB2.out.size)).size))
    have l0 : (w4.alloc (.cells #[.slice A4 M.length c4, .int .i64 B] 35)).cell? ⟨w4.heap.size, 0, none⟩ = some (.slice A4 M.length c4) := by simp [go_sem]
    have l1 : (w4.alloc (.cells #[.slice A4 M.length c4, .int .i64 B] 35)).cell? ⟨w4.heap.size, 1, none⟩ = some (.int .i64 B) := by simp [go_sem]
    obtain ⟨r0, r1, f0, f1⟩ := HC5.out
    have q0 := r0
    have q1 := r1
    have g0 := f0
    have g1 := f1
    rw [hw5] at q0 q1 g0 g1
    have HW5 := Lib.hid hw5.symm
    clear ho hb hb5 hw5 HBU HC2 HC5
    cases V
    · go_wp2
      rw [HW5.out]
      obtain ⟨rfl, rfl⟩ := HNV.out (by first | rfl | trivial)
      exact bodyPost_ret (v := .tuple #[.agg #[.slice none 0 0, .int .i64 0], errV]) (by simp [results, Tryz.results14, go_sem, r0, r1, f0, f1, errV, wrongB]) rfl ⟨none, 0, errV, rfl, .inr ⟨rfl, rfl, rfl, rfl⟩, World.ownsRow_nil _ _ _ _, (HB5.out.setCell (Nat.le_refl _) _).setCell (Nat.le_refl _) _⟩
    · go_wp2
      rw [HW5.out]
      exact bodyPost_ret (v := .tuple #[.agg #[.slice A4 M.length c4, .int .i64 B], .nilIface]) (by simp [results, Tryz.results14, go_sem, r0, r1, f0, f1]) rfl ⟨A4, c4, .nilIface, rfl, .inl ⟨rfl, rfl⟩, own_setCell (own_setCell (own_base HO5.out (by omega)) (fun e => by have := (HO5.out.lt _ e).1; simp only at this; omega) _) (fun e => by have := (HO5.out.lt _ e).1; simp only at this; omega) _, (HB5.out.setCell (Nat.le_refl _) _).setCell (Nat.le_refl _) _⟩
  · obtain ⟨rfl, rfl, rfl⟩ := HNO.out hno
    obtain ⟨r0, r1, f0, f1⟩ := HC1.out
    clear hno hok ho HNO HYS HFH
    unfold errV wrongB
    go_wp2
    exact bodyPost_ret (v := .tuple #[.agg #[.slice none 0 0, .int .i64 0], errV]) (by simp [results, Tryz.results14, go_sem, r0, r1, f0, f1, errV, wrongB]) rfl ⟨none, 0, errV, rfl, .inr ⟨rfl, rfl, rfl, rfl⟩, World.ownsRow_nil _ _ _ _, (HB1.out.setCell (Nat.le_refl _) _).setCell (Nat.le_refl _) _⟩
end Go.Proofs.YtiebdhbioccogaaGreatDoor

namespace Go.Proofs.YtiebdhbioccogaaGreatDoor
open Go.RowKit Go.Maps
set_option linter.unusedVariables false
set_option linter.unusedSimpArgs false
set_option maxRecDepth 100000


theorem fhs_bws : ∀ {k : Nat} (hk : k < fhs.length) (hb : k < bws.length), fhs[k] = (⟨#[102, 108, 97, 103, 32]⟩ : ByteArray) ++ bws[k]
  | 0, _, _ => rfl
  | 1, _, _ => rfl
  | 2, _, _ => rfl
  | 3, _, _ => rfl
  | k + 4, h, _ => absurd h (show ¬ k + 4 < 4 by omega)
theorem bws_size : ∀ {k : Nat} (hb : k < bws.length), bws[k].size ≤ 6
  | 0, _ => (by decide : (6 : Nat) ≤ 6)
  | 1, _ => (by decide : (3 : Nat) ≤ 6)
  | 2, _ => (by decide : (5 : Nat) ≤ 6)
  | 3, _ => (by decide : (4 : Nat) ≤ 6)
  | k + 4, h => absurd h (show ¬ k + 4 < 4 by omega)
set_option maxHeartbeats 4000000 in
theorem boundOf_v (h : ByteArray) (w : World) {x : Int} (hx : bndH h = x) :
    Calls Tryz.prog 26 #[.string h] w fun e w' => e = .returned (.int .i64 x) ∧ Below w.heap.size w w' := by
  have HX := Lib.hid hx
  have HBW := Lib.hid (fun w => boundWords_v w)
  clear hx
  go_enter Tryz.func26, Tryz.ntmps26
  go_wp2_with fail
  refine (HBW.out _).mono ?_
  rintro e w1 ⟨A1, c1, rfl, hss, hb⟩
  have HSS := Lib.hid hss
  have HB1 := Lib.hid hb
  clear hss hb HBW
  go_wp2
  go_loop [4] (fun i => ∃ k : Nat, k ≤ 4 ∧ i = .int .i64 k ∧ Hid (noTo (isS h) fhs k)) (fun i => 4 - (intOf i).toNat)
  case atStart => exact ⟨0, Nat.zero_le _, rfl, Lib.hid (fun i hi h => absurd h (by omega))⟩
  case round =>
    obtain ⟨k, hk, rfl, HNO⟩ := hrel
    have hk0 : (0 : Int) ≤ (k : Int) := by omega
    by_cases hlt : k < 4
    · have hki : (k : Int) < 4 := by omega
      obtain ⟨bb, o, hA, hbb, d0⟩ := HSS.out.at_ (k := k) hlt
      subst hA
      have hf : ∀ h : k < fhs.length, fhs[k] = (⟨#[102, 108, 97, 103, 32]⟩ : ByteArray) ++ (bws[k]'hlt) := fun h => fhs_bws h hlt
      have hz := bws_size (k := k) hlt
      generalize (bws[k]'hlt) = t at *
      have hz2 : ((⟨#[102, 108, 97, 103, 32]⟩ : ByteArray) ++ t).size ≤ 11 := by rw [ByteArray.size_append]; show 5 + t.size ≤ 11; omega
      by_cases he : h = (⟨#[102, 108, 97, 103, 32]⟩ : ByteArray) ++ t
      · have e1 : (h.toList == ((⟨#[102, 108, 97, 103, 32]⟩ : ByteArray) ++ t).toList) = true := nm_true he
        have HR : Hid (x = (k : Int)) := Lib.hid (by
          rw [← HX.out]
          exact fidx_some HNO.out (show k < fhs.length from hlt) (by unfold isS; rw [hf]; exact decide_eq_true he))
        clear he hf
        go_wp2
        go_ret
        exact ⟨by rw [HR.out]; first | done | rfl, HB1.out⟩
      · have e1 : (h.toList == ((⟨#[102, 108, 97, 103, 32]⟩ : ByteArray) ++ t).toList) = false := nm_false he
        have HN2 : Hid (noTo (isS h) fhs (k + 1)) := Lib.hid (fun i hi hik => by
          by_cases e : i = k
          · subst e
            unfold isS
            rw [hf]
            exact decide_eq_false he
          · exact HNO.out i hi (by omega))
        clear he hf
        go_wp2
        go_round
        case rel => exact ⟨k + 1, hlt, by go_num, HN2⟩
        case measure => simp [intOf]; omega
    · obtain rfl : k = 4 := by omega
      have hki : ¬ ((4 : Nat) : Int) < 4 := by omega
      have HR : Hid (x = -1) := Lib.hid (by rw [← HX.out]; exact fidx_none HNO.out)
      go_wp2
      go_ret
      exact ⟨by rw [HR.out]; first | done | rfl, HB1.out⟩
set_option maxHeartbeats 8000000 in
theorem specPF_v (s : ByteArray) (w : World) (hs : s.size ≤ 1048576) :
    Calls Tryz.prog 12 #[.string s] w (FlagR (mPF s) (bPF s) (okPF s) w) := by
  have HPI := Lib.hid (fun w => parseItems_v s w hs)
  unfold ItsR at HPI
  have HNO : Hid (itemsOf itS s = none → mPF s = [] ∧ bPF s = 0 ∧ okPF s = false) := Lib.hid pf_no
  have HYS : Hid (∀ h ts, itemsOf itS s = some (h, ts) → mPF s = mBldF ts (bndH h) ∧ bPF s = mBldB ts (bndH h) ∧ okPF s = builtF ts (bndH h)) := Lib.hid fun h ts e => pf_yes e
  generalize mPF s = M at *
  generalize bPF s = B at *
  generalize okPF s = V at *
  generalize itemsOf itS s = r at *
  obtain ⟨W0, hW⟩ : ∃ W : World, W = w.alloc (.cells #[.slice none 0 0, .int .i64 0] 35) := ⟨_, rfl⟩
  have HB0 : Hid (Below w.heap.size w W0) := Lib.hid (by rw [hW]; exact (Below.refl _ _).alloc (Nat.le_refl _) _)
  have hs0 : w.heap.size + 1 ≤ W0.heap.size := by rw [hW]; simp
  have HC0 : Hid (C2 W0 w.heap.size (.slice none 0 0) (.int .i64 0)) := Lib.hid (by rw [hW]; exact c2New _ _ _ _)
  have HW := Lib.hid hW.symm
  clear hW
  go_enter Tryz.func12, Tryz.ntmps12
  go_wp2_with fail
  rw [HW.out]
  clear HW
  refine (HPI.out _).mono ?_
  rintro e w1 ⟨h, A1, c1, ts, ok, rfl, hy, hno, hok, ho, hb⟩
  have hs1 := hb.size
  have HC1 := Lib.hid (HC0.out.below hb)
  have HB1 : Hid (Below w.heap.size w w1) := Lib.hid (HB0.out.trans (hb.mono HB0.out.size))
  clear hb HB0 HPI HC0
  cases ok
  · obtain ⟨rfl, rfl, rfl⟩ := HNO.out (hno rfl)
    obtain ⟨r0, r1, f0, f1⟩ := HC1.out
    clear hy hno hok ho HNO HYS
    go_wp2
    exact bodyPost_ret (v := .tuple #[.agg #[.slice none 0 0, .int .i64 0], .bool false]) (by simp [results, Tryz.results12, go_sem, r0, r1, f0, f1]) rfl ⟨none, 0, rfl, World.ownsRow_nil _ _ _ _, (HB1.out.setCell (Nat.le_refl _) _).setCell (Nat.le_refl _) _⟩
  · obtain ⟨hM, hB, hV⟩ := HYS.out h ts (hy rfl)
    obtain ⟨x, hx⟩ : ∃ x, bndH h = x := ⟨_, rfl⟩
    have HBO := Lib.hid (fun w => boundOf_v h w hx)
    rw [hx] at hM hB hV
    have HO1 := Lib.hid ho
    have HOK := Lib.hid hok
    by_cases hx0 : x < 0
    · have hnb := builtF_neg (ts := ts) hx0
      obtain ⟨e1, e2⟩ := mBldF_no hnb
      rw [e1] at hM
      rw [e2] at hB
      rw [hnb] at hV
      subst hM hB hV
      clear e1 e2 hnb hx hy hno hok ho HNO HYS
      go_wp2_with fail
      refine (HBO.out _).mono ?_
      rintro e w2 ⟨rfl, hb⟩
      obtain ⟨r0, r1, f0, f1⟩ := HC1.out.below hb
      have HB2 : Hid (Below w.heap.size w w2) := Lib.hid (HB1.out.trans (hb.mono HB1.out.size))
      clear hb
      go_wp2
      exact bodyPost_ret (v := .tuple #[.agg #[.slice none 0 0, .int .i64 0], .bool false]) (by simp [results, Tryz.results12, go_sem, r0, r1, f0, f1]) rfl ⟨none, 0, rfl, World.ownsRow_nil _ _ _ _, (HB2.out.setCell (Nat.le_refl _) _).setCell (Nat.le_refl _) _⟩
    · have HBU := Lib.hid (fun A c n w hr => specBuildF_any ts x A c n w hr)
      unfold BldFP FlagR at HBU
      rw [← hM, ← hB, ← hV] at HBU
      clear hM hB hV hx hy hno hok ho HNO HYS
      go_wp2_with fail
      refine (HBO.out _).mono ?_
      rintro e w2 ⟨rfl, hb⟩
      have HC2 := Lib.hid (HC1.out.below hb)
      have HO2 := Lib.hid (own_below HO1.out hb)
      have hs2 := hb.size
      have HB2 : Hid (Below w.heap.size w w2) := Lib.hid (HB1.out.trans (hb.mono HB1.out.size))
      clear hb HC1 HO1 HB1
      go_wp2_with fail
      refine (HBO.out _).mono ?_
      rintro e w3 ⟨rfl, hb⟩
      have HC3 := Lib.hid (HC2.out.below hb)
      have HO3 := Lib.hid (own_below HO2.out hb)
      have hs3 := hb.size
      have HB3 : Hid (Below w.heap.size w w3) := Lib.hid (HB2.out.trans (hb.mono HB2.out.size))
      clear hb HC2 HO2 HB2
      go_wp2_with fail
      refine (HBU.out _ _ _ _ (st_of_own HO3.out HOK.out)).mono ?_
      rintro e w4 ⟨A4, c4, rfl, ho, hb⟩
      obtain ⟨r0, r1, f0, f1⟩ := HC3.out.below hb
      have HO4 := Lib.hid ho
      have HB4 : Hid (Below w.heap.size w w4) := Lib.hid (HB3.out.trans (hb.mono HB3.out.size))
      clear ho hb HBU
      go_wp2
      exact bodyPost_ret (v := .tuple #[.agg #[.slice A4 M.length c4, .int .i64 B], .bool V]) (by simp [results, Tryz.results12, go_sem, r0, r1, f0, f1]) rfl ⟨A4, c4, rfl, own_setCell (own_setCell (own_base HO4.out (by omega)) (fun e => by have := (HO4.out.lt _ e).1; simp only at this; omega) _) (fun e => by have := (HO4.out.lt _ e).1; simp only at this; omega) _, (HB4.out.setCell (Nat.le_refl _) _).setCell (Nat.le_refl _) _⟩
end Go.Proofs.YtiebdhbioccogaaGreatDoor

