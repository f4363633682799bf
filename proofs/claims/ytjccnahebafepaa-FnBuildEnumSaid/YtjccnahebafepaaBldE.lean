import Derived.Test.YtjccnahebafepaaBld
import Derived.Test.YtjccnahebafepaaZap
namespace Go.Proofs.Ytjccnahebafepaa
open Go.RowKit Go.Maps
set_option linter.unusedVariables false

/-- What BuildEnum answers. -/
def BldP (ts : List It) (w : World) (e : Ending) (w' : World) : Prop :=
  ∃ A c, e = .returned (.tuple #[.agg #[.slice A (mBuild ts).length c], .bool (built ts)]) ∧ w'.ownsRow w.heap.size 43 2 (.slice A (mBuild ts).length c) (mBuild ts).length (flat (mBuild ts)) ∧ Below w.heap.size w w'
theorem bldP_no {ts : List It} {w : World} {w' : World} (h : built ts = false) (hb : Below w.heap.size w w') : BldP ts w (.returned (.tuple #[.agg #[.slice none 0 0], .bool false])) w' := by
  have e : mBuild ts = [] := by unfold mBuild; rw [h]; rfl
  unfold BldP
  rw [e, h]
  exact ⟨none, 0, rfl, World.ownsRow_nil _ _ _ _, hb⟩
theorem bldP_yes {ts : List It} {w w' : World} {A : Option Addr} {c : Nat} (h : built ts = true) (ho : w'.ownsRow w.heap.size 43 2 (.slice A ts.length c) ts.length (flat (bld ts ts.length))) (hb : Below w.heap.size w w') : BldP ts w (.returned (.tuple #[.agg #[.slice A ts.length c], .bool true])) w' := by
  have e : mBuild ts = bld ts ts.length := by unfold mBuild; rw [h]; rfl
  unfold BldP
  rw [e, h, bld_len ts _ (Nat.le_refl _)]
  exact ⟨A, c, rfl, ho, hb⟩
theorem frozen_set (w : World) (p q : Addr) (v : Value) : (w.setCell p v).frozen? q = w.frozen? q := by simp [go_sem]
theorem flat_bld (ts : List It) (k : Nat) (h : k < ts.length) : flat (bld ts (k + 1)) = flat (bld ts k) ++ [.string ts[k].name, .int .i64 (bldD (bld ts k) ts[k]).val] := by
  rw [bld_succ ts k h]; simp [flat, encD, bldD]

set_option maxHeartbeats 4000000 in
theorem specBuild_any (ts : List It) (A : Option Addr) (c n : Nat) (w : World) (hr : ST w w.heap.size A n c ts) :
    Calls Try.prog 26 #[.slice A n c] w (BldP ts w) := by
  have HR := Lib.hid hr
  have HL := Lib.hid hr.len
  have hl := hr.max
  have hl2 := hr.cap
  unfold maxLen at hl
  clear hr
  have b1 : Below w.heap.size w (w.alloc (.cells #[.slice none 0 0] 28)) := (Below.refl _ _).alloc (Nat.le_refl _) _
  cases hv : vItems (-1000) 1000 ts
  · have HNO : Hid (built ts = false) := Lib.hid (by unfold built; rw [hv]; rfl)
    have HV := Lib.hid hv
    clear hv
    go_enter Try.func26, Try.ntmps26
    go_wp2_with fail
    refine (validItems_any ts _ _ _ _ _ _ ((HR.out.below b1).call b1.size) HV.out).mono ?_
    rintro e w1 ⟨rfl, hb⟩
    have x0 : w1.cell? ⟨w.heap.size, 0, none⟩ = some (.slice none 0 0) := keep1 hb (by simp [go_sem])
    have y0 : w1.frozen? ⟨w.heap.size, 0, none⟩ = false := (hb.frozen (p := ⟨w.heap.size, 0, none⟩) (by simp)).trans (by simp [go_sem])
    have HB := Lib.hid (b1.trans (hb.mono b1.size))
    clear hb b1
    go_wp2
    refine bodyPost_ret (v := .tuple #[.agg #[.slice none 0 0], .bool false]) (by simp [results, Try.results26, go_sem, x0]) rfl (bldP_no HNO.out (HB.out.setCell (Nat.le_refl _) _))
  · have hv12 : ts.length ≤ 12 := by unfold vItems at hv; simp at hv; exact hv.2
    have HBD := Lib.hid (fun k hk => bld_bd hv k hk)
    have HBT : Hid (built ts = vEnum (bld ts ts.length)) := Lib.hid (by unfold built; rw [hv]; rfl)
    have HV := Lib.hid hv
    clear hv
    go_enter Try.func26, Try.ntmps26
    go_wp2_with fail
    refine (validItems_any ts _ _ _ _ _ _ ((HR.out.below b1).call b1.size) HV.out).mono ?_
    rintro e w1 ⟨rfl, hb⟩
    have x0 : w1.cell? ⟨w.heap.size, 0, none⟩ = some (.slice none 0 0) := keep1 hb (by simp [go_sem])
    have y0 : w1.frozen? ⟨w.heap.size, 0, none⟩ = false := (hb.frozen (p := ⟨w.heap.size, 0, none⟩) (by simp)).trans (by simp [go_sem])
    have HB := Lib.hid (b1.trans (hb.mono b1.size))
    have hz1 : w.heap.size + 1 ≤ w1.heap.size := by have := hb.size; simpa using this
    clear hb b1
    have bW : Below w1.heap.size w1 (w1.alloc (.cells #[.slice none 0 0] 28)) := (Below.refl _ _).alloc (Nat.le_refl _) _
    have C0 : Hid ((w1.alloc (.cells #[.slice none 0 0] 28)).cell? ⟨w.heap.size, 0, none⟩ = some (.slice none 0 0)) := Lib.hid (keep1 bW x0)
    have F0 : Hid ((w1.alloc (.cells #[.slice none 0 0] 28)).frozen? ⟨w.heap.size, 0, none⟩ = false) := Lib.hid ((bW.frozen (p := ⟨w.heap.size, 0, none⟩) (by show w.heap.size < _; omega)).trans y0)
    have C3 : Hid ((w1.alloc (.cells #[.slice none 0 0] 28)).cell? ⟨w1.heap.size, 0, none⟩ = some (.slice none 0 0)) := Lib.hid (by simp [go_sem])
    have F3 : Hid ((w1.alloc (.cells #[.slice none 0 0] 28)).frozen? ⟨w1.heap.size, 0, none⟩ = false) := Lib.hid (by simp [go_sem])
    have HB2 : Hid (Below w.heap.size w (w1.alloc (.cells #[.slice none 0 0] 28))) := Lib.hid (HB.out.alloc HB.out.size _)
    have hz2 : w1.heap.size + 1 ≤ (w1.alloc (.cells #[.slice none 0 0] 28)).heap.size := by simp
    have HZ2 := Lib.hid hz2
    clear bW x0 y0 HB hz2
    go_wp2_with fail
    generalize (w1.alloc (.cells #[.slice none 0 0] 28)) = w2 at *
    generalize w1.heap.size = G at *
    go_loopw [5] (fun i wr => ∃ (k : Nat) (A' : Option Addr) (c' : Nat), k ≤ ts.length ∧ i = .int .i64 k ∧ Hid (wr.cell? ⟨G, 0, none⟩ = some (.slice A' k c')) ∧ Hid (wr.frozen? ⟨G, 0, none⟩ = false) ∧ Hid (wr.cell? ⟨w.heap.size, 0, none⟩ = some (.slice none 0 0)) ∧ Hid (wr.frozen? ⟨w.heap.size, 0, none⟩ = false) ∧ Hid (wr.ownsRow (G + 1) 43 2 (.slice A' k c') k (flat (bld ts k))) ∧ Hid (Below w.heap.size w wr) ∧ Hid (G + 1 ≤ wr.heap.size)) (fun i _ => ts.length - (intOf i).toNat)
    case atStart => exact ⟨0, none, 0, Nat.zero_le _, rfl, C3, F3, C0, F0, Lib.hid (World.ownsRow_nil _ _ _ _), HB2, HZ2⟩
    case round =>
      clear C0 F0 C3 F3 HB2 HZ2
      obtain ⟨k, A', c', hk, rfl, C3, F3, C0, F0, HO, hbel, hzr⟩ := hrel
      have hnl := HL.out
      by_cases hlt : k < ts.length
      · obtain ⟨b, o, rfl, hbb, d1, d2, d3⟩ := (HR.out.below hbel.out).at_ hlt
        have HFB := Lib.hid (flat_bld ts k hlt)
        have HOKT := Lib.hid (HR.out.ok _ (List.getElem_mem hlt))
        have hi1 : (k : Int) < (n : Int) := by omega
        have hi0 : (0 : Int) ≤ (k : Int) := by omega
        have c3 := C3.out
        have f3 := F3.out
        have hbG : b ≠ G := by omega
        go_wp2_with fail
        have n1 := World.new_ne wr ⟨b, o + k * 3, none⟩ d1
        have n3 := World.new_ne wr ⟨b, o + k * 3 + 2, none⟩ d3
        go_region_held3 (fun w' => w'.cell? ⟨b, o + k * 3, none⟩ = some (.string ts[k].name) ∧ w'.cell? ⟨b, o + k * 3 + 2, none⟩ = some (.int .i64 ts[k].val)) (go_keep) (fail)
        have hzr0 := hzr.out
        have bW : Below wr.heap.size wr (wr.alloc (.cells #[.string ts[k].name, .int .i64 ts[k].val] 43)).drew := ((Below.refl _ _).alloc (Nat.le_refl _) _).drew
        have e2 := keep1 bW d2
        have e3 := keep1 bW c3
        have g3 : (wr.alloc (.cells #[.string ts[k].name, .int .i64 ts[k].val] 43)).drew.frozen? ⟨G, 0, none⟩ = false := (bW.frozen (p := ⟨G, 0, none⟩) (by show G < _; omega)).trans f3
        have E0 := Lib.hid (keep1 bW C0.out)
        have G0 : Hid ((wr.alloc (.cells #[.string ts[k].name, .int .i64 ts[k].val] 43)).drew.frozen? ⟨w.heap.size, 0, none⟩ = false) := Lib.hid ((bW.frozen (p := ⟨w.heap.size, 0, none⟩) (by show w.heap.size < _; omega)).trans F0.out)
        have a0 : (wr.alloc (.cells #[.string ts[k].name, .int .i64 ts[k].val] 43)).drew.cell? ⟨wr.heap.size, 0, none⟩ = some (.string ts[k].name) := by simp [go_sem]
        have a1 : (wr.alloc (.cells #[.string ts[k].name, .int .i64 ts[k].val] 43)).drew.cell? ⟨wr.heap.size, 1, none⟩ = some (.int .i64 ts[k].val) := by simp [go_sem]
        have q1 : (wr.alloc (.cells #[.string ts[k].name, .int .i64 ts[k].val] 43)).drew.frozen? ⟨wr.heap.size, 1, none⟩ = false := by simp [go_sem]
        have HOW := Lib.hid (own_below HO.out bW)
        have HBW : Hid (Below w.heap.size w (wr.alloc (.cells #[.string ts[k].name, .int .i64 ts[k].val] 43)).drew) := Lib.hid (hbel.out.trans (bW.mono hbel.out.size))
        have hzW : wr.heap.size + 1 ≤ (wr.alloc (.cells #[.string ts[k].name, .int .i64 ts[k].val] 43)).drew.heap.size := by simp
        have NEO : Hid (∀ q, (Value.slice A' k c').ownBlock = some q → q < wr.heap.size) := Lib.hid (fun q hq => (HO.out.lt q hq).2)
        clear bW c3 f3 d1 d2 d3 n1 n3 C3 F3 C0 F0 HO hbel hzr
        rename_i hheld
        clear hheld
        generalize (wr.alloc (.cells #[.string ts[k].name, .int .i64 ts[k].val] 43)).drew = W at *
        generalize wr.heap.size = D0 at *
        cases ha : ts[k].auto
        · rw [ha] at e2
          have HVAL : Hid ((bldD (bld ts k) ts[k]).val = ts[k].val) := Lib.hid (by unfold bldD; simp [ha])
          clear ha
          generalize ts[k].val = vl at *
          generalize ts[k].name = nm at *
          go_wp2_with (
            at_builtin
            refine wpList_app_D rfl _ _ rfl (G + 1) _ _ _ rfl HOW.out _ _ _ _ rfl (by first | rfl | simp) (by omega) (by omega) ?_
            intro v' w4 ho hb
            obtain ⟨A4, c4, rfl⟩ := own_form ho
            have HO4 := Lib.hid ho
            have HB4 : Hid (Below w.heap.size w w4) := Lib.hid (HBW.out.trans (hb.mono (by omega)))
            have hz4 : G + 1 ≤ w4.heap.size := (by have := hb.size; omega)
            have y3 : w4.cell? ⟨G, 0, none⟩ = some (.slice A' k c') := (hb.cell (p := ⟨G, 0, none⟩) (by show G < G + 1; omega)).trans e3
            have z3 : w4.frozen? ⟨G, 0, none⟩ = false := (hb.frozen (p := ⟨G, 0, none⟩) (by show G < G + 1; omega)).trans g3
            have Y0 : Hid (w4.cell? ⟨w.heap.size, 0, none⟩ = some (.slice none 0 0)) := Lib.hid ((hb.cell (p := ⟨w.heap.size, 0, none⟩) (by show w.heap.size < G + 1; omega)).trans E0.out)
            have Z0 : Hid (w4.frozen? ⟨w.heap.size, 0, none⟩ = false) := Lib.hid ((hb.frozen (p := ⟨w.heap.size, 0, none⟩) (by show w.heap.size < G + 1; omega)).trans G0.out)
            clear ho hb)
          go_roundw
          case rel =>
            refine ⟨k + 1, A4, c4, by omega, by go_num, Lib.hid (by simp [go_sem, y3]), Lib.hid (by simp [go_sem, z3]), Lib.hid (by rw [World.cell?_setCell_other _ _ _ _ (by intro e; injection e with e1; omega)]; exact Y0.out), Lib.hid (by rw [frozen_set]; exact Z0.out), Lib.hid ?_, Lib.hid (HB4.out.setCell (by show w.heap.size ≤ G; omega) _), Lib.hid (by rw [World.size_setCell]; exact hz4)⟩
            rw [HFB.out]
            refine own_setCell ?_ (fun e => by have := (HO4.out.lt _ e).1; simp at this; omega) _
            have := HO4.out
            rw [HVAL.out]
            exact this
          case measure => simp [intOf]; omega
        · rw [ha] at e2
          have HVAL : Hid ((bldD (bld ts k) ts[k]).val = nxt (bld ts k)) := Lib.hid (by unfold bldD; simp [ha])
          clear ha
          have HSD : Hid (SD W W.heap.size A' k c' (bld ts k)) := Lib.hid (sd_of_own HOW.out (bld_ok HR.out.ok k (by omega)))
          have HBB : Hid (∀ d ∈ bld ts k, -1000000 ≤ d.val ∧ d.val ≤ 1000000) := Lib.hid (fun d hd => by have := HBD.out k (by omega) d hd; omega)
          generalize hnx : nxt (bld ts k) = nx at *
          have HNX := Lib.hid hnx
          clear hnx
          generalize ts[k].val = vl at *
          generalize ts[k].name = nm at *
          have hne : D0 ≠ G := by omega
          have hne0 : w.heap.size ≠ D0 := by omega
          go_wp2_with fail
          refine (highest_n (bld ts k) _ _ _ _ HSD.out HBB.out HNX.out).mono ?_
          rintro e w' ⟨rfl, rfl⟩
          have HOV : Hid ((W.setCell ⟨D0, 1, none⟩ (.int .i64 nx)).ownsRow (G + 1) 43 2 (.slice A' k c') k (flat (bld ts k))) := Lib.hid (own_setCell HOW.out (fun e => by have := NEO.out _ e; simp at this) _)
          have HBV : Hid (Below w.heap.size w (W.setCell ⟨D0, 1, none⟩ (.int .i64 nx))) := Lib.hid (HBW.out.setCell (by show w.heap.size ≤ D0; omega) _)
          have r3 : (W.setCell ⟨D0, 1, none⟩ (.int .i64 nx)).cell? ⟨G, 0, none⟩ = some (.slice A' k c') := by rw [World.cell?_setCell_other _ _ _ _ (by intro e; injection e with e1; omega)]; exact e3
          have s3 : (W.setCell ⟨D0, 1, none⟩ (.int .i64 nx)).frozen? ⟨G, 0, none⟩ = false := by rw [frozen_set]; exact g3
          have R0 : Hid ((W.setCell ⟨D0, 1, none⟩ (.int .i64 nx)).cell? ⟨w.heap.size, 0, none⟩ = some (.slice none 0 0)) := Lib.hid (by rw [World.cell?_setCell_other _ _ _ _ (by intro e; injection e with e1; omega)]; exact E0.out)
          have S0 : Hid ((W.setCell ⟨D0, 1, none⟩ (.int .i64 nx)).frozen? ⟨w.heap.size, 0, none⟩ = false) := Lib.hid (by rw [frozen_set]; exact G0.out)
          have hzV : D0 + 1 ≤ (W.setCell ⟨D0, 1, none⟩ (.int .i64 nx)).heap.size := by rw [World.size_setCell]; exact hzW
          go_wp2_with (
            at_builtin
            refine wpList_app_D rfl _ _ rfl (G + 1) _ _ _ rfl HOV.out _ _ _ _ rfl (by first | rfl | simp) (by omega) (by omega) ?_
            intro v' w4 ho hb
            obtain ⟨A4, c4, rfl⟩ := own_form ho
            have HO4 := Lib.hid ho
            have HB4 : Hid (Below w.heap.size w w4) := Lib.hid (HBV.out.trans (hb.mono (by omega)))
            have hz4 : G + 1 ≤ w4.heap.size := (by have := hb.size; omega)
            have y3 : w4.cell? ⟨G, 0, none⟩ = some (.slice A' k c') := (hb.cell (p := ⟨G, 0, none⟩) (by show G < G + 1; omega)).trans r3
            have z3 : w4.frozen? ⟨G, 0, none⟩ = false := (hb.frozen (p := ⟨G, 0, none⟩) (by show G < G + 1; omega)).trans s3
            have Y0 : Hid (w4.cell? ⟨w.heap.size, 0, none⟩ = some (.slice none 0 0)) := Lib.hid ((hb.cell (p := ⟨w.heap.size, 0, none⟩) (by show w.heap.size < G + 1; omega)).trans R0.out)
            have Z0 : Hid (w4.frozen? ⟨w.heap.size, 0, none⟩ = false) := Lib.hid ((hb.frozen (p := ⟨w.heap.size, 0, none⟩) (by show w.heap.size < G + 1; omega)).trans S0.out)
            clear ho hb)
          go_roundw
          case rel =>
            refine ⟨k + 1, A4, c4, by omega, by go_num, Lib.hid (by simp [go_sem, y3]), Lib.hid (by simp [go_sem, z3]), Lib.hid (by rw [World.cell?_setCell_other _ _ _ _ (by intro e; injection e with e1; omega)]; exact Y0.out), Lib.hid (by rw [frozen_set]; exact Z0.out), Lib.hid ?_, Lib.hid (HB4.out.setCell (by show w.heap.size ≤ G; omega) _), Lib.hid (by rw [World.size_setCell]; exact hz4)⟩
            rw [HFB.out]
            refine own_setCell ?_ (fun e => by have := (HO4.out.lt _ e).1; simp at this; omega) _
            have := HO4.out
            rw [HVAL.out]
            exact this
          case measure => simp [intOf]; omega
      · obtain rfl : k = ts.length := by omega
        have HSD : Hid (SD wr wr.heap.size A' ts.length c' (bld ts ts.length)) := Lib.hid (sd_of_own HO.out (bld_ok HR.out.ok _ (Nat.le_refl _)))
        have c3 := C3.out
        have hi1 : ¬ ((ts.length : Int) < (n : Int)) := by omega
        cases hve : vEnum (bld ts ts.length)
        · have HVE := Lib.hid hve
          have HNO : Hid (built ts = false) := Lib.hid (by rw [HBT.out, hve])
          clear hve hnl
          go_wp2_with fail
          refine (specVE_v (bld ts ts.length) _ _ _ _ HSD.out HVE.out).mono ?_
          rintro e w4 ⟨rfl, hb⟩
          have y0 := keep1 hb C0.out
          have z0 : w4.frozen? ⟨w.heap.size, 0, none⟩ = false := (hb.frozen (p := ⟨w.heap.size, 0, none⟩) (World.block_lt_of_cell? _ _ C0.out)).trans F0.out
          have HB4 : Hid (Below w.heap.size w w4) := Lib.hid (hbel.out.trans (hb.mono hbel.out.size))
          clear hb
          go_wp2
          refine bodyPost_ret (v := .tuple #[.agg #[.slice none 0 0], .bool false]) (by simp [results, Try.results26, go_sem, y0]) rfl (bldP_no HNO.out (HB4.out.setCell (Nat.le_refl _) _))
        · have HVE := Lib.hid hve
          have HYES : Hid (built ts = true) := Lib.hid (by rw [HBT.out, hve])
          clear hve hnl
          go_wp2_with fail
          refine (specVE_v (bld ts ts.length) _ _ _ _ HSD.out HVE.out).mono ?_
          rintro e w4 ⟨rfl, hb⟩
          have y0 := keep1 hb C0.out
          have z0 : w4.frozen? ⟨w.heap.size, 0, none⟩ = false := (hb.frozen (p := ⟨w.heap.size, 0, none⟩) (World.block_lt_of_cell? _ _ C0.out)).trans F0.out
          have y3 := keep1 hb c3
          have HO4 := Lib.hid (own_below HO.out hb)
          have HB4 : Hid (Below w.heap.size w w4) := Lib.hid (hbel.out.trans (hb.mono hbel.out.size))
          clear hb
          go_wp2
          refine bodyPost_ret (v := .tuple #[.agg #[.slice A' ts.length c'], .bool true]) (by simp [results, Try.results26, go_sem, y0]) rfl (bldP_yes HYES.out (own_setCell (own_base HO4.out (by omega)) (fun e => by have := (HO4.out.lt _ e).1; simp at this; omega) _) (HB4.out.setCell (Nat.le_refl _) _))

set_option maxHeartbeats 4000000 in
theorem implBuild_any (ts : List It) (A : Option Addr) (c n : Nat) (w : World) (hr : ST w w.heap.size A n c ts) :
    Calls Try.prog 25 #[.slice A n c] w (BldP ts w) := by
  have HR := Lib.hid hr
  have HL := Lib.hid hr.len
  have hl := hr.max
  have hl2 := hr.cap
  have hlen := hr.len
  unfold maxLen at hl
  clear hr
  by_cases h12 : 12 < (n : Int)
  · have HNO : Hid (built ts = false) := Lib.hid (built_not (.inr (by omega)))
    clear hlen
    go_enter Try.func25, Try.ntmps25
    go_wp2
    refine bodyPost_ret (v := .tuple #[.agg #[.slice none 0 0], .bool false]) (by simp [results, Try.results25, go_sem]) rfl (bldP_no HNO.out (by first | exact ((Below.refl _ _).alloc (Nat.le_refl _) _).setCell (Nat.le_refl _) _ | exact (Below.refl _ _).alloc (Nat.le_refl _) _))
  · have hv12 : ts.length ≤ 12 := by omega
    clear hlen
    have C0 : Hid (((w.alloc (.cells #[.slice none 0 0] 28)).alloc (.cells #[.slice none 0 0] 28)).cell? ⟨w.heap.size, 0, none⟩ = some (.slice none 0 0)) := Lib.hid (by simp [go_sem])
    have F0 : Hid (((w.alloc (.cells #[.slice none 0 0] 28)).alloc (.cells #[.slice none 0 0] 28)).frozen? ⟨w.heap.size, 0, none⟩ = false) := Lib.hid (by simp [go_sem])
    have C3 : Hid (((w.alloc (.cells #[.slice none 0 0] 28)).alloc (.cells #[.slice none 0 0] 28)).cell? ⟨w.heap.size + 1, 0, none⟩ = some (.slice none 0 0)) := Lib.hid (by simp [go_sem])
    have F3 : Hid (((w.alloc (.cells #[.slice none 0 0] 28)).alloc (.cells #[.slice none 0 0] 28)).frozen? ⟨w.heap.size + 1, 0, none⟩ = false) := Lib.hid (by simp [go_sem])
    have HB2 : Hid (Below w.heap.size w ((w.alloc (.cells #[.slice none 0 0] 28)).alloc (.cells #[.slice none 0 0] 28))) := Lib.hid (((Below.refl _ _).alloc (Nat.le_refl _) _).alloc (by simp) _)
    have HZ2 : Hid (w.heap.size + 1 + 1 ≤ ((w.alloc (.cells #[.slice none 0 0] 28)).alloc (.cells #[.slice none 0 0] 28)).heap.size) := Lib.hid (by simp)
    go_enter Try.func25, Try.ntmps25
    go_wp2_with fail
    generalize ((w.alloc (.cells #[.slice none 0 0] 28)).alloc (.cells #[.slice none 0 0] 28)) = w2 at *
    go_loopw [14] (fun i wr => ∃ (k : Nat) (A' : Option Addr) (c' : Nat), k ≤ ts.length ∧ i = .int .i64 k ∧ Hid (onceTo ts k) ∧ Hid (wr.cell? ⟨w.heap.size + 1, 0, none⟩ = some (.slice A' k c')) ∧ Hid (wr.frozen? ⟨w.heap.size + 1, 0, none⟩ = false) ∧ Hid (wr.cell? ⟨w.heap.size, 0, none⟩ = some (.slice none 0 0)) ∧ Hid (wr.frozen? ⟨w.heap.size, 0, none⟩ = false) ∧ Hid (wr.ownsRow (w.heap.size + 1 + 1) 43 2 (.slice A' k c') k (flat (bld ts k))) ∧ Hid (Below w.heap.size w wr) ∧ Hid (w.heap.size + 1 + 1 ≤ wr.heap.size)) (fun i _ => ts.length - (intOf i).toNat)
    case atStart => exact ⟨0, none, 0, Nat.zero_le _, rfl, Lib.hid (onceTo_zero _), C3, F3, C0, F0, Lib.hid (World.ownsRow_nil _ _ _ _), HB2, HZ2⟩
    case round =>
      clear C0 F0 C3 F3 HB2 HZ2
      obtain ⟨k, A', c', hk, rfl, hon, C3, F3, C0, F0, HO, hbel, hzr⟩ := hrel
      have hnl := HL.out
      have hzr0 := hzr.out
      by_cases hlt : k < ts.length
      · obtain ⟨b, o, rfl, hbb, d1, d2, d3⟩ := (HR.out.below hbel.out).at_ hlt
        have HFB := Lib.hid (flat_bld ts k hlt)
        have hi1 : (k : Int) < (n : Int) := by omega
        have hi0 : (0 : Int) ≤ (k : Int) := by omega
        have bW : Below wr.heap.size wr (wr.alloc (.cells #[.string ts[k].name, .bool ts[k].auto, .int .i64 ts[k].val] 45)) := (Below.refl _ _).alloc (Nat.le_refl _) _
        have c3 := keep1 bW C3.out
        have f3 : (wr.alloc (.cells #[.string ts[k].name, .bool ts[k].auto, .int .i64 ts[k].val] 45)).frozen? ⟨w.heap.size + 1, 0, none⟩ = false := (bW.frozen (p := ⟨w.heap.size + 1, 0, none⟩) (by show w.heap.size + 1 < _; omega)).trans F3.out
        have c0 := keep1 bW C0.out
        have f0 : (wr.alloc (.cells #[.string ts[k].name, .bool ts[k].auto, .int .i64 ts[k].val] 45)).frozen? ⟨w.heap.size, 0, none⟩ = false := (bW.frozen (p := ⟨w.heap.size, 0, none⟩) (by show w.heap.size < _; omega)).trans F0.out
        have a0 : (wr.alloc (.cells #[.string ts[k].name, .bool ts[k].auto, .int .i64 ts[k].val] 45)).cell? ⟨wr.heap.size, 0, none⟩ = some (.string ts[k].name) := by simp [go_sem]
        have a2 : (wr.alloc (.cells #[.string ts[k].name, .bool ts[k].auto, .int .i64 ts[k].val] 45)).cell? ⟨wr.heap.size, 2, none⟩ = some (.int .i64 ts[k].val) := by simp [go_sem]
        have HOW := Lib.hid (own_below HO.out bW)
        have HBW : Hid (Below w.heap.size w (wr.alloc (.cells #[.string ts[k].name, .bool ts[k].auto, .int .i64 ts[k].val] 45))) := Lib.hid (hbel.out.trans (bW.mono hbel.out.size))
        have hzW : wr.heap.size + 1 ≤ (wr.alloc (.cells #[.string ts[k].name, .bool ts[k].auto, .int .i64 ts[k].val] 45)).heap.size := by simp
        clear bW C3 F3 C0 F0 HO
        cases hw : (ts[k].auto && ts[k].val != 0)
        · have HON := Lib.hid hw
          cases ha : ts[k].auto
          · have HVAL : Hid ((bldD (bld ts k) ts[k]).val = ts[k].val) := Lib.hid (by unfold bldD; simp [ha])
            have HQ : Hid (toldOf ts[k].auto ts[k].val = 0) := Lib.hid (by rw [ha]; rfl)
            clear ha hw
            go_wp2_with fail
            refine (howTold_any _ _ _ _ (q := 0) (HQ.out)).mono ?_
            rintro e w3 ⟨rfl, hb⟩
            have e3 := keep1 hb c3
            have g3 : w3.frozen? ⟨w.heap.size + 1, 0, none⟩ = false := (hb.frozen (p := ⟨w.heap.size + 1, 0, none⟩) (World.block_lt_of_cell? _ _ c3)).trans f3
            have E0 := Lib.hid (keep1 hb c0)
            have G0 : Hid (w3.frozen? ⟨w.heap.size, 0, none⟩ = false) := Lib.hid ((hb.frozen (p := ⟨w.heap.size, 0, none⟩) (World.block_lt_of_cell? _ _ c0)).trans f0)
            have a3 := keep1 hb a0
            have HO3 := Lib.hid (own_below HOW.out hb)
            have HB3 : Hid (Below w.heap.size w w3) := Lib.hid (HBW.out.trans (hb.mono HBW.out.size))
            have hz3 : w.heap.size + 1 + 1 ≤ w3.heap.size := by have := hb.size; omega
            clear hb c3 f3 c0 f0 a0 HOW HBW a2
            go_wp2_with (
              at_builtin
              refine wpList_app_D rfl _ _ rfl (w.heap.size + 1 + 1) _ _ _ rfl HO3.out _ _ _ _ rfl (by first | rfl | simp) (by omega) (by omega) ?_
              intro v' w5 ho hb
              obtain ⟨A4, c4, rfl⟩ := own_form ho
              have HO4 := Lib.hid ho
              have HB4 : Hid (Below w.heap.size w w5) := Lib.hid (HB3.out.trans (hb.mono (by omega)))
              have hz5 : w.heap.size + 1 + 1 ≤ w5.heap.size := (by have := hb.size; omega)
              have y3 : w5.cell? ⟨w.heap.size + 1, 0, none⟩ = some (.slice A' k c') := (hb.cell (p := ⟨w.heap.size + 1, 0, none⟩) (by show w.heap.size + 1 < w.heap.size + 1 + 1; omega)).trans e3
              have z3 : w5.frozen? ⟨w.heap.size + 1, 0, none⟩ = false := (hb.frozen (p := ⟨w.heap.size + 1, 0, none⟩) (by show w.heap.size + 1 < w.heap.size + 1 + 1; omega)).trans g3
              have Y0 : Hid (w5.cell? ⟨w.heap.size, 0, none⟩ = some (.slice none 0 0)) := Lib.hid ((hb.cell (p := ⟨w.heap.size, 0, none⟩) (by show w.heap.size < w.heap.size + 1 + 1; omega)).trans E0.out)
              have Z0 : Hid (w5.frozen? ⟨w.heap.size, 0, none⟩ = false) := Lib.hid ((hb.frozen (p := ⟨w.heap.size, 0, none⟩) (by show w.heap.size < w.heap.size + 1 + 1; omega)).trans G0.out)
              clear ho hb)
            go_roundw
            case rel =>
              refine ⟨k + 1, A4, c4, by omega, by go_num, Lib.hid (onceTo_succ hon.out hlt HON.out), Lib.hid (by simp [go_sem, y3]), Lib.hid (by simp [go_sem, z3]), Lib.hid (by rw [World.cell?_setCell_other _ _ _ _ (by intro e; injection e with e1; omega)]; exact Y0.out), Lib.hid (by rw [frozen_set]; exact Z0.out), Lib.hid ?_, Lib.hid (HB4.out.setCell (by show w.heap.size ≤ w.heap.size + 1; omega) _), Lib.hid (by rw [World.size_setCell]; exact hz5)⟩
              rw [HFB.out]
              refine own_setCell ?_ (fun e => by have := (HO4.out.lt _ e).1; simp at this; omega) _
              have := HO4.out
              rw [HVAL.out]
              exact this
            case measure => simp [intOf]; omega

          · have hv0 : ts[k].val = 0 := by rw [ha] at hw; simpa using hw
            have HVAL : Hid ((bldD (bld ts k) ts[k]).val = nxt (bld ts k)) := Lib.hid (by unfold bldD; simp [ha])
            have HQ : Hid (toldOf ts[k].auto ts[k].val = 1) := Lib.hid (by rw [ha, hv0]; rfl)
            clear ha hw hv0
            go_wp2_with fail
            refine (howTold_any _ _ _ _ (q := 1) (HQ.out)).mono ?_
            rintro e w3 ⟨rfl, hb⟩
            have e3 := keep1 hb c3
            have g3 : w3.frozen? ⟨w.heap.size + 1, 0, none⟩ = false := (hb.frozen (p := ⟨w.heap.size + 1, 0, none⟩) (World.block_lt_of_cell? _ _ c3)).trans f3
            have E0 := Lib.hid (keep1 hb c0)
            have G0 : Hid (w3.frozen? ⟨w.heap.size, 0, none⟩ = false) := Lib.hid ((hb.frozen (p := ⟨w.heap.size, 0, none⟩) (World.block_lt_of_cell? _ _ c0)).trans f0)
            have a3 := keep1 hb a0
            have HO3 := Lib.hid (own_below HOW.out hb)
            have HB3 : Hid (Below w.heap.size w w3) := Lib.hid (HBW.out.trans (hb.mono HBW.out.size))
            have hz3 : w.heap.size + 1 + 1 ≤ w3.heap.size := by have := hb.size; omega
            clear hb c3 f3 c0 f0 a0 HOW HBW a2
            generalize hnx : nxt (bld ts k) = nx at *
            have HNX := Lib.hid hnx
            have HSD : Hid (SD w3 w3.heap.size A' k c' (bld ts k)) := Lib.hid (sd_of_own HO3.out (bld_ok HR.out.ok k (by omega)))
            clear hnx
            go_wp2_with fail
            refine (nextValue_any (bld ts k) _ _ _ _ HSD.out HNX.out).mono ?_
            rintro e w4 ⟨rfl, hb⟩
            have r3 := keep1 hb e3
            have s3 : w4.frozen? ⟨w.heap.size + 1, 0, none⟩ = false := (hb.frozen (p := ⟨w.heap.size + 1, 0, none⟩) (World.block_lt_of_cell? _ _ e3)).trans g3
            have R0 := Lib.hid (keep1 hb E0.out)
            have S0 : Hid (w4.frozen? ⟨w.heap.size, 0, none⟩ = false) := Lib.hid ((hb.frozen (p := ⟨w.heap.size, 0, none⟩) (World.block_lt_of_cell? _ _ E0.out)).trans G0.out)
            have a4 := keep1 hb a3
            have HO5 := Lib.hid (own_below HO3.out hb)
            have HB5 : Hid (Below w.heap.size w w4) := Lib.hid (HB3.out.trans (hb.mono HB3.out.size))
            have hz4 : w.heap.size + 1 + 1 ≤ w4.heap.size := by have := hb.size; omega
            clear hb e3 g3 E0 G0 a3 HO3 HB3
            go_wp2_with (
              at_builtin
              refine wpList_app_D rfl _ _ rfl (w.heap.size + 1 + 1) _ _ _ rfl HO5.out _ _ _ _ rfl (by first | rfl | simp) (by omega) (by omega) ?_
              intro v' w5 ho hb
              obtain ⟨A4, c4, rfl⟩ := own_form ho
              have HO4 := Lib.hid ho
              have HB4 : Hid (Below w.heap.size w w5) := Lib.hid (HB5.out.trans (hb.mono (by omega)))
              have hz5 : w.heap.size + 1 + 1 ≤ w5.heap.size := (by have := hb.size; omega)
              have y3 : w5.cell? ⟨w.heap.size + 1, 0, none⟩ = some (.slice A' k c') := (hb.cell (p := ⟨w.heap.size + 1, 0, none⟩) (by show w.heap.size + 1 < w.heap.size + 1 + 1; omega)).trans r3
              have z3 : w5.frozen? ⟨w.heap.size + 1, 0, none⟩ = false := (hb.frozen (p := ⟨w.heap.size + 1, 0, none⟩) (by show w.heap.size + 1 < w.heap.size + 1 + 1; omega)).trans s3
              have Y0 : Hid (w5.cell? ⟨w.heap.size, 0, none⟩ = some (.slice none 0 0)) := Lib.hid ((hb.cell (p := ⟨w.heap.size, 0, none⟩) (by show w.heap.size < w.heap.size + 1 + 1; omega)).trans R0.out)
              have Z0 : Hid (w5.frozen? ⟨w.heap.size, 0, none⟩ = false) := Lib.hid ((hb.frozen (p := ⟨w.heap.size, 0, none⟩) (by show w.heap.size < w.heap.size + 1 + 1; omega)).trans S0.out)
              clear ho hb)
            go_roundw
            case rel =>
              refine ⟨k + 1, A4, c4, by omega, by go_num, Lib.hid (onceTo_succ hon.out hlt HON.out), Lib.hid (by simp [go_sem, y3]), Lib.hid (by simp [go_sem, z3]), Lib.hid (by rw [World.cell?_setCell_other _ _ _ _ (by intro e; injection e with e1; omega)]; exact Y0.out), Lib.hid (by rw [frozen_set]; exact Z0.out), Lib.hid ?_, Lib.hid (HB4.out.setCell (by show w.heap.size ≤ w.heap.size + 1; omega) _), Lib.hid (by rw [World.size_setCell]; exact hz5)⟩
              rw [HFB.out]
              refine own_setCell ?_ (fun e => by have := (HO4.out.lt _ e).1; simp at this; omega) _
              have := HO4.out
              rw [HVAL.out]
              exact this
            case measure => simp [intOf]; omega

        · have HNO : Hid (built ts = false) := Lib.hid (built_not (.inl ⟨k, hlt, hw⟩))
          have HQ : Hid (toldOf ts[k].auto ts[k].val = 2) := Lib.hid (by
            have h1 : ts[k].auto = true ∧ ts[k].val ≠ 0 := by simpa using hw
            unfold toldOf
            rw [h1.1, beq_eq_false_iff_ne.2 h1.2]; rfl)
          clear hw
          go_wp2_with fail
          refine (howTold_any _ _ _ _ (q := 2) (HQ.out)).mono ?_
          rintro e w3 ⟨rfl, hb⟩
          have e3 := keep1 hb c3
          have g3 : w3.frozen? ⟨w.heap.size + 1, 0, none⟩ = false := (hb.frozen (p := ⟨w.heap.size + 1, 0, none⟩) (World.block_lt_of_cell? _ _ c3)).trans f3
          have E0 := Lib.hid (keep1 hb c0)
          have G0 : Hid (w3.frozen? ⟨w.heap.size, 0, none⟩ = false) := Lib.hid ((hb.frozen (p := ⟨w.heap.size, 0, none⟩) (World.block_lt_of_cell? _ _ c0)).trans f0)
          have a3 := keep1 hb a0
          have HO3 := Lib.hid (own_below HOW.out hb)
          have HB3 : Hid (Below w.heap.size w w3) := Lib.hid (HBW.out.trans (hb.mono HBW.out.size))
          have hz3 : w.heap.size + 1 + 1 ≤ w3.heap.size := by have := hb.size; omega
          clear hb c3 f3 c0 f0 a0 HOW HBW a2
          have y0 := E0.out
          have z0 := G0.out
          go_wp2
          refine bodyPost_ret (v := .tuple #[.agg #[.slice none 0 0], .bool false]) (by simp [results, Try.results25, go_sem, y0]) rfl (bldP_no HNO.out (HB3.out.setCell (Nat.le_refl _) _))
      · obtain rfl : k = ts.length := by omega
        have HSD : Hid (SD wr wr.heap.size A' ts.length c' (bld ts ts.length)) := Lib.hid (sd_of_own HO.out (bld_ok HR.out.ok _ (Nat.le_refl _)))
        have c3 := C3.out
        have HBT := Lib.hid (built_of hon.out hv12)
        have hi1 : ¬ ((ts.length : Int) < (n : Int)) := by omega
        cases hve : vEnum (bld ts ts.length)
        · have HVE := Lib.hid hve
          have HNO : Hid (built ts = false) := Lib.hid (by rw [HBT.out, hve])
          clear hve hnl
          go_wp2_with fail
          refine (implVE_v (bld ts ts.length) _ _ _ _ HSD.out HVE.out).mono ?_
          rintro e w4 ⟨rfl, hb⟩
          have y0 := keep1 hb C0.out
          have z0 : w4.frozen? ⟨w.heap.size, 0, none⟩ = false := (hb.frozen (p := ⟨w.heap.size, 0, none⟩) (World.block_lt_of_cell? _ _ C0.out)).trans F0.out
          have HB4 : Hid (Below w.heap.size w w4) := Lib.hid (hbel.out.trans (hb.mono hbel.out.size))
          clear hb
          go_wp2
          refine bodyPost_ret (v := .tuple #[.agg #[.slice none 0 0], .bool false]) (by simp [results, Try.results25, go_sem, y0]) rfl (bldP_no HNO.out (HB4.out.setCell (Nat.le_refl _) _))
        · have HVE := Lib.hid hve
          have HYES : Hid (built ts = true) := Lib.hid (by rw [HBT.out, hve])
          clear hve hnl
          go_wp2_with fail
          refine (implVE_v (bld ts ts.length) _ _ _ _ HSD.out HVE.out).mono ?_
          rintro e w4 ⟨rfl, hb⟩
          have y0 := keep1 hb C0.out
          have z0 : w4.frozen? ⟨w.heap.size, 0, none⟩ = false := (hb.frozen (p := ⟨w.heap.size, 0, none⟩) (World.block_lt_of_cell? _ _ C0.out)).trans F0.out
          have y3 := keep1 hb c3
          have HO4 := Lib.hid (own_below HO.out hb)
          have HB4 : Hid (Below w.heap.size w w4) := Lib.hid (hbel.out.trans (hb.mono hbel.out.size))
          clear hb
          go_wp2
          refine bodyPost_ret (v := .tuple #[.agg #[.slice A' ts.length c'], .bool true]) (by simp [results, Try.results25, go_sem, y0]) rfl (bldP_yes HYES.out (own_setCell (own_base HO4.out (by omega)) (fun e => by have := (HO4.out.lt _ e).1; simp at this; omega) _) (HB4.out.setCell (Nat.le_refl _) _))
end Go.Proofs.Ytjccnahebafepaa
