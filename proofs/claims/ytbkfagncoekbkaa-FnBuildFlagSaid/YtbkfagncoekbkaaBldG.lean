import Derived.Test.YtbkfagncoekbkaaBldF
namespace Go.Proofs.Ytbkfagncoekbkaa
open Go.RowKit Go.Maps
set_option linter.unusedVariables false
set_option maxRecDepth 100000

theorem flat_bldF (ts : List It) (k : Nat) (h : k < ts.length) : flat (bldF ts (k + 1)) = flat (bldF ts k) ++ [.string ts[k].name, .int .i64 (bldFD (bldF ts k) ts[k]).val] := by
  rw [bldF_succ ts k h]; simp [flat, encD, bldFD]

set_option maxHeartbeats 4000000 in
theorem specBuildF_any (ts : List It) (b : Int) (A : Option Addr) (c n : Nat) (w : World) (hr : ST w w.heap.size A n c ts) :
    Calls Try.prog 21 #[.slice A n c, .int .i64 b] w (BldFP ts b w) := by
  have HR := Lib.hid hr
  have HL := Lib.hid hr.len
  have hl := hr.max
  have hl2 := hr.cap
  unfold maxLen at hl
  clear hr
  have b1 : Below w.heap.size w (w.alloc (.cells #[.slice none 0 0, .int .i64 0] 25)) := (Below.refl _ _).alloc (Nat.le_refl _) _
  have HC1 : Hid (C2 (w.alloc (.cells #[.slice none 0 0, .int .i64 0] 25)) w.heap.size (.slice none 0 0) (.int .i64 0)) := Lib.hid (c2New _ _ _ _)
  cases hv : vItems 0 4095 ts
  · have HNO : Hid (builtF ts b = false) := Lib.hid (by unfold builtF; rw [hv]; rfl)
    have HV := Lib.hid hv
    clear hv
    go_enter Try.func21, Try.ntmps21
    go_wp2_with fail
    refine (validItems_any ts _ _ _ _ _ _ ((HR.out.below b1).call b1.size) HV.out).mono ?_
    rintro e w1 ⟨rfl, hb⟩
    obtain ⟨x0, x1, y0, y1⟩ := HC1.out.below hb
    have HB := Lib.hid (b1.trans (hb.mono b1.size))
    clear hb b1 HC1
    go_wp2
    refine bodyPost_ret (v := .tuple #[.agg #[.slice none 0 0, .int .i64 0], .bool false]) (by simp [results, Try.results21, go_sem, x0, x1]) rfl (bldFP_no HNO.out ((HB.out.setCell (Nat.le_refl _) _).setCell (Nat.le_refl _) _))
  · have hv12 : ts.length ≤ 12 := by unfold vItems at hv; simp at hv; exact hv.2
    have HRG := Lib.hid (vItems_rng hv)
    have HBT : Hid (builtF ts b = vFlag (bldF ts ts.length) b) := Lib.hid (by unfold builtF; rw [hv]; rfl)
    have HV := Lib.hid hv
    clear hv
    go_enter Try.func21, Try.ntmps21
    go_wp2_with fail
    refine (validItems_any ts _ _ _ _ _ _ ((HR.out.below b1).call b1.size) HV.out).mono ?_
    rintro e w1 ⟨rfl, hb⟩
    have HC2 := Lib.hid (HC1.out.below hb)
    have HB := Lib.hid (b1.trans (hb.mono b1.size))
    have hz1 : w.heap.size + 1 ≤ w1.heap.size := by have := hb.size; simpa using this
    clear hb b1 HC1
    have bW : Below w1.heap.size w1 (w1.alloc (.cells #[.slice none 0 0, .int .i64 b] 25)) := (Below.refl _ _).alloc (Nat.le_refl _) _
    have HC : Hid (C2 (w1.alloc (.cells #[.slice none 0 0, .int .i64 b] 25)) w.heap.size (.slice none 0 0) (.int .i64 0)) := Lib.hid (HC2.out.below bW)
    have HD : Hid (C2 (w1.alloc (.cells #[.slice none 0 0, .int .i64 b] 25)) w1.heap.size (.slice none 0 0) (.int .i64 b)) := Lib.hid (c2New _ _ _ _)
    have HB2 : Hid (Below w.heap.size w (w1.alloc (.cells #[.slice none 0 0, .int .i64 b] 25))) := Lib.hid (HB.out.alloc HB.out.size _)
    have HZ2 : Hid (w1.heap.size + 1 ≤ (w1.alloc (.cells #[.slice none 0 0, .int .i64 b] 25)).heap.size) := Lib.hid (by simp)
    clear bW HC2 HB
    go_wp2_with fail
    generalize (w1.alloc (.cells #[.slice none 0 0, .int .i64 b] 25)) = w2 at *
    generalize w1.heap.size = G at *
    go_loopw [7] (fun i wr => ∃ (k : Nat) (A' : Option Addr) (c' : Nat), k ≤ ts.length ∧ i = .int .i64 k ∧ Hid (C2 wr G (.slice A' k c') (.int .i64 b)) ∧ Hid (C2 wr w.heap.size (.slice none 0 0) (.int .i64 0)) ∧ Hid (wr.ownsRow (G + 1) 37 2 (.slice A' k c') k (flat (bldF ts k))) ∧ Hid (Below w.heap.size w wr) ∧ Hid (G + 1 ≤ wr.heap.size)) (fun i _ => ts.length - (intOf i).toNat)
    case atStart => exact ⟨0, none, 0, Nat.zero_le _, rfl, HD, HC, Lib.hid (World.ownsRow_nil _ _ _ _), HB2, HZ2⟩
    case round =>
      clear HC HD HB2 HZ2
      obtain ⟨k, A', c', hk, rfl, HD, HC, HO, hbel, hzr⟩ := hrel
      have hnl := HL.out
      by_cases hlt : k < ts.length
      · obtain ⟨bb, o, rfl, hbb, d1, d2, d3⟩ := (HR.out.below hbel.out).at_ hlt
        have HFB := Lib.hid (flat_bldF ts k hlt)
        have HOKT := Lib.hid (HR.out.ok _ (List.getElem_mem hlt))
        have hi1 : (k : Int) < (n : Int) := by omega
        have hi0 : (0 : Int) ≤ (k : Int) := by omega
        have hbG : bb ≠ G := by omega
        go_wp2_with fail
        have n1 := World.new_ne wr ⟨bb, o + k * 3, none⟩ d1
        have n3 := World.new_ne wr ⟨bb, o + k * 3 + 2, none⟩ d3
        go_region_held3 (fun w' => w'.cell? ⟨bb, o + k * 3, none⟩ = some (.string ts[k].name) ∧ w'.cell? ⟨bb, o + k * 3 + 2, none⟩ = some (.int .i64 ts[k].val)) (go_keep) (fail)
        have hzr0 := hzr.out
        have bW : Below wr.heap.size wr (wr.alloc (.cells #[.string ts[k].name, .int .i64 ts[k].val] 37)).drew := ((Below.refl _ _).alloc (Nat.le_refl _) _).drew
        have e2 := keep1 bW d2
        have HDW := Lib.hid (HD.out.below bW)
        have HCW := Lib.hid (HC.out.below bW)
        have a0 : (wr.alloc (.cells #[.string ts[k].name, .int .i64 ts[k].val] 37)).drew.cell? ⟨wr.heap.size, 0, none⟩ = some (.string ts[k].name) := by simp [go_sem]
        have a1 : (wr.alloc (.cells #[.string ts[k].name, .int .i64 ts[k].val] 37)).drew.cell? ⟨wr.heap.size, 1, none⟩ = some (.int .i64 ts[k].val) := by simp [go_sem]
        have q1 : (wr.alloc (.cells #[.string ts[k].name, .int .i64 ts[k].val] 37)).drew.frozen? ⟨wr.heap.size, 1, none⟩ = false := by simp [go_sem]
        have HOW := Lib.hid (own_below HO.out bW)
        have HBW : Hid (Below w.heap.size w (wr.alloc (.cells #[.string ts[k].name, .int .i64 ts[k].val] 37)).drew) := Lib.hid (hbel.out.trans (bW.mono hbel.out.size))
        have hzW : wr.heap.size + 1 ≤ (wr.alloc (.cells #[.string ts[k].name, .int .i64 ts[k].val] 37)).drew.heap.size := by simp
        have NEO : Hid (∀ q, (Value.slice A' k c').ownBlock = some q → q < wr.heap.size) := Lib.hid (fun q hq => (HO.out.lt q hq).2)
        clear bW d1 d2 d3 n1 n3 HC HD HO hbel hzr
        rename_i hheld
        clear hheld
        generalize (wr.alloc (.cells #[.string ts[k].name, .int .i64 ts[k].val] 37)).drew = W at *
        generalize wr.heap.size = D0 at *
        obtain ⟨e3, e4, g3, g4⟩ := HDW.out
        cases ha : ts[k].auto
        · rw [ha] at e2
          have HVAL : Hid ((bldFD (bldF ts k) ts[k]).val = ts[k].val) := Lib.hid (by unfold bldFD; simp [ha])
          clear ha
          generalize ts[k].val = vl at *
          generalize ts[k].name = nm at *
          go_wp2_with (
            at_builtin
            refine wpList_app_D rfl _ _ rfl (G + 1) _ _ _ rfl HOW.out _ _ _ _ rfl (by first | rfl | simp) (by omega) (by omega) ?_
            intro v' w4 ho hb
            obtain ⟨A4, c4, rfl⟩ := own_form ho
            have HO4 := Lib.hid ho
            have HB4 : Hid (Below w.heap.size w w4) := Lib.hid (HBW.out.trans (hb.mono (by omega)))
            have hz4 : G + 1 ≤ w4.heap.size := (by have := hb.size; omega)
            have HD4 := Lib.hid (HDW.out.low hb (Nat.lt_succ_self _))
            have HC4 := Lib.hid (HCW.out.low hb (by omega))
            obtain ⟨y3, y4, z3, z4⟩ := HD4.out
            clear ho hb)
          go_roundw
          case rel =>
            refine ⟨k + 1, A4, c4, by omega, by go_num, Lib.hid (HD4.out.set0 _), Lib.hid (HC4.out.setO (by simp only; omega) _), Lib.hid ?_, Lib.hid (HB4.out.setCell (by show w.heap.size ≤ G; omega) _), Lib.hid (by rw [World.size_setCell]; exact hz4)⟩
            rw [HFB.out]
            refine own_setCell ?_ (fun e => by have := (HO4.out.lt _ e).1; simp at this; omega) _
            have := HO4.out
            rw [HVAL.out]
            exact this
          case measure => simp [intOf]; omega
        · rw [ha] at e2
          have HVAL : Hid ((bldFD (bldF ts k) ts[k]).val = ((mNb (bldF ts k) : Nat) : Int)) := Lib.hid (by unfold bldFD; simp [ha])
          clear ha
          have hrk : rngT ts k := fun i hi hik => HRG.out i hi hi
          have HSD : Hid (SD W W.heap.size A' k c' (bldF ts k)) := Lib.hid (sd_of_own HOW.out (bldF_ok HR.out.ok k (by omega) (by omega) hrk))
          have HSM := Lib.hid (bldF_small k (by omega) (by omega) hrk)
          obtain ⟨nx, hnx⟩ : ∃ nx, mNb (bldF ts k) = nx := ⟨_, rfl⟩
          rw [hnx] at HVAL
          have HNX := Lib.hid hnx
          clear hnx hrk
          generalize ts[k].val = vl at *
          generalize ts[k].name = nm at *
          have hne : D0 ≠ G := by omega
          have hne0 : w.heap.size ≠ D0 := by omega
          go_wp2_with fail
          refine (nextBit_any (bldF ts k) _ _ _ _ HSD.out HSM.out HNX.out).mono ?_
          rintro e w' ⟨rfl, rfl⟩
          have HOV : Hid ((W.setCell ⟨D0, 1, none⟩ (.int .i64 nx)).ownsRow (G + 1) 37 2 (.slice A' k c') k (flat (bldF ts k))) := Lib.hid (own_setCell HOW.out (fun e => by have := NEO.out _ e; simp at this) _)
          have HBV : Hid (Below w.heap.size w (W.setCell ⟨D0, 1, none⟩ (.int .i64 nx))) := Lib.hid (HBW.out.setCell (by show w.heap.size ≤ D0; omega) _)
          have HDV := Lib.hid (HDW.out.setO (p := ⟨D0, 1, none⟩) hne (.int .i64 nx))
          have HCV := Lib.hid (HCW.out.setO (p := ⟨D0, 1, none⟩) (Ne.symm hne0) (.int .i64 nx))
          have hzV : D0 + 1 ≤ (W.setCell ⟨D0, 1, none⟩ (.int .i64 nx)).heap.size := by rw [World.size_setCell]; exact hzW
          obtain ⟨r3, r4, s3, s4⟩ := HDV.out
          go_wp2_with (
            at_builtin
            refine wpList_app_D rfl _ _ rfl (G + 1) _ _ _ rfl HOV.out _ _ _ _ rfl (by first | rfl | simp) (by omega) (by omega) ?_
            intro v' w4 ho hb
            obtain ⟨A4, c4, rfl⟩ := own_form ho
            have HO4 := Lib.hid ho
            have HB4 : Hid (Below w.heap.size w w4) := Lib.hid (HBV.out.trans (hb.mono (by omega)))
            have hz4 : G + 1 ≤ w4.heap.size := (by have := hb.size; omega)
            have HD4 := Lib.hid (HDV.out.low hb (Nat.lt_succ_self _))
            have HC4 := Lib.hid (HCV.out.low hb (by omega))
            obtain ⟨y3, y4, z3, z4⟩ := HD4.out
            clear ho hb)
          go_roundw
          case rel =>
            refine ⟨k + 1, A4, c4, by omega, by go_num, Lib.hid (HD4.out.set0 _), Lib.hid (HC4.out.setO (by simp only; omega) _), Lib.hid ?_, Lib.hid (HB4.out.setCell (by show w.heap.size ≤ G; omega) _), Lib.hid (by rw [World.size_setCell]; exact hz4)⟩
            rw [HFB.out]
            refine own_setCell ?_ (fun e => by have := (HO4.out.lt _ e).1; simp at this; omega) _
            have := HO4.out
            rw [HVAL.out]
            exact this
          case measure => simp [intOf]; omega
      · obtain rfl : k = ts.length := by omega
        have HSD : Hid (SD wr wr.heap.size A' ts.length c' (bldF ts ts.length)) := Lib.hid (sd_of_own HO.out (bldF_ok HR.out.ok _ (Nat.le_refl _) (by omega) HRG.out))
        have hi1 : ¬ ((ts.length : Int) < (n : Int)) := by omega
        obtain ⟨e3, e4, g3, g4⟩ := HD.out
        obtain ⟨u, hve⟩ : ∃ u, vFlag (bldF ts ts.length) b = u := ⟨_, rfl⟩
        have HVE := Lib.hid hve
        have HBU : Hid (builtF ts b = u) := Lib.hid (by rw [HBT.out, hve])
        have HLB := Lib.hid (bldF_len ts ts.length (Nat.le_refl _))
        clear hve hnl
        go_wp2_with fail
        refine (specVF_v (bldF ts ts.length) b _ _ _ _ HSD.out HVE.out).mono ?_
        rintro e w4 ⟨rfl, hb⟩
        have HC4 := Lib.hid (HC.out.below hb)
        have HD4 := Lib.hid (HD.out.below hb)
        have HO4 := Lib.hid (own_below HO.out hb)
        have HB4 : Hid (Below w.heap.size w w4) := Lib.hid (hbel.out.trans (hb.mono hbel.out.size))
        obtain ⟨x0, x1, y0, y1⟩ := HC4.out
        obtain ⟨r3, r4, s3, s4⟩ := HD4.out
        have hzG := hzr.out
        clear hb e3 e4 g3 g4
        cases u
        · go_wp2
          refine bodyPost_ret (v := .tuple #[.agg #[.slice none 0 0, .int .i64 0], .bool false]) (by simp [results, Try.results21, go_sem, x0, x1]) rfl (bldFP_no HBU.out ((HB4.out.setCell (Nat.le_refl _) _).setCell (Nat.le_refl _) _))
        · go_wp2
          refine bodyPost_ret (v := .tuple #[.agg #[.slice A' ts.length c', .int .i64 b], .bool true]) (by simp [results, Try.results21, go_sem, x0, x1]) rfl (bldFP_yes HBU.out rfl HLB.out (own_setCell (own_setCell (own_base HO4.out (by omega)) (fun e => by have := (HO4.out.lt _ e).1; simp at this; omega) _) (fun e => by have := (HO4.out.lt _ e).1; simp at this; omega) _) ((HB4.out.setCell (Nat.le_refl _) _).setCell (Nat.le_refl _) _))
end Go.Proofs.Ytbkfagncoekbkaa
