import Derived.Test.YtpmanbmhbfnefaaTabQ
import Derived.Test.YtpmanbmhbfnefaaOpenP
import Derived.Test.YtpmanbmhbfnefaaConvL
namespace Go.Proofs.Ytpmanbmhbfnefaa
open Go.RowKit Go.Maps
set_option linter.unusedVariables false
set_option linter.unusedSimpArgs false
set_option maxRecDepth 100000

theorem info_Bl : (Try.prog.info? 4).map (fun i => (i.zero, i.size, i.bytes)) = some (some (.bool false), 1, 1) := by kernel_rfl
set_option maxHeartbeats 16000000 in
theorem specTab_any (ds L : List D) (A B : Option Addr) (n c m e : Nat) (w : World) (ha : SD w w.heap.size A n c ds) (hn : n ≤ 1048576) (hb : SD w w.heap.size B m e L) :
    Calls Try.prog 9 #[.agg #[.slice A n c], .slice B m e] w (IntsB (mTab ds L) (mTabOk ds L) w) := by
  have hml := hb.len
  have HRa := Lib.hid ha
  have HRb := Lib.hid hb
  have HOA := Lib.hid ha.ok
  have HOB := Lib.hid hb.ok
  obtain ⟨W0, hW⟩ : ∃ W : World, W = w.alloc (.cells #[.slice A n c] 32) := ⟨_, rfl⟩
  have hb0 : Below w.heap.size w W0 := by rw [hW]; exact (Below.refl _ _).alloc (Nat.le_refl _) _
  have HB0 := Lib.hid hb0
  have hs0 : W0.heap.size = w.heap.size + 1 := by rw [hW]; simp
  have c00 : W0.cell? ⟨w.heap.size, 0, none⟩ = some (.slice A n c) := by rw [hW]; simp [go_sem]
  have l00 : (w.alloc (.cells #[.slice A n c] 32)).cell? ⟨w.heap.size, 0, none⟩ = some (.slice A n c) := by simp [go_sem]
  have HS0 := Lib.hid ((ha.below hb0).call hb0.size)
  have HW := Lib.hid hW.symm
  have hmax := hb.max
  have hcap := hb.cap
  unfold maxLen at hmax
  clear hW hb0 ha hb
  cases hv : vEnum ds
  · have HV := Lib.hid hv
    have HM := Lib.hid (mTab_inv (L := L) hv)
    clear hv
    go_enter Try.func9, Try.ntmps9
    go_wp2_with fail
    rw [HW.out]
    clear HW l00
    refine (specVE_v ds _ _ _ _ HS0.out HV.out).mono ?_
    rintro e w1 ⟨rfl, hb⟩
    have HB1 : Hid (Below w.heap.size w w1) := Lib.hid (HB0.out.trans (hb.mono HB0.out.size))
    clear hb
    go_wp2
    go_ret2
    rw [HM.out, mTab_no HM.out]
    exact ⟨none, 0, rfl, World.ownsRow_nil _ _ _ _, HB1.out⟩
  have HV := Lib.hid hv
  have h12 := mems_12 hv
  by_cases hm12 : 12 < m
  · have HM := Lib.hid (mTab_count (ds := ds) (L := L) (by omega))
    have hmi : (12 : Int) < (m : Int) := by omega
    clear hv
    go_enter Try.func9, Try.ntmps9
    go_wp2_with fail
    rw [HW.out]
    clear HW l00
    refine (specVE_v ds _ _ _ _ HS0.out HV.out).mono ?_
    rintro e w1 ⟨rfl, hb⟩
    have HB1 : Hid (Below w.heap.size w w1) := Lib.hid (HB0.out.trans (hb.mono HB0.out.size))
    clear hb
    go_wp2
    go_ret2
    rw [HM.out, mTab_no HM.out]
    exact ⟨none, 0, rfl, World.ownsRow_nil _ _ _ _, HB1.out⟩
  have hmi : ¬ (12 : Int) < (m : Int) := by omega
  have HMS := Lib.hid (fun A n c w h hn => members_any ds A n c w h hn)
  unfold DefsP at HMS
  have HOM := Lib.hid (mems_ok HOA.out)
  have HRK := Lib.hid (fun (k : Nat) (hk : k < ds.length) => rk_in hv hk)
  have HVT := Lib.hid (fun ss A R n c q k w ha hs hn v h1 => validTab_v ds ss A R n c q k w ha hs hn (v := v) h1)
  have HEND : Hid (tTo ds L L.length = true → L.length = (mems ds).length → mTabOk ds L = tabN ds (numL ds L (mems ds).length L.length)) := Lib.hid (fun h1 h2 => tab_end hv h1 h2)
  have HCNT : Hid (L.length ≠ (mems ds).length → mTabOk ds L = false) := Lib.hid mTab_count
  obtain ⟨q, hq⟩ : ∃ q, (mems ds).length = q := ⟨_, rfl⟩
  obtain ⟨i0, hi, hz0, hz1, hz2⟩ := info_parts info_I
  have HI := Lib.hid (And.intro hi (And.intro hz0 (And.intro hz1 hz2)))
  obtain ⟨i1, hi', hz0', hz1', hz2'⟩ := info_parts info_Bl
  have HI1 := Lib.hid (And.intro hi' (And.intro hz0' (And.intro hz1' hz2')))
  clear hv hi hz0 hz1 hz2 hi' hz0' hz1' hz2'
  go_enter Try.func9, Try.ntmps9
  go_wp2_with fail
  rw [HW.out]
  clear HW l00
  refine (specVE_v ds _ _ _ _ HS0.out HV.out).mono ?_
  rintro e w1 ⟨rfl, hb⟩
  have c01 := keep1 hb c00
  have HS1 := Lib.hid ((HS0.out.below hb).call hb.size)
  have hs1 := hb.size
  have HB1 : Hid (Below w.heap.size w w1) := Lib.hid (HB0.out.trans (hb.mono HB0.out.size))
  clear hb HB0 HS0 c00
  go_wp2_with fail
  refine (HMS.out _ _ _ _ HS1.out hn).mono ?_
  rintro e w2 ⟨A2, c2, rfl, ho, hb⟩
  rw [hq] at ho h12 HEND HCNT HRK ⊢
  have c02 := keep1 hb c01
  have HM2 := Lib.hid ho
  have HML : Hid (∀ r, (Value.slice A2 q c2).ownBlock = some r → w1.heap.size ≤ r ∧ r < w2.heap.size) := Lib.hid (fun r hr => ho.lt r hr)
  have hs2 := hb.size
  have HB2 : Hid (Below w.heap.size w w2) := Lib.hid (HB1.out.trans (hb.mono HB1.out.size))
  clear hb HB1 HS1 c01 ho HMS
  go_wp2_with (first | (at_make; refine wpList_make_full _ rfl _ _ _ rfl w2.heap.size 3 i0 _ 1 Try.underlying27 HI.out.1 HI.out.2.1 HI.out.2.2.1 .i64 .i64 _ _ q rfl rfl rfl rfl (by rw [HI.out.2.2.2]; omega) (by unfold maxLen; omega) (Nat.le_refl _) ?_; intro w3 hown hgrow; have HO3 := Lib.hid hown; have HG3 := Lib.hid hgrow; clear hown hgrow) | (at_make; refine wpList_make_full _ rfl _ _ _ rfl w3.heap.size 4 i1 _ 1 Try.underlying79 HI1.out.1 HI1.out.2.1 HI1.out.2.2.1 .i64 .i64 _ _ q rfl rfl rfl rfl (by rw [HI1.out.2.2.2]; omega) (by unfold maxLen; omega) (Nat.le_refl _) ?_; intro w4 hown hgrow; have HO4 := Lib.hid hown; have HG4 := Lib.hid hgrow; clear hown hgrow))
  have hb3 : Below w2.heap.size w2 w3 := (Below.refl _ _).grown HG3.out (Nat.le_refl _) (by simp)
  have HN3 : Hid (w3.ownsRow w2.heap.size 3 1 (.slice (some ⟨w2.heap.size, 0, none⟩) q q) q (flatI (numL ds L q 0))) := Lib.hid (by
    have h := HO3.out
    have e : (madeCells (Value.int .i64 0).cells (q * 1)).toList = flatI (numL ds L q 0) := by rw [Nat.mul_one]; exact iRow_zero ds L q
    rw [e] at h
    exact h)
  have c03 := keep1 hb3 c02
  have HM3 := Lib.hid (own_below HM2.out hb3)
  have hs3 : w2.heap.size < w3.heap.size := (HO3.out.lt w2.heap.size rfl).2
  have HB3 : Hid (Below w.heap.size w w3) := Lib.hid (HB2.out.trans (hb3.mono HB2.out.size))
  clear hb3 HB2 c02 HM2 HO3 HG3
  have hb4 : Below w3.heap.size w3 w4 := (Below.refl _ _).grown HG4.out (Nat.le_refl _) (by simp)
  have HT4 : Hid (w4.ownsRow w3.heap.size 4 1 (.slice (some ⟨w3.heap.size, 0, none⟩) q q) q (tRow q (hit ds L 0))) := Lib.hid (by
    have h := HO4.out
    have e : (madeCells (Value.bool false).cells (q * 1)).toList = tRow q (hit ds L 0) := by rw [Nat.mul_one]; exact tRow_zero q
    rw [e] at h
    exact h)
  have c04 := keep1 hb4 c03
  have HM4 := Lib.hid (own_below HM3.out hb4)
  have HN4 := Lib.hid (own_below HN3.out hb4)
  have hs4 := hb4.size
  have HB4 : Hid (Below w.heap.size w w4) := Lib.hid (HB3.out.trans (hb4.mono HB3.out.size))
  have hs4' : w3.heap.size < w4.heap.size := (HO4.out.lt w3.heap.size rfl).2
  clear hb4 HB3 c03 HM3 HN3 HO4 HG4
  generalize hG1 : w1.heap.size = G1 at *
  generalize hG2 : w2.heap.size = G2 at *
  generalize hG3 : w3.heap.size = G3 at *
  have n23 : G2 ≠ G3 := by omega
  have n32 : G3 ≠ G2 := by omega
  have hwG1 : w.heap.size + 1 ≤ G1 := by omega
  have nw2 : w.heap.size ≠ G2 := by omega
  have nw3 : w.heap.size ≠ G3 := by omega
  have n2w : G2 ≠ w.heap.size := by omega
  have n3w : G3 ≠ w.heap.size := by omega
  have C4 := Lib.hid c04
  clear hG1 hG2 hG3 c04 HI HI1
  go_wp2
  go_loopw [9] (fun i wr => ∃ (k : Nat), k ≤ m ∧ i = .int .i64 k ∧ Hid (tTo ds L k = true) ∧ Hid (wr.ownsRow G2 3 1 (.slice (some ⟨G2, 0, none⟩) q q) q (flatI (numL ds L q k))) ∧ Hid (wr.ownsRow G3 4 1 (.slice (some ⟨G3, 0, none⟩) q q) q (tRow q (hit ds L k))) ∧ Hid (wr.ownsRow G1 48 2 (.slice A2 q c2) q (flat (mems ds))) ∧ Hid (wr.cell? ⟨w.heap.size, 0, none⟩ = some (.slice A n c)) ∧ Hid (Below w.heap.size w wr) ∧ w4.heap.size ≤ wr.heap.size) (fun i _ => m - (intOf i).toNat)
  case atStart => exact ⟨0, Nat.zero_le _, rfl, Lib.hid rfl, HN4, HT4, HM4, C4, HB4, Nat.le_refl _⟩
  case round =>
    clear HN4 HT4 HM4 C4 HB4
    obtain ⟨k, hk, rfl, HTT, HN, HT, HM, HC, HBE, hsz⟩ := hrel
    have hk0 : (0 : Int) ≤ (k : Int) := by omega
    by_cases hlt : k < m
    · have hki : (k : Int) < (m : Int) := by omega
      have hkL : k < L.length := by omega
      obtain ⟨bb, o, hA, hbb, d1, d2⟩ := (HRb.out.below HBE.out).at_ hkL
      subst hA
      have HGD := Lib.hid (tGood_at (ds := ds) hkL)
      have HBAD : Hid (tGood ds L k = false → mTabOk ds L = false) := Lib.hid (mTab_bad hkL)
      have HTS : Hid (tTo ds L (k + 1) = (tTo ds L k && tGood ds L k)) := Lib.hid rfl
      have HFN := Lib.hid (flatI_num (ds := ds) (q := q) hkL)
      have HFT := Lib.hid (tRow_hit (ds := ds) (q := q) hkL)
      have HRN : Hid (∀ (j r : Nat) (hj : j < ds.length), fidx (isNm L[k].name) ds = (j : Int) → fidx (isVal ds[j].val) (mems ds) = (r : Int) → rkN ds L[k].name = r) := Lib.hid (fun j r hj h1 h2 => by unfold rkN; rw [valI_at hj h1, h2, Int.toNat_natCast])
      generalize L[k].name = s at *
      generalize L[k].val = v at *
      have x0 := HC.out
      have hbw : bb < w.heap.size := hbb
      have hbG2 : bb ≠ G2 := by omega
      have hbG3 : bb ≠ G3 := by omega
      rcases fidx_cases (isNm s) ds with ⟨hx, _⟩ | ⟨j, hj, hx, _, _⟩
      · have HX := Lib.hid hx
        have HNB : Hid (mTabOk ds L = false) := Lib.hid (HBAD.out (by rw [HGD.out, decide_eq_false (by omega), Bool.false_and]))
        have HSD := Lib.hid ((HRa.out.below HBE.out).call HBE.out.size)
        clear hx HBAD HGD HTS HFN HFT HRN
        go_wp2_with fail
        go_region_held3 (fun w' => w'.cell? ⟨w.heap.size, 0, none⟩ = some (.slice A n c) ∧ w'.cell? ⟨bb, o + k * 2, none⟩ = some (.string s)) (first | go_keep | exact ⟨x0, d1⟩)
          (first | (go_at_call 44; refine (indexOf_v ds s _ _ _ _ (by first | exact HSD.out.drew | exact HSD.out.drewN _ | exact HSD.out) HX.out).mono ?_; rintro e w6 ⟨rfl, rfl⟩))
        have HB5 : Hid (Below w.heap.size w wr.drew) := Lib.hid HBE.out.drew
        generalize wr.drew = wq at *
        go_wp2
        go_ret2
        rw [HNB.out, mTab_no HNB.out]
        exact ⟨none, 0, rfl, World.ownsRow_nil _ _ _ _, HB5.out⟩
      · obtain ⟨r, _, hrq, hrk⟩ := HRK.out j hj
        have hrn := HRN.out j r hj hx hrk
        have HX := Lib.hid hx
        have HK := Lib.hid hrk
        rw [hrn] at HGD HFN HFT
        have HSD := Lib.hid ((HRa.out.below HBE.out).call HBE.out.size)
        obtain ⟨ba, oa, hA2, hba, a1, a2⟩ := (HRa.out.below HBE.out).at_ hj
        subst hA2
        have hjn : (j : Int) < (n : Int) := by have := HRa.out.len; omega
        have hj0 : (0 : Int) ≤ (j : Int) := by omega
        have hr0 : (0 : Int) ≤ (r : Int) := by omega
        have hri : (r : Int) < (q : Int) := by omega
        have hbaG2 : ba ≠ G2 := by omega
        have hbaG3 : ba ≠ G3 := by omega
        generalize ds[j].val = vj at *
        have HGE : Hid (tGood ds L k = !hit ds L k r) := Lib.hid (by rw [HGD.out, decide_eq_true (by omega), Bool.true_and])
        clear hx hrk hrn HGD HRN
        go_wp2_with fail
        go_region_held3 (fun w' => w'.cell? ⟨w.heap.size, 0, none⟩ = some (.slice (some ⟨ba, oa, none⟩) n c) ∧ w'.cell? ⟨bb, o + k * 2, none⟩ = some (.string s)) (first | go_keep | exact ⟨x0, d1⟩)
          (first | (go_at_call 44; refine (indexOf_v ds s _ _ _ _ (by first | exact HSD.out.drew | exact HSD.out.drewN _ | exact HSD.out) HX.out).mono ?_; rintro e w6 ⟨rfl, rfl⟩))
        have y0 : wr.drew.cell? ⟨w.heap.size, 0, none⟩ = some (.slice (some ⟨ba, oa, none⟩) n c) := x0
        have b2 : wr.drew.cell? ⟨ba, oa + j * 2 + 1, none⟩ = some (.int .i64 vj) := a2
        have e2 : wr.drew.cell? ⟨bb, o + k * 2 + 1, none⟩ = some (.int .i64 v) := d2
        have HB5 : Hid (Below w.heap.size w wr.drew) := Lib.hid HBE.out.drew
        have HN5 : Hid (wr.drew.ownsRow G2 3 1 (.slice (some ⟨G2, 0, none⟩) q q) q (flatI (numL ds L q k))) := Lib.hid HN.out
        have HT5 : Hid (wr.drew.ownsRow G3 4 1 (.slice (some ⟨G3, 0, none⟩) q q) q (tRow q (hit ds L k))) := Lib.hid HT.out
        have HM5 : Hid (wr.drew.ownsRow G1 48 2 (.slice A2 q c2) q (flat (mems ds))) := Lib.hid HM.out
        have hsz5 : w4.heap.size ≤ wr.drew.heap.size := hsz
        clear x0 a1 a2 d1 d2 HBE HN HT HM HC hsz HSD hbb hba
        generalize wr.drew = wq at *
        have HSM := Lib.hid (sd_of_own HM5.out HOM.out)
        have hct := HT5.out.cellAt r (by omega)
        rw [tRow_get _ hrq] at hct
        go_wp2_with fail
        refine (valueAt_v (mems ds) vj _ _ _ _ HSM.out HK.out).mono ?_
        rintro e w6 ⟨rfl, rfl⟩
        cases hh : hit ds L k r
        · rw [hh] at hct HGE
          have HGO : Hid (tTo ds L (k + 1) = true) := Lib.hid (by rw [HTS.out, HTT.out, HGE.out]; rfl)
          have hf1 := HT5.out.frozenAt r
          have hf2 := HN5.out.frozenAt r
          obtain ⟨y2, hx2⟩ := own_cell HN5.out r (by omega)
          clear hh HBAD HGE HTS
          go_wp2
          have hs1 := HT5.out.stored r (.bool true)
          have hN6 := own_setCell HN5.out (p := ⟨G3, r, none⟩) (by show some G2 ≠ some G3; intro e; exact n23 (Option.some.inj e)) (.bool true)
          have hs2 := hN6.stored r (.int .i64 v)
          have hT6 := own_setCell hs1.1 (p := ⟨G2, r, none⟩) (by show some G3 ≠ some G2; intro e; exact n32 (Option.some.inj e)) (.int .i64 v)
          have hM6 := own_setCell (own_setCell HM5.out (p := ⟨G3, r, none⟩) (fun e => by have := (HML.out _ e).2; simp only at this; omega) (.bool true)) (p := ⟨G2, r, none⟩) (fun e => by have := (HML.out _ e).2; simp only at this; omega) (.int .i64 v)
          rw [HFT.out] at hT6
          have hs3' := hs2.1
          rw [HFN.out] at hs3'
          have HT7 := Lib.hid hT6
          have HN7 := Lib.hid hs3'
          have HM7 := Lib.hid hM6
          have HB7 := Lib.hid ((HB5.out.setCell (p := ⟨G3, r, none⟩) (by show w.heap.size ≤ G3; omega) (.bool true)).setCell (p := ⟨G2, r, none⟩) (by show w.heap.size ≤ G2; omega) (.int .i64 v))
          have HC7 : Hid (((wq.setCell ⟨G3, r, none⟩ (.bool true)).setCell ⟨G2, r, none⟩ (.int .i64 v)).cell? ⟨w.heap.size, 0, none⟩ = some (.slice (some ⟨ba, oa, none⟩) n c)) := Lib.hid (by
            rw [World.cell?_setCell_other _ _ _ _ (fun e => n2w (congrArg Addr.block e)), World.cell?_setCell_other _ _ _ _ (fun e => n3w (congrArg Addr.block e))]
            exact y0)
          clear hs1 hN6 hs2 hT6 hM6 hs3'
          go_roundw
          case rel => exact ⟨k + 1, hlt, by go_num, HGO, HN7, HT7, HM7, HC7, HB7, by simpa using hsz5⟩
          case measure => simp [intOf]; omega
        · rw [hh] at hct HGE
          have HNB : Hid (mTabOk ds L = false) := Lib.hid (HBAD.out (by rw [HGE.out]; rfl))
          clear hh HBAD HGE HTS HFN HFT
          go_wp2
          go_ret2
          rw [HNB.out, mTab_no HNB.out]
          exact ⟨none, 0, rfl, World.ownsRow_nil _ _ _ _, HB5.out⟩
    · obtain rfl : k = m := by omega
      have hki : ¬ (k : Int) < (k : Int) := by omega
      have x0 := HC.out
      by_cases hmq : k = q
      · subst hmq
        have HSD := Lib.hid ((HRa.out.below HBE.out).call HBE.out.size)
        have HSI := Lib.hid (si_of_own HN.out (numL_ok HOB.out))
        obtain ⟨tv, htv⟩ : ∃ tv, tabN ds (numL ds L k k) = tv := ⟨_, rfl⟩
        have HTV := Lib.hid htv
        have HMT : Hid (mTabOk ds L = tv) := Lib.hid (by
          have h1 := HEND.out (by rw [hml]; exact HTT.out) (by omega)
          rw [h1, hml]
          exact htv)
        clear htv
        go_wp2_with fail
        refine (HVT.out _ _ _ _ _ _ _ _ HSD.out HSI.out hn _ HTV.out).mono ?_
        rintro e w6 ⟨rfl, hb⟩
        have HB6 : Hid (Below w.heap.size w w6) := Lib.hid (HBE.out.trans (hb.mono HBE.out.size))
        have HN6 := Lib.hid (own_below HN.out hb)
        clear hb
        cases tv
        · go_wp2
          go_ret2
          rw [HMT.out, mTab_no HMT.out]
          exact ⟨none, 0, rfl, World.ownsRow_nil _ _ _ _, HB6.out⟩
        · go_wp2
          go_ret2
          have hy := mTab_yes HMT.out
          rw [hq, hml] at hy
          rw [HMT.out, hy]
          exact ⟨some ⟨G2, 0, none⟩, k, by rw [numL_len]; first | done | rfl, by rw [numL_len]; exact own_base HN6.out (by omega), HB6.out⟩
      · have hqi : ¬ (k : Int) = (q : Int) := by omega
        have hqe : ((k : Int) == (q : Int)) = false := by rw [beq_eq_false_iff_ne]; exact hqi
        have HNB : Hid (mTabOk ds L = false) := Lib.hid (HCNT.out (by omega))
        go_wp2
        go_ret2
        rw [HNB.out, mTab_no HNB.out]
        exact ⟨none, 0, rfl, World.ownsRow_nil _ _ _ _, HBE.out⟩
end Go.Proofs.Ytpmanbmhbfnefaa
