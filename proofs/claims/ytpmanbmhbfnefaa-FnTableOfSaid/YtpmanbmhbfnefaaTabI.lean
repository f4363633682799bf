import Derived.Test.YtpmanbmhbfnefaaTabQ
import Derived.Test.YtpmanbmhbfnefaaOpenP
import Derived.Test.YtpmanbmhbfnefaaConvL
import Derived.Test.YtpmanbmhbfnefaaConvI
namespace Go.Proofs.Ytpmanbmhbfnefaa
open Go.RowKit Go.Maps
set_option linter.unusedVariables false
set_option linter.unusedSimpArgs false
set_option maxRecDepth 100000

theorem len_idx {w : World} {b n cnt : Nat} {f : ByteArray → Int} (h : IdxS w b n f cnt) : ∀ ty, (Builtin.len_ #[86] ty #[.map (some b)]).run Try.prog w = .ok (.int .i64 cnt) w := fun ty => h.len_ ty
set_option maxHeartbeats 16000000 in
theorem implTab_any (ds L : List D) (A B : Option Addr) (n c m e : Nat) (w : World) (ha : SD w w.heap.size A n c ds) (hb : SD w w.heap.size B m e L) :
    Calls Try.prog 12 #[.agg #[.slice A n c], .slice B m e] w (IntsB (mTab ds L) (mTabOk ds L) w) := by
  have hml := hb.len
  have HRa := Lib.hid ha
  have HRb := Lib.hid hb
  have HOA := Lib.hid ha.ok
  have HOB := Lib.hid hb.ok
  obtain ⟨W0, hW⟩ : ∃ W : World, W = w.alloc (.cells #[.slice A n c] 32) := ⟨_, rfl⟩
  have hb0 : Below w.heap.size w W0 := by rw [hW]; exact (Below.refl _ _).alloc (Nat.le_refl _) _
  have HB0 := Lib.hid hb0
  have hs0 : W0.heap.size = w.heap.size + 1 := by rw [hW]; simp
  have c00 : W0.cell? ⟨w.heap.size, 0, none⟩ = some (.slice A n c) := by rw [hW]; simp [go_sem]
  have l00 : (w.alloc (.cells #[.slice A n c] 32)).cell? ⟨w.heap.size, 0, none⟩ = some (.slice A n c) := by simp [go_sem]
  have HS0 := Lib.hid ((ha.below hb0).call hb0.size)
  have HW := Lib.hid hW.symm
  have hmax := hb.max
  have hcap := hb.cap
  unfold maxLen at hmax
  clear hW hb0 ha hb
  cases hv : vEnum ds
  · have HV := Lib.hid hv
    have HM := Lib.hid (mTab_inv (L := L) hv)
    clear hv
    go_enter Try.func12, Try.ntmps12
    go_wp2_with fail
    rw [HW.out]
    clear HW l00
    refine (implVE_v ds _ _ _ _ HS0.out HV.out).mono ?_
    rintro e w1 ⟨rfl, hb⟩
    have HB1 : Hid (Below w.heap.size w w1) := Lib.hid (HB0.out.trans (hb.mono HB0.out.size))
    clear hb
    go_wp2
    go_ret2
    rw [HM.out, mTab_no HM.out]
    exact ⟨none, 0, rfl, World.ownsRow_nil _ _ _ _, HB1.out⟩
  have HV := Lib.hid hv
  have h12 := mems_12 hv
  have HMT := Lib.hid (fun A n c w h => memTab_any ds A n c w h)
  unfold MemTP at HMT
  have HRK := Lib.hid (fun (k : Nat) (hk : k < ds.length) => rk_in hv hk)
  have HCNT : Hid (L.length ≠ (mems ds).length → mTabOk ds L = false) := Lib.hid mTab_count
  have HALL : Hid (tTo ds L L.length = true → L.length = (mems ds).length → (∀ d ∈ L, inT d = true) → mTabOk ds L = true) := Lib.hid (fun h1 h2 h3 => by
    unfold mTabOk
    rw [hv, h1, decide_eq_true h2, List.all_eq_true.2 h3]
    rfl)
  have hmm : mMembers ds = (mems ds).map (·.name) := by unfold mMembers; rw [if_pos hv]
  have HMN := Lib.hid hmm
  have hmlen : (mMembers ds).length = (mems ds).length := by rw [hmm, List.length_map]
  have HMOK := Lib.hid (mMembers_ok HOA.out)
  have HTU := Lib.hid (fun A R n c q k w hs => turned_v ds A R n c q k w hs hv HOA.out)
  unfold TurR at HTU
  have HLF := Lib.hid (fun k (r : Nat) (hr : r < (mems ds).length) => lf_at (ds := ds) (L := L) hv (k := k) hr)
  have HLE := Lib.hid (fun k => lf_empty (ds := ds) (L := L) hv k)
  have HLS := Lib.hid (fun k (r : Nat) hk hr he => lf_succ (ds := ds) (L := L) hv (k := k) (r := r) hk hr he)
  have HLZ := Lib.hid (lf_zero ds L)
  obtain ⟨q, hq⟩ : ∃ q, (mems ds).length = q := ⟨_, rfl⟩
  obtain ⟨i0, hi, hz0, hz1, hz2⟩ := info_parts info_I
  have HI := Lib.hid (And.intro hi (And.intro hz0 (And.intro hz1 hz2)))
  rw [hq] at hmlen h12 HCNT HALL
  have HQ := Lib.hid hq
  clear hv hi hz0 hz1 hz2 hmm hq
  go_enter Try.func12, Try.ntmps12
  go_wp2_with fail
  rw [HW.out]
  clear HW l00
  refine (implVE_v ds _ _ _ _ HS0.out HV.out).mono ?_
  rintro e w1 ⟨rfl, hb⟩
  have c01 := keep1 hb c00
  have HS1 := Lib.hid ((HS0.out.below hb).call hb.size)
  have hs1 := hb.size
  have HB1 : Hid (Below w.heap.size w w1) := Lib.hid (HB0.out.trans (hb.mono HB0.out.size))
  clear hb HB0 HS0 c00
  go_wp2_with fail
  refine (HMT.out _ _ _ _ HS1.out).mono ?_
  rintro e w2 ⟨R, kc, rfl, ho, hb⟩
  rw [HV.out, hmlen] 
  unfold tabV
  rw [if_pos rfl]
  rw [hmlen] at ho
  have HR2 := Lib.hid ho
  have HRL : Hid (∀ r, (Value.slice R q kc).ownBlock = some r → w1.heap.size ≤ r ∧ r < w2.heap.size) := Lib.hid (fun r hr => ho.lt r hr)
  have hs2 := hb.size
  have HB2 : Hid (Below w.heap.size w w2) := Lib.hid (HB1.out.trans (hb.mono HB1.out.size))
  have HSA2 := Lib.hid ((HS1.out.below hb).call hb.size)
  clear hb HB1 HS1 c01 ho HMT
  obtain ⟨w3, hw3⟩ : ∃ W : World, W = w2.alloc (.cells #[.slice A n c, .slice R q kc] 84) := ⟨_, rfl⟩
  have hb3 : Below w2.heap.size w2 w3 := by rw [hw3]; exact (Below.refl _ _).alloc (Nat.le_refl _) _
  have HC3 : Hid (C2 w3 w2.heap.size (.slice A n c) (.slice R q kc)) := Lib.hid (by rw [hw3]; exact c2New _ _ _ _)
  have lc0 : (w2.alloc (.cells #[.slice A n c, .slice R q kc] 84)).cell? ⟨w2.heap.size, 0, none⟩ = some (.slice A n c) := by simp [go_sem]
  have lc1 : (w2.alloc (.cells #[.slice A n c, .slice R q kc] 84)).cell? ⟨w2.heap.size, 1, none⟩ = some (.slice R q kc) := by simp [go_sem]
  have HR3 := Lib.hid (own_below HR2.out hb3)
  have hs3 : w3.heap.size = w2.heap.size + 1 := by rw [hw3]; simp
  have HB3 : Hid (Below w.heap.size w w3) := Lib.hid (HB2.out.trans (hb3.mono HB2.out.size))
  have HSS3 := Lib.hid (ss_of_own HR3.out HMOK.out)
  have HW3 := Lib.hid hw3.symm
  clear hb3 hw3 HR2 HB2 HSA2
  go_wp2_with fail
  rw [HW3.out]
  clear HW3 lc0 lc1
  refine (HTU.out _ _ _ _ _ _ _ HSS3.out).mono ?_
  rintro e w4 ⟨b, nn, rfl, hix, hnn, hbb3, hb⟩
  have HIX4 : Hid (IdxS w4 b nn (lf ds L 0) q) := Lib.hid (by rw [← HLZ.out, ← HQ.out]; exact hix)
  have HC4 := Lib.hid (HC3.out.below hb)
  have HR4 := Lib.hid (own_below HR3.out hb)
  have hs4 := hb.size
  have hb4 := HIX4.out.lt
  have HB4 : Hid (Below w.heap.size w w4) := Lib.hid (HB3.out.trans (hb.mono HB3.out.size))
  have hlen := len_idx HIX4.out
  clear hb hix HC3 HR3 HB3 HSS3 HTU
  go_wp2_with (at_make; refine wpList_make_full _ rfl _ _ _ rfl w4.heap.size 3 i0 _ 1 Try.underlying27 HI.out.1 HI.out.2.1 HI.out.2.2.1 .i64 .i64 _ _ q rfl rfl rfl rfl (by rw [HI.out.2.2.2]; omega) (by unfold maxLen; omega) (Nat.le_refl _) ?_; intro w5 hown hgrow; have HO5 := Lib.hid hown; have HG5 := Lib.hid hgrow; clear hown hgrow)
  have hb5 : Below w4.heap.size w4 w5 := (Below.refl _ _).grown HG5.out (Nat.le_refl _) (by simp)
  have HN5 : Hid (w5.ownsRow w4.heap.size 3 1 (.slice (some ⟨w4.heap.size, 0, none⟩) q q) q (flatI (numL ds L q 0))) := Lib.hid (by
    have h := HO5.out
    have e : (madeCells (Value.int .i64 0).cells (q * 1)).toList = flatI (numL ds L q 0) := by rw [Nat.mul_one]; exact iRow_zero ds L q
    rw [e] at h
    exact h)
  have HIX5 := Lib.hid (HIX4.out.below hb5)
  have HC5 := Lib.hid (HC4.out.below hb5)
  have HR5 := Lib.hid (own_below HR4.out hb5)
  have hs5 : w4.heap.size < w5.heap.size := (HO5.out.lt w4.heap.size rfl).2
  have HB5 : Hid (Below w.heap.size w w5) := Lib.hid (HB4.out.trans (hb5.mono HB4.out.size))
  clear hb5 HO5 HG5 HIX4 HC4 HR4 HB4 hlen HI
  generalize hG2 : w2.heap.size = G2 at *
  generalize hG4 : w4.heap.size = G4 at *
  have hwG : w.heap.size + 1 ≤ G2 := by omega
  have nb2 : b ≠ G2 := by omega
  have nb4 : b ≠ G4 := by omega
  have n42 : G4 ≠ G2 := by omega
  have n24 : G2 ≠ G4 := by omega
  clear hG2 hG4
  go_wp2
  go_loopw [27] (fun i wr => ∃ (k cnt : Nat), k ≤ m ∧ k + cnt = q ∧ i = .int .i64 k ∧ Hid (tTo ds L k = true) ∧ Hid (∀ d ∈ L.take k, inT d = true) ∧ Hid (IdxS wr b nn (lf ds L k) cnt) ∧ Hid (wr.ownsRow G4 3 1 (.slice (some ⟨G4, 0, none⟩) q q) q (flatI (numL ds L q k))) ∧ Hid (C2 wr G2 (.slice A n c) (.slice R q kc)) ∧ Hid (wr.ownsRow w1.heap.size 9 1 (.slice R q kc) q (flatS (mMembers ds))) ∧ Hid (Below w.heap.size w wr) ∧ w5.heap.size ≤ wr.heap.size) (fun i _ => m - (intOf i).toNat)
  case atStart => exact ⟨0, q, Nat.zero_le _, by omega, rfl, Lib.hid rfl, Lib.hid (fun d hd => by cases hd), HIX5, HN5, HC5, HR5, HB5, Nat.le_refl _⟩
  case round =>
    clear HIX5 HN5 HC5 HR5 HB5
    obtain ⟨k, cnt, hk, hkc, rfl, HTT, HAL, HIX, HN, HC, HR, HBE, hsz⟩ := hrel
    have hk0 : (0 : Int) ≤ (k : Int) := by omega
    by_cases hlt : k < m
    · have hki : (k : Int) < (m : Int) := by omega
      have hkL : k < L.length := by omega
      obtain ⟨bb, o, hA, hbb, d1, d2⟩ := (HRb.out.below HBE.out).at_ hkL
      subst hA
      have HGD := Lib.hid (tGood_at (ds := ds) hkL)
      have HBAD : Hid (tGood ds L k = false → mTabOk ds L = false) := Lib.hid (mTab_bad hkL)
      have HOUT : Hid (inT L[k] = false → mTabOk ds L = false) := Lib.hid (mTab_out hkL)
      have HINT : Hid (inT L[k] = !bey L[k].val) := Lib.hid (bey_in L[k].val)
      have HTS : Hid (tTo ds L (k + 1) = (tTo ds L k && tGood ds L k)) := Lib.hid rfl
      have HFN := Lib.hid (flatI_num (ds := ds) (q := q) hkL)
      have HRN : Hid (∀ (j r : Nat) (hj : j < ds.length), fidx (isNm L[k].name) ds = (j : Int) → fidx (isVal ds[j].val) (mems ds) = (r : Int) → rkN ds L[k].name = r) := Lib.hid (fun j r hj h1 h2 => by unfold rkN; rw [valI_at hj h1, h2, Int.toNat_natCast])
      have HALS : Hid (inT L[k] = true → ∀ d ∈ L.take (k + 1), inT d = true) := Lib.hid (fun h d hd => by
        rw [List.take_succ_eq_append_getElem hkL] at hd
        rcases List.mem_append.1 hd with hd | hd
        · exact HAL.out d hd
        · rw [List.mem_singleton.1 hd]; exact h)
      have HLSK := Lib.hid (fun r hr he => HLS.out k r hkL hr he)
      generalize hLk : L[k] = dk at *
      generalize dk.name = s at *
      generalize dk.val = v at *
      have HB6 : Hid (Below w.heap.size w (wr.alloc (.cells #[.string s, .int .i64 v] 48))) := Lib.hid (HBE.out.alloc HBE.out.size _)
      have HIX6 := Lib.hid (HIX.out.alloc (.cells #[.string s, .int .i64 v] 48))
      have HN6 := Lib.hid (HN.out.alloc (.cells #[.string s, .int .i64 v] 48))
      have HR6 := Lib.hid (HR.out.alloc (.cells #[.string s, .int .i64 v] 48))
      have HC6 : Hid (C2 (wr.alloc (.cells #[.string s, .int .i64 v] 48)) G2 (.slice A n c) (.slice R q kc)) := Lib.hid (HC.out.below ((Below.refl _ _).alloc (Nat.le_refl _) _))
      have HD6 : Hid (C2 (wr.alloc (.cells #[.string s, .int .i64 v] 48)) wr.heap.size (.string s) (.int .i64 v)) := Lib.hid (c2New _ _ _ _)
      have l0 := HC6.out.c0
      have l1 := HC6.out.c1
      have l2 := HD6.out.c0
      have l3 := HD6.out.c1
      have hs6 : (wr.alloc (.cells #[.string s, .int .i64 v] 48)).heap.size = wr.heap.size + 1 := by simp
      obtain ⟨W6, hW6⟩ : ∃ W : World, W = wr.alloc (.cells #[.string s, .int .i64 v] 48) := ⟨_, rfl⟩
      rw [← hW6] at HB6 HIX6 HN6 HR6 HC6 HD6 hs6
      have HW6 := Lib.hid hW6.symm
      have hTG : G4 < wr.heap.size := by omega
      have HSD := Lib.hid ((HRa.out.below HB6.out).call HB6.out.size)
      have HSS := Lib.hid (ss_of_own HR6.out HMOK.out)
      have hsz6 : w5.heap.size ≤ W6.heap.size := by omega
      clear hW6 HBE HIX HN HR HC
      rcases fidx_cases (isNm s) ds with ⟨hx, _⟩ | ⟨j, hj, hx, _, _⟩
      · have HX := Lib.hid hx
        have HNB : Hid (mTabOk ds L = false) := Lib.hid (HBAD.out (by rw [HGD.out, decide_eq_false (by omega), Bool.false_and]))
        have hlk : ∀ W, Below W6.heap.size W6 W → (Instr.lookup 86 (.map (some b)) (.string ⟨#[]⟩) true).run Try.prog W = .ok (.tuple #[.int .i64 0, .bool false]) W := fun W h => (HIX6.out.below h).look_no ⟨#[]⟩ (by decide) (by rw [HLE.out]; decide)
        have HLK := Lib.hid hlk
        have HXN : Hid (fidx (isNm s) ds < 0) := Lib.hid (by rw [hx]; decide)
        clear hx HBAD HGD HTS HFN HRN HOUT HINT HALS HLSK hlk hs6
        go_wp2_with fail
        rw [HW6.out]
        refine (ofS_no ds s _ _ _ _ _ _ _ HSD.out HV.out HX.out (.inr (by decide))).mono ?_
        rintro e w7 ⟨rfl, hb⟩
        have hlk7 := HLK.out w7 hb
        have HB7 : Hid (Below w.heap.size w w7) := Lib.hid (HB6.out.trans (hb.mono HB6.out.size))
        clear hb l0 l1 l2 l3
        go_wp2
        go_ret2
        rw [HNB.out, mTab_no HNB.out]
        exact ⟨none, 0, rfl, World.ownsRow_nil _ _ _ _, HB7.out⟩
      · obtain ⟨r, _, hrq, hrk⟩ := HRK.out j hj
        have hrn := HRN.out j r hj hx hrk
        have hrq' : r < q := by rw [HQ.out] at hrq; exact hrq
        have hrm : r < (mMembers ds).length := by rw [hmlen]; exact hrq'
        have hmr : (mMembers ds)[r] = (mems ds)[r].name := by
          have h := HMN.out
          simp only [h, List.getElem_map]
        have HOF := Lib.hid (fun w A n c R k ha hs => ofS_yes ds s A R n c q k (mMembers ds) w ha hs HV.out j hj hx r hrm hrk)
        have HL1 := Lib.hid (HLF.out k r hrq)
        have HL2 := Lib.hid (HLSK.out r hrq hrn)
        have hmsz : (mMembers ds)[r].size ≤ maxLen := HMOK.out _ (List.getElem_mem hrm)
        rw [hrn] at HGD HFN
        have HGE : Hid (tGood ds L k = !hit ds L k r) := Lib.hid (by rw [HGD.out, hx, decide_eq_true (by omega), Bool.true_and])
        rw [hmr] at HOF hmsz
        generalize (mems ds)[r].name = mn at *
        have hr0 : (0 : Int) ≤ (r : Int) := by omega
        have hri : (r : Int) < (q : Int) := by omega
        clear hx hrk hrn HGD HRN HLSK hmr
        cases hh : hit ds L k r
        · rw [hh] at HGE HL1
          have HGO : Hid (tTo ds L (k + 1) = true) := Lib.hid (by rw [HTS.out, HTT.out, HGE.out]; rfl)
          have HLV : Hid (lf ds L k mn = (r : Int)) := Lib.hid (by rw [HL1.out]; rfl)
          have hlk : ∀ W, Below W6.heap.size W6 W → (Instr.lookup 86 (.map (some b)) (.string mn) true).run Try.prog W = .ok (.tuple #[.int .i64 r, .bool true]) W := fun W h => by
            have h2 := (HIX6.out.below h).look_yes mn hmsz (by rw [HLV.out]; omega)
            rw [HLV.out] at h2
            exact h2
          have HLK := Lib.hid hlk
          obtain ⟨vb, hvb⟩ : ∃ vb, bey v = vb := ⟨_, rfl⟩
          have HVB := Lib.hid hvb
          have HBV := Lib.hid (fun w => isBey_v v w hvb)
          rw [hvb] at HINT
          clear hh HBAD HGE HTS HL1 hlk hs6 hvb
          go_wp2_with fail
          rw [HW6.out]
          refine (HOF.out _ _ _ _ _ _ HSD.out HSS.out).mono ?_
          rintro e w7 ⟨rfl, hb⟩
          have hlk7 := HLK.out w7 hb
          have HB7 : Hid (Below w.heap.size w w7) := Lib.hid (HB6.out.trans (hb.mono HB6.out.size))
          have HIX7 := Lib.hid (HIX6.out.below hb)
          have HN7 := Lib.hid (own_below HN6.out hb)
          have HR7 := Lib.hid (own_below HR6.out hb)
          have HC7 := Lib.hid (HC6.out.below hb)
          have hd7 := (HD6.out.below hb).c1
          have hz7 := hb.size
          clear hb l0 l1 l2 l3 HIX6 HN6 HR6 HC6 HD6 HB6
          cases vb
          · have HIT : Hid (inT dk = true) := Lib.hid HINT.out
            have hf1 := HN7.out.frozenAt r
            obtain ⟨y1, hx1⟩ := own_cell HN7.out r (by omega)
            obtain ⟨c', rfl⟩ : ∃ c', cnt = c' + 1 := ⟨cnt - 1, by have := HIX7.out.pos (s := mn) (by rw [HLV.out]; omega); omega⟩
            have hs1 := HN7.out.stored r (.int .i64 v)
            have HIX8 := Lib.hid (HIX7.out.grown hs1.2 (fun e => by have e2 := Option.some.inj e; exact nb4 e2.symm))
            have HN8 := Lib.hid hs1.1
            have HR8 := Lib.hid (own_setCell HR7.out (p := ⟨G4, r, none⟩) (fun e => by have := (HRL.out _ e).2; simp only at this; omega) (.int .i64 v))
            have HC8 := Lib.hid (HC7.out.setO (p := ⟨G4, r, none⟩) (by show G4 ≠ G2; exact n42) (.int .i64 v))
            have HB8 := Lib.hid (HB7.out.setCell (p := ⟨G4, r, none⟩) (by show w.heap.size ≤ G4; omega) (.int .i64 v))
            have hz8 : w5.heap.size ≤ (w7.setCell ⟨G4, r, none⟩ (.int .i64 v)).heap.size := by simp; omega
            rw [HFN.out] at HN8
            clear hs1
            go_wp2_with (first | (go_at_call 52; refine (HBV.out _).mono ?_; rintro e w8 ⟨rfl, rfl⟩) | (at_delete; refine wpList_idxS_del _ rfl _ _ rfl b nn c' (lf ds L k) mn rfl HIX8.out hmsz (by rw [HLV.out]; omega) rfl ?_; intro w9 hp9 hg9; have HP9 := Lib.hid hp9; have HG9 := Lib.hid hg9; clear hp9 hg9))
            go_roundw
            case rel => exact ⟨k + 1, c', hlt, by omega, by go_num, HGO, Lib.hid (HALS.out HIT.out), Lib.hid (by rw [← HL2.out]; exact HP9.out), Lib.hid (HN8.out.kept HG9.out (.inr (fun e => nb4 (Option.some.inj e).symm))), Lib.hid (HC8.out.grown HG9.out (fun e => nb2 (Option.some.inj e).symm)), Lib.hid (HR8.out.kept HG9.out (by
                cases h : (Value.slice R q kc).ownBlock with
                | none => exact .inl rfl
                | some r8 => exact .inr (fun e => by have h2 := (HRL.out _ h).2; have h3 := Option.some.inj e; omega))), Lib.hid (HB8.out.grown HG9.out HB8.out.size (fun r8 hr8 => by have h3 := Option.some.inj hr8; omega)), Nat.le_trans hz8 HG9.out.size⟩
            case measure => simp [intOf]; omega
          · have HNB : Hid (mTabOk ds L = false) := Lib.hid (HOUT.out HINT.out)
            go_wp2_with (first | (go_at_call 52; refine (HBV.out _).mono ?_; rintro e w8 ⟨rfl, rfl⟩))
            go_ret2
            rw [HNB.out, mTab_no HNB.out]
            exact ⟨none, 0, rfl, World.ownsRow_nil _ _ _ _, HB7.out⟩
        · rw [hh] at HGE HL1
          have HNB : Hid (mTabOk ds L = false) := Lib.hid (HBAD.out (by rw [HGE.out]; rfl))
          have HLK := Lib.hid (fun W (h : Below W6.heap.size W6 W) => (HIX6.out.below h).look_no mn hmsz (by rw [HL1.out, if_pos rfl]; decide))
          clear hh HBAD HGE HTS HL1 hs6
          go_wp2_with fail
          rw [HW6.out]
          refine (HOF.out _ _ _ _ _ _ HSD.out HSS.out).mono ?_
          rintro e w7 ⟨rfl, hb⟩
          have hlk7 := HLK.out w7 hb
          have HB7 : Hid (Below w.heap.size w w7) := Lib.hid (HB6.out.trans (hb.mono HB6.out.size))
          clear hb l0 l1 l2 l3
          go_wp2
          go_ret2
          rw [HNB.out, mTab_no HNB.out]
          exact ⟨none, 0, rfl, World.ownsRow_nil _ _ _ _, HB7.out⟩
    · obtain rfl : k = m := by omega
      have hki : ¬ (k : Int) < (k : Int) := by omega
      have hlen := len_idx HIX.out
      by_cases hc0 : 0 < cnt
      · have hci : (0 : Int) < (cnt : Int) := by omega
        have HNB : Hid (mTabOk ds L = false) := Lib.hid (HCNT.out (by omega))
        go_wp2
        go_ret2
        rw [HNB.out, mTab_no HNB.out]
        exact ⟨none, 0, rfl, World.ownsRow_nil _ _ _ _, HBE.out⟩
      · have hci : ¬ (0 : Int) < (cnt : Int) := by omega
        have HMTY : Hid (mTabOk ds L = true) := Lib.hid (HALL.out (by rw [hml]; exact HTT.out) (by omega) (fun d hd => by
          have h := HAL.out
          rw [← hml, List.take_of_length_le (Nat.le_refl _)] at h
          exact h d hd))
        go_wp2
        go_ret2
        have hy := mTab_yes HMTY.out
        rw [HQ.out, hml] at hy
        rw [HMTY.out, hy]
        exact ⟨some ⟨G4, 0, none⟩, q, by rw [numL_len]; first | done | rfl, by rw [numL_len]; exact own_base HN.out (by omega), HBE.out⟩
end Go.Proofs.Ytpmanbmhbfnefaa
