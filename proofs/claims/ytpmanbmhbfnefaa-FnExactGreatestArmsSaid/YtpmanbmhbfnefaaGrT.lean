import Derived.Test.YtpmanbmhbfnefaaGrQ
import Derived.Test.YtpmanbmhbfnefaaGrS
namespace Go.Proofs.Ytpmanbmhbfnefaa
open Go.RowKit Go.Maps
set_option linter.unusedVariables false
set_option linter.unusedSimpArgs false
set_option maxRecDepth 100000

def okG (k : Nat) (n : Int) : Bool := (decide (0 ≤ n) && decide (n ≤ 4095)) && decide (nl n.toNat k = 0)
theorem mGrOk_is (ds : List D) (b : Int) (list : List Int) : mGrOk ds b list = (vFlag ds b && decide (popc (mMask ds) ≤ 6) && decide (list.length ≤ 64) && list.all (okG (mMask ds))) := rfl
theorem mGreat_no {ds : List D} {b : Int} {list : List Int} (h : mGrOk ds b list = false) : mGreat ds b list = [] := by unfold mGreat; rw [h]; rfl
theorem okG_snoc {k : Nat} {list : List Int} {j : Nat} (hj : j < list.length) : (list.take (j + 1)).all (okG k) = ((list.take j).all (okG k) && okG k list[j]) := by
  rw [List.take_succ_eq_append_getElem hj, List.all_append, List.all_cons, List.all_nil, Bool.and_true]
theorem okG_bad {k : Nat} {list : List Int} {j : Nat} (hj : j < list.length) (h : okG k list[j] = false) : list.all (okG k) = false := by
  rw [List.all_eq_false]
  exact ⟨_, List.getElem_mem hj, by rw [h]; exact Bool.false_ne_true⟩
theorem rowA_non {all list qs : List Int} {p : Int} {a : Ar} (h : a ∈ rowA all list p qs) : a.non ∈ qs := by
  unfold rowA at h
  obtain ⟨q, hq, rfl⟩ := List.mem_map.1 h
  exact (List.mem_filter.1 hq).1
theorem arms_arN {m : Nat} {list : List Int} (hm : m < 4096) : ∀ a ∈ mArmsIn m list, ArN a := by
  intro a ha
  unfold mArmsIn armsA at ha
  obtain ⟨p, hp, ha⟩ := List.mem_flatMap.1 ha
  have h1 := rowA_all ha
  have h2 := rowA_non ha
  obtain ⟨t, e1, l1, _⟩ := partsG_mem hp
  unfold othersOf at h2
  obtain ⟨u, e2, l2, _⟩ := partsG_mem h2
  have h3 := nl_le m p.toNat
  exact ⟨t, u, by rw [h1, e1], e2, by omega, by omega⟩
theorem arN_ok {a : Ar} (h : ArN a) : a.ok := by
  obtain ⟨p, q, h1, h2, h3, h4⟩ := h
  unfold Ar.ok I64
  omega
theorem mArmsIn_len {m : Nat} {list : List Int} (h : popc m ≤ 6) : (mArmsIn m list).length ≤ 4096 := by
  have h1 := armsIn_len (list := list) h (k := (partsTo m (m + 1)).length)
  rwa [List.take_of_length_le (Nat.le_refl _)] at h1

set_option maxHeartbeats 1000000 in
theorem specCoversG_v (p q r s : Nat) (w : World) (hp : p < 4096) (hq : q < 4096) (hr : r < 4096) (hs : s < 4096) {v : Bool} (hv : coverN p q r s = v) :
    Calls Try.prog 70 #[.agg #[.int .i64 p, .int .i64 q], .agg #[.int .i64 r, .int .i64 s]] w fun e w' => e = .returned (.bool v) ∧ Below w.heap.size w w' := by
  subst hv
  have HB0 : Hid (Below w.heap.size w ((w.alloc (.cells #[.int .i64 p, .int .i64 q] 72)).alloc (.cells #[.int .i64 r, .int .i64 s] 72))) := Lib.hid (((Below.refl _ _).alloc (Nat.le_refl _) _).alloc (by simp) _)
  obtain ⟨s1, h1⟩ : ∃ a, nl p r = a := ⟨_, rfl⟩
  obtain ⟨s2, h2⟩ : ∃ a, nl q s = a := ⟨_, rfl⟩
  have hM : coverN p q r s = (decide (s1 = 0) && decide (s2 = 0)) := by unfold coverN; rw [h1, h2]
  have H1 := Lib.hid h1
  have H2 := Lib.hid h2
  clear h1 h2
  by_cases h0 : s1 = 0
  · subst h0
    have HM := Lib.hid hM
    clear hM
    go_enter Try.func70, Try.ntmps70
    go_wp2_with (first | (go_at_call_of 68 p; refine (less_any p r _ hp hr H1.out).mono ?_; rintro e w' ⟨rfl, rfl⟩) | (go_at_call_of 68 q; refine (less_any q s _ hq hs H2.out).mono ?_; rintro e w' ⟨rfl, rfl⟩))
    go_ret
    exact ⟨ret_bool (by rw [HM.out, Bool.eq_iff_iff]; simp), HB0.out⟩
  · have e1 : ((s1 : Int) == 0) = false := by rw [beq_eq_false_iff_ne]; omega
    have HM : Hid (coverN p q r s = false) := Lib.hid (by rw [hM, decide_eq_false h0]; rfl)
    clear hM
    go_enter Try.func70, Try.ntmps70
    go_wp2_with (first | (go_at_call_of 68 p; refine (less_any p r _ hp hr H1.out).mono ?_; rintro e w' ⟨rfl, rfl⟩))
    go_ret
    exact ⟨by rw [HM.out]; first | done | rfl, HB0.out⟩
set_option maxHeartbeats 16000000 in
theorem specGreat_any (ds : List D) (b : Int) (list : List Int) (A : Option Addr) (m c : Nat) (w : World) (hr : SD w w.heap.size A m c ds) (Bs : Option Addr) (q cs : Nat) (hs : SI w w.heap.size Bs q cs list) :
    Calls Try.prog 25 #[.agg #[.slice A m c, .int .i64 b], .slice Bs q cs] w (ArmsP (mGreat ds b list) w) := by
  have hl := hs.max
  have hl2 := hs.cap
  unfold maxLen at hl
  obtain rfl := hs.len
  have HF := Lib.hid (FB.start hr b)
  have HS : Hid (SI (w.alloc (.cells #[.slice A m c, .int .i64 b] 58)) w.heap.size Bs list.length cs list) := Lib.hid (hs.below HF.out.bel)
  clear hr hs
  cases hv : vFlag ds b
  · have HV := Lib.hid hv
    have HM : Hid (mGreat ds b list = []) := Lib.hid (mGreat_no (by rw [mGrOk_is, hv]; rfl))
    clear hv
    go_enter Try.func25, Try.ntmps25
    go_wp2_with fail
    generalize (w.alloc (.cells #[.slice A m c, .int .i64 b] 58)) = w0 at *
    refine (mask_w ds _ _ _ _ HF.out.sd).mono ?_
    rintro e w1 ⟨⟨mz, rfl⟩, rfl⟩
    have c0 := HF.out.c0
    have c1 := HF.out.c1
    go_wp2_with fail
    refine (specVF_v ds b _ _ _ _ HF.out.sd HV.out).mono ?_
    rintro e w2 ⟨rfl, hb⟩
    have HB1 := Lib.hid (HF.out.after hb)
    clear hb c0 c1
    go_wp2
    go_ret
    exact ⟨none, 0, by rw [HM.out]; rfl, by rw [HM.out]; exact World.ownsRow_nil _ _ _ _, HB1.out⟩
  have HV := Lib.hid hv
  have HIN := Lib.hid (vFlag_in hv)
  obtain ⟨k, hk⟩ : ∃ k, mMask ds = k := ⟨_, rfl⟩
  have hk4 : k < 4096 := by rw [← hk]; exact mMask_lt12 HIN.out
  have HMM := Lib.hid hk
  have HOKE : Hid (mGrOk ds b list = (decide (popc k ≤ 6) && decide (list.length ≤ 64) && list.all (okG k))) := Lib.hid (by rw [mGrOk_is, hv, hk, Bool.true_and])
  have HGR : Hid (mGrOk ds b list = true → mGreat ds b list = mGrI (mArmsIn k list)) := Lib.hid (fun h => by unfold mGreat; rw [h, if_pos rfl, hk])
  obtain ⟨pc, hpc⟩ : ∃ x, popc k = x := ⟨_, rfl⟩
  have HPC := Lib.hid hpc
  rw [hpc] at HOKE
  clear hv hk hpc
  go_enter Try.func25, Try.ntmps25
  go_wp2_with fail
  generalize (w.alloc (.cells #[.slice A m c, .int .i64 b] 58)) = w0 at *
  refine (mask_any ds _ _ _ _ HF.out.sd HIN.out HMM.out).mono ?_
  rintro e w1 ⟨rfl, rfl⟩
  have c0 := HF.out.c0
  have c1 := HF.out.c1
  go_wp2_with fail
  refine (specVF_v ds b _ _ _ _ HF.out.sd HV.out).mono ?_
  rintro e w2 ⟨rfl, hb⟩
  have HB2 := Lib.hid (HF.out.after hb)
  have HS2 : Hid (SI w2 w2.heap.size Bs list.length cs list) := Lib.hid ((HS.out.below' hb HF.out.bel.size).more HB2.out.size)
  clear hb c0 c1 HF HS
  by_cases h6 : pc ≤ 6
  case neg =>
    have HM : Hid (mGreat ds b list = []) := Lib.hid (mGreat_no (by rw [HOKE.out, decide_eq_false h6]; rfl))
    have h6i : (6 : Int) < (pc : Int) := by omega
    go_wp2_with (go_at_call 66; refine (bitCount_any k _ (by omega) HPC.out).mono ?_; rintro e w' ⟨rfl, rfl⟩)
    go_ret
    exact ⟨none, 0, by rw [HM.out]; rfl, by rw [HM.out]; exact World.ownsRow_nil _ _ _ _, HB2.out⟩
  have h6i : ¬ (6 : Int) < (pc : Int) := by omega
  by_cases h64 : list.length ≤ 64
  case neg =>
    have HM : Hid (mGreat ds b list = []) := Lib.hid (mGreat_no (by rw [HOKE.out, decide_eq_false h64, Bool.and_false]; rfl))
    have h64i : (64 : Int) < (list.length : Int) := by omega
    go_wp2_with (go_at_call 66; refine (bitCount_any k _ (by omega) HPC.out).mono ?_; rintro e w' ⟨rfl, rfl⟩)
    go_ret
    exact ⟨none, 0, by rw [HM.out]; rfl, by rw [HM.out]; exact World.ownsRow_nil _ _ _ _, HB2.out⟩
  have h64i : ¬ (64 : Int) < (list.length : Int) := by omega
  go_wp2_with (go_at_call 66; refine (bitCount_any k _ (by omega) HPC.out).mono ?_; rintro e w' ⟨rfl, rfl⟩)
  go_loop [6] (fun i => ∃ (j : Nat), j ≤ list.length ∧ i = .int .i64 j ∧ Hid ((list.take j).all (okG k) = true)) (fun i => list.length - (intOf i).toNat)
  case atStart => exact ⟨0, Nat.zero_le _, rfl, Lib.hid rfl⟩
  case round =>
    obtain ⟨j, hj, rfl, hok⟩ := hrel
    by_cases hlt : j < list.length
    · obtain ⟨bb, o, hA, hbb, d1⟩ := HS2.out.at_ hlt
      subst hA
      have hi1 : (j : Int) < (list.length : Int) := by omega
      have hi0 : (0 : Int) ≤ (j : Int) := by omega
      have HSN := Lib.hid (okG_snoc (k := k) hlt)
      have HBD : Hid (okG k list[j] = false → mGreat ds b list = []) := Lib.hid (fun h => mGreat_no (by rw [HOKE.out, okG_bad hlt h, Bool.and_false]))
      generalize list[j] = x at *
      cases hx : (decide ((0 : Int) ≤ x) && decide (x ≤ 4095))
      · have HM : Hid (mGreat ds b list = []) := Lib.hid (HBD.out (by unfold okG; rw [hx]; rfl))
        have HX := Lib.hid hx
        clear hx
        go_wp2_with (go_at_call 67; refine (inRange_v x 0 4095 _ HX.out).mono ?_; rintro e w' ⟨rfl, rfl⟩)
        go_ret
        exact ⟨none, 0, by rw [HM.out]; rfl, by rw [HM.out]; exact World.ownsRow_nil _ _ _ _, HB2.out⟩
      · have HX := Lib.hid hx
        rw [Bool.and_eq_true, decide_eq_true_iff, decide_eq_true_iff] at hx
        obtain ⟨t, rfl⟩ := Int.eq_ofNat_of_zero_le hx.1
        have ht4 : t < 4096 := by omega
        obtain ⟨z, hz⟩ : ∃ z, nl t k = z := ⟨_, rfl⟩
        have HZ := Lib.hid hz
        have HOX : Hid (okG k (t : Int) = decide (z = 0)) := Lib.hid (by unfold okG; rw [HX.out, Int.toNat_natCast, hz, Bool.true_and])
        clear hz hx
        by_cases hz0 : z = 0
        · have HP : Hid ((list.take (j + 1)).all (okG k) = true) := Lib.hid (by rw [HSN.out, hok.out, HOX.out, decide_eq_true hz0]; rfl)
          subst hz0
          go_wp2_with (first | (go_at_call 67; refine (inRange_v t 0 4095 _ HX.out).mono ?_; rintro e w' ⟨rfl, rfl⟩) | (go_at_call 68; refine (less_any t k _ ht4 hk4 HZ.out).mono ?_; rintro e w' ⟨rfl, rfl⟩))
          go_round
          case rel => exact ⟨j + 1, by omega, by go_num, HP⟩
          case measure => simp [intOf]; omega
        · have HM : Hid (mGreat ds b list = []) := Lib.hid (HBD.out (by rw [HOX.out, decide_eq_false hz0]))
          have hz1 : (0 : Int) < (z : Int) := by omega
          go_wp2_with (first | (go_at_call 67; refine (inRange_v t 0 4095 _ HX.out).mono ?_; rintro e w' ⟨rfl, rfl⟩) | (go_at_call 68; refine (less_any t k _ ht4 hk4 HZ.out).mono ?_; rintro e w' ⟨rfl, rfl⟩))
          go_ret
          exact ⟨none, 0, by rw [HM.out]; rfl, by rw [HM.out]; exact World.ownsRow_nil _ _ _ _, HB2.out⟩
    · obtain rfl : j = list.length := by omega
      have hj9 : ¬ (list.length : Int) < (list.length : Int) := by omega
      have HM : Hid (mGreat ds b list = mGrI (mArmsIn k list)) := Lib.hid (HGR.out (by have h := hok.out; rw [List.take_of_length_le (Nat.le_refl _)] at h; rw [HOKE.out, h, decide_eq_true h6, decide_eq_true h64]; rfl))
      have hp6 : popc k ≤ 6 := by rw [HPC.out]; exact h6
      have HNAT := Lib.hid (arms_arN (list := list) hk4)
      have hal := mArmsIn_len (list := list) hp6
      have HAI : Hid (∀ (w : World) (q cs : Nat) (Bs : Option Addr), SI w w.heap.size Bs q cs list → Calls Try.prog 69 #[.int .i64 k, .slice Bs q cs] w (ArmsP (mArmsIn k list) w)) := Lib.hid (fun w q cs Bs h => armsIn_any k list Bs q cs w h hk4 hp6)
      unfold ArmsP at HAI
      generalize mArmsIn k list = arms at *
      go_wp2_with fail
      refine (HAI.out _ _ _ _ HS2.out).mono ?_
      rintro e w3 ⟨Ar0, cr, rfl, ho, hb⟩
      have HA3 := Lib.hid (sa_of_own ho (fun a ha => arN_ok (HNAT.out a ha)))
      have HB3 : Hid (Below w.heap.size w w3) := Lib.hid (HB2.out.trans (hb.mono HB2.out.size))
      clear ho hb
      obtain ⟨w4, hw⟩ : ∃ W : World, W = (w3.alloc (.cells #[] 72)) := ⟨_, rfl⟩
      obtain ⟨G, hG⟩ : ∃ g, w3.heap.size = g := ⟨_, rfl⟩
      have HX4 : Hid (w4.ownsRow G 72 2 (.slice (some ⟨w3.heap.size, 0, none⟩) 0 0) 0 (flatA [])) := Lib.hid (by rw [hw, ← hG]; exact World.ownsRow_made w3 #[] 0 (Nat.le_refl _) (by unfold maxLen; omega) rfl)
      have HL4 : Hid (Below G w3 w4) := Lib.hid (by rw [hw, ← hG]; exact (Below.refl _ _).alloc (Nat.le_refl _) _)
      have HW4 : Hid ((w3.alloc (.cells #[] 72)) = w4) := Lib.hid hw.symm
      have HGG := Lib.hid hG
      rw [hG] at HA3
      have hwG : w.heap.size ≤ G := by rw [← hG]; exact HB3.out.size
      have hG4 : G ≤ w4.heap.size := by rw [hw]; simp; omega
      clear hw hG
      go_wp2
      rw [HW4.out]
      go_loopw [8, 9] (fun v i wr => ∃ j : Nat, j ≤ arms.length ∧ i = .int .i64 j ∧ Hid (wr.ownsRow G 72 2 v (grTo arms j).length (flatA (grTo arms j))) ∧ Hid (Below G w3 wr) ∧ G ≤ wr.heap.size) (fun _ i _ => arms.length - (intOf i).toNat)
      case atStart => exact ⟨0, Nat.zero_le _, rfl, HX4, HL4, hG4⟩
      case round =>
        clear HX4 HL4 hG4
        obtain ⟨i, hi, rfl, HX5, HL5, hG5⟩ := hrel
        by_cases hli : i < arms.length
        · have HGS := Lib.hid (grTo_succ hli)
          have hgl := grTo_len arms i
          obtain ⟨AX, cX, hvx⟩ := own_form HX5.out
          subst hvx
          generalize hgr : grTo arms i = gs at *
          have HGT := Lib.hid hgr
          clear hgr
          have hii : (i : Int) < (arms.length : Int) := by omega
          have hi0 : (0 : Int) ≤ (i : Int) := by omega
          obtain ⟨p2, q2, hp2, hq2, lp2, lq2⟩ := HNAT.out _ (List.getElem_mem hli)
          have HAI2 : Hid (arms[i] = ⟨(p2 : Int), (q2 : Int)⟩) := Lib.hid (by cases h : arms[i]; rw [h] at hp2 hq2; simp only at hp2 hq2; rw [hp2, hq2])
          go_wp2
          go_loopw [10, 11] (fun v i' wr => ∃ j : Nat, j ≤ arms.length ∧ i' = .int .i64 j ∧ v = .bool (covIx arms i j) ∧ Hid (wr.ownsRow G 72 2 (.slice AX gs.length cX) gs.length (flatA gs)) ∧ Hid (Below G w3 wr) ∧ G ≤ wr.heap.size) (fun _ i' _ => arms.length - (intOf i').toNat)
          case atStart => exact ⟨0, Nat.zero_le _, rfl, rfl, HX5, HL5, hG5⟩
          case round =>
            clear HX5 HL5 hG5
            obtain ⟨j, hj, rfl, rfl, HX6, HL6, hG6⟩ := hrel
            by_cases hlj : j < arms.length
            · have HCS := Lib.hid (covIx_succ hli hlj)
              obtain ⟨b1, o1, hA, hbb1, y1, y2⟩ := (HA3.out.below HL6.out).at_ hlj
              subst hA
              obtain ⟨b2, o2, hA, hbb2, z1, z2⟩ := (HA3.out.below HL6.out).at_ hli
              injection hA with hA
              injection hA with e1 e2
              subst e1 e2
              obtain ⟨p1, q1, hp1, hq1, lp1, lq1⟩ := HNAT.out _ (List.getElem_mem hlj)
              rw [hp1] at y1
              rw [hq1] at y2
              rw [hp2] at z1
              rw [hq2] at z2
              have HCV : Hid (covA arms[j] arms[i] = coverN p1 q1 p2 q2) := Lib.hid (by unfold covA; rw [hp1, hq1, hp2, hq2]; simp only [Int.toNat_natCast])
              rw [HCV.out] at HCS
              obtain ⟨cn, hcn⟩ : ∃ v, coverN p1 q1 p2 q2 = v := ⟨_, rfl⟩
              have HCN := Lib.hid hcn
              rw [hcn] at HCS
              clear hcn hp1 hq1
              generalize hcv : covIx arms i j = cv at *
              have HCI := Lib.hid hcv
              clear hcv
              have hji : (j : Int) < (arms.length : Int) := by omega
              have hj0 : (0 : Int) ≤ (j : Int) := by omega
              have hsl := HA3.out.max
              have hsc := HA3.out.cap
              unfold maxLen at hsl
              obtain ⟨w6, hwn⟩ : ∃ W : World, W = wr := ⟨_, rfl⟩
              subst hwn
              go_upto_region 18 with fail
              refine wp_region_held_drew (S := fun w' => w'.cell? ⟨b1, o1 + j * 2, none⟩ = some (.int .i64 p1) ∧ w'.cell? ⟨b1, o1 + j * 2 + 1, none⟩ = some (.int .i64 q1) ∧ w'.cell? ⟨b1, o1 + i * 2, none⟩ = some (.int .i64 p2) ∧ w'.cell? ⟨b1, o1 + i * 2 + 1, none⟩ = some (.int .i64 q2)) (by kernel_rfl) ⟨y1, y2, z1, z2⟩ (fun hHeld => ?_)
              generalize hwd : w6.drew = w7 at hHeld ⊢
              have hb : Below w6.heap.size w6 w7 := by rw [← hwd]; exact (Below.refl _ _).drew
              have y1_7 := keep1 hb y1
              have y2_7 := keep1 hb y2
              have z1_7 := keep1 hb z1
              have z2_7 := keep1 hb z2
              have HX7 := Lib.hid (own_below HX6.out hb)
              have HL7 : Hid (Below G w3 w7) := Lib.hid (HL6.out.trans (hb.mono hG6))
              have hG7 : G ≤ w7.heap.size := by have := hb.size; omega
              clear hb hwd y1 y2 z1 z2 HX6 HL6 hG6
              cases cv
              case true =>
                have HC1 : Hid (covIx arms i (j + 1) = true) := Lib.hid (by rw [HCS.out, Bool.true_or])
                refine wpAnyH_take (i := 0) (v := ?_) rfl (by kernel_rfl) (by kernel_rfl) (by kernel_rfl) (fun _ _ _ h => h) (Or.inl ⟨by kernel_rfl, ?_⟩) hHeld ?_
                rotate_left
                · intro wz hSw
                  try dsimp only at hSw
                  first
                  | (go_simp; done)
                  | (go_simp; with_reducible rfl)
                try simp only [Act.put, List.setIfInBounds_toArray, List.set_cons_zero, List.set_cons_succ]
                refine wpAnyH_take (i := 1) (v := ?_) rfl (by kernel_rfl) (by kernel_rfl) (by kernel_rfl) (fun _ _ _ h => h) (Or.inl ⟨by kernel_rfl, ?_⟩) hHeld ?_
                rotate_left
                · intro wz hSw
                  try dsimp only at hSw
                  first
                  | (go_simp; done)
                  | (go_simp; with_reducible rfl)
                try simp only [Act.put, List.setIfInBounds_toArray, List.set_cons_zero, List.set_cons_succ]
                refine wpAnyH_take (i := 2) (v := undef) rfl (by kernel_rfl) (by kernel_rfl) (by kernel_rfl) (fun _ _ _ h => h) (Or.inr ⟨by kernel_rfl, rfl⟩) hHeld ?_
                try simp only [Act.put, List.setIfInBounds_toArray, List.set_cons_zero, List.set_cons_succ]
                refine wpAnyH_take (i := 3) (v := undef) rfl (by kernel_rfl) (by kernel_rfl) (by kernel_rfl) (fun _ _ _ h => h) (Or.inr ⟨by kernel_rfl, rfl⟩) hHeld ?_
                try simp only [Act.put, List.setIfInBounds_toArray, List.set_cons_zero, List.set_cons_succ]
                refine wpAnyH_take (i := 4) (v := undef) rfl (by kernel_rfl) (by kernel_rfl) (by kernel_rfl) (fun _ _ _ h => h) (Or.inr ⟨by kernel_rfl, rfl⟩) hHeld ?_
                try simp only [Act.put, List.setIfInBounds_toArray, List.set_cons_zero, List.set_cons_succ]
                refine wpAnyH_take (i := 5) (v := undef) rfl (by kernel_rfl) (by kernel_rfl) (by kernel_rfl) (fun _ _ _ h => h) (Or.inr ⟨by kernel_rfl, rfl⟩) hHeld ?_
                try simp only [Act.put, List.setIfInBounds_toArray, List.set_cons_zero, List.set_cons_succ]
                refine wpAnyH_take (i := 6) (v := undef) rfl (by kernel_rfl) (by kernel_rfl) (by kernel_rfl) (fun _ _ _ h => h) (Or.inr ⟨by kernel_rfl, rfl⟩) hHeld ?_
                try simp only [Act.put, List.setIfInBounds_toArray, List.set_cons_zero, List.set_cons_succ]
                refine wpAnyH_take (i := 7) (v := undef) rfl (by kernel_rfl) (by kernel_rfl) (by kernel_rfl) (fun _ _ _ h => h) (Or.inr ⟨by kernel_rfl, rfl⟩) hHeld ?_
                try simp only [Act.put, List.setIfInBounds_toArray, List.set_cons_zero, List.set_cons_succ]
                refine wpAnyH_take (i := 8) (v := undef) rfl (by kernel_rfl) (by kernel_rfl) (by kernel_rfl) (fun _ _ _ h => h) (Or.inr ⟨by kernel_rfl, rfl⟩) hHeld ?_
                try simp only [Act.put, List.setIfInBounds_toArray, List.set_cons_zero, List.set_cons_succ]
                refine wpAnyH_take (i := 9) (v := undef) rfl (by kernel_rfl) (by kernel_rfl) (by kernel_rfl) (fun _ _ _ h => h) (Or.inr ⟨by kernel_rfl, rfl⟩) hHeld ?_
                try simp only [Act.put, List.setIfInBounds_toArray, List.set_cons_zero, List.set_cons_succ]
                refine wpAnyH_take (i := 10) (v := undef) rfl (by kernel_rfl) (by kernel_rfl) (by kernel_rfl) (fun _ _ _ h => h) (Or.inr ⟨by kernel_rfl, rfl⟩) hHeld ?_
                try simp only [Act.put, List.setIfInBounds_toArray, List.set_cons_zero, List.set_cons_succ]
                refine wpAnyH_take (i := 11) (v := undef) rfl (by kernel_rfl) (by kernel_rfl) (by kernel_rfl) (fun _ _ _ h => h) (Or.inr ⟨by kernel_rfl, rfl⟩) hHeld ?_
                try simp only [Act.put, List.setIfInBounds_toArray, List.set_cons_zero, List.set_cons_succ]
                refine wpAnyH_take (i := 12) (v := undef) rfl (by kernel_rfl) (by kernel_rfl) (by kernel_rfl) (fun _ _ _ h => h) (Or.inr ⟨by kernel_rfl, rfl⟩) hHeld ?_
                try simp only [Act.put, List.setIfInBounds_toArray, List.set_cons_zero, List.set_cons_succ]
                refine wpAnyH_take (i := 13) (v := undef) rfl (by kernel_rfl) (by kernel_rfl) (by kernel_rfl) (fun _ _ _ h => h) (Or.inr ⟨by kernel_rfl, rfl⟩) hHeld ?_
                try simp only [Act.put, List.setIfInBounds_toArray, List.set_cons_zero, List.set_cons_succ]
                refine wpAnyH_take (i := 14) (v := undef) rfl (by kernel_rfl) (by kernel_rfl) (by kernel_rfl) (fun _ _ _ h => h) (Or.inr ⟨by kernel_rfl, rfl⟩) hHeld ?_
                try simp only [Act.put, List.setIfInBounds_toArray, List.set_cons_zero, List.set_cons_succ]
                refine wpAnyH_take (i := 15) (v := undef) rfl (by kernel_rfl) (by kernel_rfl) (by kernel_rfl) (fun _ _ _ h => h) (Or.inr ⟨by kernel_rfl, rfl⟩) hHeld ?_
                try simp only [Act.put, List.setIfInBounds_toArray, List.set_cons_zero, List.set_cons_succ]
                refine wpAnyH_take (i := 16) (v := ?_) rfl (by kernel_rfl) (by kernel_rfl) (by kernel_rfl) (fun _ _ _ h => h) (Or.inl ⟨by kernel_rfl, ?_⟩) hHeld ?_
                rotate_left
                · intro wz hSw
                  try dsimp only at hSw
                  first
                  | (go_simp; done)
                  | (go_simp; with_reducible rfl)
                try simp only [Act.put, List.setIfInBounds_toArray, List.set_cons_zero, List.set_cons_succ]
                refine wpAnyH_take (i := 17) (v := ?_) rfl (by kernel_rfl) (by kernel_rfl) (by kernel_rfl) (fun _ _ _ h => h) (Or.inl ⟨by kernel_rfl, ?_⟩) hHeld ?_
                rotate_left
                · intro wz hSw
                  try dsimp only at hSw
                  first
                  | (go_simp; done)
                  | (go_simp; with_reducible rfl)
                try simp only [Act.put, List.setIfInBounds_toArray, List.set_cons_zero, List.set_cons_succ]
                refine wpAnyH_done (by kernel_rfl) ?_ _
                try go_simp
                go_wp2
                go_roundw
                case rel => exact ⟨j + 1, by omega, by go_num, by rw [HC1.out], HX7, HL7, hG7⟩
                case measure => simp [intOf]; omega
              by_cases hji2 : j = i
              case pos =>
                have HC1 : Hid (covIx arms i (j + 1) = false) := Lib.hid (by rw [HCS.out, Bool.false_or, decide_eq_false (fun h => h hji2), Bool.false_and])
                subst hji2
                refine wpAnyH_take (i := 0) (v := ?_) rfl (by kernel_rfl) (by kernel_rfl) (by kernel_rfl) (fun _ _ _ h => h) (Or.inl ⟨by kernel_rfl, ?_⟩) hHeld ?_
                rotate_left
                · intro wz hSw
                  try dsimp only at hSw
                  first
                  | (go_simp; done)
                  | (go_simp; with_reducible rfl)
                try simp only [Act.put, List.setIfInBounds_toArray, List.set_cons_zero, List.set_cons_succ]
                refine wpAnyH_take (i := 1) (v := ?_) rfl (by kernel_rfl) (by kernel_rfl) (by kernel_rfl) (fun _ _ _ h => h) (Or.inl ⟨by kernel_rfl, ?_⟩) hHeld ?_
                rotate_left
                · intro wz hSw
                  try dsimp only at hSw
                  first
                  | (go_simp; done)
                  | (go_simp; with_reducible rfl)
                try simp only [Act.put, List.setIfInBounds_toArray, List.set_cons_zero, List.set_cons_succ]
                refine wpAnyH_take (i := 2) (v := ?_) rfl (by kernel_rfl) (by kernel_rfl) (by kernel_rfl) (fun _ _ _ h => h) (Or.inl ⟨by kernel_rfl, ?_⟩) hHeld ?_
                rotate_left
                · intro wz hSw
                  try dsimp only at hSw
                  first
                  | (go_simp; done)
                  | (go_simp; with_reducible rfl)
                try simp only [Act.put, List.setIfInBounds_toArray, List.set_cons_zero, List.set_cons_succ]
                refine wpAnyH_take (i := 3) (v := ?_) rfl (by kernel_rfl) (by kernel_rfl) (by kernel_rfl) (fun _ _ _ h => h) (Or.inl ⟨by kernel_rfl, ?_⟩) hHeld ?_
                rotate_left
                · intro wz hSw
                  try dsimp only at hSw
                  first
                  | (go_simp; done)
                  | (go_simp; with_reducible rfl)
                try simp only [Act.put, List.setIfInBounds_toArray, List.set_cons_zero, List.set_cons_succ]
                refine wpAnyH_take (i := 4) (v := ?_) rfl (by kernel_rfl) (by kernel_rfl) (by kernel_rfl) (fun _ _ _ h => h) (Or.inl ⟨by kernel_rfl, ?_⟩) hHeld ?_
                rotate_left
                · intro wz hSw
                  try dsimp only at hSw
                  first
                  | (go_simp; done)
                  | (go_simp; with_reducible rfl)
                try simp only [Act.put, List.setIfInBounds_toArray, List.set_cons_zero, List.set_cons_succ]
                refine wpAnyH_take (i := 5) (v := ?_) rfl (by kernel_rfl) (by kernel_rfl) (by kernel_rfl) (fun _ _ _ h => h) (Or.inl ⟨by kernel_rfl, ?_⟩) hHeld ?_
                rotate_left
                · intro wz hSw
                  try dsimp only at hSw
                  first
                  | (go_simp; done)
                  | (go_simp; with_reducible rfl)
                try simp only [Act.put, List.setIfInBounds_toArray, List.set_cons_zero, List.set_cons_succ]
                refine wpAnyH_take (i := 6) (v := undef) rfl (by kernel_rfl) (by kernel_rfl) (by kernel_rfl) (fun _ _ _ h => h) (Or.inr ⟨by kernel_rfl, rfl⟩) hHeld ?_
                try simp only [Act.put, List.setIfInBounds_toArray, List.set_cons_zero, List.set_cons_succ]
                refine wpAnyH_take (i := 7) (v := undef) rfl (by kernel_rfl) (by kernel_rfl) (by kernel_rfl) (fun _ _ _ h => h) (Or.inr ⟨by kernel_rfl, rfl⟩) hHeld ?_
                try simp only [Act.put, List.setIfInBounds_toArray, List.set_cons_zero, List.set_cons_succ]
                refine wpAnyH_take (i := 8) (v := undef) rfl (by kernel_rfl) (by kernel_rfl) (by kernel_rfl) (fun _ _ _ h => h) (Or.inr ⟨by kernel_rfl, rfl⟩) hHeld ?_
                try simp only [Act.put, List.setIfInBounds_toArray, List.set_cons_zero, List.set_cons_succ]
                refine wpAnyH_take (i := 9) (v := undef) rfl (by kernel_rfl) (by kernel_rfl) (by kernel_rfl) (fun _ _ _ h => h) (Or.inr ⟨by kernel_rfl, rfl⟩) hHeld ?_
                try simp only [Act.put, List.setIfInBounds_toArray, List.set_cons_zero, List.set_cons_succ]
                refine wpAnyH_take (i := 10) (v := undef) rfl (by kernel_rfl) (by kernel_rfl) (by kernel_rfl) (fun _ _ _ h => h) (Or.inr ⟨by kernel_rfl, rfl⟩) hHeld ?_
                try simp only [Act.put, List.setIfInBounds_toArray, List.set_cons_zero, List.set_cons_succ]
                refine wpAnyH_take (i := 11) (v := undef) rfl (by kernel_rfl) (by kernel_rfl) (by kernel_rfl) (fun _ _ _ h => h) (Or.inr ⟨by kernel_rfl, rfl⟩) hHeld ?_
                try simp only [Act.put, List.setIfInBounds_toArray, List.set_cons_zero, List.set_cons_succ]
                refine wpAnyH_take (i := 12) (v := undef) rfl (by kernel_rfl) (by kernel_rfl) (by kernel_rfl) (fun _ _ _ h => h) (Or.inr ⟨by kernel_rfl, rfl⟩) hHeld ?_
                try simp only [Act.put, List.setIfInBounds_toArray, List.set_cons_zero, List.set_cons_succ]
                refine wpAnyH_take (i := 13) (v := undef) rfl (by kernel_rfl) (by kernel_rfl) (by kernel_rfl) (fun _ _ _ h => h) (Or.inr ⟨by kernel_rfl, rfl⟩) hHeld ?_
                try simp only [Act.put, List.setIfInBounds_toArray, List.set_cons_zero, List.set_cons_succ]
                refine wpAnyH_take (i := 14) (v := undef) rfl (by kernel_rfl) (by kernel_rfl) (by kernel_rfl) (fun _ _ _ h => h) (Or.inr ⟨by kernel_rfl, rfl⟩) hHeld ?_
                try simp only [Act.put, List.setIfInBounds_toArray, List.set_cons_zero, List.set_cons_succ]
                refine wpAnyH_take (i := 15) (v := ?_) rfl (by kernel_rfl) (by kernel_rfl) (by kernel_rfl) (fun _ _ _ h => h) (Or.inl ⟨by kernel_rfl, ?_⟩) hHeld ?_
                rotate_left
                · intro wz hSw
                  try dsimp only at hSw
                  first
                  | (go_simp; done)
                  | (go_simp; with_reducible rfl)
                try simp only [Act.put, List.setIfInBounds_toArray, List.set_cons_zero, List.set_cons_succ]
                refine wpAnyH_take (i := 16) (v := ?_) rfl (by kernel_rfl) (by kernel_rfl) (by kernel_rfl) (fun _ _ _ h => h) (Or.inl ⟨by kernel_rfl, ?_⟩) hHeld ?_
                rotate_left
                · intro wz hSw
                  try dsimp only at hSw
                  first
                  | (go_simp; done)
                  | (go_simp; with_reducible rfl)
                try simp only [Act.put, List.setIfInBounds_toArray, List.set_cons_zero, List.set_cons_succ]
                refine wpAnyH_take (i := 17) (v := ?_) rfl (by kernel_rfl) (by kernel_rfl) (by kernel_rfl) (fun _ _ _ h => h) (Or.inl ⟨by kernel_rfl, ?_⟩) hHeld ?_
                rotate_left
                · intro wz hSw
                  try dsimp only at hSw
                  first
                  | (go_simp; done)
                  | (go_simp; with_reducible rfl)
                try simp only [Act.put, List.setIfInBounds_toArray, List.set_cons_zero, List.set_cons_succ]
                refine wpAnyH_done (by kernel_rfl) ?_ _
                try go_simp
                go_wp2
                go_roundw
                case rel => exact ⟨j + 1, by omega, by go_num, by rw [HC1.out], HX7, HL7, hG7⟩
                case measure => simp [intOf]; omega
              have HC1 : Hid (covIx arms i (j + 1) = cn) := Lib.hid (by rw [HCS.out, Bool.false_or, decide_eq_true hji2, Bool.true_and])
              have hjq : ¬ ((j : Int) = (i : Int)) := by omega
              have hjb : ((j : Int) != (i : Int)) = true := by rw [bne_iff_ne]; exact hjq
              refine wpAnyH_take (i := 0) (v := ?_) rfl (by kernel_rfl) (by kernel_rfl) (by kernel_rfl) (fun _ _ _ h => h) (Or.inl ⟨by kernel_rfl, ?_⟩) hHeld ?_
              rotate_left
              · intro wz hSw
                try dsimp only at hSw
                first
                | (go_simp; done)
                | (go_simp; with_reducible rfl)
              try simp only [Act.put, List.setIfInBounds_toArray, List.set_cons_zero, List.set_cons_succ]
              refine wpAnyH_take (i := 1) (v := ?_) rfl (by kernel_rfl) (by kernel_rfl) (by kernel_rfl) (fun _ _ _ h => h) (Or.inl ⟨by kernel_rfl, ?_⟩) hHeld ?_
              rotate_left
              · intro wz hSw
                try dsimp only at hSw
                first
                | (go_simp; done)
                | (go_simp; with_reducible rfl)
              try simp only [Act.put, List.setIfInBounds_toArray, List.set_cons_zero, List.set_cons_succ]
              refine wpAnyH_take (i := 2) (v := ?_) rfl (by kernel_rfl) (by kernel_rfl) (by kernel_rfl) (fun _ _ _ h => h) (Or.inl ⟨by kernel_rfl, ?_⟩) hHeld ?_
              rotate_left
              · intro wz hSw
                try dsimp only at hSw
                first
                | (go_simp; done)
                | (go_simp; with_reducible rfl)
              try simp only [Act.put, List.setIfInBounds_toArray, List.set_cons_zero, List.set_cons_succ]
              refine wpAnyH_take (i := 3) (v := ?_) rfl (by kernel_rfl) (by kernel_rfl) (by kernel_rfl) (fun _ _ _ h => h) (Or.inl ⟨by kernel_rfl, ?_⟩) hHeld ?_
              rotate_left
              · intro wz hSw
                try dsimp only at hSw
                first
                | (go_simp; done)
                | (go_simp; with_reducible rfl)
              try simp only [Act.put, List.setIfInBounds_toArray, List.set_cons_zero, List.set_cons_succ]
              refine wpAnyH_take (i := 4) (v := .bool true) rfl (by kernel_rfl) (by kernel_rfl) (by kernel_rfl) (fun _ _ _ h => h) (Or.inl ⟨by kernel_rfl, ?_⟩) hHeld ?_
              · intro wz hSw
                try dsimp only at hSw
                first
                | (go_simp; done)
                | (go_simp; exact hjb)
                | (go_simp; exact hjq)
                | (go_simp; rw [hjb])
                | (simp [hjb]; done)
              try simp only [Act.put, List.setIfInBounds_toArray, List.set_cons_zero, List.set_cons_succ]
              refine wpAnyH_take (i := 5) (v := ?_) rfl (by kernel_rfl) (by kernel_rfl) (by kernel_rfl) (fun _ _ _ h => h) (Or.inl ⟨by kernel_rfl, ?_⟩) hHeld ?_
              rotate_left
              · intro wz hSw
                try dsimp only at hSw
                first
                | (go_simp; done)
                | (go_simp; with_reducible rfl)
              try simp only [Act.put, List.setIfInBounds_toArray, List.set_cons_zero, List.set_cons_succ]
              refine wpAnyH_take (i := 6) (v := ?_) rfl (by kernel_rfl) (by kernel_rfl) (by kernel_rfl) (fun _ _ _ h => h) (Or.inl ⟨by kernel_rfl, ?_⟩) hHeld ?_
              rotate_left
              · intro wz hSw
                try dsimp only at hSw
                first
                | (go_simp; done)
                | (go_simp; with_reducible rfl)
              try simp only [Act.put, List.setIfInBounds_toArray, List.set_cons_zero, List.set_cons_succ]
              refine wpAnyH_take (i := 7) (v := ?_) rfl (by kernel_rfl) (by kernel_rfl) (by kernel_rfl) (fun _ _ _ h => h) (Or.inl ⟨by kernel_rfl, ?_⟩) hHeld ?_
              rotate_left
              · intro wz hSw
                try dsimp only at hSw
                first
                | (go_simp; done)
                | (go_simp; with_reducible rfl)
              try simp only [Act.put, List.setIfInBounds_toArray, List.set_cons_zero, List.set_cons_succ]
              refine wpAnyH_take (i := 8) (v := ?_) rfl (by kernel_rfl) (by kernel_rfl) (by kernel_rfl) (fun _ _ _ h => h) (Or.inl ⟨by kernel_rfl, ?_⟩) hHeld ?_
              rotate_left
              · intro wz hSw
                try dsimp only at hSw
                first
                | (go_simp; done)
                | (go_simp; with_reducible rfl)
              try simp only [Act.put, List.setIfInBounds_toArray, List.set_cons_zero, List.set_cons_succ]
              refine wpAnyH_take (i := 9) (v := ?_) rfl (by kernel_rfl) (by kernel_rfl) (by kernel_rfl) (fun _ _ _ h => h) (Or.inl ⟨by kernel_rfl, ?_⟩) hHeld ?_
              rotate_left
              · intro wz hSw
                try dsimp only at hSw
                first
                | (go_simp; done)
                | (go_simp; with_reducible rfl)
              try simp only [Act.put, List.setIfInBounds_toArray, List.set_cons_zero, List.set_cons_succ]
              refine wpAnyH_take (i := 10) (v := ?_) rfl (by kernel_rfl) (by kernel_rfl) (by kernel_rfl) (fun _ _ _ h => h) (Or.inl ⟨by kernel_rfl, ?_⟩) hHeld ?_
              rotate_left
              · intro wz hSw
                try dsimp only at hSw
                first
                | (go_simp; done)
                | (go_simp; with_reducible rfl)
              try simp only [Act.put, List.setIfInBounds_toArray, List.set_cons_zero, List.set_cons_succ]
              refine wpAnyH_take (i := 11) (v := ?_) rfl (by kernel_rfl) (by kernel_rfl) (by kernel_rfl) (fun _ _ _ h => h) (Or.inl ⟨by kernel_rfl, ?_⟩) hHeld ?_
              rotate_left
              · intro wz hSw
                try dsimp only at hSw
                first
                | (go_simp; done)
                | (go_simp; with_reducible rfl)
              try simp only [Act.put, List.setIfInBounds_toArray, List.set_cons_zero, List.set_cons_succ]
              refine wpAnyH_take (i := 12) (v := ?_) rfl (by kernel_rfl) (by kernel_rfl) (by kernel_rfl) (fun _ _ _ h => h) (Or.inl ⟨by kernel_rfl, ?_⟩) hHeld ?_
              rotate_left
              · intro wz hSw
                try dsimp only at hSw
                first
                | (go_simp; done)
                | (go_simp; with_reducible rfl)
              try simp only [Act.put, List.setIfInBounds_toArray, List.set_cons_zero, List.set_cons_succ]
              refine wpAnyH_take (i := 13) (v := ?_) rfl (by kernel_rfl) (by kernel_rfl) (by kernel_rfl) (fun _ _ _ h => h) (Or.inl ⟨by kernel_rfl, ?_⟩) hHeld ?_
              rotate_left
              · intro wz hSw
                try dsimp only at hSw
                first
                | (go_simp; done)
                | (go_simp; with_reducible rfl)
              try simp only [Act.put, List.setIfInBounds_toArray, List.set_cons_zero, List.set_cons_succ]
              refine wpAnyH_ready (rs := [14]) (by kernel_rfl) (by simp) ?_
              refine AllReadyH.cons rfl (fun K hK => ?_) AllReadyH.nil
              go_simp
              go_at_call 70
              refine (specCoversG_v p1 q1 p2 q2 _ lp1 lq1 lp2 lq2 HCN.out).mono ?_
              rintro e w8 ⟨rfl, hb⟩
              have y1_8 := keep1 hb y1_7
              have y2_8 := keep1 hb y2_7
              have z1_8 := keep1 hb z1_7
              have z2_8 := keep1 hb z2_7
              have HX8 := Lib.hid (own_below HX7.out hb)
              have HL8 : Hid (Below G w3 w8) := Lib.hid (HL7.out.trans (hb.mono hG7))
              have hG8 : G ≤ w8.heap.size := by have := hb.size; omega
              clear hb
              refine hK.out _ _ ⟨y1_8, y2_8, z1_8, z2_8⟩ (fun hHeld => ?_)
              clear hK K
              try simp only [Act.put, List.setIfInBounds_toArray, List.set_cons_zero, List.set_cons_succ]
              refine wpAnyH_take (i := 15) (v := ?_) rfl (by kernel_rfl) (by kernel_rfl) (by kernel_rfl) (fun _ _ _ h => h) (Or.inl ⟨by kernel_rfl, ?_⟩) hHeld ?_
              rotate_left
              · intro wz hSw
                try dsimp only at hSw
                first
                | (go_simp; done)
                | (go_simp; with_reducible rfl)
              try simp only [Act.put, List.setIfInBounds_toArray, List.set_cons_zero, List.set_cons_succ]
              refine wpAnyH_take (i := 16) (v := ?_) rfl (by kernel_rfl) (by kernel_rfl) (by kernel_rfl) (fun _ _ _ h => h) (Or.inl ⟨by kernel_rfl, ?_⟩) hHeld ?_
              rotate_left
              · intro wz hSw
                try dsimp only at hSw
                first
                | (go_simp; done)
                | (go_simp; with_reducible rfl)
              try simp only [Act.put, List.setIfInBounds_toArray, List.set_cons_zero, List.set_cons_succ]
              refine wpAnyH_take (i := 17) (v := ?_) rfl (by kernel_rfl) (by kernel_rfl) (by kernel_rfl) (fun _ _ _ h => h) (Or.inl ⟨by kernel_rfl, ?_⟩) hHeld ?_
              rotate_left
              · intro wz hSw
                try dsimp only at hSw
                first
                | (go_simp; done)
                | (go_simp; with_reducible rfl)
              try simp only [Act.put, List.setIfInBounds_toArray, List.set_cons_zero, List.set_cons_succ]
              refine wpAnyH_done (by kernel_rfl) ?_ _
              try go_simp
              go_wp2
              go_roundw
              case rel => exact ⟨j + 1, by omega, by go_num, by rw [HC1.out], HX8, HL8, hG8⟩
              case measure => simp [intOf]; omega
            · obtain rfl : j = arms.length := by omega
              have hj9 : ¬ (arms.length : Int) < (arms.length : Int) := by omega
              generalize hcv : covIx arms i arms.length = cv at *
              have HCI := Lib.hid hcv
              clear hcv
              cases cv
              · have HE : Hid (grTo arms (i + 1) = gs ++ [⟨(p2 : Int), (q2 : Int)⟩]) := Lib.hid (by rw [HGS.out, HAI2.out]; rfl)
                obtain ⟨b2, o2, hA, hbb2, z1, z2⟩ := (HA3.out.below HL6.out).at_ hli
                subst hA
                rw [hp2] at z1
                rw [hq2] at z2
                have hsl := HA3.out.max
                have hsc := HA3.out.cap
                unfold maxLen at hsl
                go_wp2_with (at_builtin; refine wpList_app_Ag rfl _ _ rfl _ _ _ _ rfl HX6.out _ _ _ _ rfl (by first | rfl | simp) (by omega) hG6 ?_; intro v' w9 ho hb hg; have HX9 := Lib.hid ho; have HL9 : Hid (Below G w3 w9) := Lib.hid (HL6.out.trans hb); have hG9 : G ≤ w9.heap.size := (by have := hg.size; omega); clear ho hb hg)
                go_roundw
                case rel => exact ⟨i + 1, by omega, by go_num, Lib.hid (by rw [HE.out]; have h := HX9.out; rw [List.length_append]; simpa [flatA, encA] using h), HL9, hG9⟩
                case measure => simp [intOf]; omega
              · have HE : Hid (grTo arms (i + 1) = gs) := Lib.hid (by rw [HGS.out]; simp)
                go_wp2
                go_roundw
                case rel => exact ⟨i + 1, by omega, by go_num, Lib.hid (by rw [HE.out]; exact HX6.out), HL6, hG6⟩
                case measure => simp [intOf]; omega
        · obtain rfl : i = arms.length := by omega
          have hi9 : ¬ (arms.length : Int) < (arms.length : Int) := by omega
          obtain ⟨AX, cX, hvx⟩ := own_form HX5.out
          subst hvx
          have HGI : Hid (mGreat ds b list = grTo arms arms.length) := Lib.hid HM.out
          go_wp2
          go_ret
          rw [HGI.out]
          exact ⟨AX, cX, rfl, own_base HX5.out hwG, HB3.out.trans (HL5.out.mono hwG)⟩
end Go.Proofs.Ytpmanbmhbfnefaa
