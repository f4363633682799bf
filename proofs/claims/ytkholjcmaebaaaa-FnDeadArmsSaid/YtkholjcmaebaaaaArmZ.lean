import Derived.Test.YtkholjcmaebaaaaArmV
namespace Go.Proofs.Ytkholjcmaebaaaa
open Go.RowKit Go.Maps
set_option linter.unusedVariables false
set_option maxRecDepth 100000

/-! ### rows of bools -/
def bRow (n : Nat) (f : Nat → Bool) : List Value := (List.range n).map fun j => .bool (f j)
theorem bRow_len (n : Nat) (f : Nat → Bool) : (bRow n f).length = n := by simp [bRow]
theorem bRow_get {n : Nat} (f : Nat → Bool) {j : Nat} (h : j < n) : (bRow n f)[j]? = some (.bool (f j)) := by simp [bRow, h]
theorem bRow_set {n i : Nat} {f g : Nat → Bool} (hg : ∀ j, j < n → g j = if j = i then true else f j) : (bRow n f).set i (.bool true) = bRow n g := by
  apply List.ext_getElem?
  intro j
  by_cases hj : j < n
  · rw [bRow_get g hj, List.getElem?_set]
    by_cases e : i = j
    · subst e; rw [if_pos rfl, if_pos (by rw [bRow_len]; exact hj), hg i hj, if_pos rfl]
    · rw [if_neg e, bRow_get f hj, hg j hj, if_neg (fun h => e h.symm)]
  · rw [List.getElem?_eq_none (by rw [List.length_set, bRow_len]; omega), List.getElem?_eq_none (by rw [bRow_len]; omega)]
theorem bRow_ext {n : Nat} {f g : Nat → Bool} (h : ∀ j, j < n → f j = g j) : bRow n f = bRow n g := by
  apply List.ext_getElem?
  intro j
  by_cases hj : j < n
  · rw [bRow_get f hj, bRow_get g hj, h j hj]
  · rw [List.getElem?_eq_none (by rw [bRow_len]; omega), List.getElem?_eq_none (by rw [bRow_len]; omega)]
theorem bRow_zero (n : Nat) : (madeCells #[Value.bool false] n).toList = bRow n (fun _ => false) := by
  apply List.ext_getElem?
  intro j
  by_cases hj : j < n
  · rw [bRow_get _ hj]
    simp [madeCells, hj, Nat.mod_one]
  · rw [List.getElem?_eq_none (by simp [madeCells]; omega), List.getElem?_eq_none (by rw [bRow_len]; omega)]
theorem own_neV {w : World} {base R : Nat} {e : TypeId} {sz : Nat} {v : Value} {n : Nat} {xs : List Value} (h : w.ownsRow base e sz v n xs) (hR : R < base) : v.ownBlock = none ∨ v.ownBlock ≠ some R := by
  cases hb : v.ownBlock with
  | none => exact .inl rfl
  | some k => exact .inr (fun e => by have := (h.lt k hb).1; injection e with e; omega)
theorem info_Bo : (Try.prog.info? 4).map (fun i => (i.zero, i.size, i.bytes)) = some (some (.bool false), 1, 1) := by kernel_rfl
/-- Arm j comes first for one of the numbers. -/
def metL (rs : List Ar) (l : List Int) (j : Nat) : Bool := l.any fun x => decide (firstA rs x.toNat = (j : Int))
theorem metL_snoc (rs : List Ar) (l : List Int) (k j : Nat) (h : k < l.length) : metL rs (l.take (k + 1)) j = (metL rs (l.take k) j || decide (firstA rs l[k].toNat = (j : Int))) := by
  unfold metL
  rw [List.take_succ_eq_append_getElem h, List.any_append]; simp
theorem metL_parts (rs : List Ar) (m j : Nat) : metL rs (partsTo m (m + 1)) j = metBy rs m (m + 1) j := by
  unfold metL metBy partsTo
  rw [List.any_map, List.any_filter]
  congr 1

set_option maxHeartbeats 8000000 in
theorem specDead_any (ds : List D) (b : Int) (rs : List Ar) (A : Option Addr) (m c : Nat) (w : World) (hr : SD w w.heap.size A m c ds) (As : Option Addr) (q cs : Nat) (hs : SA w w.heap.size As q cs rs)  :
    Calls Try.prog 34 #[.agg #[.slice A m c, .int .i64 b], .slice As q cs] w (IntsP (mDead ds b rs) w) := by
  have hl := hs.max
  have hl2 := hs.cap
  unfold maxLen at hl
  obtain rfl := hs.len
  have HF := Lib.hid (FB.start hr b)
  have HSA : Hid (SA (w.alloc (.cells #[.slice A m c, .int .i64 b] 25)) w.heap.size As rs.length cs rs) := Lib.hid (hs.below HF.out.bel)
  clear hr hs
  cases hv : mArms ds b rs
  · have HV := Lib.hid hv
    have HM : Hid (mDead ds b rs = []) := Lib.hid (if_no hv)
    clear hv
    go_enter Try.func34, Try.ntmps34
    go_wp2_with fail
    generalize (w.alloc (.cells #[.slice A m c, .int .i64 b] 25)) = w0 at *
    refine (validArms_v ds b rs _ _ _ _ HF.out.sd _ _ _ (HSA.out.call HF.out.bel.size) HV.out).mono ?_
    rintro e w1 ⟨rfl, hb⟩
    have HB1 := Lib.hid (HF.out.after hb)
    clear hb
    go_wp2
    go_ret
    exact ⟨none, 0, by rw [HM.out]; rfl, by rw [HM.out]; exact World.ownsRow_nil _ _ _ _, HB1.out⟩
  have HV := Lib.hid hv
  have h10 := mArms_len hv
  have HNAT := Lib.hid (arms_nat hv)
  have HIN := Lib.hid (vFlag_in (mArms_flag hv))
  obtain ⟨k, hk⟩ : ∃ k, mMask ds = k := ⟨_, rfl⟩
  have hk4 : k < 4096 := by rw [← hk]; exact mMask_lt12 HIN.out
  have HMM := Lib.hid hk
  have HM : Hid (mDead ds b rs = deadTo rs k rs.length) := Lib.hid (by unfold mDead; rw [hv, if_pos rfl, hk])
  obtain ⟨ms, hms⟩ : ∃ ms, partsTo k (k + 1) = ms := ⟨_, rfl⟩
  have HPI : Hid (∀ w : World, Calls Try.prog 97 #[.int .i64 k] w (IntsP ms w)) := Lib.hid (by rw [← hms]; exact fun w => partsIn_any k w hk4)
  have HMET : Hid (∀ j, metL rs ms j = metBy rs k (k + 1) j) := Lib.hid (by rw [← hms]; exact fun j => metL_parts rs k j)
  have HMEM : Hid (∀ t ∈ ms, ∃ n : Nat, t = n ∧ n < 4096) := Lib.hid (by
    intro t ht
    rw [← hms] at ht
    unfold partsTo at ht
    obtain ⟨n, hn, rfl⟩ := List.mem_map.1 ht
    have := List.mem_range.1 (List.mem_filter.1 hn).1
    exact ⟨n, rfl, by omega⟩)
  have OKM : Hid (∀ s ∈ ms, -9223372036854775808 ≤ s ∧ s ≤ 9223372036854775807) := Lib.hid (by rw [← hms]; exact partsTo_rng (by omega))
  have hml : ms.length ≤ 4096 := by rw [← hms]; have := partsTo_len k (k + 1); omega
  clear hv hk hms
  obtain ⟨i0, hi, hz0, hz1, hz2⟩ := info_parts info_Bo
  have HI := Lib.hid (And.intro hi (And.intro hz0 (And.intro hz1 hz2)))
  clear hi hz0 hz1 hz2
  go_enter Try.func34, Try.ntmps34
  go_wp2_with fail
  generalize (w.alloc (.cells #[.slice A m c, .int .i64 b] 25)) = w0 at *
  refine (validArms_v ds b rs _ _ _ _ HF.out.sd _ _ _ (HSA.out.call HF.out.bel.size) HV.out).mono ?_
  rintro e w1 ⟨rfl, hb⟩
  have HF1 := Lib.hid (HF.out.call hb)
  have HS1 := Lib.hid (HSA.out.below' hb HF.out.bel.size)
  clear hb HF HSA
  go_wp2_with (at_make; refine wpList_make_full _ rfl _ _ _ rfl w1.heap.size 4 i0 _ 1 Try.underlying132 HI.out.1 HI.out.2.1 HI.out.2.2.1 .i64 .i64 _ _ rs.length rfl rfl rfl rfl (by rw [HI.out.2.2.2]; omega) (by unfold maxLen; omega) (Nat.le_refl _) ?_; intro w2 hown hgrow; have HO := Lib.hid hown; have HG := Lib.hid hgrow; clear hown hgrow; have hB2 : Below w1.heap.size w1 w2 := ((Below.refl _ _).grown HG.out (Nat.le_refl _) (by simp)); have HF2 := Lib.hid (HF1.out.call hB2); have c0 := HF2.out.c0; have c1 := HF2.out.c1)
  have hU0 : w1.heap.size < w2.heap.size := (HO.out.lt _ rfl).2
  have HU2 : Hid (w2.ownsRow w1.heap.size 4 1 (.slice (some ⟨w1.heap.size, 0, none⟩) rs.length rs.length) rs.length (bRow rs.length (metL rs (ms.take 0)))) := Lib.hid (by
    have h := HO.out
    have e : (madeCells (Value.bool false).cells (rs.length * 1)).toList = bRow rs.length (metL rs (ms.take 0)) := by rw [Nat.mul_one]; exact bRow_zero _
    rw [e] at h
    exact h)
  have HS2 := Lib.hid (HS1.out.below' hB2 HF1.out.bel.size)
  have hw1 : w.heap.size ≤ w1.heap.size := HF1.out.bel.size
  have HB2 := Lib.hid HF2.out.bel
  clear hB2 HF1 HS1 HO HG
  refine (mask_any ds _ _ _ _ HF2.out.sd HIN.out HMM.out).mono ?_
  rintro e w' ⟨rfl, rfl⟩
  go_wp2_with fail
  refine (HPI.out _).mono ?_
  rintro e w3 ⟨A2, c2, rfl, ho, hb⟩
  have HB3 := Lib.hid (HF2.out.after hb)
  have HS3 := Lib.hid (HS2.out.below' hb HB2.out.size)
  have HU3 := Lib.hid (own_below HU2.out hb)
  have HM3 := Lib.hid ho
  clear hb ho HB2 HS2 HU2 HF2 c0 c1
  generalize w1.heap.size = U at *
  generalize w2.heap.size = V at *
  go_wp2
  go_loopw [7] (fun i wr => ∃ (j : Nat), j ≤ ms.length ∧ i = .int .i64 j ∧ Hid (wr.ownsRow U 4 1 (.slice (some ⟨U, 0, none⟩) rs.length rs.length) rs.length (bRow rs.length (metL rs (ms.take j)))) ∧ Hid (wr.ownsRow V 3 1 (.slice A2 ms.length c2) ms.length (flatI ms)) ∧ Hid (Below w.heap.size w wr) ∧ Hid (SA wr w.heap.size As rs.length cs rs)) (fun i _ => ms.length - (intOf i).toNat)
  case atStart => exact ⟨0, Nat.zero_le _, rfl, HU3, HM3, HB3, HS3⟩
  case round =>
    clear HU3 HM3 HB3 HS3
    obtain ⟨j, hj, rfl, hu, hm, hbel, hsa⟩ := hrel
    by_cases hlt : j < ms.length
    · have HSI := Lib.hid (si_of_own hm.out OKM.out)
      obtain ⟨bb, o, hA, hbb, d1⟩ := HSI.out.at_ hlt
      subst hA
      obtain ⟨n, hn, hn4⟩ := HMEM.out _ (List.getElem_mem hlt)
      have HSN := Lib.hid (metL_snoc rs ms j · hlt)
      rw [hn] at d1 HSN
      have hi1 : (j : Int) < (ms.length : Int) := by omega
      obtain ⟨r, hr⟩ : ∃ r, firstA rs n = r := ⟨_, rfl⟩
      have hr1 : r < rs.length := by rw [← hr]; exact firstA_lt rs n
      have HR := Lib.hid hr
      rw [Int.toNat_natCast, hr] at HSN
      clear hr hn HSI
      go_wp2_with fail
      refine (specFirstA_v rs n _ _ _ _ (hsa.out.call hbel.out.size) HNAT.out hn4 HR.out).mono ?_
      rintro e w7 ⟨rfl, hb⟩
      have HB7 : Hid (Below w.heap.size w w7) := Lib.hid (hbel.out.trans (hb.mono hbel.out.size))
      have HS7 := Lib.hid (hsa.out.below' hb hbel.out.size)
      have HU7 := Lib.hid (own_below hu.out hb)
      have HM7 := Lib.hid (own_below hm.out hb)
      clear hb d1 hbel hsa hu hm
      by_cases h0 : r < 0
      · have h00 : ¬ 0 ≤ r := by omega
        go_wp2
        go_roundw
        case rel => exact ⟨j + 1, by omega, by go_num, Lib.hid (by rw [bRow_ext (g := metL rs (ms.take j)) (fun i hi => by rw [HSN.out i, decide_eq_false (by omega), Bool.or_false])]; exact HU7.out), HM7, HB7, HS7⟩
        case measure => simp [intOf]; omega
      · obtain ⟨i, rfl⟩ : ∃ i : Nat, r = i := ⟨r.toNat, by omega⟩
        have hil : i < rs.length := by omega
        have h00 : (0 : Int) ≤ (i : Int) := by omega
        obtain ⟨y1, hx1⟩ := own_cell HU7.out i (by omega)
        have hf1 := HU7.out.frozenAt i
        have HST := Lib.hid (HU7.out.stored i (.bool true))
        have HNE := Lib.hid (own_neV HM7.out hU0)
        go_wp2
        go_roundw
        case rel => exact ⟨j + 1, by omega, by go_num, Lib.hid (by
          have h := HST.out.1
          rw [bRow_set (g := metL rs (ms.take (j + 1))) (fun l hl => by
            rw [HSN.out l]
            by_cases e : l = i
            · subst e; simp
            · rw [if_neg e, decide_eq_false (by omega), Bool.or_false])] at h
          exact h), Lib.hid (HM7.out.kept HST.out.2 HNE.out), Lib.hid (HB7.out.setCell (by simp; omega) _), Lib.hid (HS7.out.keep fun r => Rd.setCell r (by simp; omega) _)⟩
        case measure => simp [intOf]; omega
    · obtain rfl : j = ms.length := by omega
      have HBC : Hid (∀ l, l < rs.length → wr.cell? ⟨U, l, none⟩ = some (.bool (metBy rs k (k + 1) l))) := Lib.hid (fun l hl => by
        rw [hu.out.cellAt l (by omega), bRow_get _ hl, List.take_of_length_le (Nat.le_refl _), HMET.out])
      have hUl : U < wr.heap.size := (hu.out.lt _ rfl).2
      have HB8 := Lib.hid hbel.out
      clear hu hm hsa hbel HPI HMEM HMET OKM
      rename World => wo
      go_wp2_with fail
      obtain ⟨G, hG⟩ : ∃ G, wo.heap.size = G := ⟨_, rfl⟩
      have HOW : Hid ((wo.alloc (.cells #[] 3)).ownsRow G 3 1 (.slice (some ⟨wo.heap.size, 0, none⟩) 0 0) (deadTo rs k 0).length (flatI (deadTo rs k 0))) := Lib.hid (by rw [← hG]; exact World.ownsRow_made wo #[] 0 (Nat.le_refl _) (by unfold maxLen; omega) rfl)
      have HBW : Hid (Below w.heap.size w (wo.alloc (.cells #[] 3))) := Lib.hid (HB8.out.alloc HB8.out.size _)
      have HCW : Hid (∀ l, l < rs.length → (wo.alloc (.cells #[] 3)).cell? ⟨U, l, none⟩ = some (.bool (metBy rs k (k + 1) l))) := Lib.hid (fun l hl => keep1 ((Below.refl _ _).alloc (Nat.le_refl _) _) (HBC.out l hl))
      have hGW : G ≤ (wo.alloc (.cells #[] 3)).heap.size := by rw [← hG]; simp
      have hwG : w.heap.size ≤ G := by rw [← hG]; exact HB8.out.size
      have hUG : U < G := by rw [← hG]; exact hUl
      generalize (wo.alloc (.cells #[] 3)) = w9 at *
      clear HB8 HBC hUl
      rw [hG] at HOW ⊢
      clear hG
      go_loopw [9, 10] (fun v i wr => ∃ j : Nat, j ≤ rs.length ∧ i = .int .i64 j ∧ Hid (wr.ownsRow G 3 1 v (deadTo rs k j).length (flatI (deadTo rs k j))) ∧ Hid (∀ l, l < rs.length → wr.cell? ⟨U, l, none⟩ = some (.bool (metBy rs k (k + 1) l))) ∧ Hid (Below w.heap.size w wr) ∧ Hid (G ≤ wr.heap.size)) (fun _ i _ => rs.length - (intOf i).toNat)
      case atStart => exact ⟨0, Nat.zero_le _, rfl, HOW, HCW, HBW, Lib.hid hGW⟩
      case round =>
        clear HOW HCW HBW hGW
        obtain ⟨j, hj, rfl, hown, hcc, hbel, hgw⟩ := hrel
        by_cases hlt : j < rs.length
        · have hi1 : (j : Int) < (rs.length : Int) := by omega
          have bj := hcc.out j hlt
          have HT := Lib.hid (deadTo_succ rs k j)
          have HL := Lib.hid (deadTo_len rs k j)
          obtain ⟨v, hv⟩ : ∃ v, metBy rs k (k + 1) j = v := ⟨_, rfl⟩
          rw [hv] at bj
          have HV2 := Lib.hid hv
          clear hv
          cases v
          · have HTT : Hid (deadTo rs k (j + 1) = deadTo rs k j ++ [(j : Int)]) := Lib.hid (by rw [HT.out, HV2.out]; simp)
            go_wp2_with (at_builtin; refine wpList_app_I rfl _ _ rfl _ _ _ _ rfl hown.out _ _ _ rfl (by first | rfl | simp) (by have := HL.out; omega) hgw.out ?_; intro v' w4 ho1 hb1; have HO1 := Lib.hid ho1; have HB4 := Lib.hid hb1; clear ho1 hb1)
            go_roundw
            case rel => exact ⟨j + 1, by omega, by go_num, Lib.hid (by rw [HTT.out, List.length_append]; simpa [flatI] using HO1.out), Lib.hid (fun l hl => (HB4.out.cell (p := ⟨U, l, none⟩) hUG).trans (hcc.out l hl)), Lib.hid (hbel.out.trans (HB4.out.mono hwG)), Lib.hid (Nat.le_trans hgw.out HB4.out.size)⟩
            case measure => simp [intOf]; omega
          · have HTT : Hid (deadTo rs k (j + 1) = deadTo rs k j) := Lib.hid (by rw [HT.out, HV2.out]; simp)
            go_wp2
            go_roundw
            case rel => exact ⟨j + 1, by omega, by go_num, Lib.hid (by rw [HTT.out]; exact hown.out), hcc, hbel, hgw⟩
            case measure => simp [intOf]; omega
        · obtain rfl : j = rs.length := by omega
          go_wp2
          go_ret
          obtain ⟨A', c', hv⟩ := own_form hown.out
          subst hv
          exact ⟨A', c', by rw [HM.out]; first | done | rfl, by rw [HM.out]; exact own_base hown.out (by omega), hbel.out⟩

end Go.Proofs.Ytkholjcmaebaaaa
