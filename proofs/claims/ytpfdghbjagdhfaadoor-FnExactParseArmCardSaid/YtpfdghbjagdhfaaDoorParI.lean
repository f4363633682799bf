import Derived.Test.YtpfdghbjagdhfaaDoorAuP
import Derived.Test.YtpfdghbjagdhfaaDoorArtA
import Derived.Test.YtpfdghbjagdhfaaDoorArtI
import Derived.Test.YtpfdghbjagdhfaaDoorBaseY
namespace Go.Proofs.YtpfdghbjagdhfaaDoor
open Go.RowKit Go.Maps
set_option linter.unusedVariables false
set_option linter.unusedSimpArgs false
set_option maxRecDepth 100000

theorem cutPre_any (s : ByteArray) (w : World) : Calls Tryd.prog 101 #[.string s, .string ⟨#[33]⟩] w fun e w' => e = .returned (.tuple #[.string (bareB s), .bool (isInv s)]) ∧ w = w' := by
  refine (Tryd.strings_CutPrefix s ⟨#[33]⟩ w).mono ?_
  rintro e w' ⟨rfl, rfl⟩
  rw [pre_bang, trim_bang]
  exact ⟨rfl, rfl⟩
theorem star_no {s : ByteArray} (h : s ≠ starB) : (s.toList == [42]) = false := by
  rw [beq_eq_false_iff_ne]
  intro e
  exact h (nm_inj (by rw [e]; first | rfl | decide | simp [starB, go_sem]))
theorem set_grown (w : World) (g i : Nat) (v : Value) : w.grownBy (w.setCell ⟨g, i, none⟩ v) (some g) := ⟨rfl, rfl, rfl, by simp, fun k _ hk => Below.heap_setCell w _ _ k (fun e => hk (by simp only at e; rw [e]))⟩

/-- internal/bytealg.MaxLen, carried from world to world. -/
structure MT (w : World) (B : Nat) : Prop where
  mln : ∃ m : Int, w.cell? ⟨0, 0, none⟩ = some (.int .i64 m)
  lm : 0 < B
theorem MT.below {w w' : World} {B : Nat} (h : MT w B) (hb : Below B w w') : MT w' B := by
  obtain ⟨m, h3⟩ := h.mln
  exact ⟨⟨m, (hb.cell (p := ⟨0, 0, none⟩) h.lm).trans h3⟩, h.lm⟩
theorem MT.more {w : World} {B B' : Nat} (h : MT w B) (hB : B ≤ B') : MT w B' := ⟨h.mln, Nat.lt_of_lt_of_le h.lm hB⟩
theorem MT.call {w w' : World} (h : MT w w.heap.size) (hb : Below w.heap.size w w') : MT w' w'.heap.size := (h.below hb).more hb.size
theorem RT.mt {w : World} {B : Nat} (h : RT w B) : MT w B := ⟨h.mln, h.lm⟩
theorem splitM_any (s : ByteArray) (c : UInt8) (w : World) (hs : s.size ≤ 1048576) (hT : MT w w.heap.size) :
    Calls Tryd.prog 100 #[.string s, .string ⟨#[c]⟩] w (StrsP (splitT c s) w) := by
  obtain ⟨m, hm⟩ := hT.mln
  refine (Tryd.strings_Split s ⟨#[c]⟩ m w (by omega) hm (Nat.le_refl 1)).mono ?_
  rintro e w' ⟨rfl, rfl⟩
  have hl := splitT_len c s
  rw [splitT_B, splitT_count]
  have h0 : Below w.heap.size w (w.alloc (.cells ((splitT c s).map Value.string).toArray 9)) := (Below.refl _ _).alloc (Nat.le_refl _) _
  refine ⟨some ⟨w.heap.size, 0, none⟩, (splitT c s).length, rfl, ?_, h0⟩
  have hz : (flatS (splitT c s)).length = (splitT c s).length := flatS_length _
  exact ⟨by rw [hz, Nat.mul_one], .inr ⟨w.heap.size, (splitT c s).length, ((splitT c s).map Value.string).toArray, rfl, Nat.le_refl _, heap_alloc_new w _, Nat.le_refl _, by unfold maxLen; omega, by simp, by simp [flatS, List.take_of_length_le]⟩⟩

set_option maxHeartbeats 16000000 in
theorem implReadArm_v (l : List D) (s : ByteArray) (A : Option Addr) (n c : Nat) (w : World) (hr : SD w w.heap.size A n c l) (hin : ∀ d ∈ l, inR d) (hs : s.size ≤ 1048576) (hT : MT w w.heap.size) {x y : Nat} {v : Bool} (hv : ArR (arV l s) x y v) :
    Calls Tryd.prog 52 #[.slice A n c, .string s] w fun e w' => e = .returned (.tuple #[.agg #[.int .i64 x, .int .i64 y], .bool v]) ∧ Below w.heap.size w w' := by
  obtain rfl := hr.len
  have hl := hr.max
  have hl2 := hr.cap
  unfold maxLen at hl
  have HR := Lib.hid hr
  have HIN := Lib.hid hin
  have HT := Lib.hid hT
  obtain ⟨W0, hW⟩ : ∃ W : World, W = (w.alloc (.cells #[.int .i64 0, .int .i64 0] 27)).alloc (.cells #[.int .i64 0, .int .i64 0] 27) := ⟨_, rfl⟩
  have HB0 : Hid (Below w.heap.size w W0) := Lib.hid (by rw [hW]; exact ((Below.refl _ _).alloc (Nat.le_refl _) _).alloc (by simp) _)
  have HC0 : Hid (C2 W0 w.heap.size (.int .i64 0) (.int .i64 0)) := Lib.hid (by rw [hW]; exact (c2New _ _ _ _).below ((Below.refl _ _).alloc (Nat.le_refl _) _))
  have HA0 : Hid (C2 W0 (w.heap.size + 1) (.int .i64 0) (.int .i64 0)) := Lib.hid (by rw [hW]; exact c2New' _ _ _ _ _)
  have hs0 : W0.heap.size = w.heap.size + 1 + 1 := by rw [hW]; simp
  have HW := Lib.hid hW.symm
  clear hr hin hT hW
  by_cases hst : s = starB
  · subst hst
    obtain ⟨rfl, rfl, rfl⟩ := hv.yes 0 0 (by unfold arV; rw [if_pos rfl])
    clear hv
    unfold starB
    go_enter Tryd.func52, Tryd.ntmps52
    go_wp2
    refine bodyPost_ret (v := .tuple #[.agg #[.int .i64 0, .int .i64 0], .bool true]) (by simp [results, Tryd.results52, go_sem]) rfl ⟨rfl, ?_⟩
    repeat first | exact Below.refl _ _ | refine Below.setCell ?_ (by first | exact Nat.le_refl _ | (show w.heap.size ≤ _; omega)) _ | refine Below.alloc ?_ (by first | exact Nat.le_refl _ | (simp; done) | (simp; omega)) _
  have hsn : (s.toList == [42]) = false := star_no hst
  have HV : Hid (ArR (arTo l (splitT 32 s) 0 0) x y v) := Lib.hid (by have := hv; unfold arV at this; rw [if_neg hst] at this; exact this)
  have HSP := Lib.hid (fun w h => splitM_any s 32 w hs h)
  unfold StrsP at HSP
  have hwl := (splitT_len 32 s).1
  have HWS : Hid (∀ x ∈ splitT 32 s, x.size ≤ 1048576) := Lib.hid fun x hx => by have := splitT_size 32 s x hx; omega
  generalize splitT 32 s = ws at *
  have HOKS : Hid (∀ x ∈ ws, x.size ≤ maxLen) := Lib.hid fun x hx => by have := HWS.out x hx; unfold maxLen; omega
  clear hv hst
  go_enter Tryd.func52, Tryd.ntmps52
  go_wp2_with fail
  rw [HW.out]
  clear HW
  refine (HSP.out _ (HT.out.call HB0.out)).mono ?_
  rintro e w1 ⟨A1, c1, rfl, ho, hb⟩
  have HO1 := Lib.hid ho
  have HC1 := Lib.hid (HC0.out.below hb)
  have HA1 := Lib.hid (HA0.out.below hb)
  have HB1 := Lib.hid (HB0.out.trans (hb.mono HB0.out.size))
  have hs1 := hb.size
  clear ho hb HSP HB0 HC0 HA0
  go_wp2
  go_loopw [18] (fun i wr => ∃ (k p q : Nat), k ≤ ws.length ∧ p < 4096 ∧ q < 4096 ∧ i = .int .i64 k ∧ Hid (arAt l ws k p q) ∧ Hid (wr.ownsRow W0.heap.size 9 1 (.slice A1 ws.length c1) ws.length (flatS ws)) ∧ Hid (C2 wr w.heap.size (.int .i64 0) (.int .i64 0)) ∧ Hid (C2 wr (w.heap.size + 1) (.int .i64 p) (.int .i64 q)) ∧ Hid (Below w.heap.size w wr) ∧ W0.heap.size ≤ wr.heap.size) (fun i _ => ws.length - (intOf i).toNat)
  case atStart => exact ⟨0, 0, 0, Nat.zero_le _, by omega, by omega, rfl, Lib.hid (arAt_zero l ws), HO1, HC1, HA1, HB1, hs1⟩
  case round =>
    clear HO1 HC1 HA1 HB1
    obtain ⟨k, p, q, hk, hp, hq, rfl, hst, hown, hc, ha, hbel, hsz⟩ := hrel
    by_cases hlt : k < ws.length
    · obtain ⟨bb, o, hA, hbb, d1⟩ := (ss_of_own hown.out HOKS.out).at_ hlt
      subst hA
      have hi1 : (k : Int) < (ws.length : Int) := by omega
      have HNO := Lib.hid (arAt_no hlt hst.out)
      have HIV := Lib.hid (fun d => arAt_inv (d := d) hlt hst.out)
      have HNT := Lib.hid (fun d => arAt_not (d := d) hlt hst.out)
      generalize ws[k] = u at *
      obtain ⟨iv, hiv⟩ : ∃ iv, isInv u = iv := ⟨_, rfl⟩
      have HCP := Lib.hid (fun w => cutPre_any u w)
      rw [hiv] at HCP HIV HNT
      clear hiv hst
      generalize bareB u = nm at *
      have HS := Lib.hid ((HR.out.below hbel.out).call hbel.out.size)
      rcases fidx_cases (isNm nm) l with ⟨hx, hno⟩ | ⟨j, hj, hx, hpj, hno⟩
      · have HX := Lib.hid hx
        have HN := Lib.hid (HV.out.no (HNO.out (fnd_no hno)))
        have c0 := hc.out.c0
        have c1' := hc.out.c1
        clear hx hno HNO HIV HNT
        go_wp2_with (go_at_call 101; refine (HCP.out _).mono ?_; rintro e w2 ⟨rfl, rfl⟩)
        refine (indexOfName_v l nm _ _ _ _ HS.out HX.out).mono ?_
        rintro e w3 ⟨rfl, hb⟩
        have HB3 := Lib.hid (hbel.out.trans (hb.mono hbel.out.size))
        obtain ⟨k0, k1, kf0, kf1⟩ := hc.out.below hb
        clear hb
        obtain ⟨rfl, rfl, rfl⟩ := HN.out
        go_wp2
        exact bodyPost_ret (v := .tuple #[.agg #[.int .i64 0, .int .i64 0], .bool false]) (by simp [results, Tryd.results52, go_sem, k0, k1]) rfl ⟨rfl, (HB3.out.setCell (Nat.le_refl _) _).setCell (Nat.le_refl _) _⟩
      · have HX := Lib.hid hx
        obtain ⟨bd, od, hA, hbd, d2, d3⟩ := HS.out.at_ hj
        subst hA
        have HFD := Lib.hid (fnd_at hj hpj hno)
        obtain ⟨z, hz⟩ : ∃ z : Nat, l[j].val = z := ⟨l[j].val.toNat, (Int.toNat_of_nonneg (HIN.out _ (List.getElem_mem hj)).1).symm⟩
        have hz4 : z < 4096 := by have := (HIN.out _ (List.getElem_mem hj)).2; omega
        have HIV2 := Lib.hid (fun h => HIV.out l[j] HFD.out h)
        have HNT2 := Lib.hid (fun h => HNT.out l[j] HFD.out h)
        rw [hz, Int.toNat_natCast] at HIV2 HNT2
        rw [hz] at d3
        have hij : (j : Int) < (l.length : Int) := by omega
        clear hx hno hz HNO HIV HNT HFD hpj
        have NEB : Hid (∀ r, some r = (Value.slice (some ⟨bb, o, none⟩) ws.length c1).ownBlock → W0.heap.size ≤ r) := Lib.hid fun r e => (hown.out.lt r e.symm).1
        have hbdw : bd < w.heap.size ∨ True := .inr trivial
        go_wp2_with (go_at_call 101; refine (HCP.out _).mono ?_; rintro e w2 ⟨rfl, rfl⟩)
        refine (indexOfName_v l nm _ _ _ _ HS.out HX.out).mono ?_
        rintro e w3 ⟨rfl, hb⟩
        have HB3 := Lib.hid (hbel.out.trans (hb.mono hbel.out.size))
        have HO3 := Lib.hid (own_below hown.out hb)
        have HC3 := Lib.hid (hc.out.below hb)
        have HA3 := Lib.hid (ha.out.below hb)
        have k3 := keep1 hb d3
        obtain ⟨m0, m1, mf0, mf1⟩ := HA3.out
        have hs3 := hb.size
        have hor1 := i64_or_nat p z (by omega) (by omega)
        have hor2 := i64_or_nat q z (by omega) (by omega)
        have hpz := or_lt hp hz4
        have hqz := or_lt hq hz4
        clear hb
        have HOS : Hid (∀ i v, (w3.setCell ⟨w.heap.size + 1, i, none⟩ v).drew.ownsRow W0.heap.size 9 1 (.slice (some ⟨bb, o, none⟩) ws.length c1) ws.length (flatS ws)) := Lib.hid fun i v => own_below (own_setCell HO3.out (fun e => by have := NEB.out _ e.symm; simp only at this; omega) _) (Below.refl _ _).drew
        cases iv
        · have HST := Lib.hid (HNT2.out rfl)
          obtain ⟨pz, hpz2⟩ : ∃ t, p ||| z = t := ⟨_, rfl⟩
          rw [hpz2] at hor1 hpz HST
          go_wp2_with fail
          go_region
          all_goals
            go_wp2
            go_roundw
            case rel => exact ⟨k + 1, pz, q, by omega, hpz, hq, by go_num, HST, Lib.hid (HOS.out _ _), Lib.hid ((HC3.out.setO (by simp) _).below (Below.refl _ _).drew), Lib.hid ((HA3.out.set0 _).below (Below.refl _ _).drew), Lib.hid ((HB3.out.setCell (by simp) _).drew), by simp; omega⟩
            case measure => simp [intOf]; omega
        · have HST := Lib.hid (HIV2.out rfl)
          obtain ⟨qz, hqz2⟩ : ∃ t, q ||| z = t := ⟨_, rfl⟩
          rw [hqz2] at hor2 hqz HST
          go_wp2_with fail
          go_region
          all_goals
            go_wp2
            go_roundw
            case rel => exact ⟨k + 1, p, qz, by omega, hp, hqz, by go_num, HST, Lib.hid (HOS.out _ _), Lib.hid ((HC3.out.setO (by simp) _).below (Below.refl _ _).drew), Lib.hid ((HA3.out.set1 _).below (Below.refl _ _).drew), Lib.hid ((HB3.out.setCell (by simp) _).drew), by simp; omega⟩
            case measure => simp [intOf]; omega
    · obtain rfl : k = ws.length := by omega
      have hi9 : ¬ (ws.length : Int) < (ws.length : Int) := by omega
      have HY := Lib.hid (HV.out.yes p q (arAt_end hst.out))
      obtain ⟨c0, c1', cf0, cf1⟩ := hc.out
      have a0 := ha.out.c0
      have a1 := ha.out.c1
      have HBB := Lib.hid hbel.out
      obtain ⟨rfl, rfl, rfl⟩ := HY.out
      go_wp2
      exact bodyPost_ret (v := .tuple #[.agg #[.int .i64 x, .int .i64 y], .bool true]) (by simp [results, Tryd.results52, go_sem, c0, c1', a0, a1]) rfl ⟨rfl, (HBB.out.setCell (Nat.le_refl _) _).setCell (Nat.le_refl _) _⟩
end Go.Proofs.YtpfdghbjagdhfaaDoor
