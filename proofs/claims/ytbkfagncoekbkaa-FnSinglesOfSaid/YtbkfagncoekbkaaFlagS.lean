import Derived.Test.YtbkfagncoekbkaaFlagB
import Derived.Test.YtbkfagncoekbkaaBaseC
namespace Go.Proofs.Ytbkfagncoekbkaa
open Go.RowKit Go.Maps
set_option linter.unusedVariables false
set_option maxRecDepth 100000

/-! ### the model's functions of chapter 3 -/
def mMaskOf (ds : List D) (b : Int) : Int := if vFlag ds b then (mMask ds : Int) else -1
def mLooseOf (ds : List D) (b : Int) : Int := if vFlag ds b then (mLoose ds : Int) else -1
def mHighOf (ds : List D) (b : Int) : Int := if vFlag ds b then (mHigh ds : Int) else -1
def mSgOf (ds : List D) (b : Int) : List ByteArray := if vFlag ds b then (mSg ds).map (·.name) else []
def mCompOf (ds : List D) (b : Int) : List ByteArray := if vFlag ds b then (mComp ds).map (·.name) else []
def compTo (ds : List D) (k : Nat) : List D := (ds.take k).filter isComp
theorem compTo_succ (ds : List D) (k : Nat) (h : k < ds.length) : compTo ds (k + 1) = compTo ds k ++ if isComp ds[k] then [ds[k]] else [] := by
  unfold compTo
  rw [List.take_succ_eq_append_getElem h, List.filter_append, List.filter_cons, List.filter_nil]
theorem compTo_len (ds : List D) (k : Nat) : (compTo ds k).length ≤ k := by
  have := List.length_filter_le isComp (ds.take k)
  have h2 : (ds.take k).length ≤ k := by simp; omega
  unfold compTo; omega
theorem if_no {α : Type} {v : Bool} {a b : α} (h : v = false) : (if v then a else b) = b := by rw [h]; rfl
theorem if_yes {α : Type} {v : Bool} {a b : α} (h : v = true) : (if v then a else b) = a := by rw [h]; rfl
set_option maxHeartbeats 1000000 in
theorem specSgOf_any (ds : List D) (b : Int) (A : Option Addr) (n c : Nat) (w : World) (hr : SD w w.heap.size A n c ds) :
    Calls Try.prog 28 #[.agg #[.slice A n c, .int .i64 b]] w (StrsP (mSgOf ds b) w) := by
  have HF := Lib.hid (FB.start hr b)
  have HOK := Lib.hid hr.ok
  clear hr
  cases hv : vFlag ds b
  · have HV := Lib.hid hv
    have HM : Hid (mSgOf ds b = []) := Lib.hid (if_no hv)
    clear hv
    go_enter Try.func28, Try.ntmps28
    go_wp2_with (go_at_call 72; refine (specVF_v ds b _ _ _ _ HF.out.sd HV.out).mono ?_; rintro e w' ⟨rfl, hb⟩)
    go_ret
    exact ⟨none, 0, by rw [HM.out]; rfl, by rw [HM.out]; exact World.ownsRow_nil _ _ _ _, HF.out.after hb⟩
  · have HV := Lib.hid hv
    have HM : Hid (mSgOf ds b = (mSg ds).map (·.name)) := Lib.hid (if_yes hv)
    have HN : Hid ((mSg ds).length ≤ 1048576) := Lib.hid (by have := mSg_len ds; omega)
    clear hv
    go_enter Try.func28, Try.ntmps28
    go_wp2_with fail
    refine (specVF_v ds b _ _ _ _ HF.out.sd HV.out).mono ?_
    rintro e w1 ⟨rfl, hb⟩
    have HF1 := Lib.hid (HF.out.call hb)
    have c0 := HF1.out.c0
    clear hb HF
    go_wp2_with fail
    refine (singles_any ds _ _ _ _ HF1.out.sd).mono ?_
    rintro e w2 ⟨A2, k2, rfl, ho, hb⟩
    have HS2 := Lib.hid (sd_of_own ho (mSg_ok HOK.out))
    have HB2 := Lib.hid (HF1.out.after hb)
    clear ho hb
    go_wp2_with fail
    refine (namesOf_any (mSg ds) _ _ _ _ HS2.out HN.out).mono ?_
    rintro e w3 ⟨A3, k3, rfl, ho, hb⟩
    have HO3 := Lib.hid ho
    have HB3 := Lib.hid hb
    clear ho hb
    go_wp2
    go_ret
    exact ⟨A3, k3, by rw [HM.out, List.length_map]; rfl, by rw [HM.out, List.length_map]; rw [List.length_map] at HO3; exact own_base HO3.out HB2.out.size, HB2.out.trans (HB3.out.mono HB2.out.size)⟩

set_option maxHeartbeats 2000000 in
theorem specCompOf_any (ds : List D) (b : Int) (A : Option Addr) (n c : Nat) (w : World) (hr : SD w w.heap.size A n c ds) :
    Calls Try.prog 34 #[.agg #[.slice A n c, .int .i64 b]] w (StrsP (mCompOf ds b) w) := by
  have HF := Lib.hid (FB.start hr b)
  have HOK := Lib.hid hr.ok
  have HLN := Lib.hid hr.len
  clear hr
  cases hv : vFlag ds b
  · have HV := Lib.hid hv
    have HM : Hid (mCompOf ds b = []) := Lib.hid (if_no hv)
    clear hv
    go_enter Try.func34, Try.ntmps34
    go_wp2_with (go_at_call 72; refine (specVF_v ds b _ _ _ _ HF.out.sd HV.out).mono ?_; rintro e w' ⟨rfl, hb⟩)
    go_ret
    exact ⟨none, 0, by rw [HM.out]; rfl, by rw [HM.out]; exact World.ownsRow_nil _ _ _ _, HF.out.after hb⟩
  · have HV := Lib.hid hv
    have HM : Hid (mCompOf ds b = (mComp ds).map (·.name)) := Lib.hid (if_yes hv)
    have hn12 : n ≤ 12 := by have := vFlag_len hv; have := HLN.out; omega
    have HIN := Lib.hid (vFlag_in hv)
    clear hv
    go_enter Try.func34, Try.ntmps34
    go_wp2_with fail
    refine (specVF_v ds b _ _ _ _ HF.out.sd HV.out).mono ?_
    rintro e w1 ⟨rfl, hb⟩
    have HF1 := Lib.hid (HF.out.call hb)
    clear hb HF
    go_wp2
    have HF2 := Lib.hid (HF1.out.alloc (.cells #[] 9))
    have HO2 : Hid ((w1.alloc (.cells #[] 9)).ownsRow w1.heap.size 9 1 (.slice (some ⟨w1.heap.size, 0, none⟩) 0 0) (compTo ds 0).length (flatS ((compTo ds 0).map (·.name)))) := Lib.hid (World.ownsRow_made w1 #[] 0 (Nat.le_refl _) (by unfold maxLen; omega) rfl)
    have hg1 : w.heap.size < w1.heap.size := World.block_lt_of_cell? _ _ HF1.out.c0
    have HG2 : Hid (w1.heap.size ≤ (w1.alloc (.cells #[] 9)).heap.size) := Lib.hid (by simp)
    clear HF1
    generalize (w1.alloc (.cells #[] 9)) = w2 at *
    generalize w1.heap.size = G at *
    go_loopw [3, 4] (fun v i wr => ∃ k : Nat, k ≤ n ∧ i = .int .i64 k ∧ Hid (wr.ownsRow G 9 1 v (compTo ds k).length (flatS ((compTo ds k).map (·.name)))) ∧ Hid (FB w wr w.heap.size A n c ds b) ∧ Hid (G ≤ wr.heap.size)) (fun _ i _ => n - (intOf i).toNat)
    case atStart => exact ⟨0, Nat.zero_le _, rfl, HO2, HF2, HG2⟩
    case round =>
      clear HO2 HF2 HG2
      obtain ⟨k, hk, rfl, hown, hf, hG⟩ := hrel
      have c0 := hf.out.c0
      by_cases hlt : k < n
      · have hkd : k < ds.length := by have := HLN.out; omega
        obtain ⟨bb, o, rfl, hbb, d1, d2⟩ := hf.out.sd.at_ hkd
        have HI := Lib.hid (HIN.out _ (List.getElem_mem hkd))
        obtain ⟨x, hx⟩ : ∃ x : Nat, ds[k].val = x := ⟨ds[k].val.toNat, (Int.toNat_of_nonneg HI.out.1).symm⟩
        have hx4 : x ≤ 1000000 := by have := HI.out.2; omega
        have HT := Lib.hid (compTo_succ ds k hkd)
        have HC : Hid (isComp ds[k] = decide (1 < popc x)) := Lib.hid (by unfold isComp; rw [hx]; rfl)
        have HL := Lib.hid (compTo_len ds k)
        rw [hx] at d2
        clear hx
        generalize hp : popc x = p at HC
        have HP := Lib.hid hp
        clear hp
        by_cases h1 : 1 < p
        · have HTT : Hid (compTo ds (k + 1) = compTo ds k ++ [ds[k]]) := Lib.hid (by rw [HT.out, HC.out, decide_eq_true h1]; rfl)
          go_wp2_with (first | (go_at_call 93; refine (bitCount_any x _ hx4 HP.out).mono ?_; rintro e w' ⟨rfl, rfl⟩) | (at_builtin; refine wpList_app_S rfl _ _ rfl _ _ _ _ rfl hown.out _ _ _ rfl (by first | rfl | simp) (by have := HL.out; omega) hG.out ?_; intro v' w3 ho1 hb1; have HO1 := Lib.hid ho1; have HB1 := Lib.hid hb1; clear ho1 hb1))
          go_roundw
          case rel => exact ⟨k + 1, by omega, by go_num, Lib.hid (by rw [HTT.out, List.map_append, List.length_append]; simpa [flatS] using HO1.out), Lib.hid (fbG hf.out HB1.out hg1 (Nat.le_of_lt hg1)), Lib.hid (Nat.le_trans hG.out HB1.out.size)⟩
          case measure => simp [intOf]; omega
        · have HTT : Hid (compTo ds (k + 1) = compTo ds k) := Lib.hid (by rw [HT.out, HC.out, decide_eq_false h1]; simp)
          go_wp2_with (go_at_call 93; refine (bitCount_any x _ hx4 HP.out).mono ?_; rintro e w' ⟨rfl, rfl⟩)
          go_roundw
          case rel => exact ⟨k + 1, by omega, by go_num, Lib.hid (by rw [HTT.out]; exact hown.out), hf, hG⟩
          case measure => simp [intOf]; omega
      · obtain rfl : k = n := by omega
        go_wp2
        go_ret
        obtain ⟨A', c', hv⟩ := own_form hown.out
        subst hv
        have h2 := hown.out
        have e1 : compTo ds k = mComp ds := by unfold compTo mComp; rw [List.take_of_length_le (by have := HLN.out; omega)]
        rw [e1] at h2 ⊢
        have e2 : (mComp ds).length = ((mComp ds).map (·.name)).length := by rw [List.length_map]
        rw [e2] at h2 ⊢
        exact ⟨A', c', by rw [HM.out]; rfl, by rw [HM.out]; exact own_base h2 (Nat.le_of_lt hg1), hf.out.bel⟩

/-! ### how values are made -/
set_option maxHeartbeats 2000000 in
theorem specMade_any (ds : List D) (b n : Int) (A : Option Addr) (m c : Nat) (w : World) (hr : SD w w.heap.size A m c ds) (hin : ∀ d ∈ ds, inR d) (hbb : 0 ≤ b ∧ b ≤ 3) (hn1 : -4096 ≤ n) (hn2 : n ≤ 4095) :
    Calls Try.prog 97 #[.agg #[.slice A m c, .int .i64 b], .int .i64 n] w fun e w' => e = .returned (.tuple #[.int .i64 (mMade ds b n).1, .int .i64 (mMade ds b n).2]) ∧ Below w.heap.size w w' := by
  have HF := Lib.hid (FB.start hr b)
  have HIN := Lib.hid hin
  have h1 := mMask_lt12 hin
  have h2 := mHigh_lt hin
  obtain ⟨hb0, hb3⟩ := hbb
  obtain ⟨md, hmd⟩ : ∃ md, mMade ds b n = md := ⟨_, rfl⟩
  rw [hmd]
  unfold mMade at hmd
  generalize hx : mMask ds = x at *
  generalize hy : mHigh ds = y at *
  have HMD := Lib.hid hmd.symm
  clear hmd
  have HX := Lib.hid hx
  have HY := Lib.hid hy
  clear hx hy hr hin
  by_cases hneg : n < 0
  · obtain ⟨k, hk⟩ : ∃ k : Nat, -n - 1 = k := ⟨(-n - 1).toNat, by omega⟩
    have hk4 : k < 4096 := by omega
    have hk' : 0 - n - 1 = (k : Int) := by omega
    by_cases h3 : b = 3
    · have HR : Hid (md = (((nl y k : Nat) : Int), 0)) := Lib.hid (by rw [HMD.out, if_pos hneg, if_pos h3, hk]; rfl)
      subst h3
      generalize hq : nl y k = q at *
      have HQ := Lib.hid hq
      clear hq HMD
      go_enter Try.func97, Try.ntmps97
      go_wp2_with (first | (go_at_call 148; refine (high_any ds _ _ _ _ HF.out.sd HIN.out HY.out).mono ?_; rintro e w' ⟨rfl, rfl⟩) | (go_at_call 130; refine (less_any y k _ h2 hk4 HQ.out).mono ?_; rintro e w' ⟨rfl, rfl⟩))
      go_ret2
      exact ⟨by rw [HR.out]; first | done | rfl, HF.out.bel⟩
    · have HR : Hid (md = (((nl x k : Nat) : Int), 0)) := Lib.hid (by rw [HMD.out, if_pos hneg, if_neg h3, hk]; rfl)
      generalize hq : nl x k = q at *
      have HQ := Lib.hid hq
      clear hq HMD
      go_enter Try.func97, Try.ntmps97
      go_wp2_with (first | (go_at_call 131; refine (mask_any ds _ _ _ _ HF.out.sd HIN.out HX.out).mono ?_; rintro e w' ⟨rfl, rfl⟩) | (go_at_call 130; refine (less_any x k _ h1 hk4 HQ.out).mono ?_; rintro e w' ⟨rfl, rfl⟩))
      go_ret2
      exact ⟨by rw [HR.out]; first | done | rfl, HF.out.bel⟩
  · obtain ⟨k, rfl⟩ : ∃ k : Nat, n = k := ⟨n.toNat, by omega⟩
    have hk4 : k < 4096 := by omega
    generalize hq : nl k x = q at *
    have HQ := Lib.hid hq
    by_cases hz : q = 0
    · have HR : Hid (md = ((k : Int), 0)) := Lib.hid (by rw [HMD.out, if_neg hneg, if_pos (by rw [Int.toNat_natCast, hq]; exact hz)])
      subst hz
      clear HMD hq
      go_enter Try.func97, Try.ntmps97
      go_wp2_with (first | (go_at_call 131; refine (mask_any ds _ _ _ _ HF.out.sd HIN.out HX.out).mono ?_; rintro e w' ⟨rfl, rfl⟩) | (go_at_call 130; refine (less_any k x _ hk4 h1 HQ.out).mono ?_; rintro e w' ⟨rfl, rfl⟩))
      go_ret2
      exact ⟨by rw [HR.out]; first | done | rfl, HF.out.bel⟩
    · have HR : Hid (md = if b = 0 then (0, 2) else if b = 1 then (((k &&& x : Nat) : Int), 0) else if b = 2 then ((k : Int), 1) else ((k : Int), 0)) := Lib.hid (by rw [HMD.out, if_neg hneg, if_neg (by rw [Int.toNat_natCast, hq]; exact hz), Int.toNat_natCast])
      clear HMD hq
      rcases (show b = 0 ∨ b = 1 ∨ b = 2 ∨ b = 3 by omega) with rfl | rfl | rfl | rfl
      · have HRR : Hid (md = (0, 2)) := Lib.hid (by rw [HR.out]; rfl)
        clear HR
        go_enter Try.func97, Try.ntmps97
        go_wp2_with (first | (go_at_call 131; refine (mask_any ds _ _ _ _ HF.out.sd HIN.out HX.out).mono ?_; rintro e w' ⟨rfl, rfl⟩) | (go_at_call 130; refine (less_any k x _ hk4 h1 HQ.out).mono ?_; rintro e w' ⟨rfl, rfl⟩))
        go_ret2
        exact ⟨by rw [HRR.out]; first | done | rfl, HF.out.bel⟩
      · have HRR : Hid (md = (((k &&& x : Nat) : Int), 0)) := Lib.hid (by rw [HR.out]; rfl)
        clear HR
        generalize hz2 : k &&& x = z at *
        have HZ2 := Lib.hid hz2
        clear hz2
        go_enter Try.func97, Try.ntmps97
        go_wp2_with (first | (go_at_call 131; refine (mask_any ds _ _ _ _ HF.out.sd HIN.out HX.out).mono ?_; rintro e w' ⟨rfl, rfl⟩) | (go_at_call 130; refine (less_any k x _ hk4 h1 HQ.out).mono ?_; rintro e w' ⟨rfl, rfl⟩) | (go_at_call 149; refine (both_v k x _ hk4 h1 HZ2.out).mono ?_; rintro e w' ⟨rfl, rfl⟩))
        go_ret2
        exact ⟨by rw [HRR.out]; first | done | rfl, HF.out.bel⟩
      · have HRR : Hid (md = ((k : Int), 1)) := Lib.hid (by rw [HR.out]; rfl)
        clear HR
        go_enter Try.func97, Try.ntmps97
        go_wp2_with (first | (go_at_call 131; refine (mask_any ds _ _ _ _ HF.out.sd HIN.out HX.out).mono ?_; rintro e w' ⟨rfl, rfl⟩) | (go_at_call 130; refine (less_any k x _ hk4 h1 HQ.out).mono ?_; rintro e w' ⟨rfl, rfl⟩))
        go_ret2
        exact ⟨by rw [HRR.out]; first | done | rfl, HF.out.bel⟩
      · have HRR : Hid (md = ((k : Int), 0)) := Lib.hid (by rw [HR.out]; rfl)
        clear HR
        go_enter Try.func97, Try.ntmps97
        go_wp2_with (first | (go_at_call 131; refine (mask_any ds _ _ _ _ HF.out.sd HIN.out HX.out).mono ?_; rintro e w' ⟨rfl, rfl⟩) | (go_at_call 130; refine (less_any k x _ hk4 h1 HQ.out).mono ?_; rintro e w' ⟨rfl, rfl⟩))
        go_ret2
        exact ⟨by rw [HRR.out]; first | done | rfl, HF.out.bel⟩
end Go.Proofs.Ytbkfagncoekbkaa
