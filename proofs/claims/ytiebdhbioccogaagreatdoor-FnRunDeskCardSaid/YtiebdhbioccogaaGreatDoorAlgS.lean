import Derived.Test.YtiebdhbioccogaaGreatDoorBaseE
import Derived.Test.YtiebdhbioccogaaGreatDoorBaseD
import Derived.Test.YtiebdhbioccogaaGreatDoorAppW
namespace Go.Proofs.YtiebdhbioccogaaGreatDoor
open Go.RowKit Go.Maps
set_option linter.unusedVariables false
set_option maxRecDepth 100000

/-! ### an append beside another row -/
theorem run_app_Dw (X : World) (base : Nat) (t ty : TypeId) (ht : Tryz.prog.underlying t = some (.slice 108)) (v : Value) (n : Nat) (xs : List Value) (hown : X.ownsRow base 108 2 v n xs) (nm : ByteArray) (vl : Int) (g c : Nat)
    (hblk : X.heap[g]? = some (.cells #[.string nm, .int .i64 vl] 108 (0, 0))) (hn : n ≤ 2000000) (hbase : base ≤ X.heap.size) :
    ∃ v' w', (Builtin.append_ #[t, t] ty #[v, .slice (some ⟨g, 0, none⟩) 1 c]).run Tryz.prog X = .ok v' w' ∧ w'.ownsRow base 108 2 v' (n + 1) (xs ++ [.string nm, .int .i64 vl]) ∧ X.grownBy w' v.ownBlock ∧ Where X v v' := by
  obtain ⟨i0, hi, hz0, hz1, hz2⟩ := info_parts info_D
  obtain ⟨v', w', hr, h2, h3, _, h5⟩ := run_append_own_at (P := Tryz.prog) X base t ty _ i0 _ 2 24 ht hi hz0 hz1 hz2 rfl (by omega) v n xs hown ⟨g, 0, none⟩ 1 c [.string nm, .int .i64 vl] rfl
    (World.news_of_block hblk) (by simp [Value.oneCell']) (by unfold maxLen; omega) (by omega) hbase
  refine ⟨v', w', hr, h2, h3, fun q hq hne => ?_⟩
  rcases h5 with h5 | h5
  · rw [h5]; exact hne
  · rw [h5]; intro e; injection e with e; omega
theorem wpList_app_Dw {W : World} {ops : Array Oper} {rest : List Oper} {o : Oper} {a : Act} {Q : Exit → Act → World → Prop} (t : TypeId) (ht : Tryz.prog.underlying t = some (.slice 108)) (hgd : o.guard = none) (s x : Operand) (ho : o.op = .call { callee := .builtin .append, args := #[s, x], argTypes := #[t, t] })
    (base : Nat) (v : Value) (n : Nat) (xs : List Value) (hs : a.eval s = v) (hown : W.ownsRow base 108 2 v n xs) (nm : ByteArray) (vl : Int)
    (c g : Nat) (hx : a.eval x = .slice (some ⟨g, 0, none⟩) 1 c) (hgw : g = W.heap.size) (hn : n ≤ 2000000) (hbase : base ≤ W.heap.size)
    (h : ∀ v' w', w'.ownsRow base 108 2 v' (n + 1) (xs ++ [.string nm, .int .i64 vl]) → W.grownBy w' v.ownBlock → Where W v v' → wpList Tryz.prog ops Q rest (a.put o.dst v') w') :
    wpList Tryz.prog ops Q (o :: rest) a (W.alloc (.cells #[.string nm, .int .i64 vl] 108)) := by
  subst hgw
  obtain ⟨v', w', hr, h2, h3, h4⟩ := run_app_Dw _ base t o.type ht v n xs (hown.alloc (.cells #[.string nm, .int .i64 vl] 108)) nm vl W.heap.size c (heap_alloc_new W _) hn (by simp; omega)
  refine Lib.wpList_append_run _ hgd s x _ _ ho v _ hs hx v' w' hr (h v' w' h2 ((World.grownBy_alloc _ _ _).trans h3) (fun q hq hne => h4 q (by simp; omega) hne))

set_option maxHeartbeats 2000000 in
theorem specInv_v (ds : List D) (b : Int) (x : Int) (A : Option Addr) (m c : Nat) (w : World) (hr : SD w w.heap.size A m c ds) {r : Int} (hm : mInv ds b x = r) :
    Calls Tryz.prog 36 #[.agg #[.slice A m c, .int .i64 b], .int .i64 x] w (fun e w' => e = .returned (.int .i64 r) ∧ Below w.heap.size w w') := by
  subst hm
  have HF := Lib.hid (FB.start hr b)
  clear hr
  cases hv : mIsV ds b x
  · have HV := Lib.hid hv
    have HM : Hid (mInv ds b x = -1) := Lib.hid (if_no hv)
    clear hv
    go_enter Tryz.func36, Tryz.ntmps36
    go_wp2_with (go_at_call 69; refine (specIsV_v ds b x _ _ _ _ HF.out.sd HV.out).mono ?_; rintro e w' ⟨rfl, hb⟩)
    go_ret
    exact ⟨by rw [HM.out]; first | done | rfl, HF.out.after hb⟩
  · obtain ⟨p, rfl, hp⟩ := mIsV_nat hv
    have HV := Lib.hid hv
    have hin := vFlag_in (mIsV_flag hv)
    have hwl := mWhole_lt (b := b) hin
    obtain ⟨wh, hwh⟩ : ∃ wh, mWhole ds b = wh := ⟨_, rfl⟩
    rw [hwh] at hwl
    obtain ⟨r, hr⟩ : ∃ r, nl wh p = r := ⟨_, rfl⟩
    have HM : Hid (mInv ds b p = (r : Int)) := Lib.hid (by unfold mInv; rw [hv, if_pos rfl, Int.toNat_natCast, hwh, hr])
    have HIN := Lib.hid hin
    have HR := Lib.hid hr
    clear hv hr hin
    by_cases h3 : b = 3
    · subst h3
      have HH : Hid (mHigh ds = wh) := Lib.hid hwh
      clear hwh
      go_enter Tryz.func36, Tryz.ntmps36
      go_wp2_with (first | (go_at_call 69; refine (specIsV_v ds 3 p _ _ _ _ HF.out.sd HV.out).mono ?_; rintro e w1 ⟨rfl, hb⟩; have HF1 := Lib.hid (HF.out.call hb); have c0 := HF1.out.c0; have c1 := HF1.out.c1; clear hb) | (go_at_call 75; refine (high_any ds _ _ _ _ HF1.out.sd HIN.out HH.out).mono ?_; rintro e w2 ⟨rfl, rfl⟩) | (go_at_call 39; refine (less_any wh p _ hwl hp HR.out).mono ?_; rintro e w3 ⟨rfl, rfl⟩))
      go_ret
      exact ⟨by rw [HM.out]; first | done | rfl, HF1.out.bel⟩
    · have HH : Hid (mMask ds = wh) := Lib.hid (by unfold mWhole at hwh; rwa [if_neg h3] at hwh)
      have h3' : (b == 3) = false := beq_eq_false_iff_ne.2 h3
      clear hwh h3
      go_enter Tryz.func36, Tryz.ntmps36
      go_wp2_with (first | (go_at_call 69; refine (specIsV_v ds b p _ _ _ _ HF.out.sd HV.out).mono ?_; rintro e w1 ⟨rfl, hb⟩; have HF1 := Lib.hid (HF.out.call hb); have c0 := HF1.out.c0; have c1 := HF1.out.c1; clear hb) | (go_at_call 73; refine (mask_any ds _ _ _ _ HF1.out.sd HIN.out HH.out).mono ?_; rintro e w2 ⟨rfl, rfl⟩) | (go_at_call 39; refine (less_any wh p _ hwl hp HR.out).mono ?_; rintro e w3 ⟨rfl, rfl⟩))
      go_ret
      exact ⟨by rw [HM.out]; first | done | rfl, HF1.out.bel⟩

set_option maxHeartbeats 4000000 in
theorem inside_any (ds : List D) (a : Nat) (A : Option Addr) (n c : Nat) (w : World) (hr : SD w w.heap.size A n c ds) (ha : a < 4096) :
    Calls Tryz.prog 70 #[.slice A n c, .int .i64 a] w (DefsP (mIn ds a) w) := by
  have HR := Lib.hid hr
  have HOK : Hid (∀ d ∈ mSg ds, d.ok) := Lib.hid (mSg_ok hr.ok)
  have HL : Hid ((mSg ds).length ≤ 12) := Lib.hid (mSg_len ds)
  have HP : Hid (∀ d ∈ mSg ds, ∃ x : Nat, x < 4096 ∧ d.val = x ∧ fitIn a d = decide (0 < x &&& a)) := Lib.hid fun d hd => by
    obtain ⟨_, i, hi, e⟩ := sgTo_in hd
    have h2 : d.val.toNat = 2 ^ i := by rw [e, Int.toNat_natCast]
    exact ⟨2 ^ i, Nat.pow_lt_pow_right (n := 12) (by decide) hi, e, by rw [← h2]; exact sg_fit hd a⟩
  have HSG : Hid (∀ (A : Option Addr) (n c : Nat) (w : World), SD w w.heap.size A n c ds → Calls Tryz.prog 108 #[.slice A n c] w (DefsP (mSg ds) w)) := Lib.hid fun A n c w h => singles_any ds A n c w h
  show Calls Tryz.prog 70 #[.slice A n c, .int .i64 a] w (DefsP (mWithin (mSg ds) a) w)
  clear hr
  generalize mSg ds = ms at *
  have hl12 : ms.length ≤ 12 := HL.out
  go_enter Tryz.func70, Tryz.ntmps70
  go_wp2_with fail
  have hb : Below w.heap.size w (w.alloc (.cells #[] 108)) := (Below.refl _ _).alloc (Nat.le_refl _) _
  have ho : (w.alloc (.cells #[] 108)).ownsRow w.heap.size 108 2 (.slice (some ⟨w.heap.size, 0, none⟩) 0 0) 0 (flat []) := World.ownsRow_made w #[] 0 (Nat.le_refl _) (by unfold maxLen; omega) rfl
  have hs1 : w.heap.size + 1 ≤ (w.alloc (.cells #[] 108)).heap.size := by simp
  generalize (w.alloc (.cells #[] 108)) = w1 at *
  have HB1 := Lib.hid hb
  have HO1 := Lib.hid ho
  clear hb ho
  refine (HSG.out _ _ _ _ ((HR.out.below HB1.out).call HB1.out.size)).mono ?_
  rintro e w2 ⟨As, cs, rfl, ho, hb⟩
  have HS2 := Lib.hid ho
  have HB2 : Hid (Below w.heap.size w w2) := Lib.hid (HB1.out.trans (hb.mono HB1.out.size))
  have hs2 : w1.heap.size ≤ w2.heap.size := hb.size
  have HO2 := Lib.hid (own_below HO1.out hb)
  have HQ : Hid (∀ q, (Value.slice As ms.length cs).ownBlock = some q → w1.heap.size ≤ q ∧ q < w2.heap.size) := Lib.hid fun q hq => ho.lt q hq
  have HAP : Hid (Apart (.slice (some ⟨w.heap.size, 0, none⟩) 0 0) (.slice As ms.length cs)) := Lib.hid (.inr fun e => by have := (ho.lt w.heap.size (by rw [← e]; rfl)).1; omega)
  clear hb ho HB1 HO1 HSG HR
  go_wp2
  go_loopw [5, 7] (fun v i wr => ∃ k : Nat, k ≤ ms.length ∧ i = .int .i64 k ∧ Hid (wr.ownsRow w.heap.size 108 2 v (inTo ms a k).length (flat (inTo ms a k))) ∧ Hid (wr.ownsRow w1.heap.size 108 2 (.slice As ms.length cs) ms.length (flat ms)) ∧ Hid (Apart v (.slice As ms.length cs)) ∧ Hid (Below w.heap.size w wr) ∧ Hid (w2.heap.size ≤ wr.heap.size)) (fun _ i _ => ms.length - (intOf i).toNat)
  case atStart => exact ⟨0, Nat.zero_le _, rfl, HO2, HS2, HAP, HB2, Lib.hid (Nat.le_refl _)⟩
  case round =>
    clear HO2 HS2 HAP HB2
    obtain ⟨k, hk, rfl, hown, hS, hap, hbel, hsz⟩ := hrel
    by_cases hlt : k < ms.length
    · obtain ⟨x, hx4, hx, hfit⟩ := HP.out _ (List.getElem_mem hlt)
      obtain ⟨b, o, hA, hbb, c1, c2⟩ := (sd_of_own hS.out HOK.out).at_ hlt
      subst hA
      have HT := Lib.hid (inTo_succ ms a k hlt)
      have HE : Hid (encD ms[k] = [.string ms[k].name, .int .i64 x]) := Lib.hid (by unfold encD; rw [hx])
      have HLN := Lib.hid (inTo_len ms a k)
      have hi1 : (k : Int) < (ms.length : Int) := by omega
      rw [hx] at c2
      clear hx
      obtain ⟨z, hz⟩ : ∃ z, x &&& a = z := ⟨_, rfl⟩
      rw [hz] at hfit
      have HZ := Lib.hid hz
      have HF := Lib.hid hfit
      clear hz hfit
      by_cases h1 : 0 < z
      · have HTT : Hid (inTo ms a (k + 1) = inTo ms a k ++ [ms[k]]) := Lib.hid (by rw [HT.out, HF.out, decide_eq_true h1]; rfl)
        go_wp2_with (first | (go_at_call 38; refine (both_v x a _ hx4 ha HZ.out).mono ?_; rintro e w' ⟨rfl, rfl⟩) | (at_builtin; refine wpList_app_Dw _ Tryz.underlying33 rfl _ _ rfl _ _ _ _ rfl hown.out _ _ _ _ rfl (by first | rfl | simp) (by have := HLN.out; have := HL.out; omega) hbel.out.size ?_; intro v' w3 ho1 hg1 hw1; have HO1 := Lib.hid ho1; have HG1 := Lib.hid hg1; have HW1 := Lib.hid hw1; clear ho1 hg1 hw1))
        go_roundw
        case rel => exact ⟨k + 1, by omega, by go_num, Lib.hid (by rw [HTT.out, List.length_append]; simpa [flat, HE.out] using HO1.out), Lib.hid (own_kept_app hS.out HG1.out hap.out), Lib.hid (hap.out.app HW1.out (fun q hq => by have := (HQ.out q hq).2; have := hsz.out; omega)), Lib.hid (hbel.out.grown HG1.out hbel.out.size (fun q hq => (hown.out.lt q hq).1)), Lib.hid (by have := HG1.out.size; have := hsz.out; omega)⟩
        case measure => simp [intOf]; omega
      · have HTT : Hid (inTo ms a (k + 1) = inTo ms a k) := Lib.hid (by rw [HT.out, HF.out, decide_eq_false h1]; simp)
        go_wp2_with (go_at_call 38; refine (both_v x a _ hx4 ha HZ.out).mono ?_; rintro e w' ⟨rfl, rfl⟩)
        go_roundw
        case rel => exact ⟨k + 1, by omega, by go_num, Lib.hid (by rw [HTT.out]; exact hown.out), hS, hap, hbel, hsz⟩
        case measure => simp [intOf]; omega
    · obtain rfl : k = ms.length := by omega
      go_wp2
      go_ret
      obtain ⟨A', c', hv⟩ := own_form hown.out
      subst hv
      have h2 := hown.out
      have e1 : inTo ms a ms.length = mWithin ms a := by unfold inTo; rw [List.take_of_length_le (Nat.le_refl _)]
      rw [e1] at h2 ⊢
      exact ⟨A', c', rfl, h2, hbel.out⟩
end Go.Proofs.YtiebdhbioccogaaGreatDoor
