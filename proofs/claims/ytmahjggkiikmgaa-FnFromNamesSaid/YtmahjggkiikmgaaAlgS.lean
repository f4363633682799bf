import Derived.Test.YtmahjggkiikmgaaAlgP
import Derived.Test.YtmahjggkiikmgaaFlagT
import Derived.Test.YtmahjggkiikmgaaAppW
namespace Go.Proofs.Ytmahjggkiikmgaa
open Go.RowKit Go.Maps
set_option linter.unusedVariables false
set_option maxRecDepth 100000

/-! ### an append beside another row -/
theorem run_app_Dw (X : World) (base : Nat) (t ty : TypeId) (ht : Try.prog.underlying t = some (.slice 59)) (v : Value) (n : Nat) (xs : List Value) (hown : X.ownsRow base 59 2 v n xs) (nm : ByteArray) (vl : Int) (g c : Nat)
    (hblk : X.heap[g]? = some (.cells #[.string nm, .int .i64 vl] 59 (0, 0))) (hn : n ≤ 2000000) (hbase : base ≤ X.heap.size) :
    ∃ v' w', (Builtin.append_ #[t, t] ty #[v, .slice (some ⟨g, 0, none⟩) 1 c]).run Try.prog X = .ok v' w' ∧ w'.ownsRow base 59 2 v' (n + 1) (xs ++ [.string nm, .int .i64 vl]) ∧ X.grownBy w' v.ownBlock ∧ Where X v v' := by
  obtain ⟨i0, hi, hz0, hz1, hz2⟩ := info_parts info_D
  obtain ⟨v', w', hr, h2, h3, _, h5⟩ := run_append_own_at (P := Try.prog) X base t ty _ i0 _ 2 24 ht hi hz0 hz1 hz2 rfl (by omega) v n xs hown ⟨g, 0, none⟩ 1 c [.string nm, .int .i64 vl] rfl
    (World.news_of_block hblk) (by simp [Value.oneCell']) (by unfold maxLen; omega) (by omega) hbase
  refine ⟨v', w', hr, h2, h3, fun q hq hne => ?_⟩
  rcases h5 with h5 | h5
  · rw [h5]; exact hne
  · rw [h5]; intro e; injection e with e; omega
theorem wpList_app_Dw {W : World} {ops : Array Oper} {rest : List Oper} {o : Oper} {a : Act} {Q : Exit → Act → World → Prop} (t : TypeId) (ht : Try.prog.underlying t = some (.slice 59)) (hgd : o.guard = none) (s x : Operand) (ho : o.op = .call { callee := .builtin .append, args := #[s, x], argTypes := #[t, t] })
    (base : Nat) (v : Value) (n : Nat) (xs : List Value) (hs : a.eval s = v) (hown : W.ownsRow base 59 2 v n xs) (nm : ByteArray) (vl : Int)
    (c g : Nat) (hx : a.eval x = .slice (some ⟨g, 0, none⟩) 1 c) (hgw : g = W.heap.size) (hn : n ≤ 2000000) (hbase : base ≤ W.heap.size)
    (h : ∀ v' w', w'.ownsRow base 59 2 v' (n + 1) (xs ++ [.string nm, .int .i64 vl]) → W.grownBy w' v.ownBlock → Where W v v' → wpList Try.prog ops Q rest (a.put o.dst v') w') :
    wpList Try.prog ops Q (o :: rest) a (W.alloc (.cells #[.string nm, .int .i64 vl] 59)) := by
  subst hgw
  obtain ⟨v', w', hr, h2, h3, h4⟩ := run_app_Dw _ base t o.type ht v n xs (hown.alloc (.cells #[.string nm, .int .i64 vl] 59)) nm vl W.heap.size c (heap_alloc_new W _) hn (by simp; omega)
  refine Lib.wpList_append_run _ hgd s x _ _ ho v _ hs hx v' w' hr (h v' w' h2 ((World.grownBy_alloc _ _ _).trans h3) (fun q hq hne => h4 q (by simp; omega) hne))

set_option maxHeartbeats 2000000 in
theorem twoV_v (ds : List D) (b : Int) (x y : Int) (A : Option Addr) (m c : Nat) (w : World) (hr : SD w w.heap.size A m c ds) {v : Bool} (hm : mTwo ds b x y = v) :
    Calls Try.prog 79 #[.agg #[.slice A m c, .int .i64 b], .int .i64 x, .int .i64 y] w (fun e w' => e = .returned (.bool v) ∧ Below w.heap.size w w') := by
  subst hm
  have HF := Lib.hid (FB.start hr b)
  clear hr
  cases hv : mIsV ds b x
  · have HV := Lib.hid hv
    have HM : Hid (mTwo ds b x y = false) := Lib.hid (by unfold mTwo; rw [hv]; rfl)
    clear hv
    go_enter Try.func79, Try.ntmps79
    go_wp2_with (go_at_call 68; refine (specIsV_v ds b x _ _ _ _ HF.out.sd HV.out).mono ?_; rintro e w' ⟨rfl, hb⟩)
    go_ret
    exact ⟨by rw [HM.out]; first | done | rfl, HF.out.after hb⟩
  · obtain ⟨u, hy⟩ : ∃ u, mIsV ds b y = u := ⟨_, rfl⟩
    have HM : Hid (mTwo ds b x y = u) := Lib.hid (by unfold mTwo; rw [hv, hy]; rfl)
    have HV := Lib.hid hv
    have HY := Lib.hid hy
    clear hv hy
    go_enter Try.func79, Try.ntmps79
    go_wp2_with fail
    refine (specIsV_v ds b x _ _ _ _ HF.out.sd HV.out).mono ?_
    rintro e w1 ⟨rfl, hb⟩
    have HF1 := Lib.hid (HF.out.call hb)
    have c0 := HF1.out.c0
    have c1 := HF1.out.c1
    clear hb HF
    go_wp2_with fail
    refine (specIsV_v ds b y _ _ _ _ HF1.out.sd HY.out).mono ?_
    rintro e w2 ⟨rfl, hb⟩
    have HB2 := Lib.hid (HF1.out.after hb)
    clear hb
    go_wp2
    go_ret
    exact ⟨by rw [HM.out]; first | done | rfl, HB2.out⟩

set_option maxHeartbeats 2000000 in
theorem specOr_v (ds : List D) (b : Int) (x y : Int) (A : Option Addr) (m c : Nat) (w : World) (hr : SD w w.heap.size A m c ds) {r : Int} (hm : mOp orN ds b x y = r) :
    Calls Try.prog 26 #[.agg #[.slice A m c, .int .i64 b], .int .i64 x, .int .i64 y] w (fun e w' => e = .returned (.int .i64 r) ∧ Below w.heap.size w w') := by
  subst hm
  have HF := Lib.hid (FB.start hr b)
  clear hr
  cases hv : mTwo ds b x y
  · have HV := Lib.hid hv
    have HM : Hid (mOp orN ds b x y = -1) := Lib.hid (if_no hv)
    clear hv
    go_enter Try.func26, Try.ntmps26
    go_wp2_with (go_at_call 79; refine (twoV_v ds b x y _ _ _ _ HF.out.sd HV.out).mono ?_; rintro e w' ⟨rfl, hb⟩)
    go_ret
    exact ⟨by rw [HM.out]; first | done | rfl, HF.out.after hb⟩
  · obtain ⟨p, rfl, hp⟩ := mIsV_nat (mTwo_1 hv)
    obtain ⟨q, rfl, hq⟩ := mIsV_nat (mTwo_2 hv)
    have HV := Lib.hid hv
    obtain ⟨r, hr⟩ : ∃ r, orN p q = r := ⟨_, rfl⟩
    have HM : Hid (mOp orN ds b p q = (r : Int)) := Lib.hid (by unfold mOp; rw [hv, if_pos rfl, Int.toNat_natCast, Int.toNat_natCast, hr])
    have HR := Lib.hid hr
    clear hv hr
    go_enter Try.func26, Try.ntmps26
    go_wp2_with fail
    refine (twoV_v ds b p q _ _ _ _ HF.out.sd HV.out).mono ?_
    rintro e w1 ⟨rfl, hb⟩
    have HB1 := Lib.hid (HF.out.after hb)
    clear hb
    go_wp2_with fail
    refine (either_any p q _ hp hq HR.out).mono ?_
    rintro e w2 ⟨rfl, rfl⟩
    go_wp2
    go_ret
    exact ⟨by rw [HM.out]; first | done | rfl, HB1.out⟩

set_option maxHeartbeats 4000000 in
theorem inside_any (ds : List D) (a : Nat) (A : Option Addr) (n c : Nat) (w : World) (hr : SD w w.heap.size A n c ds) (ha : a < 4096) :
    Calls Try.prog 70 #[.slice A n c, .int .i64 a] w (DefsP (mIn ds a) w) := by
  have HR := Lib.hid hr
  have HOK : Hid (∀ d ∈ mSg ds, d.ok) := Lib.hid (mSg_ok hr.ok)
  have HL : Hid ((mSg ds).length ≤ 12) := Lib.hid (mSg_len ds)
  have HP : Hid (∀ d ∈ mSg ds, ∃ x : Nat, x < 4096 ∧ d.val = x ∧ fitIn a d = decide (0 < x &&& a)) := Lib.hid fun d hd => by
    obtain ⟨_, i, hi, e⟩ := sgTo_in hd
    have h2 : d.val.toNat = 2 ^ i := by rw [e, Int.toNat_natCast]
    exact ⟨2 ^ i, Nat.pow_lt_pow_right (n := 12) (by decide) hi, e, by rw [← h2]; exact sg_fit hd a⟩
  have HSG : Hid (∀ (A : Option Addr) (n c : Nat) (w : World), SD w w.heap.size A n c ds → Calls Try.prog 115 #[.slice A n c] w (DefsP (mSg ds) w)) := Lib.hid fun A n c w h => singles_any ds A n c w h
  show Calls Try.prog 70 #[.slice A n c, .int .i64 a] w (DefsP (mWithin (mSg ds) a) w)
  clear hr
  generalize mSg ds = ms at *
  have hl12 : ms.length ≤ 12 := HL.out
  go_enter Try.func70, Try.ntmps70
  go_wp2_with fail
  have hb : Below w.heap.size w (w.alloc (.cells #[] 59)) := (Below.refl _ _).alloc (Nat.le_refl _) _
  have ho : (w.alloc (.cells #[] 59)).ownsRow w.heap.size 59 2 (.slice (some ⟨w.heap.size, 0, none⟩) 0 0) 0 (flat []) := World.ownsRow_made w #[] 0 (Nat.le_refl _) (by unfold maxLen; omega) rfl
  have hs1 : w.heap.size + 1 ≤ (w.alloc (.cells #[] 59)).heap.size := by simp
  generalize (w.alloc (.cells #[] 59)) = w1 at *
  have HB1 := Lib.hid hb
  have HO1 := Lib.hid ho
  clear hb ho
  refine (HSG.out _ _ _ _ ((HR.out.below HB1.out).call HB1.out.size)).mono ?_
  rintro e w2 ⟨As, cs, rfl, ho, hb⟩
  have HS2 := Lib.hid ho
  have HB2 : Hid (Below w.heap.size w w2) := Lib.hid (HB1.out.trans (hb.mono HB1.out.size))
  have hs2 : w1.heap.size ≤ w2.heap.size := hb.size
  have HO2 := Lib.hid (own_below HO1.out hb)
  have HQ : Hid (∀ q, (Value.slice As ms.length cs).ownBlock = some q → w1.heap.size ≤ q ∧ q < w2.heap.size) := Lib.hid fun q hq => ho.lt q hq
  have HAP : Hid (Apart (.slice (some ⟨w.heap.size, 0, none⟩) 0 0) (.slice As ms.length cs)) := Lib.hid (.inr fun e => by have := (ho.lt w.heap.size (by rw [← e]; rfl)).1; omega)
  clear hb ho HB1 HO1 HSG HR
  go_wp2
  go_loopw [5, 7] (fun v i wr => ∃ k : Nat, k ≤ ms.length ∧ i = .int .i64 k ∧ Hid (wr.ownsRow w.heap.size 59 2 v (inTo ms a k).length (flat (inTo ms a k))) ∧ Hid (wr.ownsRow w1.heap.size 59 2 (.slice As ms.length cs) ms.length (flat ms)) ∧ Hid (Apart v (.slice As ms.length cs)) ∧ Hid (Below w.heap.size w wr) ∧ Hid (w2.heap.size ≤ wr.heap.size)) (fun _ i _ => ms.length - (intOf i).toNat)
  case atStart => exact ⟨0, Nat.zero_le _, rfl, HO2, HS2, HAP, HB2, Lib.hid (Nat.le_refl _)⟩
  case round =>
    clear HO2 HS2 HAP HB2
    obtain ⟨k, hk, rfl, hown, hS, hap, hbel, hsz⟩ := hrel
    by_cases hlt : k < ms.length
    · obtain ⟨x, hx4, hx, hfit⟩ := HP.out _ (List.getElem_mem hlt)
      obtain ⟨b, o, hA, hbb, c1, c2⟩ := (sd_of_own hS.out HOK.out).at_ hlt
      subst hA
      have HT := Lib.hid (inTo_succ ms a k hlt)
      have HE : Hid (encD ms[k] = [.string ms[k].name, .int .i64 x]) := Lib.hid (by unfold encD; rw [hx])
      have HLN := Lib.hid (inTo_len ms a k)
      have hi1 : (k : Int) < (ms.length : Int) := by omega
      rw [hx] at c2
      clear hx
      obtain ⟨z, hz⟩ : ∃ z, x &&& a = z := ⟨_, rfl⟩
      rw [hz] at hfit
      have HZ := Lib.hid hz
      have HF := Lib.hid hfit
      clear hz hfit
      by_cases h1 : 0 < z
      · have HTT : Hid (inTo ms a (k + 1) = inTo ms a k ++ [ms[k]]) := Lib.hid (by rw [HT.out, HF.out, decide_eq_true h1]; rfl)
        go_wp2_with (first | (go_at_call 116; refine (both_v x a _ hx4 ha HZ.out).mono ?_; rintro e w' ⟨rfl, rfl⟩) | (at_builtin; refine wpList_app_Dw _ Try.underlying23 rfl _ _ rfl _ _ _ _ rfl hown.out _ _ _ _ rfl (by first | rfl | simp) (by have := HLN.out; have := HL.out; omega) hbel.out.size ?_; intro v' w3 ho1 hg1 hw1; have HO1 := Lib.hid ho1; have HG1 := Lib.hid hg1; have HW1 := Lib.hid hw1; clear ho1 hg1 hw1))
        go_roundw
        case rel => exact ⟨k + 1, by omega, by go_num, Lib.hid (by rw [HTT.out, List.length_append]; simpa [flat, HE.out] using HO1.out), Lib.hid (own_kept_app hS.out HG1.out hap.out), Lib.hid (hap.out.app HW1.out (fun q hq => by have := (HQ.out q hq).2; have := hsz.out; omega)), Lib.hid (hbel.out.grown HG1.out hbel.out.size (fun q hq => (hown.out.lt q hq).1)), Lib.hid (by have := HG1.out.size; have := hsz.out; omega)⟩
        case measure => simp [intOf]; omega
      · have HTT : Hid (inTo ms a (k + 1) = inTo ms a k) := Lib.hid (by rw [HT.out, HF.out, decide_eq_false h1]; simp)
        go_wp2_with (go_at_call 116; refine (both_v x a _ hx4 ha HZ.out).mono ?_; rintro e w' ⟨rfl, rfl⟩)
        go_roundw
        case rel => exact ⟨k + 1, by omega, by go_num, Lib.hid (by rw [HTT.out]; exact hown.out), hS, hap, hbel, hsz⟩
        case measure => simp [intOf]; omega
    · obtain rfl : k = ms.length := by omega
      go_wp2
      go_ret
      obtain ⟨A', c', hv⟩ := own_form hown.out
      subst hv
      have h2 := hown.out
      have e1 : inTo ms a ms.length = mWithin ms a := by unfold inTo; rw [List.take_of_length_le (Nat.le_refl _)]
      rw [e1] at h2 ⊢
      exact ⟨A', c', rfl, h2, hbel.out⟩
set_option maxHeartbeats 2000000 in
theorem specNamesIn_any (ds : List D) (b : Int) (x : Int) (A : Option Addr) (m c : Nat) (w : World) (hr : SD w w.heap.size A m c ds)  :
    Calls Try.prog 18 #[.agg #[.slice A m c, .int .i64 b], .int .i64 x] w (StrsP (mNamesIn ds b x) w) := by
  have HF := Lib.hid (FB.start hr b)
  have HOK := Lib.hid hr.ok
  clear hr
  cases hv : mIsV ds b x
  · have HV := Lib.hid hv
    have HM : Hid (mNamesIn ds b x = []) := Lib.hid (if_no hv)
    clear hv
    go_enter Try.func18, Try.ntmps18
    go_wp2_with (go_at_call 68; refine (specIsV_v ds b x _ _ _ _ HF.out.sd HV.out).mono ?_; rintro e w' ⟨rfl, hb⟩)
    go_ret
    exact ⟨none, 0, by rw [HM.out]; rfl, by rw [HM.out]; exact World.ownsRow_nil _ _ _ _, HF.out.after hb⟩
  · obtain ⟨p, rfl, hp⟩ := mIsV_nat hv
    have HV := Lib.hid hv
    have HM : Hid (mNamesIn ds b p = (mIn ds p).map (·.name)) := Lib.hid (by unfold mNamesIn; rw [hv, if_pos rfl, Int.toNat_natCast])
    have HL : Hid ((mIn ds p).length ≤ 1048576) := Lib.hid (by have := mIn_len ds p; omega)
    have HOK2 : Hid (∀ d ∈ mIn ds p, d.ok) := Lib.hid fun d hd => mSg_ok HOK.out d (mWithin_mem hd)
    clear hv
    go_enter Try.func18, Try.ntmps18
    go_wp2_with fail
    refine (specIsV_v ds b p _ _ _ _ HF.out.sd HV.out).mono ?_
    rintro e w1 ⟨rfl, hb⟩
    have HF1 := Lib.hid (HF.out.call hb)
    have c0 := HF1.out.c0
    clear hb HF
    go_wp2_with fail
    refine (inside_any ds p _ _ _ _ HF1.out.sd hp).mono ?_
    rintro e w2 ⟨A2, k2, rfl, ho, hb⟩
    have HS2 := Lib.hid (sd_of_own ho HOK2.out)
    have HB2 := Lib.hid (HF1.out.after hb)
    clear ho hb
    go_wp2_with fail
    refine (namesOf_any (mIn ds p) _ _ _ _ HS2.out HL.out).mono ?_
    rintro e w3 ⟨A3, k3, rfl, ho, hb⟩
    have HO3 := Lib.hid ho
    have HB3 := Lib.hid hb
    clear ho hb
    go_wp2
    go_ret
    exact ⟨A3, k3, by rw [HM.out, List.length_map]; rfl, by rw [HM.out, List.length_map]; rw [List.length_map] at HO3; exact own_base HO3.out HB2.out.size, HB2.out.trans (HB3.out.mono HB2.out.size)⟩

set_option maxHeartbeats 2000000 in
theorem specRestIn_v (ds : List D) (b : Int) (x : Int) (A : Option Addr) (m c : Nat) (w : World) (hr : SD w w.heap.size A m c ds) {r : Int} (hm : mRestIn ds b x = r) :
    Calls Try.prog 30 #[.agg #[.slice A m c, .int .i64 b], .int .i64 x] w (fun e w' => e = .returned (.int .i64 r) ∧ Below w.heap.size w w') := by
  subst hm
  have HF := Lib.hid (FB.start hr b)
  have HOK := Lib.hid hr.ok
  clear hr
  cases hv : mIsV ds b x
  · have HV := Lib.hid hv
    have HM : Hid (mRestIn ds b x = -1) := Lib.hid (if_no hv)
    clear hv
    go_enter Try.func30, Try.ntmps30
    go_wp2_with (go_at_call 68; refine (specIsV_v ds b x _ _ _ _ HF.out.sd HV.out).mono ?_; rintro e w' ⟨rfl, hb⟩)
    go_ret
    exact ⟨by rw [HM.out]; first | done | rfl, HF.out.after hb⟩
  · obtain ⟨p, rfl, hp⟩ := mIsV_nat hv
    have HV := Lib.hid hv
    have hin : ∀ d ∈ mIn ds p, inR d := fun d hd => mSg_in (vFlag_in (mIsV_flag hv)) d (mWithin_mem hd)
    obtain ⟨z, hz⟩ : ∃ z, mMask (mIn ds p) = z := ⟨_, rfl⟩
    obtain ⟨r, hr⟩ : ∃ r, nl p z = r := ⟨_, rfl⟩
    have HM : Hid (mRestIn ds b p = (r : Int)) := Lib.hid (by unfold mRestIn; rw [hv, if_pos rfl, Int.toNat_natCast, ← hr, ← hz, mIn_mask])
    have hz4 : z < 4096 := by rw [← hz]; exact mMask_lt12 hin
    have HIN := Lib.hid hin
    have HOK2 : Hid (∀ d ∈ mIn ds p, d.ok) := Lib.hid fun d hd => mSg_ok HOK.out d (mWithin_mem hd)
    have HZ := Lib.hid hz
    have HR := Lib.hid hr
    clear hv hz hr hin
    go_enter Try.func30, Try.ntmps30
    go_wp2_with fail
    refine (specIsV_v ds b p _ _ _ _ HF.out.sd HV.out).mono ?_
    rintro e w1 ⟨rfl, hb⟩
    have HF1 := Lib.hid (HF.out.call hb)
    have c0 := HF1.out.c0
    clear hb HF
    go_wp2_with fail
    refine (inside_any ds p _ _ _ _ HF1.out.sd hp).mono ?_
    rintro e w2 ⟨A2, k2, rfl, ho, hb⟩
    have HS2 := Lib.hid (sd_of_own ho HOK2.out)
    have HB2 := Lib.hid (HF1.out.after hb)
    clear ho hb
    go_wp2_with fail
    refine (mask_any (mIn ds p) _ _ _ _ HS2.out HIN.out HZ.out).mono ?_
    rintro e w3 ⟨rfl, rfl⟩
    go_wp2_with fail
    refine (less_any p z _ hp hz4 HR.out).mono ?_
    rintro e w4 ⟨rfl, rfl⟩
    go_wp2
    go_ret
    exact ⟨by rw [HM.out]; first | done | rfl, HB2.out⟩

set_option maxHeartbeats 2000000 in
theorem specCount_v (ds : List D) (b : Int) (x : Int) (A : Option Addr) (m c : Nat) (w : World) (hr : SD w w.heap.size A m c ds) {r : Int} (hm : mCount ds b x = r) :
    Calls Try.prog 34 #[.agg #[.slice A m c, .int .i64 b], .int .i64 x] w (fun e w' => e = .returned (.int .i64 r) ∧ Below w.heap.size w w') := by
  subst hm
  have HF := Lib.hid (FB.start hr b)
  clear hr
  cases hv : mIsV ds b x
  · have HV := Lib.hid hv
    have HM : Hid (mCount ds b x = -1) := Lib.hid (if_no hv)
    clear hv
    go_enter Try.func34, Try.ntmps34
    go_wp2_with (go_at_call 68; refine (specIsV_v ds b x _ _ _ _ HF.out.sd HV.out).mono ?_; rintro e w' ⟨rfl, hb⟩)
    go_ret
    exact ⟨by rw [HM.out]; first | done | rfl, HF.out.after hb⟩
  · obtain ⟨p, rfl, hp⟩ := mIsV_nat hv
    have HV := Lib.hid hv
    obtain ⟨r, hr⟩ : ∃ r, popc p = r := ⟨_, rfl⟩
    have HM : Hid (mCount ds b p = (r : Int)) := Lib.hid (by unfold mCount; rw [hv, if_pos rfl, Int.toNat_natCast, hr])
    have HR := Lib.hid hr
    have hp6 : p ≤ 1000000 := by omega
    clear hv hr
    go_enter Try.func34, Try.ntmps34
    go_wp2_with fail
    refine (specIsV_v ds b p _ _ _ _ HF.out.sd HV.out).mono ?_
    rintro e w1 ⟨rfl, hb⟩
    have HF1 := Lib.hid (HF.out.call hb)
    have c0 := HF1.out.c0
    clear hb HF
    go_wp2_with fail
    refine (bitCount_any p _ hp6 HR.out).mono ?_
    rintro e w2 ⟨rfl, rfl⟩
    go_wp2
    go_ret
    exact ⟨by rw [HM.out]; first | done | rfl, HF1.out.bel⟩

set_option maxHeartbeats 2000000 in
theorem specCmp_v (ds : List D) (b : Int) (x y : Int) (A : Option Addr) (m c : Nat) (w : World) (hr : SD w w.heap.size A m c ds) {r : Int} (hm : mCmp ds b x y = r) :
    Calls Try.prog 38 #[.agg #[.slice A m c, .int .i64 b], .int .i64 x, .int .i64 y] w (fun e w' => e = .returned (.int .i64 r) ∧ Below w.heap.size w w') := by
  subst hm
  have HF := Lib.hid (FB.start hr b)
  clear hr
  cases hv : mTwo ds b x y
  · have HV := Lib.hid hv
    have HM : Hid (mCmp ds b x y = 3) := Lib.hid (if_no hv)
    clear hv
    go_enter Try.func38, Try.ntmps38
    go_wp2_with (go_at_call 79; refine (twoV_v ds b x y _ _ _ _ HF.out.sd HV.out).mono ?_; rintro e w' ⟨rfl, hb⟩)
    go_ret
    exact ⟨by rw [HM.out]; first | done | rfl, HF.out.after hb⟩
  · obtain ⟨p, rfl, hp⟩ := mIsV_nat (mTwo_1 hv)
    obtain ⟨q, rfl, hq⟩ := mIsV_nat (mTwo_2 hv)
    have HV := Lib.hid hv
    have hM : mCmp ds b p q = cmpN p q := by unfold mCmp; rw [hv, if_pos rfl, Int.toNat_natCast, Int.toNat_natCast]
    obtain ⟨s, hs⟩ : ∃ s, nl p q = s := ⟨_, rfl⟩
    obtain ⟨u, hu⟩ : ∃ u, nl q p = u := ⟨_, rfl⟩
    have HS := Lib.hid hs
    have HU := Lib.hid hu
    clear hv
    by_cases he : p = q
    · have HM : Hid (mCmp ds b p q = 0) := Lib.hid (by rw [hM]; unfold cmpN; rw [if_pos he])
      have e1 : ((p : Int) == (q : Int)) = true := by rw [beq_iff_eq]; omega
      clear hM hs hu he
      go_enter Try.func38, Try.ntmps38
      go_wp2_with (go_at_call 79; refine (twoV_v ds b p q _ _ _ _ HF.out.sd HV.out).mono ?_; rintro e w1 ⟨rfl, hb⟩; have HB1 := Lib.hid (HF.out.after hb); clear hb)
      go_ret
      exact ⟨by rw [HM.out]; first | done | rfl, HB1.out⟩
    · have e1 : ((p : Int) == (q : Int)) = false := by rw [beq_eq_false_iff_ne]; omega
      by_cases hs0 : s = 0
      · have HM : Hid (mCmp ds b p q = -1) := Lib.hid (by rw [hM]; unfold cmpN; rw [if_neg he, hs, if_pos hs0])
        subst hs0
        clear hM hs hu he
        go_enter Try.func38, Try.ntmps38
        go_wp2_with (first | (go_at_call 79; refine (twoV_v ds b p q _ _ _ _ HF.out.sd HV.out).mono ?_; rintro e w1 ⟨rfl, hb⟩; have HB1 := Lib.hid (HF.out.after hb); clear hb) | (go_at_call 81; refine (less_any p q _ hp hq HS.out).mono ?_; rintro e w2 ⟨rfl, rfl⟩))
        go_ret
        exact ⟨by rw [HM.out]; first | done | rfl, HB1.out⟩
      · have e2 : ((s : Int) == 0) = false := by rw [beq_eq_false_iff_ne]; omega
        by_cases hu0 : u = 0
        · have HM : Hid (mCmp ds b p q = 1) := Lib.hid (by rw [hM]; unfold cmpN; rw [if_neg he, hs, if_neg hs0, hu, if_pos hu0])
          subst hu0
          clear hM hs hu he hs0
          go_enter Try.func38, Try.ntmps38
          go_wp2_with (first | (go_at_call 79; refine (twoV_v ds b p q _ _ _ _ HF.out.sd HV.out).mono ?_; rintro e w1 ⟨rfl, hb⟩; have HB1 := Lib.hid (HF.out.after hb); clear hb) | (go_at_call 81; first | (refine (less_any p q _ hp hq HS.out).mono ?_; rintro e w2 ⟨rfl, rfl⟩) | (refine (less_any q p _ hq hp HU.out).mono ?_; rintro e w2 ⟨rfl, rfl⟩)))
          go_ret
          exact ⟨by rw [HM.out]; first | done | rfl, HB1.out⟩
        · have HM : Hid (mCmp ds b p q = 2) := Lib.hid (by rw [hM]; unfold cmpN; rw [if_neg he, hs, if_neg hs0, hu, if_neg hu0])
          have e3 : ((u : Int) == 0) = false := by rw [beq_eq_false_iff_ne]; omega
          clear hM hs hu he hs0 hu0
          go_enter Try.func38, Try.ntmps38
          go_wp2_with (first | (go_at_call 79; refine (twoV_v ds b p q _ _ _ _ HF.out.sd HV.out).mono ?_; rintro e w1 ⟨rfl, hb⟩; have HB1 := Lib.hid (HF.out.after hb); clear hb) | (go_at_call 81; first | (refine (less_any p q _ hp hq HS.out).mono ?_; rintro e w2 ⟨rfl, rfl⟩) | (refine (less_any q p _ hq hp HU.out).mono ?_; rintro e w2 ⟨rfl, rfl⟩)))
          go_ret
          exact ⟨by rw [HM.out]; first | done | rfl, HB1.out⟩

end Go.Proofs.Ytmahjggkiikmgaa
