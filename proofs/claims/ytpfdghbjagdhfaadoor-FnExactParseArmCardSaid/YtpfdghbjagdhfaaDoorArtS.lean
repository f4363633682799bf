import Derived.Test.YtpfdghbjagdhfaaDoorAtP
import Derived.Test.YtpfdghbjagdhfaaDoorArmS
import Derived.Test.YtpfdghbjagdhfaaDoorAlgS
import Derived.Test.YtpfdghbjagdhfaaDoorBaseX
namespace Go.Proofs.YtpfdghbjagdhfaaDoor
open Go.RowKit Go.Maps
set_option linter.unusedVariables false
set_option linter.unusedSimpArgs false
set_option maxRecDepth 100000

/-! ### a text appended beside another row -/
theorem run_app_Sw (X : World) (base : Nat) (t ty : TypeId) (ht : Tryd.prog.underlying t = some (.slice 9)) (v : Value) (n : Nat) (xs : List Value) (hown : X.ownsRow base 9 1 v n xs) (nm : ByteArray) (g c : Nat)
    (hblk : X.heap[g]? = some (.cells #[.string nm] 9 (0, 0))) (hn : n ≤ 2000000) (hbase : base ≤ X.heap.size) :
    ∃ v' w', (Builtin.append_ #[t, t] ty #[v, .slice (some ⟨g, 0, none⟩) 1 c]).run Tryd.prog X = .ok v' w' ∧ w'.ownsRow base 9 1 v' (n + 1) (xs ++ [.string nm]) ∧ X.grownBy w' v.ownBlock ∧ Where X v v' := by
  obtain ⟨i0, hi, hz0, hz1, hz2⟩ := info_parts info_S
  obtain ⟨v', w', hr, h2, h3, _, h5⟩ := run_append_own_at (P := Tryd.prog) X base t ty _ i0 _ 1 16 ht hi hz0 hz1 hz2 rfl (by omega) v n xs hown ⟨g, 0, none⟩ 1 c [.string nm] rfl
    (World.news_of_block hblk) (by simp [Value.oneCell']) (by unfold maxLen; omega) (by omega) hbase
  refine ⟨v', w', hr, h2, h3, fun q hq hne => ?_⟩
  rcases h5 with h5 | h5
  · rw [h5]; exact hne
  · rw [h5]; intro e; injection e with e; omega
theorem wpList_app_Sw {W : World} {ops : Array Oper} {rest : List Oper} {o : Oper} {a : Act} {Q : Exit → Act → World → Prop} (t : TypeId) (ht : Tryd.prog.underlying t = some (.slice 9)) (hgd : o.guard = none) (s x : Operand) (ho : o.op = .call { callee := .builtin .append, args := #[s, x], argTypes := #[t, t] })
    (base : Nat) (v : Value) (n : Nat) (xs : List Value) (hs : a.eval s = v) (hown : W.ownsRow base 9 1 v n xs) (nm : ByteArray)
    (c g : Nat) (hx : a.eval x = .slice (some ⟨g, 0, none⟩) 1 c) (hgw : g = W.heap.size) (hn : n ≤ 2000000) (hbase : base ≤ W.heap.size)
    (h : ∀ v' w', w'.ownsRow base 9 1 v' (n + 1) (xs ++ [.string nm]) → W.grownBy w' v.ownBlock → Where W v v' → wpList Tryd.prog ops Q rest (a.put o.dst v') w') :
    wpList Tryd.prog ops Q (o :: rest) a (W.alloc (.cells #[.string nm] 9)) := by
  subst hgw
  obtain ⟨v', w', hr, h2, h3, h4⟩ := run_app_Sw _ base t o.type ht v n xs (hown.alloc (.cells #[.string nm] 9)) nm W.heap.size c (heap_alloc_new W _) hn (by simp; omega)
  refine Lib.wpList_append_run _ hgd s x _ _ ho v _ hs hx v' w' hr (h v' w' h2 ((World.grownBy_alloc _ _ _).trans h3) (fun q hq hne => h4 q (by simp; omega) hne))
theorem undrewG {w w' : World} {row : Option Nat} (k : Nat) (h : (w.drewN k).grownBy w' row) : w.grownBy w' row := ⟨h.os, h.tape, h.output, h.size, h.block⟩
theorem undrewW {w : World} {v v' : Value} (k : Nat) (h : Where (w.drewN k) v v') : Where w v v' := h
theorem ms_two {ds : List D} : ∀ d ∈ mSg ds, ∃ x : Nat, x < 4096 ∧ d.val = x := fun d hd => by
  obtain ⟨_, i, hi, e⟩ := mSg_sub hd
  exact ⟨2 ^ i, Nat.pow_lt_pow_right (by decide) hi, e⟩
theorem sp_size {ws : List ByteArray} (hS : ∀ s ∈ ws, s.size ≤ 8) (hl : ws.length ≤ 100) : ∀ k, k ≤ ws.length → (joinW (ws.take k) spB).size ≤ 1000 := by
  intro k hk
  have h1 := joinW_size (sep := spB) hS k hk
  have h2 : spB.size = 1 := rfl
  rw [h2] at h1
  omega

theorem ms_three {ds : List D} {p q : Nat} (hpq : p &&& q = 0) : ∀ d ∈ mSg ds, ∃ x : Nat, x < 4096 ∧ d.val = x ∧ (0 < x &&& p → x &&& q = 0) := fun d hd => by
  obtain ⟨_, i, hi, e⟩ := mSg_sub hd
  refine ⟨2 ^ i, Nat.pow_lt_pow_right (by decide) hi, e, fun h => ?_⟩
  have h2 := word_two (q := q) e hpq (by rw [e, Int.toNat_natCast]; omega)
  rw [e, Int.toNat_natCast] at h2
  omega
theorem far_of {w w' : World} {v : Value} {bb o n c : Nat} {a : Addr} (hg : w.grownBy w' v.ownBlock) (ha : Apart v (.slice (some ⟨bb, o, none⟩) n c)) (h : a.block = bb) (hb : bb < w.heap.size) : w'.cell? a = w.cell? a := by
  refine hg.cell_far a (by omega) ?_
  rcases ha with h2 | h2
  · rw [h2]; exact fun e => by cases e
  · rw [h]; exact fun e => h2 e.symm

set_option maxHeartbeats 8000000 in
theorem canTell_v (ds : List D) (b : Int) (p q : Nat) (A : Option Addr) (m c : Nat) (w : World) (hr : SD w w.heap.size A m c ds) (hv : vFlag ds b = true) (hp : p < 4096) (hq : q < 4096) {v : Bool} (hm : decide (nl (p ||| q) (mMask (mSg ds)) = 0) = v) :
    Calls Tryd.prog 77 #[.agg #[.slice A m c, .int .i64 b], .agg #[.int .i64 p, .int .i64 q]] w (fun e w' => e = .returned (.bool v) ∧ Below w.heap.size w w') := by
  have HF := Lib.hid ((FB.start hr b).alloc (.cells #[.int .i64 p, .int .i64 q] 27))
  have HC : Hid (C2 ((w.alloc (.cells #[.slice A m c, .int .i64 b] 32)).alloc (.cells #[.int .i64 p, .int .i64 q] 27)) (w.heap.size + 1) (.int .i64 p) (.int .i64 q)) := Lib.hid (c2New' _ _ _ _ _)
  have HOK := Lib.hid (mSg_ok hr.ok)
  have HIN := Lib.hid (mSg_in (vFlag_in hv))
  obtain ⟨k, hk⟩ : ∃ k, mMask (mSg ds) = k := ⟨_, rfl⟩
  have hk4 : k < 4096 := by rw [← hk]; exact mMask_lt12 HIN.out
  obtain ⟨u, hu⟩ : ∃ u, p ||| q = u := ⟨_, rfl⟩
  have hu4 : u < 4096 := by rw [← hu]; exact Nat.or_lt_two_pow (n := 12) hp hq
  obtain ⟨z, hz⟩ : ∃ z, nl u k = z := ⟨_, rfl⟩
  have HMM := Lib.hid hk
  have HU := Lib.hid hu
  have HZ := Lib.hid hz
  rw [hu, hk, hz] at hm
  have HM : Hid (v = decide (z = 0)) := Lib.hid hm.symm
  have HSG := Lib.hid (fun (A : Option Addr) (n c : Nat) (w : World) (hr : SD w w.heap.size A n c ds) => singles_any ds A n c w hr)
  unfold DefsP at HSG
  clear hr hv hk hu hz hm
  generalize mSg ds = ms at *
  go_enter Tryd.func77, Tryd.ntmps77
  go_wp2_with fail
  generalize ((w.alloc (.cells #[.slice A m c, .int .i64 b] 32)).alloc (.cells #[.int .i64 (p : Int), .int .i64 (q : Int)] 27)) = w0 at *
  have c0 := HF.out.c0
  have x0 := HC.out.c0
  have x1 := HC.out.c1
  go_region_held3 (fun w' => w'.cell? ⟨w.heap.size, 0, none⟩ = some (.slice A m c) ∧ w'.cell? ⟨w.heap.size + 1, 0, none⟩ = some (.int .i64 p) ∧ w'.cell? ⟨w.heap.size + 1, 1, none⟩ = some (.int .i64 q))
    (first | go_keep | exact ⟨c0, x0, x1⟩ | exact ⟨y0, y1, y2⟩)
    (first
      | (go_at_call 92; refine (either_any p q _ hp hq HU.out).mono ?_; rintro e w5 ⟨rfl, rfl⟩)
      | (go_at_call 130; refine (HSG.out _ _ _ _ (by first | exact HF.out.sd | exact (HF.out.drewN _).sd)).mono ?_; rintro e w2 ⟨A2, q2, rfl, ho, hb⟩; replace hb : Below w0.heap.size w0 w2 := (by first | exact hb | exact undrew hb); have HF2 := Lib.hid (HF.out.call hb); have HS2 := Lib.hid (sd_of_own ho HOK.out); have y0 := keep1 hb c0; have y1 := keep1 hb x0; have y2 := keep1 hb x1; clear ho hb)
      | (go_at_call 127; refine (mask_any ms _ _ _ _ (by first | exact HS2.out | exact HS2.out.drew | exact HS2.out.drewN _) HIN.out HMM.out).mono ?_; rintro e w6 ⟨rfl, rfl⟩)
      | (go_at_call 128; refine (less_any u k _ hu4 hk4 HZ.out).mono ?_; rintro e w7 ⟨rfl, rfl⟩))
  all_goals
    have HB2 := Lib.hid HF2.out.bel
    go_wp2
    go_ret
    exact ⟨ret_bool (by rw [HM.out, Bool.eq_iff_iff]; simp), HB2.out⟩

set_option maxHeartbeats 16000000 in
theorem armText_v (ds : List D) (b : Int) (p q : Nat) (A : Option Addr) (m c : Nat) (w : World) (hr : SD w w.heap.size A m c ds) (hv : vFlag ds b = true) (hp : p < 4096) (hq : q < 4096) (hpq : p &&& q = 0) :
    Calls Tryd.prog 78 #[.agg #[.slice A m c, .int .i64 b], .agg #[.int .i64 p, .int .i64 q]] w (fun e w' => e = .returned (.string (textA ds p q)) ∧ Below w.heap.size w w') := by
  obtain ⟨tx, htx⟩ : ∃ tx, textA ds p q = tx := ⟨_, rfl⟩
  have HTX : Hid (tx = if wordsA p q (mSg ds) = [] then starB else joinW (wordsA p q (mSg ds)) spB) := Lib.hid (by rw [← htx]; rfl)
  rw [htx]
  clear htx
  have HOK := Lib.hid (mSg_ok hr.ok)
  have HP : Hid (∀ d ∈ mSg ds, ∃ x : Nat, x < 4096 ∧ d.val = x ∧ (0 < x &&& p → x &&& q = 0)) := Lib.hid (ms_three hpq)
  have HWS : Hid (∀ s ∈ wordsA p q (mSg ds), s.size ≤ 8) := Lib.hid fun s hs => (textA_words hv p q s hs).1
  have HL : Hid ((mSg ds).length ≤ 12) := Lib.hid (by have := mSg_len ds; omega)
  have HN6 : Hid (∀ d ∈ mSg ds, d.name.size ≤ 6) := Lib.hid fun d hd => flag_name6 hv (mSg_sub hd).1
  have HSG := Lib.hid (fun (A : Option Addr) (n c : Nat) (w : World) (hr : SD w w.heap.size A n c ds) => singles_any ds A n c w hr)
  unfold DefsP at HSG
  obtain ⟨w1, hw⟩ : ∃ W : World, W = (((w.alloc (.cells #[.slice A m c, .int .i64 b] 32)).alloc (.cells #[.int .i64 (p : Int), .int .i64 (q : Int)] 27)).alloc (.cells #[] 9)) := ⟨_, rfl⟩
  have HF1 : Hid (FB w w1 w.heap.size A m c ds b) := Lib.hid (by rw [hw]; exact ((FB.start hr b).alloc _).alloc _)
  have HC1 : Hid (C2 w1 (w.heap.size + 1) (.int .i64 p) (.int .i64 q)) := Lib.hid (by rw [hw]; exact (c2New' _ _ _ _ _).low ((Below.refl _ _).alloc (Nat.le_refl _) _) (by simp))
  have HO1 : Hid (w1.ownsRow (w.heap.size + 1 + 1) 9 1 (.slice (some ⟨w.heap.size + 1 + 1, 0, none⟩) 0 0) 0 (flatS [])) := Lib.hid (by
    have h := World.ownsRow_made ((w.alloc (.cells #[.slice A m c, .int .i64 b] 32)).alloc (.cells #[.int .i64 (p : Int), .int .i64 (q : Int)] 27)) (e := 9) (size := 1) #[] 0 (Nat.le_refl _) (by unfold maxLen; omega) rfl
    have e : ((w.alloc (.cells #[.slice A m c, .int .i64 b] 32)).alloc (.cells #[.int .i64 (p : Int), .int .i64 (q : Int)] 27)).heap.size = w.heap.size + 1 + 1 := by simp
    rw [e] at h
    rw [hw]
    exact h)
  have hs1 : w.heap.size + 1 + 1 + 1 ≤ w1.heap.size := by rw [hw]; simp
  have f0 : (((w.alloc (.cells #[.slice A m c, .int .i64 b] 32)).alloc (.cells #[.int .i64 (p : Int), .int .i64 (q : Int)] 27)).alloc (.cells #[] 9)).cell? ⟨w.heap.size, 0, none⟩ = some (.slice A m c) := by rw [← hw]; exact HF1.out.c0
  have HW := Lib.hid hw.symm
  clear hr hv hw hpq
  generalize mSg ds = ms at *
  have hl12 : ms.length ≤ 12 := HL.out
  go_enter Tryd.func78, Tryd.ntmps78
  go_wp2_with fail
  rw [HW.out]
  clear HW f0
  refine (HSG.out _ _ _ _ HF1.out.sd).mono ?_
  rintro e w2 ⟨As, cs, rfl, ho, hb⟩
  have HS2 := Lib.hid ho
  have HF2 := Lib.hid (HF1.out.call hb)
  have HC2 := Lib.hid (HC1.out.below hb)
  have hs2 : w1.heap.size ≤ w2.heap.size := hb.size
  have HO2 := Lib.hid (own_below HO1.out hb)
  have HQ : Hid (∀ r, (Value.slice As ms.length cs).ownBlock = some r → w1.heap.size ≤ r ∧ r < w2.heap.size) := Lib.hid fun r hr => ho.lt r hr
  have HAP : Hid (Apart (.slice (some ⟨w.heap.size + 1 + 1, 0, none⟩) 0 0) (.slice As ms.length cs)) := Lib.hid (.inr fun e => by have := (ho.lt (w.heap.size + 1 + 1) (by rw [← e]; rfl)).1; omega)
  clear hb ho HF1 HC1 HO1 HSG
  go_wp2
  go_loopw [5, 7] (fun v i wr => ∃ (k nw : Nat) (ws : List ByteArray), k ≤ ms.length ∧ nw ≤ k ∧ i = .int .i64 k ∧ Hid (ws = wordsA p q (ms.take k)) ∧ Hid (ws.length = nw) ∧ Hid (wr.ownsRow (w.heap.size + 1 + 1) 9 1 v nw (flatS ws)) ∧ Hid (wr.ownsRow w1.heap.size 98 2 (.slice As ms.length cs) ms.length (flat ms)) ∧ Hid (Apart v (.slice As ms.length cs)) ∧ Hid (FB w wr w.heap.size A m c ds b) ∧ Hid (C2 wr (w.heap.size + 1) (.int .i64 p) (.int .i64 q)) ∧ w2.heap.size ≤ wr.heap.size) (fun _ i _ => ms.length - (intOf i).toNat)
  case atStart => exact ⟨0, 0, [], Nat.zero_le _, Nat.le_refl _, rfl, Lib.hid rfl, Lib.hid rfl, HO2, HS2, HAP, HF2, HC2, Nat.le_refl _⟩
  case round =>
    clear HO2 HS2 HAP HF2 HC2
    obtain ⟨k, nw, ws, hk, hnk, rfl, hws, hwl, hown, hS, hap, hf, hc, hsz⟩ := hrel
    by_cases hlt : k < ms.length
    · obtain ⟨x, hx4, hx, hxy⟩ := HP.out _ (List.getElem_mem hlt)
      obtain ⟨bb, o, hA, hbb, c1, c2⟩ := (sd_of_own hS.out HOK.out).at_ hlt
      subst hA
      have HT := Lib.hid (wordsA_succ p q hlt)
      have hn6 := HN6.out _ (List.getElem_mem hlt)
      have HWA : Hid (wordA p q ms[k] = if x &&& p ≠ 0 then [ms[k].name] else if x &&& q ≠ 0 then [bangB ++ ms[k].name] else []) := Lib.hid (by unfold wordA; rw [hx, Int.toNat_natCast])
      have hi1 : (k : Int) < (ms.length : Int) := by omega
      rw [hx] at c2
      clear hx
      generalize ms[k].name = s at *
      generalize wordA p q ms[k] = wd at *
      have x0 := hc.out.c0
      have x1 := hc.out.c1
      obtain ⟨z, hz⟩ : ∃ z, x &&& p = z := ⟨_, rfl⟩
      obtain ⟨y, hy⟩ : ∃ y, x &&& q = y := ⟨_, rfl⟩
      rw [hz, hy] at HWA hxy
      have HZ := Lib.hid hz
      have HY := Lib.hid hy
      clear hz hy
      have hzb : (bangB ++ s).size ≤ 7 := by rw [ByteArray.size_append]; show 1 + s.size ≤ 7; omega
      unfold bangB at hzb HWA
      by_cases h1 : 0 < z
      · have HTT : Hid (wordsA p q (ms.take (k + 1)) = ws ++ [s]) := Lib.hid (by rw [HT.out, hws.out, HWA.out, if_pos (by omega)])
        clear HT HWA
        have h2 : (0 : Int) < (z : Int) := by omega
        go_wp2_with fail
        go_region_held3 (fun w' => w'.cell? ⟨bb, o + k * 2 + 1, none⟩ = some (.int .i64 x) ∧ w'.cell? ⟨w.heap.size + 1, 0, none⟩ = some (.int .i64 p)) (first | go_keep | exact ⟨c2, x0⟩)
          (first | (go_at_call 129; refine (both_v x p _ hx4 hp HZ.out).mono ?_; rintro e w6 ⟨rfl, rfl⟩))
        have hbbq : bb < wr.drew.heap.size := hbb
        have howna := Lib.hid hown.out.drew
        have hSa : Hid (wr.drew.ownsRow w1.heap.size 98 2 (.slice (some ⟨bb, o, none⟩) ms.length cs) ms.length (flat ms)) := Lib.hid hS.out
        have hfa : Hid (FB w wr.drew w.heap.size A m c ds b) := Lib.hid (hf.out.drewN 1)
        have hca : Hid (C2 wr.drew (w.heap.size + 1) (.int .i64 p) (.int .i64 q)) := Lib.hid (hc.out.below (below_drewN (Below.refl _ _) 1))
        have hsza : w2.heap.size ≤ wr.drew.heap.size := hsz
        have c1a : wr.drew.cell? ⟨bb, o + k * 2, none⟩ = some (.string s) := c1
        have c2a : wr.drew.cell? ⟨bb, o + k * 2 + 1, none⟩ = some (.int .i64 x) := c2
        have x0a : wr.drew.cell? ⟨w.heap.size + 1, 0, none⟩ = some (.int .i64 p) := x0
        have x1a : wr.drew.cell? ⟨w.heap.size + 1, 1, none⟩ = some (.int .i64 q) := x1
        clear hown hS hf hc hsz c1 c2 x0 x1
        generalize wr.drew = wqa at *
        have hbba : bb < wqa.heap.size := hbbq
        have hy0 : y = 0 := hxy h1
        subst hy0
        go_wp2_with (at_builtin; refine wpList_app_Sw _ Tryd.underlying92 rfl _ _ rfl (w.heap.size + 1 + 1) _ _ _ rfl howna.out _ _ _ rfl (by first | rfl | simp) (by omega) (by omega) ?_; intro v' w3 ho1 hg1 hw1; have HO1 := Lib.hid ho1; have HG1 := Lib.hid hg1; have HW1 := Lib.hid hw1; have HB1 : Hid (Below (w.heap.size + 1 + 1) wqa w3) := Lib.hid ((Below.refl _ _).grown hg1 (by omega) (fun r hr => (howna.out.lt r hr).1)); clear ho1 hg1 hw1)
        have c2w : w3.cell? ⟨bb, o + k * 2 + 1, none⟩ = some (.int .i64 x) := (far_of HG1.out hap.out rfl hbba).trans c2a
        have HSw := Lib.hid (own_kept_app hSa.out HG1.out hap.out)
        have HCw := Lib.hid (hca.out.low HB1.out (by omega))
        have HFw := Lib.hid (fbG hfa.out HB1.out (by omega) (by omega))
        have HAw := Lib.hid (hap.out.app HW1.out (fun r hr => by have := (HQ.out r hr).2; omega))
        have x1w := HCw.out.c1
        have hszw := HB1.out.size
        go_region_held3 (fun w' => w'.cell? ⟨bb, o + k * 2 + 1, none⟩ = some (.int .i64 x) ∧ w'.cell? ⟨w.heap.size + 1, 1, none⟩ = some (.int .i64 q)) (first | go_keep | exact ⟨c2w, x1w⟩)
          (first | (go_at_call 129; refine (both_v x q _ hx4 hq HY.out).mono ?_; rintro e w6 ⟨rfl, rfl⟩))
        go_wp2
        go_roundw
        case rel => exact ⟨k + 1, nw + 1, _, by omega, by omega, by go_num, Lib.hid HTT.out.symm, Lib.hid (by rw [List.length_append, hwl.out]; rfl), Lib.hid (by simpa [flatS] using HO1.out.drew), Lib.hid HSw.out.drew, HAw, Lib.hid (HFw.out.drewN 1), Lib.hid (HCw.out.below (below_drewN (Below.refl _ _) 1)), Nat.le_trans hsza hszw⟩
        case measure => simp [intOf]; omega
      · have h2 : ¬ (0 : Int) < (z : Int) := by omega
        by_cases h3 : 0 < y
        · have HTT : Hid (wordsA p q (ms.take (k + 1)) = ws ++ [(⟨#[33]⟩ : ByteArray) ++ s]) := Lib.hid (by rw [HT.out, hws.out, HWA.out, if_neg (by omega), if_pos (by omega)])
          clear HT HWA
          have h4 : (0 : Int) < (y : Int) := by omega
          go_wp2_with fail
          go_region_held3 (fun w' => w'.cell? ⟨bb, o + k * 2 + 1, none⟩ = some (.int .i64 x) ∧ w'.cell? ⟨w.heap.size + 1, 0, none⟩ = some (.int .i64 p)) (first | go_keep | exact ⟨c2, x0⟩)
          (first | (go_at_call 129; refine (both_v x p _ hx4 hp HZ.out).mono ?_; rintro e w6 ⟨rfl, rfl⟩))
          have howna := Lib.hid hown.out.drew
          have hSa : Hid (wr.drew.ownsRow w1.heap.size 98 2 (.slice (some ⟨bb, o, none⟩) ms.length cs) ms.length (flat ms)) := Lib.hid hS.out
          have hfa : Hid (FB w wr.drew w.heap.size A m c ds b) := Lib.hid (hf.out.drewN 1)
          have hca : Hid (C2 wr.drew (w.heap.size + 1) (.int .i64 p) (.int .i64 q)) := Lib.hid (hc.out.below (below_drewN (Below.refl _ _) 1))
          have hsza : w2.heap.size ≤ wr.drew.heap.size := hsz
          have c1a : wr.drew.cell? ⟨bb, o + k * 2, none⟩ = some (.string s) := c1
          have c2a : wr.drew.cell? ⟨bb, o + k * 2 + 1, none⟩ = some (.int .i64 x) := c2
          have x0a : wr.drew.cell? ⟨w.heap.size + 1, 0, none⟩ = some (.int .i64 p) := x0
          have x1a : wr.drew.cell? ⟨w.heap.size + 1, 1, none⟩ = some (.int .i64 q) := x1
          clear hown hS hf hc hsz c1 c2 x0 x1
          generalize wr.drew = wqa at *
          go_wp2_with fail
          go_region_held3 (fun w' => w'.cell? ⟨bb, o + k * 2 + 1, none⟩ = some (.int .i64 x) ∧ w'.cell? ⟨w.heap.size + 1, 1, none⟩ = some (.int .i64 q)) (first | go_keep | exact ⟨c2a, x1a⟩)
          (first | (go_at_call 129; refine (both_v x q _ hx4 hq HY.out).mono ?_; rintro e w6 ⟨rfl, rfl⟩))
          have hownb := Lib.hid howna.out.drew
          have hSb : Hid (wqa.drew.ownsRow w1.heap.size 98 2 (.slice (some ⟨bb, o, none⟩) ms.length cs) ms.length (flat ms)) := Lib.hid hSa.out
          have hfb : Hid (FB w wqa.drew w.heap.size A m c ds b) := Lib.hid (hfa.out.drewN 1)
          have hcb : Hid (C2 wqa.drew (w.heap.size + 1) (.int .i64 p) (.int .i64 q)) := Lib.hid (hca.out.below (below_drewN (Below.refl _ _) 1))
          have hszb : w2.heap.size ≤ wqa.drew.heap.size := hsza
          have c1b : wqa.drew.cell? ⟨bb, o + k * 2, none⟩ = some (.string s) := c1a
          have c2b : wqa.drew.cell? ⟨bb, o + k * 2 + 1, none⟩ = some (.int .i64 x) := c2a
          have x0b : wqa.drew.cell? ⟨w.heap.size + 1, 0, none⟩ = some (.int .i64 p) := x0a
          have x1b : wqa.drew.cell? ⟨w.heap.size + 1, 1, none⟩ = some (.int .i64 q) := x1a
          clear howna hSa hfa hca hsza c1a c2a x0a x1a
          generalize wqa.drew = wqb at *
          go_wp2_with (at_builtin; refine wpList_app_Sw _ Tryd.underlying92 rfl _ _ rfl (w.heap.size + 1 + 1) _ _ _ rfl hownb.out _ _ _ rfl (by first | rfl | simp) (by omega) (by omega) ?_; intro v' w3 ho1 hg1 hw1; have HO1 := Lib.hid ho1; have HG1 := Lib.hid hg1; have HW1 := Lib.hid hw1; have HB1 : Hid (Below (w.heap.size + 1 + 1) wqb w3) := Lib.hid ((Below.refl _ _).grown hg1 (by omega) (fun r hr => (hownb.out.lt r hr).1)); clear ho1 hg1 hw1)
          go_roundw
          case rel => exact ⟨k + 1, nw + 1, _, by omega, by omega, by go_num, Lib.hid HTT.out.symm, Lib.hid (by rw [List.length_append, hwl.out]; rfl), Lib.hid (by simpa [flatS] using HO1.out), Lib.hid (own_kept_app hSb.out HG1.out hap.out), Lib.hid (hap.out.app HW1.out (fun r hr => by have := (HQ.out r hr).2; omega)), Lib.hid (fbG hfb.out HB1.out (by omega) (by omega)), Lib.hid (hcb.out.low HB1.out (by omega)), by have := HB1.out.size; omega⟩
          case measure => simp [intOf]; omega
        · have HTT : Hid (wordsA p q (ms.take (k + 1)) = ws) := Lib.hid (by rw [HT.out, hws.out, HWA.out, if_neg (by omega), if_neg (by omega), List.append_nil])
          clear HT HWA
          have h4 : ¬ (0 : Int) < (y : Int) := by omega
          go_wp2_with fail
          go_region_held3 (fun w' => w'.cell? ⟨bb, o + k * 2 + 1, none⟩ = some (.int .i64 x) ∧ w'.cell? ⟨w.heap.size + 1, 0, none⟩ = some (.int .i64 p)) (first | go_keep | exact ⟨c2, x0⟩)
          (first | (go_at_call 129; refine (both_v x p _ hx4 hp HZ.out).mono ?_; rintro e w6 ⟨rfl, rfl⟩))
          have howna := Lib.hid hown.out.drew
          have hSa : Hid (wr.drew.ownsRow w1.heap.size 98 2 (.slice (some ⟨bb, o, none⟩) ms.length cs) ms.length (flat ms)) := Lib.hid hS.out
          have hfa : Hid (FB w wr.drew w.heap.size A m c ds b) := Lib.hid (hf.out.drewN 1)
          have hca : Hid (C2 wr.drew (w.heap.size + 1) (.int .i64 p) (.int .i64 q)) := Lib.hid (hc.out.below (below_drewN (Below.refl _ _) 1))
          have hsza : w2.heap.size ≤ wr.drew.heap.size := hsz
          have c1a : wr.drew.cell? ⟨bb, o + k * 2, none⟩ = some (.string s) := c1
          have c2a : wr.drew.cell? ⟨bb, o + k * 2 + 1, none⟩ = some (.int .i64 x) := c2
          have x0a : wr.drew.cell? ⟨w.heap.size + 1, 0, none⟩ = some (.int .i64 p) := x0
          have x1a : wr.drew.cell? ⟨w.heap.size + 1, 1, none⟩ = some (.int .i64 q) := x1
          clear hown hS hf hc hsz c1 c2 x0 x1
          generalize wr.drew = wqa at *
          go_wp2_with fail
          go_region_held3 (fun w' => w'.cell? ⟨bb, o + k * 2 + 1, none⟩ = some (.int .i64 x) ∧ w'.cell? ⟨w.heap.size + 1, 1, none⟩ = some (.int .i64 q)) (first | go_keep | exact ⟨c2a, x1a⟩)
          (first | (go_at_call 129; refine (both_v x q _ hx4 hq HY.out).mono ?_; rintro e w6 ⟨rfl, rfl⟩))
          have hownb := Lib.hid howna.out.drew
          have hSb : Hid (wqa.drew.ownsRow w1.heap.size 98 2 (.slice (some ⟨bb, o, none⟩) ms.length cs) ms.length (flat ms)) := Lib.hid hSa.out
          have hfb : Hid (FB w wqa.drew w.heap.size A m c ds b) := Lib.hid (hfa.out.drewN 1)
          have hcb : Hid (C2 wqa.drew (w.heap.size + 1) (.int .i64 p) (.int .i64 q)) := Lib.hid (hca.out.below (below_drewN (Below.refl _ _) 1))
          have hszb : w2.heap.size ≤ wqa.drew.heap.size := hsza
          have c1b : wqa.drew.cell? ⟨bb, o + k * 2, none⟩ = some (.string s) := c1a
          have c2b : wqa.drew.cell? ⟨bb, o + k * 2 + 1, none⟩ = some (.int .i64 x) := c2a
          have x0b : wqa.drew.cell? ⟨w.heap.size + 1, 0, none⟩ = some (.int .i64 p) := x0a
          have x1b : wqa.drew.cell? ⟨w.heap.size + 1, 1, none⟩ = some (.int .i64 q) := x1a
          clear howna hSa hfa hca hsza c1a c2a x0a x1a
          generalize wqa.drew = wqb at *
          go_wp2
          go_roundw
          case rel => exact ⟨k + 1, nw, ws, by omega, by omega, by go_num, Lib.hid HTT.out.symm, hwl, hownb, hSb, hap, hfb, hcb, hszb⟩
          case measure => simp [intOf]; omega
    · obtain rfl : k = ms.length := by omega
      have hi9 : ¬ (ms.length : Int) < (ms.length : Int) := by omega
      obtain ⟨A', c', hv⟩ := own_form hown.out
      subst hv
      have HWE : Hid (wordsA p q ms = ws) := Lib.hid (by rw [hws.out, List.take_of_length_le (Nat.le_refl _)])
      have HB := Lib.hid hf.out.bel
      by_cases h0 : nw = 0
      · subst h0
        have HTS : Hid (tx = starB) := Lib.hid (by rw [HTX.out, HWE.out, if_pos (List.eq_nil_of_length_eq_zero hwl.out)])
        go_wp2
        go_ret
        exact ⟨by rw [HTS.out]; rfl, HB.out⟩
      · have h01 : ((nw : Int) == 0) = false := by rw [beq_eq_false_iff_ne]; omega
        have HTS : Hid (tx = joinW ws spB) := Lib.hid (by rw [HTX.out, HWE.out, if_neg (fun e => by have := hwl.out; rw [e] at this; exact h0 this.symm)])
        have HS8 : Hid (∀ s ∈ ws, s.size ≤ 8) := Lib.hid (by rw [← HWE.out]; exact HWS.out)
        have HSS : Hid (SS wr wr.heap.size A' nw c' ws) := Lib.hid (ss_of_own hown.out (fun s hs => by have := HS8.out s hs; unfold maxLen; omega))
        have HJ : Hid (∀ k, k ≤ ws.length → (joinW (ws.take k) spB).size ≤ 1000) := Lib.hid (sp_size HS8.out (by have := hwl.out; omega))
        go_wp2_with fail
        refine (joinWith_any ws spB _ _ _ _ HSS.out 1000 HJ.out (fun s hs => by have := HS8.out s hs; omega) (by decide) (by omega)).mono ?_
        rintro e w7 ⟨rfl, rfl⟩
        go_wp2
        go_ret
        exact ⟨by rw [HTS.out]; first | done | rfl, HB.out⟩
set_option maxHeartbeats 8000000 in
theorem specArmT_v (ds : List D) (b x y : Int) (A : Option Addr) (m c : Nat) (w : World) (hr : SD w w.heap.size A m c ds) :
    Calls Tryd.prog 38 #[.agg #[.slice A m c, .int .i64 b], .agg #[.int .i64 x, .int .i64 y]] w (fun e w' => e = .returned (.string (mArmT ds b ⟨x, y⟩)) ∧ Below w.heap.size w w') := by
  have HF := Lib.hid ((FB.start hr b).alloc (.cells #[.int .i64 x, .int .i64 y] 27))
  have HC : Hid (C2 ((w.alloc (.cells #[.slice A m c, .int .i64 b] 32)).alloc (.cells #[.int .i64 x, .int .i64 y] 27)) (w.heap.size + 1) (.int .i64 x) (.int .i64 y)) := Lib.hid (c2New' _ _ _ _ _)
  clear hr
  cases hu : mArm ds b ⟨x, y⟩
  · have HU := Lib.hid hu
    have HM : Hid (mArmT ds b ⟨x, y⟩ = ⟨#[]⟩) := Lib.hid (by unfold mArmT; rw [mArmOk_two, hu]; rfl)
    clear hu
    go_enter Tryd.func38, Tryd.ntmps38
    go_wp2_with fail
    generalize ((w.alloc (.cells #[.slice A m c, .int .i64 b] 32)).alloc (.cells #[.int .i64 x, .int .i64 y] 27)) = w0 at *
    refine (validArm_v ds b x y _ _ _ _ HF.out.sd HU.out).mono ?_
    rintro e w1 ⟨rfl, hb⟩
    have HB1 := Lib.hid (HF.out.after hb)
    clear hb HF HC
    go_wp2
    go_ret
    exact ⟨by rw [HM.out]; first | done | rfl, HB1.out⟩
  obtain ⟨p, q, e1, e2, hp, hq, _, _, hpq⟩ := mArm_nat hu
  have HPQ := Lib.hid hpq
  clear hpq
  simp only at e1 e2
  subst e1 e2
  have HU := Lib.hid hu
  have hvf : vFlag ds b = true := by
    unfold mArm at hu
    rw [Bool.and_eq_true] at hu
    exact hu.1
  have HV := Lib.hid hvf
  obtain ⟨z, hz⟩ : ∃ z, decide (nl (p ||| q) (mMask (mSg ds)) = 0) = z := ⟨_, rfl⟩
  have HZ := Lib.hid hz
  have HM : Hid (mArmT ds b ⟨p, q⟩ = if z then textA ds p q else ⟨#[]⟩) := Lib.hid (by unfold mArmT; rw [mArmOk_two, hu, Bool.true_and]; simp only [Int.toNat_natCast]; rw [hz])
  clear hu hvf hz
  go_enter Tryd.func38, Tryd.ntmps38
  go_wp2_with fail
  generalize ((w.alloc (.cells #[.slice A m c, .int .i64 b] 32)).alloc (.cells #[.int .i64 (p : Int), .int .i64 (q : Int)] 27)) = w0 at *
  refine (validArm_v ds b p q _ _ _ _ HF.out.sd HU.out).mono ?_
  rintro e w1 ⟨rfl, hb⟩
  have HF1 := Lib.hid (HF.out.call hb)
  have HC1 := Lib.hid (HC.out.below hb)
  have c0 := HF1.out.c0
  have c1 := HF1.out.c1
  have d0 := HC1.out.c0
  have d1 := HC1.out.c1
  clear hb HF HC
  go_wp2_with fail
  refine (canTell_v ds b p q _ _ _ _ HF1.out.sd HV.out hp hq HZ.out).mono ?_
  rintro e w2 ⟨rfl, hb⟩
  have HF2 := Lib.hid (HF1.out.call hb)
  have HC2 := Lib.hid (HC1.out.below hb)
  have k0 := HF2.out.c0
  have k1 := HF2.out.c1
  have l0 := HC2.out.c0
  have l1 := HC2.out.c1
  clear hb HF1 HC1 c0 c1 d0 d1
  cases z
  · have HB2 := Lib.hid HF2.out.bel
    go_wp2
    go_ret
    exact ⟨by rw [HM.out]; first | done | rfl, HB2.out⟩
  · have HM2 : Hid (mArmT ds b ⟨p, q⟩ = textA ds p q) := Lib.hid (by rw [HM.out]; rfl)
    have HAT := Lib.hid (fun (A : Option Addr) (m c : Nat) (w : World) (hr : SD w w.heap.size A m c ds) => armText_v ds b p q A m c w hr HV.out hp hq HPQ.out)
    generalize textA ds p q = tx at *
    go_wp2_with fail
    refine (HAT.out _ _ _ _ HF2.out.sd).mono ?_
    rintro e w3 ⟨rfl, hb⟩
    have HB3 := Lib.hid (HF2.out.after hb)
    clear hb
    go_wp2
    go_ret
    exact ⟨by rw [HM2.out]; first | done | rfl, HB3.out⟩
end Go.Proofs.YtpfdghbjagdhfaaDoor
