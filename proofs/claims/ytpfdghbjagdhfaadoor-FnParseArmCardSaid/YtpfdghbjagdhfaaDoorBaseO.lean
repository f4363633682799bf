import Derived.Test.YtpfdghbjagdhfaaDoorBaseN
import Derived.Test.YtpfdghbjagdhfaaDoorArmS
import Derived.Test.YtpfdghbjagdhfaaDoorAlgS
import Derived.Test.YtpfdghbjagdhfaaDoorBaseX
namespace Go.Proofs.YtpfdghbjagdhfaaDoor
open Go.RowKit Go.Maps
set_option linter.unusedVariables false
set_option linter.unusedSimpArgs false
set_option maxRecDepth 100000

/-! ### a text appended beside another row -/
theorem run_app_Sw (X : World) (base : Nat) (t ty : TypeId) (ht : Tryd.prog.underlying t = some (.slice 9)) (v : Value) (n : Nat) (xs : List Value) (hown : X.ownsRow base 9 1 v n xs) (nm : ByteArray) (g c : Nat)
    (hblk : X.heap[g]? = some (.cells #[.string nm] 9 (0, 0))) (hn : n ≤ 2000000) (hbase : base ≤ X.heap.size) :
    ∃ v' w', (Builtin.append_ #[t, t] ty #[v, .slice (some ⟨g, 0, none⟩) 1 c]).run Tryd.prog X = .ok v' w' ∧ w'.ownsRow base 9 1 v' (n + 1) (xs ++ [.string nm]) ∧ X.grownBy w' v.ownBlock ∧ Where X v v' := by
  obtain ⟨i0, hi, hz0, hz1, hz2⟩ := info_parts info_S
  obtain ⟨v', w', hr, h2, h3, _, h5⟩ := run_append_own_at (P := Tryd.prog) X base t ty _ i0 _ 1 16 ht hi hz0 hz1 hz2 rfl (by omega) v n xs hown ⟨g, 0, none⟩ 1 c [.string nm] rfl
    (World.news_of_block hblk) (by simp [Value.oneCell']) (by unfold maxLen; omega) (by omega) hbase
  refine ⟨v', w', hr, h2, h3, fun q hq hne => ?_⟩
  rcases h5 with h5 | h5
  · rw [h5]; exact hne
  · rw [h5]; intro e; injection e with e; omega
theorem wpList_app_Sw {W : World} {ops : Array Oper} {rest : List Oper} {o : Oper} {a : Act} {Q : Exit → Act → World → Prop} (t : TypeId) (ht : Tryd.prog.underlying t = some (.slice 9)) (hgd : o.guard = none) (s x : Operand) (ho : o.op = .call { callee := .builtin .append, args := #[s, x], argTypes := #[t, t] })
    (base : Nat) (v : Value) (n : Nat) (xs : List Value) (hs : a.eval s = v) (hown : W.ownsRow base 9 1 v n xs) (nm : ByteArray)
    (c g : Nat) (hx : a.eval x = .slice (some ⟨g, 0, none⟩) 1 c) (hgw : g = W.heap.size) (hn : n ≤ 2000000) (hbase : base ≤ W.heap.size)
    (h : ∀ v' w', w'.ownsRow base 9 1 v' (n + 1) (xs ++ [.string nm]) → W.grownBy w' v.ownBlock → Where W v v' → wpList Tryd.prog ops Q rest (a.put o.dst v') w') :
    wpList Tryd.prog ops Q (o :: rest) a (W.alloc (.cells #[.string nm] 9)) := by
  subst hgw
  obtain ⟨v', w', hr, h2, h3, h4⟩ := run_app_Sw _ base t o.type ht v n xs (hown.alloc (.cells #[.string nm] 9)) nm W.heap.size c (heap_alloc_new W _) hn (by simp; omega)
  refine Lib.wpList_append_run _ hgd s x _ _ ho v _ hs hx v' w' hr (h v' w' h2 ((World.grownBy_alloc _ _ _).trans h3) (fun q hq hne => h4 q (by simp; omega) hne))
theorem undrewG {w w' : World} {row : Option Nat} (k : Nat) (h : (w.drewN k).grownBy w' row) : w.grownBy w' row := ⟨h.os, h.tape, h.output, h.size, h.block⟩
theorem undrewW {w : World} {v v' : Value} (k : Nat) (h : Where (w.drewN k) v v') : Where w v v' := h
theorem ms_two {ds : List D} : ∀ d ∈ mSg ds, ∃ x : Nat, x < 4096 ∧ d.val = x := fun d hd => by
  obtain ⟨_, i, hi, e⟩ := mSg_sub hd
  exact ⟨2 ^ i, Nat.pow_lt_pow_right (by decide) hi, e⟩
theorem sp_size {ws : List ByteArray} (hS : ∀ s ∈ ws, s.size ≤ 8) (hl : ws.length ≤ 100) : ∀ k, k ≤ ws.length → (joinW (ws.take k) spB).size ≤ 1000 := by
  intro k hk
  have h1 := joinW_size (sep := spB) hS k hk
  have h2 : spB.size = 1 := rfl
  rw [h2] at h1
  omega

theorem ms_three {ds : List D} {p q : Nat} (hpq : p &&& q = 0) : ∀ d ∈ mSg ds, ∃ x : Nat, x < 4096 ∧ d.val = x ∧ (0 < x &&& p → x &&& q = 0) := fun d hd => by
  obtain ⟨_, i, hi, e⟩ := mSg_sub hd
  refine ⟨2 ^ i, Nat.pow_lt_pow_right (by decide) hi, e, fun h => ?_⟩
  have h2 := word_two (q := q) e hpq (by rw [e, Int.toNat_natCast]; omega)
  rw [e, Int.toNat_natCast] at h2
  omega
theorem far_of {w w' : World} {v : Value} {bb o n c : Nat} {a : Addr} (hg : w.grownBy w' v.ownBlock) (ha : Apart v (.slice (some ⟨bb, o, none⟩) n c)) (h : a.block = bb) (hb : bb < w.heap.size) : w'.cell? a = w.cell? a := by
  refine hg.cell_far a (by omega) ?_
  rcases ha with h2 | h2
  · rw [h2]; exact fun e => by cases e
  · rw [h]; exact fun e => h2 e.symm

set_option maxHeartbeats 8000000 in
theorem canTell_v (ds : List D) (b : Int) (p q : Nat) (A : Option Addr) (m c : Nat) (w : World) (hr : SD w w.heap.size A m c ds) (hv : vFlag ds b = true) (hp : p < 4096) (hq : q < 4096) {v : Bool} (hm : decide (nl (p ||| q) (mMask (mSg ds)) = 0) = v) :
    Calls Tryd.prog 77 #[.agg #[.slice A m c, .int .i64 b], .agg #[.int .i64 p, .int .i64 q]] w (fun e w' => e = .returned (.bool v) ∧ Below w.heap.size w w') := by
  have HF := Lib.hid ((FB.start hr b).alloc (.cells #[.int .i64 p, .int .i64 q] 27))
  have HC : Hid (C2 ((w.alloc (.cells #[.slice A m c, .int .i64 b] 32)).alloc (.cells #[.int .i64 p, .int .i64 q] 27)) (w.heap.size + 1) (.int .i64 p) (.int .i64 q)) := Lib.hid (c2New' _ _ _ _ _)
  have HOK := Lib.hid (mSg_ok hr.ok)
  have HIN := Lib.hid (mSg_in (vFlag_in hv))
  obtain ⟨k, hk⟩ : ∃ k, mMask (mSg ds) = k := ⟨_, rfl⟩
  have hk4 : k < 4096 := by rw [← hk]; exact mMask_lt12 HIN.out
  obtain ⟨u, hu⟩ : ∃ u, p ||| q = u := ⟨_, rfl⟩
  have hu4 : u < 4096 := by rw [← hu]; exact Nat.or_lt_two_pow (n := 12) hp hq
  obtain ⟨z, hz⟩ : ∃ z, nl u k = z := ⟨_, rfl⟩
  have HMM := Lib.hid hk
  have HU := Lib.hid hu
  have HZ := Lib.hid hz
  rw [hu, hk, hz] at hm
  have HM : Hid (v = decide (z = 0)) := Lib.hid hm.symm
  have HSG := Lib.hid (fun (A : Option Addr) (n c : Nat) (w : World) (hr : SD w w.heap.size A n c ds) => singles_any ds A n c w hr)
  unfold DefsP at HSG
  clear hr hv hk hu hz hm
  generalize mSg ds = ms at *
  go_enter Tryd.func77, Tryd.ntmps77
  go_wp2_with fail
  generalize ((w.alloc (.cells #[.slice A m c, .int .i64 b] 32)).alloc (.cells #[.int .i64 (p : Int), .int .i64 (q : Int)] 27)) = w0 at *
  have c0 := HF.out.c0
  have x0 := HC.out.c0
  have x1 := HC.out.c1
  go_region_held3 (fun w' => w'.cell? ⟨w.heap.size, 0, none⟩ = some (.slice A m c) ∧ w'.cell? ⟨w.heap.size + 1, 0, none⟩ = some (.int .i64 p) ∧ w'.cell? ⟨w.heap.size + 1, 1, none⟩ = some (.int .i64 q))
    (first | go_keep | exact ⟨c0, x0, x1⟩ | exact ⟨y0, y1, y2⟩)
    (first
      | (go_at_call 92; refine (either_any p q _ hp hq HU.out).mono ?_; rintro e w5 ⟨rfl, rfl⟩)
      | (go_at_call 130; refine (HSG.out _ _ _ _ (by first | exact HF.out.sd | exact (HF.out.drewN _).sd)).mono ?_; rintro e w2 ⟨A2, q2, rfl, ho, hb⟩; replace hb : Below w0.heap.size w0 w2 := (by first | exact hb | exact undrew hb); have HF2 := Lib.hid (HF.out.call hb); have HS2 := Lib.hid (sd_of_own ho HOK.out); have y0 := keep1 hb c0; have y1 := keep1 hb x0; have y2 := keep1 hb x1; clear ho hb)
      | (go_at_call 127; refine (mask_any ms _ _ _ _ (by first | exact HS2.out | exact HS2.out.drew | exact HS2.out.drewN _) HIN.out HMM.out).mono ?_; rintro e w6 ⟨rfl, rfl⟩)
      | (go_at_call 128; refine (less_any u k _ hu4 hk4 HZ.out).mono ?_; rintro e w7 ⟨rfl, rfl⟩))
  all_goals
    have HB2 := Lib.hid HF2.out.bel
    go_wp2
    go_ret
    exact ⟨ret_bool (by rw [HM.out, Bool.eq_iff_iff]; simp), HB2.out⟩

set_option maxHeartbeats 16000000 in
theorem armText_v (ds : List D) (b : Int) (p q : Nat) (A : Option Addr) (m c : Nat) (w : World) (hr : SD w w.heap.size A m c ds) (hv : vFlag ds b = true) (hp : p < 4096) (hq : q < 4096) (hpq : p &&& q = 0) :
    Calls Tryd.prog 78 #[.agg #[.slice A m c, .int .i64 b], .agg #[.int .i64 p, .int .i64 q]] w (fun e w' => e = .returned (.string (textA ds p q)) ∧ Below w.heap.size w w') := by
  obtain ⟨tx, htx⟩ : ∃ tx, textA ds p q = tx := ⟨_, rfl⟩
  have HTX : Hid (tx = if wordsA p q (mSg ds) = [] then starB else joinW (wordsA p q (mSg ds)) spB) := Lib.hid (by rw [← htx]; rfl)
  rw [htx]
  clear htx
  have HOK := Lib.hid (mSg_ok hr.ok)
  have HP : Hid (∀ d ∈ mSg ds, ∃ x : Nat, x < 4096 ∧ d.val = x ∧ (0 < x &&& p → x &&& q = 0)) := Lib.hid (ms_three hpq)
  have HWS : Hid (∀ s ∈ wordsA p q (mSg ds), s.size ≤ 8) := Lib.hid fun s hs => (textA_words hv p q s hs).1
  have HL : Hid ((mSg ds).length ≤ 12) := Lib.hid (by have := mSg_len ds; omega)
  have HN6 : Hid (∀ d ∈ mSg ds, d.name.size ≤ 6) := Lib.hid fun d hd => flag_name6 hv (mSg_sub hd).1
  have HSG := Lib.hid (fun (A : Option Addr) (n c : Nat) (w : World) (hr : SD w w.heap.size A n c ds) => singles_any ds A n c w hr)
  unfold DefsP at HSG
  obtain ⟨w1, hw⟩ : ∃ W : World, W = (((w.alloc (.cells #[.slice A m c, .int .i64 b] 32)).alloc (.cells #[.int .i64 (p : Int), .int .i64 (q : Int)] 27)).alloc (.cells #[] 9)) := ⟨_, rfl⟩
  have HF1 : Hid (FB w w1 w.heap.size A m c ds b) := Lib.hid (by rw [hw]; exact ((FB.start hr b).alloc _).alloc _)
  have HC1 : Hid (C2 w1 (w.heap.size + 1) (.int .i64 p) (.int .i64 q)) := Lib.hid (by rw [hw]; exact (c2New' _ _ _ _ _).low ((Below.refl _ _).alloc (Nat.le_refl _) _) (by simp))
  have HO1 : Hid (w1.ownsRow (w.heap.size + 1 + 1) 9 1 (.slice (some ⟨w.heap.size + 1 + 1, 0, none⟩) 0 0) 0 (flatS [])) := Lib.hid (by
    have h := World.ownsRow_made ((w.alloc (.cells #[.slice A m c, .int .i64 b] 32)).alloc (.cells #[.int .i64 (p : Int), .int .i64 (q : Int)] 27)) (e := 9) (size := 1) #[] 0 (Nat.le_refl _) (by unfold maxLen; omega) rfl
    have e : ((w.alloc (.cells #[.slice A m c, .int .i64 b] 32)).alloc (.cells #[.int .i64 (p : Int), .int .i64 (q : Int)] 27)).heap.size = w.heap.size + 1 + 1 := by simp
    rw [e] at h
    rw [hw]
    exact h)
  have hs1 : w.heap.size + 1 + 1 + 1 ≤ w1.heap.size := by rw [hw]; simp
  have f0 : (((w.alloc (.cells #[.slice A m c, .int .i64 b] 32)).alloc (.cells #[.int .i64 (p : Int), .int .i64 (q : Int)] 27)).alloc (.cells #[] 9)).cell? ⟨w.heap.size, 0, none⟩ = some (.slice A m c) := by rw [← hw]; exact HF1.out.c0
  have HW := Lib.hid hw.symm
  clear hr hv hw hpq
  generalize mSg ds = ms at *
  have hl12 : ms.length ≤ 12 := HL.out
  go_enter Tryd.func78, Tryd.ntmps78
  go_wp2_with fail
  rw [HW.out]
  clear HW f0
  refine (HSG.out _ _ _ _ HF1.out.sd).mono ?_
  rintro e w2 ⟨As, cs, rfl, ho, hb⟩
  have HS2 := Lib.hid ho
  have HF2 := Lib.hid (HF1.out.call hb)
  have HC2 := Lib.hid (HC1.out.below hb)
  have hs2 : w1.heap.size ≤ w2.heap.size := hb.size
  have HO2 := Lib.hid (own_below HO1.out hb)
  have HQ : Hid (∀ r, (Value.slice As ms.length cs).ownBlock = some r → w1.heap.size ≤ r ∧ r < w2.heap.size) := Lib.hid fun r hr => ho.lt r hr
  have HAP : Hid (Apart (.slice (some ⟨w.heap.size + 1 + 1, 0, none⟩) 0 0) (.slice As ms.length cs)) := Lib.hid (.inr fun e => by have := (ho.lt (w.heap.size + 1 + 1) (by rw [← e]; rfl)).1; omega)
  clear hb ho HF1 HC1 HO1 HSG
  go_wp2
  go_loopw [5, 7] (fun v i wr => ∃ (k nw : Nat) (ws : List ByteArray), k ≤ ms.length ∧ nw ≤ k ∧ i = .int .i64 k ∧ Hid (ws = wordsA p q (ms.take k)) ∧ Hid (ws.length = nw) ∧ Hid (wr.ownsRow (w.heap.size + 1 + 1) 9 1 v nw (flatS ws)) ∧ Hid (wr.ownsRow w1.heap.size 98 2 (.slice As ms.length cs) ms.length (flat ms)) ∧ Hid (Apart v (.slice As ms.length cs)) ∧ Hid (FB w wr w.heap.size A m c ds b) ∧ Hid (C2 wr (w.heap.size + 1) (.int .i64 p) (.int .i64 q)) ∧ w2.heap.size ≤ wr.heap.size) (fun _ i _ => ms.length - (intOf i).toNat)
  case atStart => exact ⟨0, 0, [], Nat.zero_le _, Nat.le_refl _, rfl, Lib.hid rfl, Lib.hid rfl, HO2, HS2, HAP, HF2, HC2, Nat.le_refl _⟩
  case round =>
    clear HO2 HS2 HAP HF2 HC2
    obtain ⟨k, nw, ws, hk, hnk, rfl, hws, hwl, hown, hS, hap, hf, hc, hsz⟩ := hrel
    by_cases hlt : k < ms.length
    · obtain ⟨x, hx4, hx, hxy⟩ := HP.out _ (List.getElem_mem hlt)
      obtain ⟨bb, o, hA, hbb, c1, c2⟩ := (sd_of_own hS.out HOK.out).at_ hlt
      subst hA
      have HT := Lib.hid (wordsA_succ p q hlt)
      have hn6 := HN6.out _ (List.getElem_mem hlt)
      have HWA : Hid (wordA p q ms[k] = if x &&& p ≠ 0 then [ms[k].name] else if x &&& q ≠ 0 then [bangB ++ ms[k].name] else []) := Lib.hid (by unfold wordA; rw [hx, Int.toNat_natCast])
      have hi1 : (k : Int) < (ms.length : Int) := by omega
      rw [hx] at c2
      clear hx
      generalize ms[k].name = s at *
      generalize wordA p q ms[k] = wd at *
      have x0 := hc.out.c0
      have x1 := hc.out.c1
      obtain ⟨z, hz⟩ : ∃ z, x &&& p = z := ⟨_, rfl⟩
      obtain ⟨y, hy⟩ : ∃ y, x &&& q = y := ⟨_, rfl⟩
      rw [hz, hy] at HWA hxy
      have HZ := Lib.hid hz
      have HY := Lib.hid hy
      clear hz hy
      have hzb : (bangB ++ s).size ≤ 7 := by rw [ByteArray.size_append]; show 1 + s.size ≤ 7; omega
      unfold bangB at hzb HWA
      by_cases h1 : 0 < z
      · have HTT : Hid (wordsA p q (ms.take (k + 1)) = ws ++ [s]) := Lib.hid (by rw [HT.out, hws.out, HWA.out, if_pos (by omega)])
        clear HT HWA
        have h2 : (0 : Int) < (z : Int) := by omega
        go_wp2_with fail
        go_region_held3 (fun w' => w'.cell? ⟨bb, o + k * 2 + 1, none⟩ = some (.int .i64 x) ∧ w'.cell? ⟨w.heap.size + 1, 0, none⟩ = some (.int .i64 p)) (first | go_keep | exact ⟨c2, x0⟩)
          (first | (go_at_call 129; refine (both_v x p _ hx4 hp HZ.out).mono ?_; rintro e w6 ⟨rfl, rfl⟩))
        have hbbq : bb < wr.drew.heap.size := hbb
        have howna := Lib.hid hown.out.drew
        have hSa : Hid (wr.drew.ownsRow w1.heap.size 98 2 (.slice (some ⟨bb, o, none⟩) ms.length cs) ms.length (flat ms)) := Lib.hid hS.out
        have hfa : Hid (FB w wr.drew w.heap.size A m c ds b) := Lib.hid (hf.out.drewN 1)
        have hca : Hid (C2 wr.drew (w.heap.size + 1) (.int .i64 p) (.int .i64 q)) := Lib.hid (hc.out.below (below_drewN (Below.refl _ _) 1))
        have hsza : w2.heap.size ≤ wr.drew.heap.size := hsz
        have c1a : wr.drew.cell? ⟨bb, o + k * 2, none⟩ = some (.string s) := c1
        have c2a : wr.drew.cell? ⟨bb, o + k * 2 + 1, none⟩ = some (.int .i64 x) := c2
        have x0a : wr.drew.cell? ⟨w.heap.size + 1, 0, none⟩ = some (.int .i64 p) := x0
        have x1a : wr.drew.cell? ⟨w.heap.size + 1, 1, none⟩ = some (.int .i64 q) := x1
        clear hown hS hf hc hsz c1 c2 x0 x1
        generalize wr.drew = wqa at *
        have hbba : bb < wqa.heap.size := hbbq
        have hy0 : y = 0 := hxy h1
        subst hy0
        go_wp2_with (at_builtin; refine wpList_app_Sw _ Tryd.underlying92 rfl _ _ rfl (w.heap.size + 1 + 1) _ _ _ rfl howna.out _ _ _ rfl (by first | rfl | simp) (by omega) (by omega) ?_; intro v' w3 ho1 hg1 hw1; have HO1 := Lib.hid ho1; have HG1 := Lib.hid hg1; have HW1 := Lib.hid hw1; have HB1 : Hid (Below (w.heap.size + 1 + 1) wqa w3) := Lib.hid ((Below.refl _ _).grown hg1 (by omega) (fun r hr => (howna.out.lt r hr).1)); clear ho1 hg1 hw1)
        have c2w : w3.cell? ⟨bb, o + k * 2 + 1, none⟩ = some (.int .i64 x) := (far_of HG1.out hap.out rfl hbba).trans c2a
        have HSw := Lib.hid (own_kept_app hSa.out HG1.out hap.out)
        have HCw := Lib.hid (hca.out.low HB1.out (by omega))
        have HFw := Lib.hid (fbG hfa.out HB1.out (by omega) (by omega))
        have HAw := Lib.hid (hap.out.app HW1.out (fun r hr => by have := (HQ.out r hr).2; omega))
        have x1w := HCw.out.c1
        have hszw := HB1.out.size
        go_region_held3 (fun w' => w'.cell? ⟨bb, o + k * 2 + 1, none⟩ = some (.int .i64 x) ∧ w'.cell? ⟨w.heap.size + 1, 1, none⟩ = some (.int .i64 q)) (first | go_keep | exact ⟨c2w, x1w⟩)
          (first | (go_at_call 129; refine (both_v x q _ hx4 hq HY.out).mono ?_; rintro e w6 ⟨rfl, rfl⟩))
        go_wp2
        go_roundw
        case rel => exact ⟨k + 1, nw + 1, _, by omega, by omega, by go_num, Lib.hid HTT.out.symm, Lib.hid (by rw [List.length_append, hwl.out]; rfl), Lib.hid (by simpa [flatS] using HO1.out.drew), Lib.hid HSw.out.drew, HAw, Lib.hid (HFw.out.drewN 1), Lib.hid (HCw.out.below (below_drewN (Below.refl _ _) 1)), Nat.le_trans hsza hszw⟩
        case measure => simp [intOf]; omega
      · have h2 : ¬ (0 : Int) < (z : Int) := by omega
        by_cases h3 : 0 < y
        · have HTT : Hid (wordsA p q (ms.take (k + 1)) = ws ++ [(⟨#[33]⟩ : ByteArray) ++ s]) := Lib.hid (by rw [HT.out, hws.out, HWA.out, if_neg (by omega), if_pos (by omega)])
          clear HT HWA
          have h4 : (0 : Int) < (y : Int) := by omega
          go_wp2_with fail
          go_region_held3 (fun w' => w'.cell? ⟨bb, o + k * 2 + 1, none⟩ = some (.int .i64 x) ∧ w'.cell? ⟨w.heap.size + 1, 0, none⟩ = some (.int .i64 p)) (first | go_keep | exact ⟨c2, x0⟩)
          (first | (go_at_call 129; refine (both_v x p _ hx4 hp HZ.out).mono ?_; rintro e w6 ⟨rfl, rfl⟩))
          have howna := Lib.hid hown.out.drew
          have hSa : Hid (wr.drew.ownsRow w1.heap.size 98 2 (.slice (some ⟨bb, o, none⟩) ms.length cs) ms.length (flat ms)) := Lib.hid hS.out
          have hfa : Hid (FB w wr.drew w.heap.size A m c ds b) := Lib.hid (hf.out.drewN 1)
          have hca : Hid (C2 wr.drew (w.heap.size + 1) (.int .i64 p) (.int .i64 q)) := Lib.hid (hc.out.below (below_drewN (Below.refl _ _) 1))
          have hsza : w2.heap.size ≤ wr.drew.heap.size := hsz
          have c1a : wr.drew.cell? ⟨bb, o + k * 2, none⟩ = some (.string s) := c1
          have c2a : wr.drew.cell? ⟨bb, o + k * 2 + 1, none⟩ = some (.int .i64 x) := c2
          have x0a : wr.drew.cell? ⟨w.heap.size + 1, 0, none⟩ = some (.int .i64 p) := x0
          have x1a : wr.drew.cell? ⟨w.heap.size + 1, 1, none⟩ = some (.int .i64 q) := x1
          clear hown hS hf hc hsz c1 c2 x0 x1
          generalize wr.drew = wqa at *
          go_wp2_with fail
          go_region_held3 (fun w' => w'.cell? ⟨bb, o + k * 2 + 1, none⟩ = some (.int .i64 x) ∧ w'.cell? ⟨w.heap.size + 1, 1, none⟩ = some (.int .i64 q)) (first | go_keep | exact ⟨c2a, x1a⟩)
          (first | (go_at_call 129; refine (both_v x q _ hx4 hq HY.out).mono ?_; rintro e w6 ⟨rfl, rfl⟩))
          have hownb := Lib.hid howna.out.drew
          have hSb : Hid (wqa.drew.ownsRow w1.heap.size 98 2 (.slice (some ⟨bb, o, none⟩) ms.length cs) ms.length (flat ms)) := Lib.hid hSa.out
          have hfb : Hid (FB w wqa.drew w.heap.size A m c ds b) := Lib.hid (hfa.out.drewN 1)
          have hcb : Hid (C2 wqa.drew (w.heap.size + 1) (.int .i64 p) (.int .i64 q)) := Lib.hid (hca.out.below (below_drewN (Below.refl _ _) 1))
          have hszb : w2.heap.size ≤ wqa.drew.heap.size := hsza
          have c1b : wqa.drew.cell? ⟨bb, o + k * 2, none⟩ = some (.string s) := c1a
          have c2b : wqa.drew.cell? ⟨bb, o + k * 2 + 1, none⟩ = some (.int .i64 x) := c2a
          have x0b : wqa.drew.cell? ⟨w.heap.size + 1, 0, none⟩ = some (.int .i64 p) := x0a
          have x1b : wqa.drew.cell? ⟨w.heap.size + 1, 1, none⟩ = some (.int .i64 q) := x1a
          clear howna hSa hfa hca hsza c1a c2a x0a x1a
          generalize wqa.drew = wqb at *
          go_wp2_with (at_builtin; refine wpList_app_Sw _ Tryd.underlying92 rfl _ _ rfl (w.heap.size + 1 + 1) _ _ _ rfl hownb.out _ _ _ rfl (by first | rfl | simp) (by omega) (by omega) ?_; intro v' w3 ho1 hg1 hw1; have HO1 := Lib.hid ho1; have HG1 := Lib.hid hg1; have HW1 := Lib.hid hw1; have HB1 : Hid (Below (w.heap.size + 1 + 1) wqb w3) := Lib.hid ((Below.refl _ _).grown hg1 (by omega) (fun r hr => (hownb.out.lt r hr).1)); clear ho1 hg1 hw1)
          go_roundw
          case rel => exact ⟨k + 1, nw + 1, _, by omega, by omega, by go_num, Lib.hid HTT.out.symm, Lib.hid (by rw [List.length_append, hwl.out]; rfl), Lib.hid (by simpa [flatS] using HO1.out), Lib.hid (own_kept_app hSb.out HG1.out hap.out), Lib.hid (hap.out.app HW1.out (fun r hr => by have := (HQ.out r hr).2; omega)), Lib.hid (fbG hfb.out HB1.out (by omega) (by omega)), Lib.hid (hcb.out.low HB1.out (by omega)), by have := HB1.out.size; omega⟩
          case measure => simp [intOf]; omega
        · have HTT : Hid (wordsA p q (ms.take (k + 1)) = ws) := Lib.hid (by rw [HT.out, hws.out, HWA.out, if_neg (by omega), if_neg (by omega), List.append_nil])
          clear HT HWA
          have h4 : ¬ (0 : Int) < (y : Int) := by omega
          go_wp2_with fail
          go_region_held3 (fun w' => w'.cell? ⟨bb, o + k * 2 + 1, none⟩ = some (.int .i64 x) ∧ w'.cell? ⟨w.heap.size + 1, 0, none⟩ = some (.int .i64 p)) (first | go_keep | exact ⟨c2, x0⟩)
          (first | (go_at_call 129; refine (both_v x p _ hx4 hp HZ.out).mono ?_; rintro e w6 ⟨rfl, rfl⟩))
          have howna := Lib.hid hown.out.drew
          have hSa : Hid (wr.drew.ownsRow w1.heap.size 98 2 (.slice (some ⟨bb, o, none⟩) ms.length cs) ms.length (flat ms)) := Lib.hid hS.out
          have hfa : Hid (FB w wr.drew w.heap.size A m c ds b) := Lib.hid (hf.out.drewN 1)
          have hca : Hid (C2 wr.drew (w.heap.size + 1) (.int .i64 p) (.int .i64 q)) := Lib.hid (hc.out.below (below_drewN (Below.refl _ _) 1))
          have hsza : w2.heap.size ≤ wr.drew.heap.size := hsz
          have c1a : wr.drew.cell? ⟨bb, o + k * 2, none⟩ = some (.string s) := c1
          have c2a : wr.drew.cell? ⟨bb, o + k * 2 + 1, none⟩ = some (.int .i64 x) := c2
          have x0a : wr.drew.cell? ⟨w.heap.size + 1, 0, none⟩ = some (.int .i64 p) := x0
          have x1a : wr.drew.cell? ⟨w.heap.size + 1, 1, none⟩ = some (.int .i64 q) := x1
          clear hown hS hf hc hsz c1 c2 x0 x1
          generalize wr.drew = wqa at *
          go_wp2_with fail
          go_region_held3 (fun w' => w'.cell? ⟨bb, o + k * 2 + 1, none⟩ = some (.int .i64 x) ∧ w'.cell? ⟨w.heap.size + 1, 1, none⟩ = some (.int .i64 q)) (first | go_keep | exact ⟨c2a, x1a⟩)
          (first | (go_at_call 129; refine (both_v x q _ hx4 hq HY.out).mono ?_; rintro e w6 ⟨rfl, rfl⟩))
          have hownb := Lib.hid howna.out.drew
          have hSb : Hid (wqa.drew.ownsRow w1.heap.size 98 2 (.slice (some ⟨bb, o, none⟩) ms.length cs) ms.length (flat ms)) := Lib.hid hSa.out
          have hfb : Hid (FB w wqa.drew w.heap.size A m c ds b) := Lib.hid (hfa.out.drewN 1)
          have hcb : Hid (C2 wqa.drew (w.heap.size + 1) (.int .i64 p) (.int .i64 q)) := Lib.hid (hca.out.below (below_drewN (Below.refl _ _) 1))
          have hszb : w2.heap.size ≤ wqa.drew.heap.size := hsza
          have c1b : wqa.drew.cell? ⟨bb, o + k * 2, none⟩ = some (.string s) := c1a
          have c2b : wqa.drew.cell? ⟨bb, o + k * 2 + 1, none⟩ = some (.int .i64 x) := c2a
          have x0b : wqa.drew.cell? ⟨w.heap.size + 1, 0, none⟩ = some (.int .i64 p) := x0a
          have x1b : wqa.drew.cell? ⟨w.heap.size + 1, 1, none⟩ = some (.int .i64 q) := x1a
          clear howna hSa hfa hca hsza c1a c2a x0a x1a
          generalize wqa.drew = wqb at *
          go_wp2
          go_roundw
          case rel => exact ⟨k + 1, nw, ws, by omega, by omega, by go_num, Lib.hid HTT.out.symm, hwl, hownb, hSb, hap, hfb, hcb, hszb⟩
          case measure => simp [intOf]; omega
    · obtain rfl : k = ms.length := by omega
      have hi9 : ¬ (ms.length : Int) < (ms.length : Int) := by omega
      obtain ⟨A', c', hv⟩ := own_form hown.out
      subst hv
      have HWE : Hid (wordsA p q ms = ws) := Lib.hid (by rw [hws.out, List.take_of_length_le (Nat.le_refl _)])
      have HB := Lib.hid hf.out.bel
      by_cases h0 : nw = 0
      · subst h0
        have HTS : Hid (tx = starB) := Lib.hid (by rw [HTX.out, HWE.out, if_pos (List.eq_nil_of_length_eq_zero hwl.out)])
        go_wp2
        go_ret
        exact ⟨by rw [HTS.out]; rfl, HB.out⟩
      · have h01 : ((nw : Int) == 0) = false := by rw [beq_eq_false_iff_ne]; omega
        have HTS : Hid (tx = joinW ws spB) := Lib.hid (by rw [HTX.out, HWE.out, if_neg (fun e => by have := hwl.out; rw [e] at this; exact h0 this.symm)])
        have HS8 : Hid (∀ s ∈ ws, s.size ≤ 8) := Lib.hid (by rw [← HWE.out]; exact HWS.out)
        have HSS : Hid (SS wr wr.heap.size A' nw c' ws) := Lib.hid (ss_of_own hown.out (fun s hs => by have := HS8.out s hs; unfold maxLen; omega))
        have HJ : Hid (∀ k, k ≤ ws.length → (joinW (ws.take k) spB).size ≤ 1000) := Lib.hid (sp_size HS8.out (by have := hwl.out; omega))
        go_wp2_with fail
        refine (joinWith_any ws spB _ _ _ _ HSS.out 1000 HJ.out (fun s hs => by have := HS8.out s hs; omega) (by decide) (by omega)).mono ?_
        rintro e w7 ⟨rfl, rfl⟩
        go_wp2
        go_ret
        exact ⟨by rw [HTS.out]; first | done | rfl, HB.out⟩
set_option maxHeartbeats 8000000 in
theorem specArmT_v (ds : List D) (b x y : Int) (A : Option Addr) (m c : Nat) (w : World) (hr : SD w w.heap.size A m c ds) :
    Calls Tryd.prog 38 #[.agg #[.slice A m c, .int .i64 b], .agg #[.int .i64 x, .int .i64 y]] w (fun e w' => e = .returned (.string (mArmT ds b ⟨x, y⟩)) ∧ Below w.heap.size w w') := by
  have HF := Lib.hid ((FB.start hr b).alloc (.cells #[.int .i64 x, .int .i64 y] 27))
  have HC : Hid (C2 ((w.alloc (.cells #[.slice A m c, .int .i64 b] 32)).alloc (.cells #[.int .i64 x, .int .i64 y] 27)) (w.heap.size + 1) (.int .i64 x) (.int .i64 y)) := Lib.hid (c2New' _ _ _ _ _)
  clear hr
  cases hu : mArm ds b ⟨x, y⟩
  · have HU := Lib.hid hu
    have HM : Hid (mArmT ds b ⟨x, y⟩ = ⟨#[]⟩) := Lib.hid (by unfold mArmT; rw [mArmOk_two, hu]; rfl)
    clear hu
    go_enter Tryd.func38, Tryd.ntmps38
    go_wp2_with fail
    generalize ((w.alloc (.cells #[.slice A m c, .int .i64 b] 32)).alloc (.cells #[.int .i64 x, .int .i64 y] 27)) = w0 at *
    refine (validArm_v ds b x y _ _ _ _ HF.out.sd HU.out).mono ?_
    rintro e w1 ⟨rfl, hb⟩
    have HB1 := Lib.hid (HF.out.after hb)
    clear hb HF HC
    go_wp2
    go_ret
    exact ⟨by rw [HM.out]; first | done | rfl, HB1.out⟩
  obtain ⟨p, q, e1, e2, hp, hq, _, _, hpq⟩ := mArm_nat hu
  have HPQ := Lib.hid hpq
  clear hpq
  simp only at e1 e2
  subst e1 e2
  have HU := Lib.hid hu
  have hvf : vFlag ds b = true := by
    unfold mArm at hu
    rw [Bool.and_eq_true] at hu
    exact hu.1
  have HV := Lib.hid hvf
  obtain ⟨z, hz⟩ : ∃ z, decide (nl (p ||| q) (mMask (mSg ds)) = 0) = z := ⟨_, rfl⟩
  have HZ := Lib.hid hz
  have HM : Hid (mArmT ds b ⟨p, q⟩ = if z then textA ds p q else ⟨#[]⟩) := Lib.hid (by unfold mArmT; rw [mArmOk_two, hu, Bool.true_and]; simp only [Int.toNat_natCast]; rw [hz])
  clear hu hvf hz
  go_enter Tryd.func38, Tryd.ntmps38
  go_wp2_with fail
  generalize ((w.alloc (.cells #[.slice A m c, .int .i64 b] 32)).alloc (.cells #[.int .i64 (p : Int), .int .i64 (q : Int)] 27)) = w0 at *
  refine (validArm_v ds b p q _ _ _ _ HF.out.sd HU.out).mono ?_
  rintro e w1 ⟨rfl, hb⟩
  have HF1 := Lib.hid (HF.out.call hb)
  have HC1 := Lib.hid (HC.out.below hb)
  have c0 := HF1.out.c0
  have c1 := HF1.out.c1
  have d0 := HC1.out.c0
  have d1 := HC1.out.c1
  clear hb HF HC
  go_wp2_with fail
  refine (canTell_v ds b p q _ _ _ _ HF1.out.sd HV.out hp hq HZ.out).mono ?_
  rintro e w2 ⟨rfl, hb⟩
  have HF2 := Lib.hid (HF1.out.call hb)
  have HC2 := Lib.hid (HC1.out.below hb)
  have k0 := HF2.out.c0
  have k1 := HF2.out.c1
  have l0 := HC2.out.c0
  have l1 := HC2.out.c1
  clear hb HF1 HC1 c0 c1 d0 d1
  cases z
  · have HB2 := Lib.hid HF2.out.bel
    go_wp2
    go_ret
    exact ⟨by rw [HM.out]; first | done | rfl, HB2.out⟩
  · have HM2 : Hid (mArmT ds b ⟨p, q⟩ = textA ds p q) := Lib.hid (by rw [HM.out]; rfl)
    have HAT := Lib.hid (fun (A : Option Addr) (m c : Nat) (w : World) (hr : SD w w.heap.size A m c ds) => armText_v ds b p q A m c w hr HV.out hp hq HPQ.out)
    generalize textA ds p q = tx at *
    go_wp2_with fail
    refine (HAT.out _ _ _ _ HF2.out.sd).mono ?_
    rintro e w3 ⟨rfl, hb⟩
    have HB3 := Lib.hid (HF2.out.after hb)
    clear hb
    go_wp2
    go_ret
    exact ⟨by rw [HM2.out]; first | done | rfl, HB3.out⟩
end Go.Proofs.YtpfdghbjagdhfaaDoor

namespace Go.Proofs.YtpfdghbjagdhfaaDoor
open Go.RowKit
set_option linter.unusedVariables false
set_option linter.unusedSimpArgs false
set_option maxRecDepth 100000

theorem bangs_ok {ws : List ByteArray} {s : ByteArray} {M : Nat} (h : ∀ u ∈ ws, u.size ≤ M) (hs : s.size ≤ M) : ∀ u ∈ ws ++ [s], u.size ≤ M := by
  intro u hu
  rcases List.mem_append.1 hu with hu | hu
  · exact h u hu
  · rw [List.mem_singleton.1 hu]; exact hs
set_option maxHeartbeats 16000000 in
theorem armText_w (ds : List D) (b p q : Int) (A : Option Addr) (m c : Nat) (w : World) (hr : SD w w.heap.size A m c ds) (hsm : ∀ d ∈ ds, d.name.size ≤ 100) :
    Calls Tryd.prog 78 #[.agg #[.slice A m c, .int .i64 b], .agg #[.int .i64 p, .int .i64 q]] w (fun e w' => ∃ t : ByteArray, e = .returned (.string t) ∧ t.size ≤ 3900 ∧ Below w.heap.size w w') := by
  have HOK := Lib.hid (mSg_ok hr.ok)
  have HL : Hid ((mSg ds).length ≤ 13) := Lib.hid (by have := mSg_len ds; omega)
  have HN6 : Hid (∀ d ∈ mSg ds, d.name.size ≤ 100) := Lib.hid fun d hd => hsm d (mSg_sub hd).1
  have HSG := Lib.hid (fun (A : Option Addr) (n c : Nat) (w : World) (hr : SD w w.heap.size A n c ds) => singles_any ds A n c w hr)
  unfold DefsP at HSG
  obtain ⟨w1, hw⟩ : ∃ W : World, W = (((w.alloc (.cells #[.slice A m c, .int .i64 b] 32)).alloc (.cells #[.int .i64 p, .int .i64 q] 27)).alloc (.cells #[] 9)) := ⟨_, rfl⟩
  have HF1 : Hid (FB w w1 w.heap.size A m c ds b) := Lib.hid (by rw [hw]; exact ((FB.start hr b).alloc _).alloc _)
  have HC1 : Hid (C2 w1 (w.heap.size + 1) (.int .i64 p) (.int .i64 q)) := Lib.hid (by rw [hw]; exact (c2New' _ _ _ _ _).low ((Below.refl _ _).alloc (Nat.le_refl _) _) (by simp))
  have HO1 : Hid (w1.ownsRow (w.heap.size + 1 + 1) 9 1 (.slice (some ⟨w.heap.size + 1 + 1, 0, none⟩) 0 0) 0 (flatS [])) := Lib.hid (by
    have h := World.ownsRow_made ((w.alloc (.cells #[.slice A m c, .int .i64 b] 32)).alloc (.cells #[.int .i64 p, .int .i64 q] 27)) (e := 9) (size := 1) #[] 0 (Nat.le_refl _) (by unfold maxLen; omega) rfl
    have e : ((w.alloc (.cells #[.slice A m c, .int .i64 b] 32)).alloc (.cells #[.int .i64 p, .int .i64 q] 27)).heap.size = w.heap.size + 1 + 1 := by simp
    rw [e] at h
    rw [hw]
    exact h)
  have hs1 : w.heap.size + 1 + 1 + 1 ≤ w1.heap.size := by rw [hw]; simp
  have f0 : (((w.alloc (.cells #[.slice A m c, .int .i64 b] 32)).alloc (.cells #[.int .i64 p, .int .i64 q] 27)).alloc (.cells #[] 9)).cell? ⟨w.heap.size, 0, none⟩ = some (.slice A m c) := by rw [← hw]; exact HF1.out.c0
  have HW := Lib.hid hw.symm
  clear hr hw hsm
  generalize mSg ds = ms at *
  have hl12 : ms.length ≤ 13 := HL.out
  go_enter Tryd.func78, Tryd.ntmps78
  go_wp2_with fail
  rw [HW.out]
  clear HW f0
  refine (HSG.out _ _ _ _ HF1.out.sd).mono ?_
  rintro e w2 ⟨As, cs, rfl, ho, hb⟩
  have HS2 := Lib.hid ho
  have HF2 := Lib.hid (HF1.out.call hb)
  have HC2 := Lib.hid (HC1.out.below hb)
  have hs2 : w1.heap.size ≤ w2.heap.size := hb.size
  have HO2 := Lib.hid (own_below HO1.out hb)
  have HQ : Hid (∀ r, (Value.slice As ms.length cs).ownBlock = some r → w1.heap.size ≤ r ∧ r < w2.heap.size) := Lib.hid fun r hr => ho.lt r hr
  have HAP : Hid (Apart (.slice (some ⟨w.heap.size + 1 + 1, 0, none⟩) 0 0) (.slice As ms.length cs)) := Lib.hid (.inr fun e => by have := (ho.lt (w.heap.size + 1 + 1) (by rw [← e]; rfl)).1; omega)
  clear hb ho HF1 HC1 HO1 HSG
  go_wp2
  go_loopw [5, 7] (fun v i wr => ∃ (k nw : Nat) (ws : List ByteArray), k ≤ ms.length ∧ nw ≤ 2 * k ∧ i = .int .i64 k ∧ Hid (∀ s ∈ ws, s.size ≤ 101) ∧ Hid (ws.length = nw) ∧ Hid (wr.ownsRow (w.heap.size + 1 + 1) 9 1 v nw (flatS ws)) ∧ Hid (wr.ownsRow w1.heap.size 98 2 (.slice As ms.length cs) ms.length (flat ms)) ∧ Hid (Apart v (.slice As ms.length cs)) ∧ Hid (FB w wr w.heap.size A m c ds b) ∧ Hid (C2 wr (w.heap.size + 1) (.int .i64 p) (.int .i64 q)) ∧ w2.heap.size ≤ wr.heap.size) (fun _ i _ => ms.length - (intOf i).toNat)
  case atStart => exact ⟨0, 0, [], Nat.zero_le _, Nat.le_refl _, rfl, Lib.hid (fun s hs => by cases hs), Lib.hid rfl, HO2, HS2, HAP, HF2, HC2, Nat.le_refl _⟩
  case round =>
    clear HO2 HS2 HAP HF2 HC2
    obtain ⟨k, nw, ws, hk, hnk, rfl, hws, hwl, hown0, hS0, hap0, hf0, hc0, hsz0⟩ := hrel
    by_cases hlt : k < ms.length
    · obtain ⟨bb, o, hA, hbb, c10, c20⟩ := (sd_of_own hS0.out HOK.out).at_ hlt
      subst hA
      have hn6 := HN6.out _ (List.getElem_mem hlt)
      have hi1 : (k : Int) < (ms.length : Int) := by omega
      generalize ms[k].name = s at *
      generalize ms[k].val = x at *
      have x00 := hc0.out.c0
      have x10 := hc0.out.c1
      have hzb : ((⟨#[33]⟩ : ByteArray) ++ s).size ≤ 101 := by rw [ByteArray.size_append]; show 1 + s.size ≤ 101; omega
      obtain ⟨W0, hW0⟩ : ∃ W : World, W = wr := ⟨_, rfl⟩
      subst hW0
      have hbb0 : bb < W0.heap.size := hbb
      go_wp2_with fail
      go_region_held3 (fun w' => w'.cell? ⟨bb, o + k * 2 + 1, none⟩ = some (.int .i64 x) ∧ w'.cell? ⟨w.heap.size + 1, 0, none⟩ = some (.int .i64 p)) (first | go_keep | exact ⟨c20, x00⟩)
        (first | (go_at_call 129; refine (both_w x p _).mono ?_; rintro e w6 ⟨⟨r1, rfl, hr1a, hr1b⟩, rfl⟩))
      have hown1 := Lib.hid hown0.out.drew
      have hS1 : Hid (W0.drew.ownsRow w1.heap.size 98 2 (.slice (some ⟨bb, o, none⟩) ms.length cs) ms.length (flat ms)) := Lib.hid hS0.out
      have hf1 : Hid (FB w W0.drew w.heap.size A m c ds b) := Lib.hid (hf0.out.drewN 1)
      have hc1 : Hid (C2 W0.drew (w.heap.size + 1) (.int .i64 p) (.int .i64 q)) := Lib.hid (hc0.out.below (below_drewN (Below.refl _ _) 1))
      have hsz1 : w2.heap.size ≤ W0.drew.heap.size := hsz0
      have hbb1 : bb < W0.drew.heap.size := hbb0
      have c11 : W0.drew.cell? ⟨bb, o + k * 2, none⟩ = some (.string s) := c10
      have c21 : W0.drew.cell? ⟨bb, o + k * 2 + 1, none⟩ = some (.int .i64 x) := c20
      have x01 : W0.drew.cell? ⟨w.heap.size + 1, 0, none⟩ = some (.int .i64 p) := x00
      have x11 : W0.drew.cell? ⟨w.heap.size + 1, 1, none⟩ = some (.int .i64 q) := x10
      clear hown0 hS0 hf0 hc0 hsz0 hbb0 c10 c20 x00 x10
      generalize W0.drew = W1 at *
      by_cases h1 : 0 < r1
      · skip
        go_wp2_with (at_builtin; refine wpList_app_Sw _ Tryd.underlying92 rfl _ _ rfl (w.heap.size + 1 + 1) _ _ _ rfl hown1.out _ _ _ rfl (by first | rfl | simp) (by omega) (by omega) ?_; intro v2 W2 ho1 hg1 hw1; have HO2 := Lib.hid ho1; have HG2 := Lib.hid hg1; have HW2 := Lib.hid hw1; have HB2 : Hid (Below (w.heap.size + 1 + 1) W1 W2) := Lib.hid ((Below.refl _ _).grown hg1 (by omega) (fun r hr => (hown1.out.lt r hr).1)); clear ho1 hg1 hw1)
        have c12 : W2.cell? ⟨bb, o + k * 2, none⟩ = some (.string s) := (far_of HG2.out hap0.out rfl hbb1).trans c11
        have c22 : W2.cell? ⟨bb, o + k * 2 + 1, none⟩ = some (.int .i64 x) := (far_of HG2.out hap0.out rfl hbb1).trans c21
        have hS2 := Lib.hid (own_kept_app hS1.out HG2.out hap0.out)
        have hc2 := Lib.hid (hc1.out.low HB2.out (by omega))
        have hf2 := Lib.hid (fbG hf1.out HB2.out (by omega) (by omega))
        have hap2 := Lib.hid (hap0.out.app HW2.out (fun r hr => by have := (HQ.out r hr).2; omega))
        have x02 := hc2.out.c0
        have x12 := hc2.out.c1
        have hsz2 : w2.heap.size ≤ W2.heap.size := Nat.le_trans hsz1 HB2.out.size
        have hbb2 : bb < W2.heap.size := Nat.lt_of_lt_of_le hbb1 HB2.out.size
        have hown2 : Hid (W2.ownsRow (w.heap.size + 1 + 1) 9 1 v2 (nw + 1) (flatS (ws ++ [s]))) := Lib.hid (by simpa [flatS] using HO2.out)
        have hws2 : Hid (∀ u ∈ ws ++ [s], u.size ≤ 101) := Lib.hid (bangs_ok hws.out (by omega))
        have hwl2 : Hid ((ws ++ [s]).length = nw + 1) := Lib.hid (by rw [List.length_append, hwl.out]; rfl)
        go_wp2_with fail
        go_region_held3 (fun w' => w'.cell? ⟨bb, o + k * 2 + 1, none⟩ = some (.int .i64 x) ∧ w'.cell? ⟨w.heap.size + 1, 1, none⟩ = some (.int .i64 q)) (first | go_keep | exact ⟨c22, x12⟩)
          (first | (go_at_call 129; refine (both_w x q _).mono ?_; rintro e w6 ⟨⟨r2, rfl, hr2a, hr2b⟩, rfl⟩))
        have hown3 := Lib.hid hown2.out.drew
        have hS3 : Hid (W2.drew.ownsRow w1.heap.size 98 2 (.slice (some ⟨bb, o, none⟩) ms.length cs) ms.length (flat ms)) := Lib.hid hS2.out
        have hf3 : Hid (FB w W2.drew w.heap.size A m c ds b) := Lib.hid (hf2.out.drewN 1)
        have hc3 : Hid (C2 W2.drew (w.heap.size + 1) (.int .i64 p) (.int .i64 q)) := Lib.hid (hc2.out.below (below_drewN (Below.refl _ _) 1))
        have hsz3 : w2.heap.size ≤ W2.drew.heap.size := hsz2
        have hbb3 : bb < W2.drew.heap.size := hbb2
        have c13 : W2.drew.cell? ⟨bb, o + k * 2, none⟩ = some (.string s) := c12
        have c23 : W2.drew.cell? ⟨bb, o + k * 2 + 1, none⟩ = some (.int .i64 x) := c22
        have x03 : W2.drew.cell? ⟨w.heap.size + 1, 0, none⟩ = some (.int .i64 p) := x02
        have x13 : W2.drew.cell? ⟨w.heap.size + 1, 1, none⟩ = some (.int .i64 q) := x12
        clear hown2 hS2 hf2 hc2 hsz2 hbb2 c12 c22 x02 x12
        generalize W2.drew = W3 at *
        by_cases h3 : 0 < r2
        · skip
          go_wp2_with (at_builtin; refine wpList_app_Sw _ Tryd.underlying92 rfl _ _ rfl (w.heap.size + 1 + 1) _ _ _ rfl hown3.out _ _ _ rfl (by first | rfl | simp) (by omega) (by omega) ?_; intro v4 W4 ho1 hg1 hw1; have HO4 := Lib.hid ho1; have HG4 := Lib.hid hg1; have HW4 := Lib.hid hw1; have HB4 : Hid (Below (w.heap.size + 1 + 1) W3 W4) := Lib.hid ((Below.refl _ _).grown hg1 (by omega) (fun r hr => (hown3.out.lt r hr).1)); clear ho1 hg1 hw1)
          have c14 : W4.cell? ⟨bb, o + k * 2, none⟩ = some (.string s) := (far_of HG4.out hap2.out rfl hbb3).trans c13
          have c24 : W4.cell? ⟨bb, o + k * 2 + 1, none⟩ = some (.int .i64 x) := (far_of HG4.out hap2.out rfl hbb3).trans c23
          have hS4 := Lib.hid (own_kept_app hS3.out HG4.out hap2.out)
          have hc4 := Lib.hid (hc3.out.low HB4.out (by omega))
          have hf4 := Lib.hid (fbG hf3.out HB4.out (by omega) (by omega))
          have hap4 := Lib.hid (hap2.out.app HW4.out (fun r hr => by have := (HQ.out r hr).2; omega))
          have x04 := hc4.out.c0
          have x14 := hc4.out.c1
          have hsz4 : w2.heap.size ≤ W4.heap.size := Nat.le_trans hsz3 HB4.out.size
          have hbb4 : bb < W4.heap.size := Nat.lt_of_lt_of_le hbb3 HB4.out.size
          have hown4 : Hid (W4.ownsRow (w.heap.size + 1 + 1) 9 1 v4 ((nw + 1) + 1) (flatS ((ws ++ [s]) ++ [((⟨#[33]⟩ : ByteArray) ++ s)]))) := Lib.hid (by simpa [flatS] using HO4.out)
          go_wp2
          go_roundw
          case rel => exact ⟨k + 1, (nw + 1) + 1, (ws ++ [s]) ++ [((⟨#[33]⟩ : ByteArray) ++ s)], by omega, by omega, by go_num, Lib.hid (bangs_ok (hws2.out) hzb), Lib.hid (by rw [List.length_append, hwl2.out]; rfl), hown4, hS4, hap4, hf4, hc4, hsz4⟩
          case measure => simp [intOf]; omega
        · skip
          go_wp2
          go_roundw
          case rel => exact ⟨k + 1, (nw + 1), (ws ++ [s]), by omega, by omega, by go_num, Lib.hid (hws2.out), Lib.hid (hwl2.out), hown3, hS3, hap2, hf3, hc3, hsz3⟩
          case measure => simp [intOf]; omega
      · skip
        go_wp2_with fail
        go_region_held3 (fun w' => w'.cell? ⟨bb, o + k * 2 + 1, none⟩ = some (.int .i64 x) ∧ w'.cell? ⟨w.heap.size + 1, 1, none⟩ = some (.int .i64 q)) (first | go_keep | exact ⟨c21, x11⟩)
          (first | (go_at_call 129; refine (both_w x q _).mono ?_; rintro e w6 ⟨⟨r2, rfl, hr2a, hr2b⟩, rfl⟩))
        have hown2 := Lib.hid hown1.out.drew
        have hS2 : Hid (W1.drew.ownsRow w1.heap.size 98 2 (.slice (some ⟨bb, o, none⟩) ms.length cs) ms.length (flat ms)) := Lib.hid hS1.out
        have hf2 : Hid (FB w W1.drew w.heap.size A m c ds b) := Lib.hid (hf1.out.drewN 1)
        have hc2 : Hid (C2 W1.drew (w.heap.size + 1) (.int .i64 p) (.int .i64 q)) := Lib.hid (hc1.out.below (below_drewN (Below.refl _ _) 1))
        have hsz2 : w2.heap.size ≤ W1.drew.heap.size := hsz1
        have hbb2 : bb < W1.drew.heap.size := hbb1
        have c12 : W1.drew.cell? ⟨bb, o + k * 2, none⟩ = some (.string s) := c11
        have c22 : W1.drew.cell? ⟨bb, o + k * 2 + 1, none⟩ = some (.int .i64 x) := c21
        have x02 : W1.drew.cell? ⟨w.heap.size + 1, 0, none⟩ = some (.int .i64 p) := x01
        have x12 : W1.drew.cell? ⟨w.heap.size + 1, 1, none⟩ = some (.int .i64 q) := x11
        clear hown1 hS1 hf1 hc1 hsz1 hbb1 c11 c21 x01 x11
        generalize W1.drew = W2 at *
        by_cases h3 : 0 < r2
        · skip
          go_wp2_with (at_builtin; refine wpList_app_Sw _ Tryd.underlying92 rfl _ _ rfl (w.heap.size + 1 + 1) _ _ _ rfl hown2.out _ _ _ rfl (by first | rfl | simp) (by omega) (by omega) ?_; intro v3 W3 ho1 hg1 hw1; have HO3 := Lib.hid ho1; have HG3 := Lib.hid hg1; have HW3 := Lib.hid hw1; have HB3 : Hid (Below (w.heap.size + 1 + 1) W2 W3) := Lib.hid ((Below.refl _ _).grown hg1 (by omega) (fun r hr => (hown2.out.lt r hr).1)); clear ho1 hg1 hw1)
          have c13 : W3.cell? ⟨bb, o + k * 2, none⟩ = some (.string s) := (far_of HG3.out hap0.out rfl hbb2).trans c12
          have c23 : W3.cell? ⟨bb, o + k * 2 + 1, none⟩ = some (.int .i64 x) := (far_of HG3.out hap0.out rfl hbb2).trans c22
          have hS3 := Lib.hid (own_kept_app hS2.out HG3.out hap0.out)
          have hc3 := Lib.hid (hc2.out.low HB3.out (by omega))
          have hf3 := Lib.hid (fbG hf2.out HB3.out (by omega) (by omega))
          have hap3 := Lib.hid (hap0.out.app HW3.out (fun r hr => by have := (HQ.out r hr).2; omega))
          have x03 := hc3.out.c0
          have x13 := hc3.out.c1
          have hsz3 : w2.heap.size ≤ W3.heap.size := Nat.le_trans hsz2 HB3.out.size
          have hbb3 : bb < W3.heap.size := Nat.lt_of_lt_of_le hbb2 HB3.out.size
          have hown3 : Hid (W3.ownsRow (w.heap.size + 1 + 1) 9 1 v3 (nw + 1) (flatS (ws ++ [((⟨#[33]⟩ : ByteArray) ++ s)]))) := Lib.hid (by simpa [flatS] using HO3.out)
          go_wp2
          go_roundw
          case rel => exact ⟨k + 1, nw + 1, ws ++ [((⟨#[33]⟩ : ByteArray) ++ s)], by omega, by omega, by go_num, Lib.hid (bangs_ok (hws.out) hzb), Lib.hid (by rw [List.length_append, hwl.out]; rfl), hown3, hS3, hap3, hf3, hc3, hsz3⟩
          case measure => simp [intOf]; omega
        · skip
          go_wp2
          go_roundw
          case rel => exact ⟨k + 1, nw, ws, by omega, by omega, by go_num, Lib.hid (hws.out), Lib.hid (hwl.out), hown2, hS2, hap0, hf2, hc2, hsz2⟩
          case measure => simp [intOf]; omega
    · obtain rfl : k = ms.length := by omega
      have hi9 : ¬ (ms.length : Int) < (ms.length : Int) := by omega
      obtain ⟨A', c', hv⟩ := own_form hown0.out
      subst hv
      have HB := Lib.hid hf0.out.bel
      by_cases h0 : nw = 0
      · subst h0
        go_wp2
        go_ret
        exact ⟨_, rfl, by decide, HB.out⟩
      · have h01 : ((nw : Int) == 0) = false := by rw [beq_eq_false_iff_ne]; omega
        have hwl3 := hwl.out
        have HSS : Hid (SS wr wr.heap.size A' nw c' ws) := Lib.hid (ss_of_own hown0.out (fun s hs => by have := hws.out s hs; unfold maxLen; omega))
        have HJ : Hid (∀ k, k ≤ ws.length → (joinW (ws.take k) spB).size ≤ 3900) := Lib.hid (fun k hk => by
          have h1 := joinW_size (sep := spB) hws.out k hk
          have h2 : spB.size = 1 := rfl
          rw [h2] at h1
          have h3 : (101 + 1) * k ≤ 102 * 26 := Nat.mul_le_mul_left 102 (by omega)
          omega)
        have HJ2 : Hid ((joinW ws spB).size ≤ 3900) := Lib.hid (by have h := HJ.out ws.length (Nat.le_refl _); rwa [List.take_of_length_le (Nat.le_refl _)] at h)
        go_wp2_with fail
        refine (joinWith_any ws spB _ _ _ _ HSS.out 3900 HJ.out (fun s hs => by have := hws.out s hs; omega) (by decide) (by omega)).mono ?_
        rintro e w7 ⟨rfl, rfl⟩
        generalize joinW ws spB = tx at *
        go_wp2
        go_ret
        exact ⟨_, rfl, HJ2.out, HB.out⟩
end Go.Proofs.YtpfdghbjagdhfaaDoor

namespace Go.Proofs.YtpfdghbjagdhfaaDoor
open Go.RowKit Go.Maps
set_option linter.unusedVariables false
set_option linter.unusedSimpArgs false
set_option maxRecDepth 100000

theorem inv_at {u : ByteArray} (h : 0 < u.size) : isInv u = decide (u[0] = 33) := by
  have e : u.data.toList.head? = some u[0] := by
    rw [List.head?_eq_getElem?, Array.getElem?_toList]
    exact Array.getElem?_eq_getElem h
  unfold isInv
  rw [e]
  rw [Bool.eq_iff_iff, decide_eq_true_iff, decide_eq_true_iff]
  exact ⟨fun h => Option.some.inj h, fun h => by rw [h]⟩
theorem list_ne {u : ByteArray} (h : 0 < u.size) : (u.toList == []) = false := by
  rw [beq_eq_false_iff_ne]
  intro e
  have : u = ⟨#[]⟩ := nm_inj (by rw [e]; first | rfl | decide | simp [go_sem])
  rw [this] at h
  exact absurd h (by decide)
theorem size_zero {u : ByteArray} (h : ¬ 0 < u.size) : u = ⟨#[]⟩ := by
  apply ByteArray.ext
  apply Array.eq_empty_of_size_eq_zero
  show u.size = 0
  omega
theorem starNo {s : ByteArray} (h : s ≠ starB) : (s.toList == [42]) = false := by
  rw [beq_eq_false_iff_ne]
  intro e
  exact h (nm_inj (by rw [e]; first | rfl | decide | simp [starB, go_sem]))
theorem textNo {s t : ByteArray} (h : t ≠ s) : (t.toList == s.toList) = false := by
  rw [beq_eq_false_iff_ne]
  exact fun e => h (nm_inj e)
/-- What the model's parseArm returns. -/
def PaP (r : Option (Nat × Nat)) (w : World) (e : Ending) (w' : World) : Prop :=
  ∃ (p q : Nat) (v : Bool), e = .returned (.tuple #[.agg #[.int .i64 p, .int .i64 q], .bool v]) ∧ (v = true → r = some (p, q)) ∧ (v = false → r = none) ∧ Below w.heap.size w w'

set_option maxHeartbeats 32000000 in
theorem parseArm_v (ds : List D) (b : Int) (s : ByteArray) (A : Option Addr) (m c : Nat) (w : World) (hr : SD w w.heap.size A m c ds) (hs : s.size ≤ 1048576) (hv : vFlag ds b = true) :
    Calls Tryd.prog 48 #[.agg #[.slice A m c, .int .i64 b], .string s] w (PaP (mPar ds b s) w) := by
  have HF := Lib.hid (((FB.start hr b).alloc (.cells #[.int .i64 0, .int .i64 0] 27)).alloc (.cells #[.int .i64 0, .int .i64 0] 27))
  have HLM := Lib.hid hr.len
  have HIN := Lib.hid (vFlag_in hv)
  have HV := Lib.hid hv
  obtain ⟨W0, hw⟩ : ∃ W : World, W = (((w.alloc (.cells #[.slice A m c, .int .i64 b] 32)).alloc (.cells #[.int .i64 0, .int .i64 0] 27)).alloc (.cells #[.int .i64 0, .int .i64 0] 27)) := ⟨_, rfl⟩
  have HC0 : Hid (C2 W0 (w.heap.size + 1) (.int .i64 0) (.int .i64 0)) := Lib.hid (by rw [hw]; exact (c2New' _ _ _ _ _).low ((Below.refl _ _).alloc (Nat.le_refl _) _) (by simp))
  have HA0 : Hid (C2 W0 (w.heap.size + 1 + 1) (.int .i64 0) (.int .i64 0)) := Lib.hid (by
    have h := c2New ((w.alloc (.cells #[.slice A m c, .int .i64 b] 32)).alloc (.cells #[.int .i64 0, .int .i64 0] 27)) (.int .i64 0) (.int .i64 0) 27
    have e : ((w.alloc (.cells #[.slice A m c, .int .i64 b] 32)).alloc (.cells #[.int .i64 0, .int .i64 0] 27)).heap.size = w.heap.size + 1 + 1 := by simp
    rw [e] at h
    rw [hw]
    exact h)
  have hs0 : W0.heap.size = w.heap.size + 1 + 1 + 1 := by rw [hw]; simp
  rw [← hw] at HF
  have HW := Lib.hid hw.symm
  clear hr hv hw
  by_cases hst : s = starB
  · subst hst
    have HM : Hid (mPar ds b starB = some (0, 0)) := Lib.hid (by unfold mPar; rw [if_pos HV.out, if_pos rfl])
    generalize mPar ds b starB = r at *
    unfold starB
    go_enter Tryd.func48, Tryd.ntmps48
    go_wp2
    refine bodyPost_ret (v := .tuple #[.agg #[.int .i64 0, .int .i64 0], .bool true]) (by simp [results, Tryd.results48, go_sem]) rfl ⟨0, 0, true, rfl, fun _ => HM.out, fun h => (by cases h), ?_⟩
    repeat first | exact Below.refl _ _ | refine Below.setCell ?_ (by first | exact Nat.le_refl _ | (show w.heap.size ≤ _; omega)) _ | refine Below.alloc ?_ (by first | exact Nat.le_refl _ | (simp; done) | (simp; omega)) _
  have hsn := starNo hst
  have HSP := Lib.hid (fun w => splitAt_any s 32 32 rfl w hs)
  unfold StrsP at HSP
  have hwl := (splitT_len 32 s).1
  have HWS : Hid (∀ x ∈ splitT 32 s, x.size ≤ 1048576) := Lib.hid fun x hx => by have := splitT_size 32 s x hx; omega
  have HNR : Hid (arTo ds (splitT 32 s) 0 0 = none → mPar ds b s = none) := Lib.hid fun e => by unfold mPar; rw [if_pos HV.out, if_neg hst, e]
  have HER : Hid (∀ p q : Nat, arTo ds (splitT 32 s) 0 0 = some (p, q) → mPar ds b s = if mArmOk ds b ⟨p, q⟩ && decide (mArmT ds b ⟨p, q⟩ = s) then some (p, q) else none) := Lib.hid fun p q e => by unfold mPar; rw [if_pos HV.out, if_neg hst, e]
  generalize splitT 32 s = ws at *
  generalize mPar ds b s = r at *
  have HOKS : Hid (∀ x ∈ ws, x.size ≤ maxLen) := Lib.hid fun x hx => by have := HWS.out x hx; unfold maxLen; omega
  clear hst
  go_enter Tryd.func48, Tryd.ntmps48
  go_wp2_with fail
  rw [HW.out]
  clear HW
  refine (HSP.out _).mono ?_
  rintro e w1 ⟨A1, c1, rfl, ho, hb⟩
  have HO1 := Lib.hid ho
  have HF1 := Lib.hid (HF.out.call hb)
  have HC1 := Lib.hid (HC0.out.below hb)
  have HA1 := Lib.hid (HA0.out.below hb)
  have hs1 := hb.size
  clear ho hb HSP HF HC0 HA0
  go_wp2
  go_loopw [8] (fun i wr => ∃ (k p q : Nat), k ≤ ws.length ∧ p < 4096 ∧ q < 4096 ∧ i = .int .i64 k ∧ Hid (arAt ds ws k p q) ∧ Hid (wr.ownsRow W0.heap.size 9 1 (.slice A1 ws.length c1) ws.length (flatS ws)) ∧ Hid (FB w wr w.heap.size A m c ds b) ∧ Hid (C2 wr (w.heap.size + 1) (.int .i64 0) (.int .i64 0)) ∧ Hid (C2 wr (w.heap.size + 1 + 1) (.int .i64 p) (.int .i64 q)) ∧ W0.heap.size ≤ wr.heap.size) (fun i _ => ws.length - (intOf i).toNat)
  case atStart => exact ⟨0, 0, 0, Nat.zero_le _, by omega, by omega, rfl, Lib.hid (arAt_zero ds ws), HO1, HF1, HC1, HA1, hs1⟩
  case round =>
    clear HO1 HF1 HC1 HA1
    obtain ⟨k, p, q, hk, hp, hq, rfl, hst, hown, hf, hc, ha, hsz⟩ := hrel
    by_cases hlt : k < ws.length
    · obtain ⟨bb, o, hA, hbb, d1⟩ := (ss_of_own hown.out HOKS.out).at_ hlt
      subst hA
      have hi1 : (k : Int) < (ws.length : Int) := by omega
      have hi0 : (0 : Int) ≤ (k : Int) := by omega
      have hz := HWS.out _ (List.getElem_mem hlt)
      have HNO := Lib.hid (arAt_no hlt hst.out)
      have HIV := Lib.hid (fun d => arAt_inv (d := d) hlt hst.out)
      have HNT := Lib.hid (fun d => arAt_not (d := d) hlt hst.out)
      generalize ws[k] = u at *
      clear hst
      have c0 := hf.out.c0
      have NEB : Hid (∀ r, some r = (Value.slice (some ⟨bb, o, none⟩) ws.length c1).ownBlock → W0.heap.size ≤ r) := Lib.hid fun r e => (hown.out.lt r e.symm).1
      by_cases hu : 0 < u.size
      · have hne := list_ne hu
        have hu1 : (0 : Int) < (u.size : Int) := by omega
        have hu2 : (1 : Int) ≤ (u.size : Int) := by omega
        by_cases h33 : u[0] = 33
        · have e1 : ((u[0].toNat : Int) == 33) = true := by rw [h33]; rfl
          have hiv : isInv u = true := by rw [inv_at hu, decide_eq_true h33]
          have hbu : bareB u = u.extract 1 u.size := by unfold bareB; rw [if_pos hiv]
          have HI2 := Lib.hid hiv
          rw [hbu] at HNO HIV HNT
          rw [hiv] at HIV
          clear hiv h33 hbu HNT
          generalize hnm : u.extract 1 u.size = nm at *
          rcases fidx_cases (isNm nm) ds with ⟨hx, hno⟩ | ⟨j, hj, hx, hpj, hno⟩
          · have HX := Lib.hid hx
            have HN := Lib.hid (HNR.out (HNO.out (fnd_no hno)))
            obtain ⟨r0, r1, rf0, rf1⟩ := hc.out
            have HB3 := Lib.hid hf.out.bel
            clear hx hno HNO
            go_wp2_with (go_at_call 91; refine (indexOf_v ds nm _ _ _ _ hf.out.sd HX.out).mono ?_; rintro e w2 ⟨rfl, rfl⟩)
            exact bodyPost_ret (v := .tuple #[.agg #[.int .i64 0, .int .i64 0], .bool false]) (by simp [results, Tryd.results48, go_sem, r0, r1]) rfl ⟨0, 0, false, rfl, fun h => (by cases h), fun _ => HN.out, (HB3.out.setCell (by show w.heap.size ≤ w.heap.size + 1; omega) _).setCell (by show w.heap.size ≤ w.heap.size + 1; omega) _⟩
          · have HX := Lib.hid hx
            obtain ⟨bd, od, hA, hbd, d2, d3⟩ := hf.out.sd.at_ hj
            subst hA
            have HFD := Lib.hid (fnd_at hj hpj hno)
            obtain ⟨z, hz2⟩ : ∃ z : Nat, ds[j].val = z := ⟨ds[j].val.toNat, (Int.toNat_of_nonneg (HIN.out _ (List.getElem_mem hj)).1).symm⟩
            have hz4 : z < 4096 := by have := (HIN.out _ (List.getElem_mem hj)).2; omega
            have HST := Lib.hid (HIV.out ds[j] HFD.out rfl)
            rw [hz2, Int.toNat_natCast] at HST
            rw [hz2] at d3
            have hij : (j : Int) < (m : Int) := by have := HLM.out; omega
            have hij0 : (0 : Int) ≤ (j : Int) := by omega
            clear hx hno hz2 HNO HFD hpj
            have HOS : Hid ((wr.setCell ⟨w.heap.size + 1 + 1, 1, none⟩ (.int .i64 ((q ||| z : Nat) : Int))).drew.ownsRow W0.heap.size 9 1 (.slice (some ⟨bb, o, none⟩) ws.length c1) ws.length (flatS ws)) := Lib.hid (own_below (own_setCell hown.out (fun e => by have := NEB.out _ e.symm; simp only at this; omega) _) (Below.refl _ _).drew)
            obtain ⟨a0, a1, af0, af1⟩ := ha.out
            obtain ⟨t, ht⟩ : ∃ t, q ||| z = t := ⟨_, rfl⟩
            have htl : t < 4096 := by rw [← ht]; exact or_lt hq hz4
            have HEI := Lib.hid (fun w => either_any q z w hq hz4 ht)
            rw [ht] at HST HOS
            clear ht
            go_wp2_with (go_at_call 91; refine (indexOf_v ds nm _ _ _ _ hf.out.sd HX.out).mono ?_; rintro e w2 ⟨rfl, rfl⟩)
            go_region_with (first | (go_at_call 92; refine (HEI.out _).mono ?_; rintro e w6 ⟨rfl, rfl⟩))
            all_goals
              go_wp2
              go_roundw
              case rel => exact ⟨k + 1, p, t, by omega, hp, htl, by go_num, HST, HOS, Lib.hid (((hf.out.set (p := ⟨w.heap.size + 1 + 1, 1, none⟩) (by show w.heap.size ≤ w.heap.size + 1 + 1; omega) (by show w.heap.size + 1 + 1 ≠ w.heap.size; omega) _).drewN 1)), Lib.hid ((hc.out.setO (by simp) _).below (Below.refl _ _).drew), Lib.hid ((ha.out.set1 _).below (Below.refl _ _).drew), by simp; omega⟩
              case measure => simp [intOf]; omega
        · have e1 : ((u[0].toNat : Int) == 33) = false := by
            rw [beq_eq_false_iff_ne]
            intro e
            exact h33 (UInt8.toNat_inj.1 (by show u[0].toNat = 33; omega))
          have hiv : isInv u = false := by rw [inv_at hu, decide_eq_false h33]
          have hbu : bareB u = u := bare_plain hiv
          rw [hbu] at HNO HIV HNT
          rw [hiv] at HNT
          clear hiv h33 hbu HIV
          have hnm : u = u := rfl
          rcases fidx_cases (isNm u) ds with ⟨hx, hno⟩ | ⟨j, hj, hx, hpj, hno⟩
          · have HX := Lib.hid hx
            have HN := Lib.hid (HNR.out (HNO.out (fnd_no hno)))
            obtain ⟨r0, r1, rf0, rf1⟩ := hc.out
            have HB3 := Lib.hid hf.out.bel
            clear hx hno HNO
            go_wp2_with (go_at_call 91; refine (indexOf_v ds u _ _ _ _ hf.out.sd HX.out).mono ?_; rintro e w2 ⟨rfl, rfl⟩)
            exact bodyPost_ret (v := .tuple #[.agg #[.int .i64 0, .int .i64 0], .bool false]) (by simp [results, Tryd.results48, go_sem, r0, r1]) rfl ⟨0, 0, false, rfl, fun h => (by cases h), fun _ => HN.out, (HB3.out.setCell (by show w.heap.size ≤ w.heap.size + 1; omega) _).setCell (by show w.heap.size ≤ w.heap.size + 1; omega) _⟩
          · have HX := Lib.hid hx
            obtain ⟨bd, od, hA, hbd, d2, d3⟩ := hf.out.sd.at_ hj
            subst hA
            have HFD := Lib.hid (fnd_at hj hpj hno)
            obtain ⟨z, hz2⟩ : ∃ z : Nat, ds[j].val = z := ⟨ds[j].val.toNat, (Int.toNat_of_nonneg (HIN.out _ (List.getElem_mem hj)).1).symm⟩
            have hz4 : z < 4096 := by have := (HIN.out _ (List.getElem_mem hj)).2; omega
            have HST := Lib.hid (HNT.out ds[j] HFD.out rfl)
            rw [hz2, Int.toNat_natCast] at HST
            rw [hz2] at d3
            have hij : (j : Int) < (m : Int) := by have := HLM.out; omega
            have hij0 : (0 : Int) ≤ (j : Int) := by omega
            clear hx hno hz2 HNO HFD hpj
            have HOS : Hid ((wr.setCell ⟨w.heap.size + 1 + 1, 0, none⟩ (.int .i64 ((p ||| z : Nat) : Int))).drew.ownsRow W0.heap.size 9 1 (.slice (some ⟨bb, o, none⟩) ws.length c1) ws.length (flatS ws)) := Lib.hid (own_below (own_setCell hown.out (fun e => by have := NEB.out _ e.symm; simp only at this; omega) _) (Below.refl _ _).drew)
            obtain ⟨a0, a1, af0, af1⟩ := ha.out
            obtain ⟨t, ht⟩ : ∃ t, p ||| z = t := ⟨_, rfl⟩
            have htl : t < 4096 := by rw [← ht]; exact or_lt hp hz4
            have HEI := Lib.hid (fun w => either_any p z w hp hz4 ht)
            rw [ht] at HST HOS
            clear ht
            go_wp2_with (go_at_call 91; refine (indexOf_v ds u _ _ _ _ hf.out.sd HX.out).mono ?_; rintro e w2 ⟨rfl, rfl⟩)
            go_region_with (first | (go_at_call 92; refine (HEI.out _).mono ?_; rintro e w6 ⟨rfl, rfl⟩))
            all_goals
              go_wp2
              go_roundw
              case rel => exact ⟨k + 1, t, q, by omega, htl, hq, by go_num, HST, HOS, Lib.hid (((hf.out.set (p := ⟨w.heap.size + 1 + 1, 0, none⟩) (by show w.heap.size ≤ w.heap.size + 1 + 1; omega) (by show w.heap.size + 1 + 1 ≠ w.heap.size; omega) _).drewN 1)), Lib.hid ((hc.out.setO (by simp) _).below (Below.refl _ _).drew), Lib.hid ((ha.out.set0 _).below (Below.refl _ _).drew), by simp; omega⟩
              case measure => simp [intOf]; omega
      · have hue := size_zero hu
        subst hue
        have hiv : isInv (⟨#[]⟩ : ByteArray) = false := rfl
        have hbu : bareB (⟨#[]⟩ : ByteArray) = ⟨#[]⟩ := bare_plain hiv
        rw [hbu] at HNO HIV HNT
        rw [hiv] at HNT
        clear hiv hbu HIV hu
        rcases fidx_cases (isNm (⟨#[]⟩ : ByteArray)) ds with ⟨hx, hno⟩ | ⟨j, hj, hx, hpj, hno⟩
        · have HX := Lib.hid hx
          have HN := Lib.hid (HNR.out (HNO.out (fnd_no hno)))
          obtain ⟨r0, r1, rf0, rf1⟩ := hc.out
          have HB3 := Lib.hid hf.out.bel
          clear hx hno HNO
          go_wp2_with (go_at_call 91; refine (indexOf_v ds (⟨#[]⟩ : ByteArray) _ _ _ _ hf.out.sd HX.out).mono ?_; rintro e w2 ⟨rfl, rfl⟩)
          exact bodyPost_ret (v := .tuple #[.agg #[.int .i64 0, .int .i64 0], .bool false]) (by simp [results, Tryd.results48, go_sem, r0, r1]) rfl ⟨0, 0, false, rfl, fun h => (by cases h), fun _ => HN.out, (HB3.out.setCell (by show w.heap.size ≤ w.heap.size + 1; omega) _).setCell (by show w.heap.size ≤ w.heap.size + 1; omega) _⟩
        · have HX := Lib.hid hx
          obtain ⟨bd, od, hA, hbd, d2, d3⟩ := hf.out.sd.at_ hj
          subst hA
          have HFD := Lib.hid (fnd_at hj hpj hno)
          obtain ⟨z, hz2⟩ : ∃ z : Nat, ds[j].val = z := ⟨ds[j].val.toNat, (Int.toNat_of_nonneg (HIN.out _ (List.getElem_mem hj)).1).symm⟩
          have hz4 : z < 4096 := by have := (HIN.out _ (List.getElem_mem hj)).2; omega
          have HST := Lib.hid (HNT.out ds[j] HFD.out rfl)
          rw [hz2, Int.toNat_natCast] at HST
          rw [hz2] at d3
          have hij : (j : Int) < (m : Int) := by have := HLM.out; omega
          have hij0 : (0 : Int) ≤ (j : Int) := by omega
          clear hx hno hz2 HNO HFD hpj
          have HOS : Hid ((wr.setCell ⟨w.heap.size + 1 + 1, 0, none⟩ (.int .i64 ((p ||| z : Nat) : Int))).drew.ownsRow W0.heap.size 9 1 (.slice (some ⟨bb, o, none⟩) ws.length c1) ws.length (flatS ws)) := Lib.hid (own_below (own_setCell hown.out (fun e => by have := NEB.out _ e.symm; simp only at this; omega) _) (Below.refl _ _).drew)
          obtain ⟨a0, a1, af0, af1⟩ := ha.out
          obtain ⟨t, ht⟩ : ∃ t, p ||| z = t := ⟨_, rfl⟩
          have htl : t < 4096 := by rw [← ht]; exact or_lt hp hz4
          have HEI := Lib.hid (fun w => either_any p z w hp hz4 ht)
          rw [ht] at HST HOS
          clear ht
          go_wp2_with (go_at_call 91; refine (indexOf_v ds (⟨#[]⟩ : ByteArray) _ _ _ _ hf.out.sd HX.out).mono ?_; rintro e w2 ⟨rfl, rfl⟩)
          go_region_with (first | (go_at_call 92; refine (HEI.out _).mono ?_; rintro e w6 ⟨rfl, rfl⟩))
          all_goals
            go_wp2
            go_roundw
            case rel => exact ⟨k + 1, t, q, by omega, htl, hq, by go_num, HST, HOS, Lib.hid (((hf.out.set (p := ⟨w.heap.size + 1 + 1, 0, none⟩) (by show w.heap.size ≤ w.heap.size + 1 + 1; omega) (by show w.heap.size + 1 + 1 ≠ w.heap.size; omega) _).drewN 1)), Lib.hid ((hc.out.setO (by simp) _).below (Below.refl _ _).drew), Lib.hid ((ha.out.set0 _).below (Below.refl _ _).drew), by simp; omega⟩
            case measure => simp [intOf]; omega
    · obtain rfl : k = ws.length := by omega
      have hi9 : ¬ (ws.length : Int) < (ws.length : Int) := by omega
      have HE := Lib.hid (HER.out p q (arAt_end hst.out))
      obtain ⟨va, hva⟩ : ∃ t, mArm ds b ⟨p, q⟩ = t := ⟨_, rfl⟩
      obtain ⟨ct, hct⟩ : ∃ t, decide (nl (p ||| q) (mMask (mSg ds)) = 0) = t := ⟨_, rfl⟩
      have HVA := Lib.hid hva
      have HCT := Lib.hid hct
      have hok : mArmOk ds b ⟨p, q⟩ = (va && ct) := by rw [mArmOk_two]; simp only [Int.toNat_natCast]; rw [hva, hct]
      have htt : va = true → ct = true → mArmT ds b ⟨p, q⟩ = textA ds p q := fun e1 e2 => by unfold mArmT; rw [hok, e1, e2]; simp only [Int.toNat_natCast]; rfl
      have HTT := Lib.hid htt
      have HPQ : Hid (va = true → p &&& q = 0) := Lib.hid fun e => by
        obtain ⟨p', q', e1, e2, _, _, _, _, h⟩ := mArm_nat (show mArm ds b ⟨p, q⟩ = true by rw [hva, e])
        simp only at e1 e2
        have h1 : p = p' := by omega
        have h2 : q = q' := by omega
        rw [h1, h2]; exact h
      rw [hok] at HE
      clear hva hct hok htt hst
      obtain ⟨tx, htx⟩ : ∃ t, textA ds p q = t := ⟨_, rfl⟩
      have HTA := Lib.hid (fun (h : p &&& q = 0) (A : Option Addr) (m c : Nat) (w : World) (hr : SD w w.heap.size A m c ds) => armText_v ds b p q A m c w hr HV.out hp hq h)
      rw [htx] at HTA HTT
      clear htx
      have c0 := hf.out.c0
      have c1' := hf.out.c1
      obtain ⟨r0, r1, rf0, rf1⟩ := hc.out
      have a0 := ha.out.c0
      have a1 := ha.out.c1
      have HF3 := hf
      have HC3 := hc
      have HA3 := ha
      have c03 := c0
      have c13 := c1'
      have a03 := a0
      have a13 := a1
      cases va
      · have HN : Hid (r = none) := Lib.hid (by rw [HE.out]; rfl)
        go_wp2_with fail
        refine wp_region_held_drew (S := (fun w' => w'.cell? ⟨w.heap.size, 0, none⟩ = some (.slice A m c) ∧ w'.cell? ⟨w.heap.size, 1, none⟩ = some (.int .i64 b) ∧ w'.cell? ⟨w.heap.size + 1 + 1, 0, none⟩ = some (.int .i64 p) ∧ w'.cell? ⟨w.heap.size + 1 + 1, 1, none⟩ = some (.int .i64 q))) (by kernel_rfl) ⟨c03, c13, a03, a13⟩ (fun hHeld => ?_)
        refine wpAnyH_take (i := 0) (v := ?_) rfl (by kernel_rfl) (by kernel_rfl) (by kernel_rfl) (fun _ _ _ h => h) (Or.inl ⟨by kernel_rfl, ?_⟩) hHeld ?_
        rotate_left
        · intro wz hSw
          obtain ⟨s0, s1, s2, s3⟩ := hSw
          first
          | (go_simp; done)
          | (go_simp; with_reducible rfl)
          | (go_simp; omega)
        try simp only [Act.put, List.setIfInBounds_toArray, List.set_cons_zero, List.set_cons_succ]
        refine wpAnyH_take (i := 1) (v := ?_) rfl (by kernel_rfl) (by kernel_rfl) (by kernel_rfl) (fun _ _ _ h => h) (Or.inl ⟨by kernel_rfl, ?_⟩) hHeld ?_
        rotate_left
        · intro wz hSw
          obtain ⟨s0, s1, s2, s3⟩ := hSw
          first
          | (go_simp; done)
          | (go_simp; with_reducible rfl)
          | (go_simp; omega)
        try simp only [Act.put, List.setIfInBounds_toArray, List.set_cons_zero, List.set_cons_succ]
        refine wpAnyH_take (i := 2) (v := ?_) rfl (by kernel_rfl) (by kernel_rfl) (by kernel_rfl) (fun _ _ _ h => h) (Or.inl ⟨by kernel_rfl, ?_⟩) hHeld ?_
        rotate_left
        · intro wz hSw
          obtain ⟨s0, s1, s2, s3⟩ := hSw
          first
          | (go_simp; done)
          | (go_simp; with_reducible rfl)
          | (go_simp; omega)
        try simp only [Act.put, List.setIfInBounds_toArray, List.set_cons_zero, List.set_cons_succ]
        refine wpAnyH_ready (rs := [3]) (by kernel_rfl) (by simp) ?_
        refine AllReadyH.cons rfl (fun K hK => ?_) AllReadyH.nil
        go_simp
        refine (validArm_v ds b p q _ _ _ _ (by first | exact HF3.out.sd | exact (HF3.out.drewN _).sd) HVA.out).mono ?_
        rintro e w5 ⟨rfl, hb⟩
        replace hb : Below wr.heap.size wr w5 := (by first | exact hb | exact undrew hb)
        have HF5 := Lib.hid (HF3.out.call hb)
        have HC5 := Lib.hid (HC3.out.below hb)
        have HA5 := Lib.hid (HA3.out.below hb)
        have c05 := HF5.out.c0
        have c15 := HF5.out.c1
        have a05 := HA5.out.c0
        have a15 := HA5.out.c1
        obtain ⟨r05, r15, rf05, rf15⟩ := HC5.out
        clear hb
        go_simp
        refine hK.out _ _ ⟨c05, c15, a05, a15⟩ (fun hHeld => ?_)
        clear hK K
        try simp only [Act.put, List.setIfInBounds_toArray, List.set_cons_zero, List.set_cons_succ]
        refine wpAnyH_take (i := 4) (v := ?_) rfl (by kernel_rfl) (by kernel_rfl) (by kernel_rfl) (fun _ _ _ h => h) (Or.inl ⟨by kernel_rfl, ?_⟩) hHeld ?_
        rotate_left
        · intro wz hSw
          obtain ⟨s0, s1, s2, s3⟩ := hSw
          first
          | (go_simp; done)
          | (go_simp; with_reducible rfl)
          | (go_simp; omega)
        try simp only [Act.put, List.setIfInBounds_toArray, List.set_cons_zero, List.set_cons_succ]
        refine wpAnyH_take (i := 5) (v := undef) rfl (by kernel_rfl) (by kernel_rfl) (by kernel_rfl) (fun _ _ _ h => h) (Or.inr ⟨by kernel_rfl, rfl⟩) hHeld ?_
        try simp only [Act.put, List.setIfInBounds_toArray, List.set_cons_zero, List.set_cons_succ]
        refine wpAnyH_take (i := 6) (v := undef) rfl (by kernel_rfl) (by kernel_rfl) (by kernel_rfl) (fun _ _ _ h => h) (Or.inr ⟨by kernel_rfl, rfl⟩) hHeld ?_
        try simp only [Act.put, List.setIfInBounds_toArray, List.set_cons_zero, List.set_cons_succ]
        refine wpAnyH_take (i := 7) (v := undef) rfl (by kernel_rfl) (by kernel_rfl) (by kernel_rfl) (fun _ _ _ h => h) (Or.inr ⟨by kernel_rfl, rfl⟩) hHeld ?_
        try simp only [Act.put, List.setIfInBounds_toArray, List.set_cons_zero, List.set_cons_succ]
        refine wpAnyH_take (i := 8) (v := ?_) rfl (by kernel_rfl) (by kernel_rfl) (by kernel_rfl) (fun _ _ _ h => h) (Or.inl ⟨by kernel_rfl, ?_⟩) hHeld ?_
        rotate_left
        · intro wz hSw
          obtain ⟨s0, s1, s2, s3⟩ := hSw
          first
          | (go_simp; done)
          | (go_simp; with_reducible rfl)
          | (go_simp; omega)
        try simp only [Act.put, List.setIfInBounds_toArray, List.set_cons_zero, List.set_cons_succ]
        refine wpAnyH_take (i := 9) (v := ?_) rfl (by kernel_rfl) (by kernel_rfl) (by kernel_rfl) (fun _ _ _ h => h) (Or.inl ⟨by kernel_rfl, ?_⟩) hHeld ?_
        rotate_left
        · intro wz hSw
          obtain ⟨s0, s1, s2, s3⟩ := hSw
          first
          | (go_simp; done)
          | (go_simp; with_reducible rfl)
          | (go_simp; omega)
        try simp only [Act.put, List.setIfInBounds_toArray, List.set_cons_zero, List.set_cons_succ]
        refine wpAnyH_take (i := 10) (v := undef) rfl (by kernel_rfl) (by kernel_rfl) (by kernel_rfl) (fun _ _ _ h => h) (Or.inr ⟨by kernel_rfl, rfl⟩) hHeld ?_
        try simp only [Act.put, List.setIfInBounds_toArray, List.set_cons_zero, List.set_cons_succ]
        refine wpAnyH_take (i := 11) (v := undef) rfl (by kernel_rfl) (by kernel_rfl) (by kernel_rfl) (fun _ _ _ h => h) (Or.inr ⟨by kernel_rfl, rfl⟩) hHeld ?_
        try simp only [Act.put, List.setIfInBounds_toArray, List.set_cons_zero, List.set_cons_succ]
        refine wpAnyH_take (i := 12) (v := undef) rfl (by kernel_rfl) (by kernel_rfl) (by kernel_rfl) (fun _ _ _ h => h) (Or.inr ⟨by kernel_rfl, rfl⟩) hHeld ?_
        try simp only [Act.put, List.setIfInBounds_toArray, List.set_cons_zero, List.set_cons_succ]
        refine wpAnyH_take (i := 13) (v := undef) rfl (by kernel_rfl) (by kernel_rfl) (by kernel_rfl) (fun _ _ _ h => h) (Or.inr ⟨by kernel_rfl, rfl⟩) hHeld ?_
        try simp only [Act.put, List.setIfInBounds_toArray, List.set_cons_zero, List.set_cons_succ]
        refine wpAnyH_take (i := 14) (v := undef) rfl (by kernel_rfl) (by kernel_rfl) (by kernel_rfl) (fun _ _ _ h => h) (Or.inr ⟨by kernel_rfl, rfl⟩) hHeld ?_
        try simp only [Act.put, List.setIfInBounds_toArray, List.set_cons_zero, List.set_cons_succ]
        refine wpAnyH_take (i := 15) (v := ?_) rfl (by kernel_rfl) (by kernel_rfl) (by kernel_rfl) (fun _ _ _ h => h) (Or.inl ⟨by kernel_rfl, ?_⟩) hHeld ?_
        rotate_left
        · intro wz hSw
          obtain ⟨s0, s1, s2, s3⟩ := hSw
          first
          | (go_simp; done)
          | (go_simp; with_reducible rfl)
          | (go_simp; omega)
        try simp only [Act.put, List.setIfInBounds_toArray, List.set_cons_zero, List.set_cons_succ]
        refine wpAnyH_ready (rs := [16]) (by kernel_rfl) (by simp) ?_
        refine AllReadyH.cons rfl (fun K hK => ?_) AllReadyH.nil
        go_simp
        have HFS := Lib.hid ((HF5.out.set (p := ⟨w.heap.size + 1, 0, none⟩) (by show w.heap.size ≤ w.heap.size + 1; omega) (by show w.heap.size + 1 ≠ w.heap.size; omega) (.int .i64 (p : Int))).set (p := ⟨w.heap.size + 1, 1, none⟩) (by show w.heap.size ≤ w.heap.size + 1; omega) (by show w.heap.size + 1 ≠ w.heap.size; omega) (.int .i64 (q : Int)))
        have HCS := Lib.hid ((HC5.out.set0 (.int .i64 (p : Int))).set1 (.int .i64 (q : Int)))
        have HAS := Lib.hid ((HA5.out.setO (p := ⟨w.heap.size + 1, 0, none⟩) (by simp) (.int .i64 (p : Int))).setO (p := ⟨w.heap.size + 1, 1, none⟩) (by simp) (.int .i64 (q : Int)))
        refine hK.out _ _ ⟨HFS.out.c0, HFS.out.c1, HAS.out.c0, HAS.out.c1⟩ (fun hHeld => ?_)
        clear hK K
        obtain ⟨q0, q1, qf0, qf1⟩ := HCS.out
        try simp only [Act.put, List.setIfInBounds_toArray, List.set_cons_zero, List.set_cons_succ]
        refine wpAnyH_take (i := 17) (v := ?_) rfl (by kernel_rfl) (by kernel_rfl) (by kernel_rfl) (fun _ _ _ h => h) (Or.inl ⟨by kernel_rfl, ?_⟩) hHeld ?_
        rotate_left
        · intro wz hSw
          obtain ⟨s0, s1, s2, s3⟩ := hSw
          first
          | (go_simp; done)
          | (go_simp; with_reducible rfl)
          | (go_simp; omega)
        try simp only [Act.put, List.setIfInBounds_toArray, List.set_cons_zero, List.set_cons_succ]
        refine wpAnyH_done (by kernel_rfl) ?_ _
        try go_simp
        have HBS := Lib.hid HFS.out.bel
        go_wp2
        exact bodyPost_ret (v := .tuple #[.agg #[.int .i64 p, .int .i64 q], .bool false]) (by simp [results, Tryd.results48, go_sem, q0, q1]) rfl ⟨p, q, false, rfl, fun h => (by cases h), fun h => HN.out, HBS.out⟩
      · cases ct
        · have HN : Hid (r = none) := Lib.hid (by rw [HE.out]; rfl)
          go_wp2_with fail
          refine wp_region_held_drew (S := (fun w' => w'.cell? ⟨w.heap.size, 0, none⟩ = some (.slice A m c) ∧ w'.cell? ⟨w.heap.size, 1, none⟩ = some (.int .i64 b) ∧ w'.cell? ⟨w.heap.size + 1 + 1, 0, none⟩ = some (.int .i64 p) ∧ w'.cell? ⟨w.heap.size + 1 + 1, 1, none⟩ = some (.int .i64 q))) (by kernel_rfl) ⟨c03, c13, a03, a13⟩ (fun hHeld => ?_)
          refine wpAnyH_take (i := 0) (v := ?_) rfl (by kernel_rfl) (by kernel_rfl) (by kernel_rfl) (fun _ _ _ h => h) (Or.inl ⟨by kernel_rfl, ?_⟩) hHeld ?_
          rotate_left
          · intro wz hSw
            obtain ⟨s0, s1, s2, s3⟩ := hSw
            first
            | (go_simp; done)
            | (go_simp; with_reducible rfl)
            | (go_simp; omega)
          try simp only [Act.put, List.setIfInBounds_toArray, List.set_cons_zero, List.set_cons_succ]
          refine wpAnyH_take (i := 1) (v := ?_) rfl (by kernel_rfl) (by kernel_rfl) (by kernel_rfl) (fun _ _ _ h => h) (Or.inl ⟨by kernel_rfl, ?_⟩) hHeld ?_
          rotate_left
          · intro wz hSw
            obtain ⟨s0, s1, s2, s3⟩ := hSw
            first
            | (go_simp; done)
            | (go_simp; with_reducible rfl)
            | (go_simp; omega)
          try simp only [Act.put, List.setIfInBounds_toArray, List.set_cons_zero, List.set_cons_succ]
          refine wpAnyH_take (i := 2) (v := ?_) rfl (by kernel_rfl) (by kernel_rfl) (by kernel_rfl) (fun _ _ _ h => h) (Or.inl ⟨by kernel_rfl, ?_⟩) hHeld ?_
          rotate_left
          · intro wz hSw
            obtain ⟨s0, s1, s2, s3⟩ := hSw
            first
            | (go_simp; done)
            | (go_simp; with_reducible rfl)
            | (go_simp; omega)
          try simp only [Act.put, List.setIfInBounds_toArray, List.set_cons_zero, List.set_cons_succ]
          refine wpAnyH_ready (rs := [3]) (by kernel_rfl) (by simp) ?_
          refine AllReadyH.cons rfl (fun K hK => ?_) AllReadyH.nil
          go_simp
          refine (validArm_v ds b p q _ _ _ _ (by first | exact HF3.out.sd | exact (HF3.out.drewN _).sd) HVA.out).mono ?_
          rintro e w5 ⟨rfl, hb⟩
          replace hb : Below wr.heap.size wr w5 := (by first | exact hb | exact undrew hb)
          have HF5 := Lib.hid (HF3.out.call hb)
          have HC5 := Lib.hid (HC3.out.below hb)
          have HA5 := Lib.hid (HA3.out.below hb)
          have c05 := HF5.out.c0
          have c15 := HF5.out.c1
          have a05 := HA5.out.c0
          have a15 := HA5.out.c1
          obtain ⟨r05, r15, rf05, rf15⟩ := HC5.out
          clear hb
          go_simp
          refine hK.out _ _ ⟨c05, c15, a05, a15⟩ (fun hHeld => ?_)
          clear hK K
          try simp only [Act.put, List.setIfInBounds_toArray, List.set_cons_zero, List.set_cons_succ]
          refine wpAnyH_take (i := 4) (v := ?_) rfl (by kernel_rfl) (by kernel_rfl) (by kernel_rfl) (fun _ _ _ h => h) (Or.inl ⟨by kernel_rfl, ?_⟩) hHeld ?_
          rotate_left
          · intro wz hSw
            obtain ⟨s0, s1, s2, s3⟩ := hSw
            first
            | (go_simp; done)
            | (go_simp; with_reducible rfl)
            | (go_simp; omega)
          try simp only [Act.put, List.setIfInBounds_toArray, List.set_cons_zero, List.set_cons_succ]
          refine wpAnyH_take (i := 5) (v := ?_) rfl (by kernel_rfl) (by kernel_rfl) (by kernel_rfl) (fun _ _ _ h => h) (Or.inl ⟨by kernel_rfl, ?_⟩) hHeld ?_
          rotate_left
          · intro wz hSw
            obtain ⟨s0, s1, s2, s3⟩ := hSw
            first
            | (go_simp; done)
            | (go_simp; with_reducible rfl)
            | (go_simp; omega)
          try simp only [Act.put, List.setIfInBounds_toArray, List.set_cons_zero, List.set_cons_succ]
          refine wpAnyH_take (i := 6) (v := ?_) rfl (by kernel_rfl) (by kernel_rfl) (by kernel_rfl) (fun _ _ _ h => h) (Or.inl ⟨by kernel_rfl, ?_⟩) hHeld ?_
          rotate_left
          · intro wz hSw
            obtain ⟨s0, s1, s2, s3⟩ := hSw
            first
            | (go_simp; done)
            | (go_simp; with_reducible rfl)
            | (go_simp; omega)
          try simp only [Act.put, List.setIfInBounds_toArray, List.set_cons_zero, List.set_cons_succ]
          refine wpAnyH_ready (rs := [7]) (by kernel_rfl) (by simp) ?_
          refine AllReadyH.cons rfl (fun K hK => ?_) AllReadyH.nil
          go_simp
          refine (canTell_v ds b p q _ _ _ _ (by first | exact HF5.out.sd | exact (HF5.out.drewN _).sd) HV.out hp hq HCT.out).mono ?_
          rintro e w6 ⟨rfl, hb⟩
          replace hb : Below w5.heap.size w5 w6 := (by first | exact hb | exact undrew hb)
          have HF6 := Lib.hid (HF5.out.call hb)
          have HC6 := Lib.hid (HC5.out.below hb)
          have HA6 := Lib.hid (HA5.out.below hb)
          have c06 := HF6.out.c0
          have c16 := HF6.out.c1
          have a06 := HA6.out.c0
          have a16 := HA6.out.c1
          obtain ⟨r06, r16, rf06, rf16⟩ := HC6.out
          clear hb
          go_simp
          refine hK.out _ _ ⟨c06, c16, a06, a16⟩ (fun hHeld => ?_)
          clear hK K
          try simp only [Act.put, List.setIfInBounds_toArray, List.set_cons_zero, List.set_cons_succ]
          refine wpAnyH_take (i := 8) (v := ?_) rfl (by kernel_rfl) (by kernel_rfl) (by kernel_rfl) (fun _ _ _ h => h) (Or.inl ⟨by kernel_rfl, ?_⟩) hHeld ?_
          rotate_left
          · intro wz hSw
            obtain ⟨s0, s1, s2, s3⟩ := hSw
            first
            | (go_simp; done)
            | (go_simp; with_reducible rfl)
            | (go_simp; omega)
          try simp only [Act.put, List.setIfInBounds_toArray, List.set_cons_zero, List.set_cons_succ]
          refine wpAnyH_take (i := 9) (v := ?_) rfl (by kernel_rfl) (by kernel_rfl) (by kernel_rfl) (fun _ _ _ h => h) (Or.inl ⟨by kernel_rfl, ?_⟩) hHeld ?_
          rotate_left
          · intro wz hSw
            obtain ⟨s0, s1, s2, s3⟩ := hSw
            first
            | (go_simp; done)
            | (go_simp; with_reducible rfl)
            | (go_simp; omega)
          try simp only [Act.put, List.setIfInBounds_toArray, List.set_cons_zero, List.set_cons_succ]
          refine wpAnyH_take (i := 10) (v := undef) rfl (by kernel_rfl) (by kernel_rfl) (by kernel_rfl) (fun _ _ _ h => h) (Or.inr ⟨by kernel_rfl, rfl⟩) hHeld ?_
          try simp only [Act.put, List.setIfInBounds_toArray, List.set_cons_zero, List.set_cons_succ]
          refine wpAnyH_take (i := 11) (v := undef) rfl (by kernel_rfl) (by kernel_rfl) (by kernel_rfl) (fun _ _ _ h => h) (Or.inr ⟨by kernel_rfl, rfl⟩) hHeld ?_
          try simp only [Act.put, List.setIfInBounds_toArray, List.set_cons_zero, List.set_cons_succ]
          refine wpAnyH_take (i := 12) (v := undef) rfl (by kernel_rfl) (by kernel_rfl) (by kernel_rfl) (fun _ _ _ h => h) (Or.inr ⟨by kernel_rfl, rfl⟩) hHeld ?_
          try simp only [Act.put, List.setIfInBounds_toArray, List.set_cons_zero, List.set_cons_succ]
          refine wpAnyH_take (i := 13) (v := undef) rfl (by kernel_rfl) (by kernel_rfl) (by kernel_rfl) (fun _ _ _ h => h) (Or.inr ⟨by kernel_rfl, rfl⟩) hHeld ?_
          try simp only [Act.put, List.setIfInBounds_toArray, List.set_cons_zero, List.set_cons_succ]
          refine wpAnyH_take (i := 14) (v := undef) rfl (by kernel_rfl) (by kernel_rfl) (by kernel_rfl) (fun _ _ _ h => h) (Or.inr ⟨by kernel_rfl, rfl⟩) hHeld ?_
          try simp only [Act.put, List.setIfInBounds_toArray, List.set_cons_zero, List.set_cons_succ]
          refine wpAnyH_take (i := 15) (v := ?_) rfl (by kernel_rfl) (by kernel_rfl) (by kernel_rfl) (fun _ _ _ h => h) (Or.inl ⟨by kernel_rfl, ?_⟩) hHeld ?_
          rotate_left
          · intro wz hSw
            obtain ⟨s0, s1, s2, s3⟩ := hSw
            first
            | (go_simp; done)
            | (go_simp; with_reducible rfl)
            | (go_simp; omega)
          try simp only [Act.put, List.setIfInBounds_toArray, List.set_cons_zero, List.set_cons_succ]
          refine wpAnyH_ready (rs := [16]) (by kernel_rfl) (by simp) ?_
          refine AllReadyH.cons rfl (fun K hK => ?_) AllReadyH.nil
          go_simp
          have HFS := Lib.hid ((HF6.out.set (p := ⟨w.heap.size + 1, 0, none⟩) (by show w.heap.size ≤ w.heap.size + 1; omega) (by show w.heap.size + 1 ≠ w.heap.size; omega) (.int .i64 (p : Int))).set (p := ⟨w.heap.size + 1, 1, none⟩) (by show w.heap.size ≤ w.heap.size + 1; omega) (by show w.heap.size + 1 ≠ w.heap.size; omega) (.int .i64 (q : Int)))
          have HCS := Lib.hid ((HC6.out.set0 (.int .i64 (p : Int))).set1 (.int .i64 (q : Int)))
          have HAS := Lib.hid ((HA6.out.setO (p := ⟨w.heap.size + 1, 0, none⟩) (by simp) (.int .i64 (p : Int))).setO (p := ⟨w.heap.size + 1, 1, none⟩) (by simp) (.int .i64 (q : Int)))
          refine hK.out _ _ ⟨HFS.out.c0, HFS.out.c1, HAS.out.c0, HAS.out.c1⟩ (fun hHeld => ?_)
          clear hK K
          obtain ⟨q0, q1, qf0, qf1⟩ := HCS.out
          try simp only [Act.put, List.setIfInBounds_toArray, List.set_cons_zero, List.set_cons_succ]
          refine wpAnyH_take (i := 17) (v := ?_) rfl (by kernel_rfl) (by kernel_rfl) (by kernel_rfl) (fun _ _ _ h => h) (Or.inl ⟨by kernel_rfl, ?_⟩) hHeld ?_
          rotate_left
          · intro wz hSw
            obtain ⟨s0, s1, s2, s3⟩ := hSw
            first
            | (go_simp; done)
            | (go_simp; with_reducible rfl)
            | (go_simp; omega)
          try simp only [Act.put, List.setIfInBounds_toArray, List.set_cons_zero, List.set_cons_succ]
          refine wpAnyH_done (by kernel_rfl) ?_ _
          try go_simp
          have HBS := Lib.hid HFS.out.bel
          go_wp2
          exact bodyPost_ret (v := .tuple #[.agg #[.int .i64 p, .int .i64 q], .bool false]) (by simp [results, Tryd.results48, go_sem, q0, q1]) rfl ⟨p, q, false, rfl, fun h => (by cases h), fun h => HN.out, HBS.out⟩
        · have HT2 : Hid (mArmT ds b ⟨p, q⟩ = tx) := Lib.hid (HTT.out rfl rfl)
          by_cases htx : tx = s
          · have HN : Hid (r = some (p, q)) := Lib.hid (by rw [HE.out, HT2.out, htx]; simp)
            subst htx
            go_wp2_with fail
            refine wp_region_held_drew (S := (fun w' => w'.cell? ⟨w.heap.size, 0, none⟩ = some (.slice A m c) ∧ w'.cell? ⟨w.heap.size, 1, none⟩ = some (.int .i64 b) ∧ w'.cell? ⟨w.heap.size + 1 + 1, 0, none⟩ = some (.int .i64 p) ∧ w'.cell? ⟨w.heap.size + 1 + 1, 1, none⟩ = some (.int .i64 q))) (by kernel_rfl) ⟨c03, c13, a03, a13⟩ (fun hHeld => ?_)
            refine wpAnyH_take (i := 0) (v := ?_) rfl (by kernel_rfl) (by kernel_rfl) (by kernel_rfl) (fun _ _ _ h => h) (Or.inl ⟨by kernel_rfl, ?_⟩) hHeld ?_
            rotate_left
            · intro wz hSw
              obtain ⟨s0, s1, s2, s3⟩ := hSw
              first
              | (go_simp; done)
              | (go_simp; with_reducible rfl)
              | (go_simp; omega)
            try simp only [Act.put, List.setIfInBounds_toArray, List.set_cons_zero, List.set_cons_succ]
            refine wpAnyH_take (i := 1) (v := ?_) rfl (by kernel_rfl) (by kernel_rfl) (by kernel_rfl) (fun _ _ _ h => h) (Or.inl ⟨by kernel_rfl, ?_⟩) hHeld ?_
            rotate_left
            · intro wz hSw
              obtain ⟨s0, s1, s2, s3⟩ := hSw
              first
              | (go_simp; done)
              | (go_simp; with_reducible rfl)
              | (go_simp; omega)
            try simp only [Act.put, List.setIfInBounds_toArray, List.set_cons_zero, List.set_cons_succ]
            refine wpAnyH_take (i := 2) (v := ?_) rfl (by kernel_rfl) (by kernel_rfl) (by kernel_rfl) (fun _ _ _ h => h) (Or.inl ⟨by kernel_rfl, ?_⟩) hHeld ?_
            rotate_left
            · intro wz hSw
              obtain ⟨s0, s1, s2, s3⟩ := hSw
              first
              | (go_simp; done)
              | (go_simp; with_reducible rfl)
              | (go_simp; omega)
            try simp only [Act.put, List.setIfInBounds_toArray, List.set_cons_zero, List.set_cons_succ]
            refine wpAnyH_ready (rs := [3]) (by kernel_rfl) (by simp) ?_
            refine AllReadyH.cons rfl (fun K hK => ?_) AllReadyH.nil
            go_simp
            refine (validArm_v ds b p q _ _ _ _ (by first | exact HF3.out.sd | exact (HF3.out.drewN _).sd) HVA.out).mono ?_
            rintro e w5 ⟨rfl, hb⟩
            replace hb : Below wr.heap.size wr w5 := (by first | exact hb | exact undrew hb)
            have HF5 := Lib.hid (HF3.out.call hb)
            have HC5 := Lib.hid (HC3.out.below hb)
            have HA5 := Lib.hid (HA3.out.below hb)
            have c05 := HF5.out.c0
            have c15 := HF5.out.c1
            have a05 := HA5.out.c0
            have a15 := HA5.out.c1
            obtain ⟨r05, r15, rf05, rf15⟩ := HC5.out
            clear hb
            go_simp
            refine hK.out _ _ ⟨c05, c15, a05, a15⟩ (fun hHeld => ?_)
            clear hK K
            try simp only [Act.put, List.setIfInBounds_toArray, List.set_cons_zero, List.set_cons_succ]
            refine wpAnyH_take (i := 4) (v := ?_) rfl (by kernel_rfl) (by kernel_rfl) (by kernel_rfl) (fun _ _ _ h => h) (Or.inl ⟨by kernel_rfl, ?_⟩) hHeld ?_
            rotate_left
            · intro wz hSw
              obtain ⟨s0, s1, s2, s3⟩ := hSw
              first
              | (go_simp; done)
              | (go_simp; with_reducible rfl)
              | (go_simp; omega)
            try simp only [Act.put, List.setIfInBounds_toArray, List.set_cons_zero, List.set_cons_succ]
            refine wpAnyH_take (i := 5) (v := ?_) rfl (by kernel_rfl) (by kernel_rfl) (by kernel_rfl) (fun _ _ _ h => h) (Or.inl ⟨by kernel_rfl, ?_⟩) hHeld ?_
            rotate_left
            · intro wz hSw
              obtain ⟨s0, s1, s2, s3⟩ := hSw
              first
              | (go_simp; done)
              | (go_simp; with_reducible rfl)
              | (go_simp; omega)
            try simp only [Act.put, List.setIfInBounds_toArray, List.set_cons_zero, List.set_cons_succ]
            refine wpAnyH_take (i := 6) (v := ?_) rfl (by kernel_rfl) (by kernel_rfl) (by kernel_rfl) (fun _ _ _ h => h) (Or.inl ⟨by kernel_rfl, ?_⟩) hHeld ?_
            rotate_left
            · intro wz hSw
              obtain ⟨s0, s1, s2, s3⟩ := hSw
              first
              | (go_simp; done)
              | (go_simp; with_reducible rfl)
              | (go_simp; omega)
            try simp only [Act.put, List.setIfInBounds_toArray, List.set_cons_zero, List.set_cons_succ]
            refine wpAnyH_ready (rs := [7]) (by kernel_rfl) (by simp) ?_
            refine AllReadyH.cons rfl (fun K hK => ?_) AllReadyH.nil
            go_simp
            refine (canTell_v ds b p q _ _ _ _ (by first | exact HF5.out.sd | exact (HF5.out.drewN _).sd) HV.out hp hq HCT.out).mono ?_
            rintro e w6 ⟨rfl, hb⟩
            replace hb : Below w5.heap.size w5 w6 := (by first | exact hb | exact undrew hb)
            have HF6 := Lib.hid (HF5.out.call hb)
            have HC6 := Lib.hid (HC5.out.below hb)
            have HA6 := Lib.hid (HA5.out.below hb)
            have c06 := HF6.out.c0
            have c16 := HF6.out.c1
            have a06 := HA6.out.c0
            have a16 := HA6.out.c1
            obtain ⟨r06, r16, rf06, rf16⟩ := HC6.out
            clear hb
            go_simp
            refine hK.out _ _ ⟨c06, c16, a06, a16⟩ (fun hHeld => ?_)
            clear hK K
            try simp only [Act.put, List.setIfInBounds_toArray, List.set_cons_zero, List.set_cons_succ]
            refine wpAnyH_take (i := 8) (v := ?_) rfl (by kernel_rfl) (by kernel_rfl) (by kernel_rfl) (fun _ _ _ h => h) (Or.inl ⟨by kernel_rfl, ?_⟩) hHeld ?_
            rotate_left
            · intro wz hSw
              obtain ⟨s0, s1, s2, s3⟩ := hSw
              first
              | (go_simp; done)
              | (go_simp; with_reducible rfl)
              | (go_simp; omega)
            try simp only [Act.put, List.setIfInBounds_toArray, List.set_cons_zero, List.set_cons_succ]
            refine wpAnyH_take (i := 9) (v := ?_) rfl (by kernel_rfl) (by kernel_rfl) (by kernel_rfl) (fun _ _ _ h => h) (Or.inl ⟨by kernel_rfl, ?_⟩) hHeld ?_
            rotate_left
            · intro wz hSw
              obtain ⟨s0, s1, s2, s3⟩ := hSw
              first
              | (go_simp; done)
              | (go_simp; with_reducible rfl)
              | (go_simp; omega)
            try simp only [Act.put, List.setIfInBounds_toArray, List.set_cons_zero, List.set_cons_succ]
            refine wpAnyH_take (i := 10) (v := ?_) rfl (by kernel_rfl) (by kernel_rfl) (by kernel_rfl) (fun _ _ _ h => h) (Or.inl ⟨by kernel_rfl, ?_⟩) hHeld ?_
            rotate_left
            · intro wz hSw
              obtain ⟨s0, s1, s2, s3⟩ := hSw
              first
              | (go_simp; done)
              | (go_simp; with_reducible rfl)
              | (go_simp; omega)
            try simp only [Act.put, List.setIfInBounds_toArray, List.set_cons_zero, List.set_cons_succ]
            refine wpAnyH_take (i := 11) (v := ?_) rfl (by kernel_rfl) (by kernel_rfl) (by kernel_rfl) (fun _ _ _ h => h) (Or.inl ⟨by kernel_rfl, ?_⟩) hHeld ?_
            rotate_left
            · intro wz hSw
              obtain ⟨s0, s1, s2, s3⟩ := hSw
              first
              | (go_simp; done)
              | (go_simp; with_reducible rfl)
              | (go_simp; omega)
            try simp only [Act.put, List.setIfInBounds_toArray, List.set_cons_zero, List.set_cons_succ]
            refine wpAnyH_take (i := 13) (v := ?_) rfl (by kernel_rfl) (by kernel_rfl) (by kernel_rfl) (fun _ _ _ h => h) (Or.inl ⟨by kernel_rfl, ?_⟩) hHeld ?_
            rotate_left
            · intro wz hSw
              obtain ⟨s0, s1, s2, s3⟩ := hSw
              first
              | (go_simp; done)
              | (go_simp; with_reducible rfl)
              | (go_simp; omega)
            try simp only [Act.put, List.setIfInBounds_toArray, List.set_cons_zero, List.set_cons_succ]
            refine wpAnyH_ready (rs := [12]) (by kernel_rfl) (by simp) ?_
            refine AllReadyH.cons rfl (fun K hK => ?_) AllReadyH.nil
            go_simp
            refine (HTA.out (HPQ.out (by first | rfl | trivial)) _ _ _ _ (by first | exact HF6.out.sd | exact (HF6.out.drewN _).sd)).mono ?_
            rintro e w7 ⟨rfl, hb⟩
            replace hb : Below w6.heap.size w6 w7 := (by first | exact hb | exact undrew hb)
            have HF7 := Lib.hid (HF6.out.call hb)
            have HC7 := Lib.hid (HC6.out.below hb)
            have HA7 := Lib.hid (HA6.out.below hb)
            have c07 := HF7.out.c0
            have c17 := HF7.out.c1
            have a07 := HA7.out.c0
            have a17 := HA7.out.c1
            obtain ⟨r07, r17, rf07, rf17⟩ := HC7.out
            clear hb
            go_simp
            refine hK.out _ _ ⟨c07, c17, a07, a17⟩ (fun hHeld => ?_)
            clear hK K
            try simp only [Act.put, List.setIfInBounds_toArray, List.set_cons_zero, List.set_cons_succ]
            refine wpAnyH_take (i := 14) (v := ?_) rfl (by kernel_rfl) (by kernel_rfl) (by kernel_rfl) (fun _ _ _ h => h) (Or.inl ⟨by kernel_rfl, ?_⟩) hHeld ?_
            rotate_left
            · intro wz hSw
              obtain ⟨s0, s1, s2, s3⟩ := hSw
              first
              | (go_simp; done)
              | (go_simp; with_reducible rfl)
              | (go_simp; omega)
            try simp only [Act.put, List.setIfInBounds_toArray, List.set_cons_zero, List.set_cons_succ]
            refine wpAnyH_take (i := 15) (v := ?_) rfl (by kernel_rfl) (by kernel_rfl) (by kernel_rfl) (fun _ _ _ h => h) (Or.inl ⟨by kernel_rfl, ?_⟩) hHeld ?_
            rotate_left
            · intro wz hSw
              obtain ⟨s0, s1, s2, s3⟩ := hSw
              first
              | (go_simp; done)
              | (go_simp; with_reducible rfl)
              | (go_simp; omega)
            try simp only [Act.put, List.setIfInBounds_toArray, List.set_cons_zero, List.set_cons_succ]
            refine wpAnyH_ready (rs := [16]) (by kernel_rfl) (by simp) ?_
            refine AllReadyH.cons rfl (fun K hK => ?_) AllReadyH.nil
            go_simp
            have HFS := Lib.hid ((HF7.out.set (p := ⟨w.heap.size + 1, 0, none⟩) (by show w.heap.size ≤ w.heap.size + 1; omega) (by show w.heap.size + 1 ≠ w.heap.size; omega) (.int .i64 (p : Int))).set (p := ⟨w.heap.size + 1, 1, none⟩) (by show w.heap.size ≤ w.heap.size + 1; omega) (by show w.heap.size + 1 ≠ w.heap.size; omega) (.int .i64 (q : Int)))
            have HCS := Lib.hid ((HC7.out.set0 (.int .i64 (p : Int))).set1 (.int .i64 (q : Int)))
            have HAS := Lib.hid ((HA7.out.setO (p := ⟨w.heap.size + 1, 0, none⟩) (by simp) (.int .i64 (p : Int))).setO (p := ⟨w.heap.size + 1, 1, none⟩) (by simp) (.int .i64 (q : Int)))
            refine hK.out _ _ ⟨HFS.out.c0, HFS.out.c1, HAS.out.c0, HAS.out.c1⟩ (fun hHeld => ?_)
            clear hK K
            obtain ⟨q0, q1, qf0, qf1⟩ := HCS.out
            try simp only [Act.put, List.setIfInBounds_toArray, List.set_cons_zero, List.set_cons_succ]
            refine wpAnyH_take (i := 17) (v := ?_) rfl (by kernel_rfl) (by kernel_rfl) (by kernel_rfl) (fun _ _ _ h => h) (Or.inl ⟨by kernel_rfl, ?_⟩) hHeld ?_
            rotate_left
            · intro wz hSw
              obtain ⟨s0, s1, s2, s3⟩ := hSw
              first
              | (go_simp; done)
              | (go_simp; with_reducible rfl)
              | (go_simp; omega)
            try simp only [Act.put, List.setIfInBounds_toArray, List.set_cons_zero, List.set_cons_succ]
            refine wpAnyH_done (by kernel_rfl) ?_ _
            try go_simp
            have HBS := Lib.hid HFS.out.bel
            go_wp2
            exact bodyPost_ret (v := .tuple #[.agg #[.int .i64 p, .int .i64 q], .bool true]) (by simp [results, Tryd.results48, go_sem, q0, q1]) rfl ⟨p, q, true, rfl, fun h => HN.out, fun h => (by cases h), HBS.out⟩
          · have HN : Hid (r = none) := Lib.hid (by rw [HE.out, HT2.out, decide_eq_false htx]; rfl)
            have hne := textNo htx
            go_wp2_with fail
            refine wp_region_held_drew (S := (fun w' => w'.cell? ⟨w.heap.size, 0, none⟩ = some (.slice A m c) ∧ w'.cell? ⟨w.heap.size, 1, none⟩ = some (.int .i64 b) ∧ w'.cell? ⟨w.heap.size + 1 + 1, 0, none⟩ = some (.int .i64 p) ∧ w'.cell? ⟨w.heap.size + 1 + 1, 1, none⟩ = some (.int .i64 q))) (by kernel_rfl) ⟨c03, c13, a03, a13⟩ (fun hHeld => ?_)
            refine wpAnyH_take (i := 0) (v := ?_) rfl (by kernel_rfl) (by kernel_rfl) (by kernel_rfl) (fun _ _ _ h => h) (Or.inl ⟨by kernel_rfl, ?_⟩) hHeld ?_
            rotate_left
            · intro wz hSw
              obtain ⟨s0, s1, s2, s3⟩ := hSw
              first
              | (go_simp; done)
              | (go_simp; with_reducible rfl)
              | (go_simp; omega)
            try simp only [Act.put, List.setIfInBounds_toArray, List.set_cons_zero, List.set_cons_succ]
            refine wpAnyH_take (i := 1) (v := ?_) rfl (by kernel_rfl) (by kernel_rfl) (by kernel_rfl) (fun _ _ _ h => h) (Or.inl ⟨by kernel_rfl, ?_⟩) hHeld ?_
            rotate_left
            · intro wz hSw
              obtain ⟨s0, s1, s2, s3⟩ := hSw
              first
              | (go_simp; done)
              | (go_simp; with_reducible rfl)
              | (go_simp; omega)
            try simp only [Act.put, List.setIfInBounds_toArray, List.set_cons_zero, List.set_cons_succ]
            refine wpAnyH_take (i := 2) (v := ?_) rfl (by kernel_rfl) (by kernel_rfl) (by kernel_rfl) (fun _ _ _ h => h) (Or.inl ⟨by kernel_rfl, ?_⟩) hHeld ?_
            rotate_left
            · intro wz hSw
              obtain ⟨s0, s1, s2, s3⟩ := hSw
              first
              | (go_simp; done)
              | (go_simp; with_reducible rfl)
              | (go_simp; omega)
            try simp only [Act.put, List.setIfInBounds_toArray, List.set_cons_zero, List.set_cons_succ]
            refine wpAnyH_ready (rs := [3]) (by kernel_rfl) (by simp) ?_
            refine AllReadyH.cons rfl (fun K hK => ?_) AllReadyH.nil
            go_simp
            refine (validArm_v ds b p q _ _ _ _ (by first | exact HF3.out.sd | exact (HF3.out.drewN _).sd) HVA.out).mono ?_
            rintro e w5 ⟨rfl, hb⟩
            replace hb : Below wr.heap.size wr w5 := (by first | exact hb | exact undrew hb)
            have HF5 := Lib.hid (HF3.out.call hb)
            have HC5 := Lib.hid (HC3.out.below hb)
            have HA5 := Lib.hid (HA3.out.below hb)
            have c05 := HF5.out.c0
            have c15 := HF5.out.c1
            have a05 := HA5.out.c0
            have a15 := HA5.out.c1
            obtain ⟨r05, r15, rf05, rf15⟩ := HC5.out
            clear hb
            go_simp
            refine hK.out _ _ ⟨c05, c15, a05, a15⟩ (fun hHeld => ?_)
            clear hK K
            try simp only [Act.put, List.setIfInBounds_toArray, List.set_cons_zero, List.set_cons_succ]
            refine wpAnyH_take (i := 4) (v := ?_) rfl (by kernel_rfl) (by kernel_rfl) (by kernel_rfl) (fun _ _ _ h => h) (Or.inl ⟨by kernel_rfl, ?_⟩) hHeld ?_
            rotate_left
            · intro wz hSw
              obtain ⟨s0, s1, s2, s3⟩ := hSw
              first
              | (go_simp; done)
              | (go_simp; with_reducible rfl)
              | (go_simp; omega)
            try simp only [Act.put, List.setIfInBounds_toArray, List.set_cons_zero, List.set_cons_succ]
            refine wpAnyH_take (i := 5) (v := ?_) rfl (by kernel_rfl) (by kernel_rfl) (by kernel_rfl) (fun _ _ _ h => h) (Or.inl ⟨by kernel_rfl, ?_⟩) hHeld ?_
            rotate_left
            · intro wz hSw
              obtain ⟨s0, s1, s2, s3⟩ := hSw
              first
              | (go_simp; done)
              | (go_simp; with_reducible rfl)
              | (go_simp; omega)
            try simp only [Act.put, List.setIfInBounds_toArray, List.set_cons_zero, List.set_cons_succ]
            refine wpAnyH_take (i := 6) (v := ?_) rfl (by kernel_rfl) (by kernel_rfl) (by kernel_rfl) (fun _ _ _ h => h) (Or.inl ⟨by kernel_rfl, ?_⟩) hHeld ?_
            rotate_left
            · intro wz hSw
              obtain ⟨s0, s1, s2, s3⟩ := hSw
              first
              | (go_simp; done)
              | (go_simp; with_reducible rfl)
              | (go_simp; omega)
            try simp only [Act.put, List.setIfInBounds_toArray, List.set_cons_zero, List.set_cons_succ]
            refine wpAnyH_ready (rs := [7]) (by kernel_rfl) (by simp) ?_
            refine AllReadyH.cons rfl (fun K hK => ?_) AllReadyH.nil
            go_simp
            refine (canTell_v ds b p q _ _ _ _ (by first | exact HF5.out.sd | exact (HF5.out.drewN _).sd) HV.out hp hq HCT.out).mono ?_
            rintro e w6 ⟨rfl, hb⟩
            replace hb : Below w5.heap.size w5 w6 := (by first | exact hb | exact undrew hb)
            have HF6 := Lib.hid (HF5.out.call hb)
            have HC6 := Lib.hid (HC5.out.below hb)
            have HA6 := Lib.hid (HA5.out.below hb)
            have c06 := HF6.out.c0
            have c16 := HF6.out.c1
            have a06 := HA6.out.c0
            have a16 := HA6.out.c1
            obtain ⟨r06, r16, rf06, rf16⟩ := HC6.out
            clear hb
            go_simp
            refine hK.out _ _ ⟨c06, c16, a06, a16⟩ (fun hHeld => ?_)
            clear hK K
            try simp only [Act.put, List.setIfInBounds_toArray, List.set_cons_zero, List.set_cons_succ]
            refine wpAnyH_take (i := 8) (v := ?_) rfl (by kernel_rfl) (by kernel_rfl) (by kernel_rfl) (fun _ _ _ h => h) (Or.inl ⟨by kernel_rfl, ?_⟩) hHeld ?_
            rotate_left
            · intro wz hSw
              obtain ⟨s0, s1, s2, s3⟩ := hSw
              first
              | (go_simp; done)
              | (go_simp; with_reducible rfl)
              | (go_simp; omega)
            try simp only [Act.put, List.setIfInBounds_toArray, List.set_cons_zero, List.set_cons_succ]
            refine wpAnyH_take (i := 9) (v := ?_) rfl (by kernel_rfl) (by kernel_rfl) (by kernel_rfl) (fun _ _ _ h => h) (Or.inl ⟨by kernel_rfl, ?_⟩) hHeld ?_
            rotate_left
            · intro wz hSw
              obtain ⟨s0, s1, s2, s3⟩ := hSw
              first
              | (go_simp; done)
              | (go_simp; with_reducible rfl)
              | (go_simp; omega)
            try simp only [Act.put, List.setIfInBounds_toArray, List.set_cons_zero, List.set_cons_succ]
            refine wpAnyH_take (i := 10) (v := ?_) rfl (by kernel_rfl) (by kernel_rfl) (by kernel_rfl) (fun _ _ _ h => h) (Or.inl ⟨by kernel_rfl, ?_⟩) hHeld ?_
            rotate_left
            · intro wz hSw
              obtain ⟨s0, s1, s2, s3⟩ := hSw
              first
              | (go_simp; done)
              | (go_simp; with_reducible rfl)
              | (go_simp; omega)
            try simp only [Act.put, List.setIfInBounds_toArray, List.set_cons_zero, List.set_cons_succ]
            refine wpAnyH_take (i := 11) (v := ?_) rfl (by kernel_rfl) (by kernel_rfl) (by kernel_rfl) (fun _ _ _ h => h) (Or.inl ⟨by kernel_rfl, ?_⟩) hHeld ?_
            rotate_left
            · intro wz hSw
              obtain ⟨s0, s1, s2, s3⟩ := hSw
              first
              | (go_simp; done)
              | (go_simp; with_reducible rfl)
              | (go_simp; omega)
            try simp only [Act.put, List.setIfInBounds_toArray, List.set_cons_zero, List.set_cons_succ]
            refine wpAnyH_take (i := 13) (v := ?_) rfl (by kernel_rfl) (by kernel_rfl) (by kernel_rfl) (fun _ _ _ h => h) (Or.inl ⟨by kernel_rfl, ?_⟩) hHeld ?_
            rotate_left
            · intro wz hSw
              obtain ⟨s0, s1, s2, s3⟩ := hSw
              first
              | (go_simp; done)
              | (go_simp; with_reducible rfl)
              | (go_simp; omega)
            try simp only [Act.put, List.setIfInBounds_toArray, List.set_cons_zero, List.set_cons_succ]
            refine wpAnyH_ready (rs := [12]) (by kernel_rfl) (by simp) ?_
            refine AllReadyH.cons rfl (fun K hK => ?_) AllReadyH.nil
            go_simp
            refine (HTA.out (HPQ.out (by first | rfl | trivial)) _ _ _ _ (by first | exact HF6.out.sd | exact (HF6.out.drewN _).sd)).mono ?_
            rintro e w7 ⟨rfl, hb⟩
            replace hb : Below w6.heap.size w6 w7 := (by first | exact hb | exact undrew hb)
            have HF7 := Lib.hid (HF6.out.call hb)
            have HC7 := Lib.hid (HC6.out.below hb)
            have HA7 := Lib.hid (HA6.out.below hb)
            have c07 := HF7.out.c0
            have c17 := HF7.out.c1
            have a07 := HA7.out.c0
            have a17 := HA7.out.c1
            obtain ⟨r07, r17, rf07, rf17⟩ := HC7.out
            clear hb
            go_simp
            refine hK.out _ _ ⟨c07, c17, a07, a17⟩ (fun hHeld => ?_)
            clear hK K
            try simp only [Act.put, List.setIfInBounds_toArray, List.set_cons_zero, List.set_cons_succ]
            refine wpAnyH_take (i := 14) (v := ?_) rfl (by kernel_rfl) (by kernel_rfl) (by kernel_rfl) (fun _ _ _ h => h) (Or.inl ⟨by kernel_rfl, ?_⟩) hHeld ?_
            rotate_left
            · intro wz hSw
              obtain ⟨s0, s1, s2, s3⟩ := hSw
              first
              | (go_simp; done)
              | (go_simp; with_reducible rfl)
              | (go_simp; omega)
            try simp only [Act.put, List.setIfInBounds_toArray, List.set_cons_zero, List.set_cons_succ]
            refine wpAnyH_take (i := 15) (v := ?_) rfl (by kernel_rfl) (by kernel_rfl) (by kernel_rfl) (fun _ _ _ h => h) (Or.inl ⟨by kernel_rfl, ?_⟩) hHeld ?_
            rotate_left
            · intro wz hSw
              obtain ⟨s0, s1, s2, s3⟩ := hSw
              first
              | (go_simp; done)
              | (go_simp; with_reducible rfl)
              | (go_simp; omega)
            try simp only [Act.put, List.setIfInBounds_toArray, List.set_cons_zero, List.set_cons_succ]
            refine wpAnyH_ready (rs := [16]) (by kernel_rfl) (by simp) ?_
            refine AllReadyH.cons rfl (fun K hK => ?_) AllReadyH.nil
            go_simp
            have HFS := Lib.hid ((HF7.out.set (p := ⟨w.heap.size + 1, 0, none⟩) (by show w.heap.size ≤ w.heap.size + 1; omega) (by show w.heap.size + 1 ≠ w.heap.size; omega) (.int .i64 (p : Int))).set (p := ⟨w.heap.size + 1, 1, none⟩) (by show w.heap.size ≤ w.heap.size + 1; omega) (by show w.heap.size + 1 ≠ w.heap.size; omega) (.int .i64 (q : Int)))
            have HCS := Lib.hid ((HC7.out.set0 (.int .i64 (p : Int))).set1 (.int .i64 (q : Int)))
            have HAS := Lib.hid ((HA7.out.setO (p := ⟨w.heap.size + 1, 0, none⟩) (by simp) (.int .i64 (p : Int))).setO (p := ⟨w.heap.size + 1, 1, none⟩) (by simp) (.int .i64 (q : Int)))
            refine hK.out _ _ ⟨HFS.out.c0, HFS.out.c1, HAS.out.c0, HAS.out.c1⟩ (fun hHeld => ?_)
            clear hK K
            obtain ⟨q0, q1, qf0, qf1⟩ := HCS.out
            try simp only [Act.put, List.setIfInBounds_toArray, List.set_cons_zero, List.set_cons_succ]
            refine wpAnyH_take (i := 17) (v := ?_) rfl (by kernel_rfl) (by kernel_rfl) (by kernel_rfl) (fun _ _ _ h => h) (Or.inl ⟨by kernel_rfl, ?_⟩) hHeld ?_
            rotate_left
            · intro wz hSw
              obtain ⟨s0, s1, s2, s3⟩ := hSw
              first
              | (go_simp; done)
              | (go_simp; with_reducible rfl)
              | (go_simp; omega)
            try simp only [Act.put, List.setIfInBounds_toArray, List.set_cons_zero, List.set_cons_succ]
            refine wpAnyH_done (by kernel_rfl) ?_ _
            try go_simp
            have HBS := Lib.hid HFS.out.bel
            go_wp2
            exact bodyPost_ret (v := .tuple #[.agg #[.int .i64 p, .int .i64 q], .bool false]) (by simp [results, Tryd.results48, go_sem, q0, q1]) rfl ⟨p, q, false, rfl, fun h => (by cases h), fun h => HN.out, HBS.out⟩
end Go.Proofs.YtpfdghbjagdhfaaDoor

namespace Go.Proofs.YtpfdghbjagdhfaaDoor
open Go.RowKit Go.Maps
set_option linter.unusedVariables false
set_option linter.unusedSimpArgs false
set_option maxRecDepth 100000

set_option maxHeartbeats 8000000 in
theorem specParse_v (ds : List D) (b : Int) (s : ByteArray) (A : Option Addr) (m c : Nat) (w : World) (hr : SD w w.heap.size A m c ds) (hs : s.size ≤ 1048576) {x y : Nat} {v : Bool} (hm : ArR (mPar ds b s) x y v) :
    Calls Tryd.prog 13 #[.agg #[.slice A m c, .int .i64 b], .string s] w fun e w' => e = .returned (.tuple #[.agg #[.int .i64 x, .int .i64 y], .bool v]) ∧ Below w.heap.size w w' := by
  have HF := Lib.hid ((FB.start hr b).alloc (.cells #[.int .i64 0, .int .i64 0] 27))
  have HC : Hid (C2 ((w.alloc (.cells #[.slice A m c, .int .i64 b] 32)).alloc (.cells #[.int .i64 0, .int .i64 0] 27)) (w.heap.size + 1) (.int .i64 0) (.int .i64 0)) := Lib.hid (c2New' _ _ _ _ _)
  have HMR := Lib.hid hm
  clear hr hm
  obtain ⟨w0, hw⟩ : ∃ W : World, W = ((w.alloc (.cells #[.slice A m c, .int .i64 b] 32)).alloc (.cells #[.int .i64 0, .int .i64 0] 27)) := ⟨_, rfl⟩
  have f0 : ((w.alloc (.cells #[.slice A m c, .int .i64 b] 32)).alloc (.cells #[.int .i64 0, .int .i64 0] 27)).cell? ⟨w.heap.size, 0, none⟩ = some (.slice A m c) := HF.out.c0
  have f1 : ((w.alloc (.cells #[.slice A m c, .int .i64 b] 32)).alloc (.cells #[.int .i64 0, .int .i64 0] 27)).cell? ⟨w.heap.size, 1, none⟩ = some (.int .i64 b) := HF.out.c1
  rw [← hw] at HF HC
  have HW := Lib.hid hw.symm
  clear hw
  cases hv : vFlag ds b
  · have HV := Lib.hid hv
    obtain ⟨rfl, rfl, rfl⟩ := HMR.out.no (by unfold mPar; rw [hv]; rfl)
    clear hv HMR
    go_enter Tryd.func13, Tryd.ntmps13
    go_wp2_with fail
    rw [HW.out]
    clear HW f0 f1
    refine (specVF_v ds b _ _ _ _ HF.out.sd HV.out).mono ?_
    rintro e w1 ⟨rfl, hb⟩
    have HB1 := Lib.hid (HF.out.after hb)
    obtain ⟨r0, r1, rf0, rf1⟩ := HC.out.below hb
    clear hb
    go_wp2
    exact bodyPost_ret (v := .tuple #[.agg #[.int .i64 0, .int .i64 0], .bool false]) (by simp [results, Tryd.results13, go_sem, r0, r1]) rfl ⟨rfl, (HB1.out.setCell (by show w.heap.size ≤ w.heap.size + 1; omega) _).setCell (by show w.heap.size ≤ w.heap.size + 1; omega) _⟩
  have HV := Lib.hid hv
  have HPA := Lib.hid (fun (A : Option Addr) (m c : Nat) (w : World) (hr : SD w w.heap.size A m c ds) => parseArm_v ds b s A m c w hr hs HV.out)
  unfold PaP at HPA
  generalize mPar ds b s = r at *
  clear hv
  go_enter Tryd.func13, Tryd.ntmps13
  go_wp2_with fail
  rw [HW.out]
  clear HW f0 f1
  refine (specVF_v ds b _ _ _ _ HF.out.sd HV.out).mono ?_
  rintro e w1 ⟨rfl, hb⟩
  have HF1 := Lib.hid (HF.out.call hb)
  have HC1 := Lib.hid (HC.out.below hb)
  have c0 := HF1.out.c0
  have c1 := HF1.out.c1
  clear hb HF HC
  go_wp2_with fail
  refine (HPA.out _ _ _ _ HF1.out.sd).mono ?_
  rintro e w2 ⟨p, q, v1, rfl, hy, hno, hb⟩
  have HY := Lib.hid hy
  have HN := Lib.hid hno
  have HB2 := Lib.hid ((HF1.out.after hb).alloc (HF1.out.after hb).size (.cells #[.int .i64 (p : Int), .int .i64 (q : Int)] 27))
  obtain ⟨r0, r1, rf0, rf1⟩ := (HC1.out.below hb).below ((Below.refl _ _).alloc (Nat.le_refl _) (.cells #[.int .i64 (p : Int), .int .i64 (q : Int)] 27))
  clear hb c0 c1 HF1 HC1 HPA hy hno
  cases v1
  · obtain ⟨rfl, rfl, rfl⟩ := HMR.out.no (HN.out (by first | rfl | trivial))
    go_wp2
    exact bodyPost_ret (v := .tuple #[.agg #[.int .i64 0, .int .i64 0], .bool false]) (by simp [results, Tryd.results13, go_sem, r0, r1]) rfl ⟨rfl, (HB2.out.setCell (by show w.heap.size ≤ w.heap.size + 1; omega) _).setCell (by show w.heap.size ≤ w.heap.size + 1; omega) _⟩
  · obtain ⟨rfl, rfl, rfl⟩ := HMR.out.yes p q (HY.out (by first | rfl | trivial))
    go_wp2
    exact bodyPost_ret (v := .tuple #[.agg #[.int .i64 x, .int .i64 y], .bool true]) (by simp [results, Tryd.results13, go_sem, r0, r1]) rfl ⟨rfl, (HB2.out.setCell (by show w.heap.size ≤ w.heap.size + 1; omega) _).setCell (by show w.heap.size ≤ w.heap.size + 1; omega) _⟩
end Go.Proofs.YtpfdghbjagdhfaaDoor

