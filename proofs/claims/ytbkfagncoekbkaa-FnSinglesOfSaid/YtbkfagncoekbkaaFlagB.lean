import Derived.Test.YtbkfagncoekbkaaFlagW
namespace Go.Proofs.Ytbkfagncoekbkaa
open Go.RowKit Go.Maps
set_option linter.unusedVariables false
set_option maxRecDepth 100000

/-! ### a class of flags in a cell of its own -/
/-- In w, which has grown from w0: the class ds, b (its slice A, n, c) lies in block g, and reads. -/
structure FB (w0 w : World) (g : Nat) (A : Option Addr) (n c : Nat) (ds : List D) (b : Int) : Prop where
  c0 : w.cell? ⟨g, 0, none⟩ = some (.slice A n c)
  c1 : w.cell? ⟨g, 1, none⟩ = some (.int .i64 b)
  sd0 : SD w w0.heap.size A n c ds
  bel : Below w0.heap.size w0 w
  lo : w0.heap.size ≤ g
section
variable {w0 w w' : World} {A : Option Addr} {g n c : Nat} {ds : List D} {b : Int}
theorem FB.start (hr : SD w w.heap.size A n c ds) (b : Int) : FB w (w.alloc (.cells #[.slice A n c, .int .i64 b] 25)) w.heap.size A n c ds b :=
  have h0 : Below w.heap.size w (w.alloc (.cells #[.slice A n c, .int .i64 b] 25)) := (Below.refl _ _).alloc (Nat.le_refl _) _
  ⟨by simp [go_sem], by simp [go_sem], hr.below h0, h0, Nat.le_refl _⟩
theorem FB.sd (h : FB w0 w g A n c ds b) : SD w w.heap.size A n c ds := h.sd0.more h.bel.size
theorem FB.call (h : FB w0 w g A n c ds b) (hb : Below w.heap.size w w') : FB w0 w' g A n c ds b :=
  ⟨keep1 hb h.c0, keep1 hb h.c1, h.sd0.below' hb h.bel.size, h.bel.trans (hb.mono h.bel.size), h.lo⟩
theorem FB.drewN (h : FB w0 w g A n c ds b) (k : Nat) : FB w0 (w.drewN k) g A n c ds b := h.call (below_drewN (Below.refl _ _) k)
theorem FB.alloc (h : FB w0 w g A n c ds b) (o : Obj) : FB w0 (w.alloc o) g A n c ds b := h.call ((Below.refl _ _).alloc (Nat.le_refl _) o)
theorem FB.after (h : FB w0 w g A n c ds b) (hb : Below w.heap.size w w') : Below w0.heap.size w0 w' := h.bel.trans (hb.mono h.bel.size)
/-- .. where what is new lies behind block G. -/
theorem fbG {G : Nat} (h : FB w0 w g A n c ds b) (hb : Below G w w') (hg : g < G) (hG : w0.heap.size ≤ G) : FB w0 w' g A n c ds b :=
  ⟨(hb.cell (p := ⟨g, 0, none⟩) hg).trans h.c0, (hb.cell (p := ⟨g, 1, none⟩) hg).trans h.c1, h.sd0.below' hb hG, h.bel.trans (hb.mono hG), h.lo⟩
theorem FB.set (h : FB w0 w g A n c ds b) {p : Addr} (hp : w0.heap.size ≤ p.block) (hne : p.block ≠ g) (u : Value) : FB w0 (w.setCell p u) g A n c ds b :=
  ⟨(World.cell?_setCell_other w p _ u (fun e => by subst e; exact hne rfl)).trans h.c0, (World.cell?_setCell_other w p _ u (fun e => by subst e; exact hne rfl)).trans h.c1, h.sd0.keep fun r => Rd.setCell r hp u, h.bel.setCell hp u, h.lo⟩
end
theorem ret_two {a b a' b' : Value} (h : a = a') (h2 : b = b') : Ending.returned (.tuple #[a, b]) = .returned (.tuple #[a', b']) := by rw [h, h2]

/-- A class of flags in new memory, and whether there is one. -/
def FlagR (ms : List D) (rb : Int) (ok : Bool) (w : World) (e : Ending) (w' : World) : Prop :=
  ∃ A c, e = .returned (.tuple #[.agg #[.slice A ms.length c, .int .i64 rb], .bool ok]) ∧ w'.ownsRow w.heap.size 37 2 (.slice A ms.length c) ms.length (flat ms) ∧ Below w.heap.size w w'
theorem flagR_no {w w' : World} (hb : Below w.heap.size w w') : FlagR [] 0 false w (.returned (.tuple #[.agg #[.slice none 0 0, .int .i64 0], .bool false])) w' := ⟨none, 0, rfl, World.ownsRow_nil _ _ _ _, hb⟩

/-! ### the model's ValidFlag -/
theorem validDefs_v (ds : List D) (lo hi : Int) (A : Option Addr) (c n : Nat) (w : World) (hr : SD w w.heap.size A n c ds) {v : Bool} (hv : vDefs lo hi ds = v) :
    Calls Try.prog 135 #[.slice A n c, .int .i64 lo, .int .i64 hi] w fun e w' => e = .returned (.bool v) ∧ ∃ n, w' = w.drewN n := hv ▸ validDefs_any ds lo hi A c n w hr

set_option maxHeartbeats 1000000 in
theorem specVF_v (ds : List D) (b : Int) (A : Option Addr) (n c : Nat) (w : World) (hr : SD w w.heap.size A n c ds) {v : Bool} (hv : vFlag ds b = v) :
    Calls Try.prog 72 #[.agg #[.slice A n c, .int .i64 b]] w fun e w' => e = .returned (.bool v) ∧ Below w.heap.size w w' := by
  subst hv
  have HF := Lib.hid (FB.start hr b)
  clear hr
  have HV : Hid (vFlag ds b = (vDefs 0 4095 ds && (decide (0 ≤ b) && decide (b ≤ 3)))) := Lib.hid rfl
  cases h1 : vDefs 0 4095 ds
  · have H1 := Lib.hid h1
    clear h1
    go_enter Try.func72, Try.ntmps72
    go_wp2_with (go_at_call 135; refine (validDefs_v ds _ _ _ _ _ _ HF.out.sd H1.out).mono ?_; rintro e w' ⟨rfl, n1, rfl⟩)
    go_ret
    exact ⟨ret_bool (by rw [HV.out, H1.out]; rfl), (HF.out.drewN _).bel⟩
  · have H1 := Lib.hid h1
    clear h1
    generalize h2 : (decide (0 ≤ b) && decide (b ≤ 3)) = v2 at HV
    have H2 := Lib.hid h2
    clear h2
    go_enter Try.func72, Try.ntmps72
    go_wp2_with (first | (go_at_call 135; refine (validDefs_v ds _ _ _ _ _ _ HF.out.sd H1.out).mono ?_; rintro e w' ⟨rfl, n1, rfl⟩; have c1 := (HF.out.drewN n1).c1) | (go_at_call 96; refine (inRange_v _ _ _ _ H2.out).mono ?_; rintro e w' ⟨rfl, rfl⟩))
    go_ret
    exact ⟨ret_bool (by rw [HV.out, H1.out]; rfl), (HF.out.drewN _).bel⟩

set_option maxHeartbeats 1000000 in
theorem specVF (ds : List D) (b : Int) (A : Option Addr) (n c : Nat) (w : World) (hr : SD w w.heap.size A n c ds) :
    Calls Try.prog 17 #[.agg #[.slice A n c, .int .i64 b]] w fun e w' => e = .returned (.bool (vFlag ds b)) ∧ Below w.heap.size w w' := by
  have HF := Lib.hid (FB.start hr b)
  clear hr
  go_enter Try.func17, Try.ntmps17
  go_wp2_with (go_at_call 72; refine (specVF_v ds b _ _ _ _ HF.out.sd rfl).mono ?_; rintro e w' ⟨rfl, hb⟩)
  go_ret
  exact ⟨rfl, HF.out.after hb⟩

/-! ### the least power of 2 above all values -/
theorem nb_step {L x j : Nat} (h1 : L ≤ j) (h2 : j ≤ max L (blen x)) (h3 : 2 ^ j ≤ x) : j + 1 ≤ max L (blen x) := by
  have : ¬ blen x ≤ j := by rw [← blen_iff]; omega
  omega
theorem nb_end {L x j : Nat} (h1 : L ≤ j) (h2 : j ≤ max L (blen x)) (h3 : x < 2 ^ j) : j = max L (blen x) := by
  have := (blen_iff _ _).1 h3
  omega
def Small40 (ds : List D) : Prop := ∀ d ∈ ds, 0 ≤ d.val ∧ d.val < 1099511627776

set_option maxHeartbeats 2000000 in
theorem nextBit_any (ds : List D) (A : Option Addr) (n c : Nat) (w : World) (hr : SD w w.heap.size A n c ds) (hin : Small40 ds) {v : Nat} (hv : mNb ds = v) :
    Calls Try.prog 80 #[.slice A n c] w fun e w' => e = .returned (.int .i64 v) ∧ w = w' := by
  subst hv
  obtain rfl := hr.len
  have hl := hr.max
  have hl2 := hr.cap
  unfold maxLen at hl
  have HR := Lib.hid hr
  have HIN := Lib.hid hin
  clear hr hin
  go_enter Try.func80, Try.ntmps80
  go_wp2
  go_loop [3, 4] (fun s i => ∃ (k p L : Nat), k ≤ ds.length ∧ L ≤ 40 ∧ p ≤ 1099511627776 ∧ i = .int .i64 k ∧ s = .int .i64 p ∧ Hid (p = 2 ^ L) ∧ Hid (L = blen (mMask (ds.take k)))) (fun _ i => ds.length - (intOf i).toNat)
  case atStart => exact ⟨0, 1, 0, Nat.zero_le _, by omega, by omega, rfl, rfl, Lib.hid rfl, Lib.hid rfl⟩
  case round =>
    obtain ⟨k, p, L, hk, hL, hp0, rfl, rfl, hp, hLm⟩ := hrel
    by_cases hlt : k < ds.length
    · obtain ⟨b, o, rfl, hbb, c1, c2⟩ := HR.out.at_ hlt
      have HI := Lib.hid (HIN.out _ (List.getElem_mem hlt))
      obtain ⟨x, hx⟩ : ∃ x : Nat, ds[k].val = x := ⟨ds[k].val.toNat, (Int.toNat_of_nonneg HI.out.1).symm⟩
      have hx4 : x < 1099511627776 := by have := HI.out.2; omega
      have hxl : blen x ≤ 40 := (blen_iff x 40).1 (by omega)
      have HM : Hid (max L (blen x) = blen (mMask (ds.take (k + 1)))) := Lib.hid (by rw [mMask_snoc ds k hlt, blen_or, hx, ← hLm.out]; rfl)
      rw [hx] at c2
      clear hx
      have hi1 : (k : Int) < (ds.length : Int) := by omega
      have hmx : max L (blen x) ≤ 40 := by omega
      generalize hmm : max L (blen x) = m at hmx HM
      have HMM := Lib.hid hmm
      clear hmm hxl
      go_wp2
      go_loop [3] (fun s => ∃ (j q : Nat), L ≤ j ∧ j ≤ m ∧ q ≤ 1099511627776 ∧ 1 ≤ q ∧ s = .int .i64 q ∧ Hid (q = 2 ^ j)) (fun s => 1099511627776 - (intOf s).toNat)
      case atStart => exact ⟨L, p, Nat.le_refl _, by have := HMM.out; omega, hp0, by rw [hp.out]; exact Nat.two_pow_pos _, rfl, hp⟩
      case round =>
        obtain ⟨j, q, hj, hjm, hq0, hq1, rfl, hq⟩ := hrel
        by_cases hle : q ≤ x
        · have HJ : Hid (j + 1 ≤ m) := Lib.hid (by have := nb_step (x := x) hj (by have := HMM.out; omega) (by rw [← hq.out]; exact hle); have := HMM.out; omega)
          have HQ2 : Hid (q * 2 = 2 ^ (j + 1)) := Lib.hid (by rw [Nat.pow_succ, hq.out])
          have hq2 : q * 2 ≤ 1099511627776 := by rw [HQ2.out]; exact Nat.pow_le_pow_right (n := 2) (by decide) (show j + 1 ≤ 40 by have := HJ.out; omega)
          go_wp2
          go_round
          case rel => exact ⟨j + 1, q * 2, by omega, HJ.out, hq2, by omega, by go_num, HQ2⟩
          case measure => simp [intOf]; omega
        · have HJ : Hid (j = m) := Lib.hid (by have := nb_end (x := x) hj (by have := HMM.out; omega) (by rw [← hq.out]; omega); have := HMM.out; omega)
          go_wp2
          go_round
          case rel => exact ⟨k + 1, q, m, by omega, hmx, hq0, by go_num, rfl, Lib.hid (by rw [hq.out, HJ.out]), HM⟩
          case measure => simp [intOf]; omega
    · obtain rfl : k = ds.length := by omega
      have HM : Hid (p = mNb ds) := Lib.hid (by unfold mNb; rw [hp.out, hLm.out, List.take_of_length_le (Nat.le_refl _)])
      go_wp2
      go_ret
      exact ⟨by rw [HM.out]; first | done | rfl, rfl⟩

theorem small40 {ds : List D} (h : ∀ d ∈ ds, inR d) : Small40 ds := fun d hd => by have := h d hd; unfold inR at this; omega
set_option maxHeartbeats 400000 in
theorem high_any (ds : List D) (A : Option Addr) (n c : Nat) (w : World) (hr : SD w w.heap.size A n c ds) (hin : ∀ d ∈ ds, inR d) {v : Nat} (hv : mHigh ds = v) :
    Calls Try.prog 148 #[.slice A n c] w fun e w' => e = .returned (.int .i64 v) ∧ w = w' := by
  have h1 := mNb_pos ds
  have h2 := mHigh_lt hin
  have h3 := small40 hin
  unfold mHigh at hv h2
  generalize hx : mNb ds = x at *
  have HX := Lib.hid hx
  have HR := Lib.hid hr
  have HIN := Lib.hid h3
  have HV : Hid ((x : Int) - 1 = (v : Int)) := Lib.hid (by omega)
  clear hx hr h3 hv hin
  go_enter Try.func148, Try.ntmps148
  go_wp2_with (go_at_call 80; refine (nextBit_any ds _ _ _ _ HR.out HIN.out HX.out).mono ?_; rintro e w' ⟨rfl, rfl⟩)
  go_ret
  exact ⟨by rw [HV.out]; first | done | rfl, rfl⟩

/-! ### definitions of one bit -/
set_option maxHeartbeats 1000000 in
theorem singles_any (ds : List D) (A : Option Addr) (n c : Nat) (w : World) (hr : SD w w.heap.size A n c ds) :
    Calls Try.prog 87 #[.slice A n c] w (DefsP (mSg ds) w) := by
  obtain rfl := hr.len
  have hl := hr.max
  have hl2 := hr.cap
  unfold maxLen at hl
  have HR := Lib.hid hr
  clear hr
  go_enter Try.func87, Try.ntmps87
  go_wp2
  have H0 : Hid (Below w.heap.size w (w.alloc (.cells #[] 37))) := Lib.hid ((Below.refl _ _).alloc (Nat.le_refl _) _)
  have H1 : Hid ((w.alloc (.cells #[] 37)).ownsRow w.heap.size 37 2 (.slice (some ⟨w.heap.size, 0, none⟩) 0 0) (sgTo ds 0).length (flat (sgTo ds 0))) := Lib.hid (World.ownsRow_made w #[] 0 (Nat.le_refl _) (by unfold maxLen; omega) rfl)
  go_loopw [3, 4] (fun v i wr => ∃ k p : Nat, k ≤ 12 ∧ 1 ≤ p ∧ p ≤ 4096 ∧ i = .int .i64 p ∧ Hid (p = 2 ^ k) ∧ Hid (wr.ownsRow w.heap.size 37 2 v (sgTo ds k).length (flat (sgTo ds k))) ∧ Hid (Below w.heap.size w wr)) (fun _ i _ => 4096 - (intOf i).toNat)
  case atStart => exact ⟨0, 1, by omega, by omega, by omega, rfl, Lib.hid rfl, H1, H0⟩
  case round =>
    clear H0 H1
    obtain ⟨k, p, hk, hp1, hp2, rfl, hp, hown, hbel⟩ := hrel
    by_cases h12 : k < 12
    · have hp3 : p ≤ 2048 := by rw [hp.out]; exact Nat.pow_le_pow_right (n := 2) (by decide) (show k ≤ 11 by omega)
      have HP2 : Hid (p * 2 = 2 ^ (k + 1)) := Lib.hid (by rw [hp.out, Nat.pow_succ])
      have HS := Lib.hid ((HR.out.below hbel.out).call hbel.out.size)
      have HL := Lib.hid (sgTo_len ds k)
      rcases fidx_cases (isVal (p : Int)) ds with ⟨hx, _⟩ | ⟨j, hj, hx, _, _⟩
      · have HX := Lib.hid hx
        have HT : Hid (sgTo ds (k + 1) = sgTo ds k) := Lib.hid (by show sgTo ds k ++ sgAt ds k = _; rw [sgAt_no (by rw [← hp.out]; omega), List.append_nil])
        clear hx
        go_wp2_with (go_at_call 127; refine (valueAt_v ds _ _ _ _ _ HS.out HX.out).mono ?_; rintro e w' ⟨rfl, rfl⟩)
        go_roundw
        case rel => exact ⟨k + 1, p * 2, by omega, by omega, by omega, by go_num, HP2, Lib.hid (by rw [HT.out]; exact hown.out), hbel⟩
        case measure => simp [intOf]; omega
      · obtain ⟨b, o, rfl, hbb, c1, c2⟩ := HS.out.at_ hj
        have HX := Lib.hid hx
        have HT : Hid (sgTo ds (k + 1) = sgTo ds k ++ [ds[j]]) := Lib.hid (by show sgTo ds k ++ sgAt ds k = _; rw [sgAt_yes hj (by rw [← hp.out]; exact hx)])
        clear hx
        have hi1 : (j : Int) < (ds.length : Int) := by omega
        go_wp2_with (first | (go_at_call 127; refine (valueAt_v ds _ _ _ _ _ HS.out HX.out).mono ?_; rintro e w' ⟨rfl, rfl⟩) | (at_builtin; refine wpList_app_D rfl _ _ rfl _ _ _ _ rfl hown.out _ _ _ _ rfl (by first | rfl | simp) (by have := HL.out; omega) hbel.out.size ?_; intro v' w1 ho1 hb1; have HO1 := Lib.hid ho1; have HB1 := Lib.hid hb1; clear ho1 hb1))
        go_roundw
        case rel => exact ⟨k + 1, p * 2, by omega, by omega, by omega, by go_num, HP2, Lib.hid (by rw [HT.out, List.length_append]; simpa [flat, encD] using HO1.out), Lib.hid (hbel.out.trans HB1.out)⟩
        case measure => simp [intOf]; omega
    · obtain rfl : k = 12 := by omega
      have hp4 : p = 4096 := hp.out
      have hp5 : (4095 : Int) < (p : Int) := by omega
      clear hp4
      go_wp2
      go_ret
      obtain ⟨A', c', hv⟩ := own_form hown.out
      subst hv
      exact ⟨A', c', rfl, hown.out, hbel.out⟩

theorem mSg_in {ds : List D} (h : ∀ d ∈ ds, inR d) : ∀ d ∈ mSg ds, inR d := fun d hd => h d (sgTo_in hd).1
theorem mSg_ok {ds : List D} (h : ∀ d ∈ ds, d.ok) : ∀ d ∈ mSg ds, d.ok := fun d hd => h d (sgTo_in hd).1
theorem mSg_len (ds : List D) : (mSg ds).length ≤ 12 := sgTo_len ds 12

end Go.Proofs.Ytbkfagncoekbkaa
