import Derived.Test.YtbkfagncoekbkaaFlagL
import Derived.Test.YtbkfagncoekbkaaFlagB
import Derived.Test.YtbkfagncoekbkaaFlagS
import Derived.Test.YtbkfagncoekbkaaBaseC
namespace Go.Proofs.Ytbkfagncoekbkaa
open Go.RowKit Go.Maps
set_option linter.unusedVariables false
set_option maxRecDepth 100000

/-! ### the program's masks -/
theorem or_range (a b : Int) : -9223372036854775808 ≤ bits .or .i64 a b ∧ bits .or .i64 a b ≤ 9223372036854775807 := by
  unfold bits
  rw [IntKind.wrap_i64]
  omega
set_option maxHeartbeats 1000000 in
theorem implMask_v (ds : List D) (A : Option Addr) (n c : Nat) (w : World) (hr : SD w w.heap.size A n c ds) (hin : Small40 ds) {v : Nat} (hv : mMask ds = v) :
    Calls Try.prog 91 #[.slice A n c] w fun e w' => e = .returned (.int .i64 v) ∧ Below w.heap.size w w' := by
  subst hv
  obtain rfl := hr.len
  have hl := hr.max
  have hl2 := hr.cap
  unfold maxLen at hl
  have HR := Lib.hid hr
  have HIN := Lib.hid hin
  clear hr hin
  go_enter Try.func91, Try.ntmps91
  go_wp2
  go_loopw [3, 8] (fun s i wr => ∃ (k q : Nat), k ≤ ds.length ∧ q < 1099511627776 ∧ i = .int .i64 k ∧ s = .int .i64 q ∧ Hid (q = mMask (ds.take k)) ∧ Hid (Below w.heap.size w wr)) (fun _ i _ => ds.length - (intOf i).toNat)
  case atStart => exact ⟨0, 0, Nat.zero_le _, by omega, rfl, rfl, Lib.hid rfl, Lib.hid (Below.refl _ _)⟩
  case round =>
    obtain ⟨k, q, hk, hq, rfl, rfl, hmq, hbel⟩ := hrel
    by_cases hlt : k < ds.length
    · obtain ⟨b, o, rfl, hbb, c1, c2⟩ := (HR.out.below hbel.out).at_ hlt
      have HI := Lib.hid (HIN.out _ (List.getElem_mem hlt))
      obtain ⟨x, hx⟩ : ∃ x : Nat, ds[k].val = x := ⟨ds[k].val.toNat, (Int.toNat_of_nonneg HI.out.1).symm⟩
      have hx4 : x < 1099511627776 := by have := HI.out.2; omega
      have HM : Hid (q ||| x = mMask (ds.take (k + 1))) := Lib.hid (by rw [mMask_snoc ds k hlt, hmq.out, hx]; rfl)
      have HO : Hid (q ||| x < 1099511627776) := Lib.hid (Nat.or_lt_two_pow (n := 40) hq hx4)
      have hor := i64_or_nat q x (by omega) (by omega)
      rw [hx] at c2
      clear hx
      generalize q ||| x = z at *
      have hi1 : (k : Int) < (ds.length : Int) := by omega
      go_wp2
      go_roundw
      case rel => exact ⟨k + 1, z, by omega, HO.out, by go_num, rfl, HM, Lib.hid (hbel.out.alloc hbel.out.size _)⟩
      case measure => simp [intOf]; omega
    · obtain rfl : k = ds.length := by omega
      have HM : Hid (q = mMask ds) := Lib.hid (by rw [hmq.out, List.take_of_length_le (Nat.le_refl _)])
      go_wp2
      go_ret
      exact ⟨by rw [HM.out]; first | done | rfl, hbel.out⟩

def SomeI (w : World) (e : Ending) (w' : World) : Prop := ∃ r : Int, e = .returned (.int .i64 r) ∧ (-9223372036854775808 ≤ r ∧ r ≤ 9223372036854775807) ∧ Below w.heap.size w w'
set_option maxHeartbeats 1000000 in
theorem implMask_w (ds : List D) (A : Option Addr) (n c : Nat) (w : World) (hr : SD w w.heap.size A n c ds) :
    Calls Try.prog 91 #[.slice A n c] w (SomeI w) := by
  obtain rfl := hr.len
  have hl := hr.max
  have hl2 := hr.cap
  unfold maxLen at hl
  have HR := Lib.hid hr
  clear hr
  go_enter Try.func91, Try.ntmps91
  go_wp2
  go_loopw [3, 8] (fun s i wr => ∃ (k : Nat) (q : Int), k ≤ ds.length ∧ -9223372036854775808 ≤ q ∧ q ≤ 9223372036854775807 ∧ i = .int .i64 k ∧ s = .int .i64 q ∧ Hid (Below w.heap.size w wr)) (fun _ i _ => ds.length - (intOf i).toNat)
  case atStart => exact ⟨0, 0, Nat.zero_le _, by omega, by omega, rfl, rfl, Lib.hid (Below.refl _ _)⟩
  case round =>
    obtain ⟨k, q, hk, hq, hq2, rfl, rfl, hbel⟩ := hrel
    by_cases hlt : k < ds.length
    · obtain ⟨b, o, rfl, hbb, c1, c2⟩ := (HR.out.below hbel.out).at_ hlt
      have HO := Lib.hid (or_range q ds[k].val)
      generalize hz : bits .or .i64 q ds[k].val = z at HO
      have hi1 : (k : Int) < (ds.length : Int) := by omega
      go_wp2
      go_roundw
      case rel => exact ⟨k + 1, z, by omega, HO.out.1, HO.out.2, by go_num, rfl, Lib.hid (hbel.out.alloc hbel.out.size _)⟩
      case measure => simp [intOf]; omega
    · obtain rfl : k = ds.length := by omega
      go_wp2
      go_ret
      exact ⟨_, rfl, ⟨hq, hq2⟩, hbel.out⟩

set_option maxHeartbeats 1000000 in
theorem implHigh_v (ds : List D) (A : Option Addr) (n c : Nat) (w : World) (hr : SD w w.heap.size A n c ds) (hin : Small40 ds) {v : Nat} (hv : mHigh ds = v) :
    Calls Try.prog 138 #[.slice A n c] w fun e w' => e = .returned (.int .i64 v) ∧ Below w.heap.size w w' := by
  have hm := mMask_lt (b := 40) hin
  unfold mHigh mNb at hv
  generalize hx : mMask ds = x at *
  have hx2 : x < 1099511627776 := hm
  have hk := (blen_iff x 40).1 hm
  have HX := Lib.hid hx
  have HR := Lib.hid hr
  have HIN := Lib.hid hin
  generalize hq : blen x = q at *
  have HQ := Lib.hid hq
  have hp1 : 1 ≤ 2 ^ q := Nat.two_pow_pos q
  have hp2 : 2 ^ q ≤ 1099511627776 := Nat.pow_le_pow_right (n := 2) (by decide) hk
  have HV := Lib.hid hv
  clear hx hr hin hq hm hv
  have hu : IntKind.u64.wrap (x : Int) = (x : Int) := by rw [IntKind.wrap_u64]; omega
  go_enter Try.func138, Try.ntmps138
  go_wp2_with fail
  refine (implMask_v ds _ _ _ _ HR.out HIN.out HX.out).mono ?_
  rintro e w1 ⟨rfl, hb⟩
  have HB := Lib.hid hb
  clear hb
  go_wp2_with (go_at_call 165; refine (len_v x _ (by omega) (by omega) (v := q) (by rw [Int.toNat_natCast]; exact HQ.out)).mono ?_; rintro e w' ⟨rfl, rfl⟩)
  go_ret
  exact ⟨ret_int (by
    have e : (2 : Int) ^ q = ((2 ^ q : Nat) : Int) := by push_cast; rfl
    have := HV.out
    rw [e]; unfold wrap64; omega), HB.out⟩

theorem wrap64_range (a : Int) : -9223372036854775808 ≤ wrap64 a ∧ wrap64 a ≤ 9223372036854775807 := by unfold wrap64; omega
set_option maxHeartbeats 1000000 in
theorem implHigh_w (ds : List D) (A : Option Addr) (n c : Nat) (w : World) (hr : SD w w.heap.size A n c ds) :
    Calls Try.prog 138 #[.slice A n c] w (SomeI w) := by
  have HR := Lib.hid hr
  clear hr
  go_enter Try.func138, Try.ntmps138
  go_wp2_with fail
  refine (implMask_w ds _ _ _ _ HR.out).mono ?_
  rintro e w1 ⟨r, rfl, hrr, hb⟩
  have HB := Lib.hid hb
  clear hb
  have hu : 0 ≤ IntKind.u64.wrap r ∧ IntKind.u64.wrap r ≤ 18446744073709551615 := by rw [IntKind.wrap_u64]; omega
  generalize hu2 : IntKind.u64.wrap r = u at *
  generalize hq : blen u.toNat = q
  have HQ := Lib.hid hq
  clear hq
  go_wp2_with (go_at_call 165; refine (len_v u _ hu.1 hu.2 HQ.out).mono ?_; rintro e w' ⟨rfl, rfl⟩)
  go_ret
  exact ⟨_, rfl, wrap64_range _, HB.out⟩

set_option maxHeartbeats 1000000 in
theorem implNb_v (ds : List D) (A : Option Addr) (n c : Nat) (w : World) (hr : SD w w.heap.size A n c ds) (hin : Small40 ds) {v : Nat} (hv : mNb ds = v) :
    Calls Try.prog 78 #[.slice A n c] w fun e w' => e = .returned (.int .i64 v) ∧ Below w.heap.size w w' := by
  have hm := mMask_lt (b := 40) hin
  have h1 := mNb_pos ds
  have h2 := mNb_le hm
  generalize hx : mHigh ds = x
  have HE : Hid ((x : Int) + 1 = (v : Int)) := Lib.hid (by unfold mHigh at hx; omega)
  have hx2 : x ≤ 1099511627776 := by unfold mHigh at hx; omega
  have HX := Lib.hid hx
  have HR := Lib.hid hr
  have HIN := Lib.hid hin
  clear hx hr hin hv hm h1 h2
  go_enter Try.func78, Try.ntmps78
  go_wp2_with (go_at_call 138; refine (implHigh_v ds _ _ _ _ HR.out HIN.out HX.out).mono ?_; rintro e w1 ⟨rfl, hb⟩; have HB := Lib.hid hb; clear hb)
  go_ret
  exact ⟨by rw [HE.out]; first | done | rfl, HB.out⟩
set_option maxHeartbeats 1000000 in
theorem implNb_w (ds : List D) (A : Option Addr) (n c : Nat) (w : World) (hr : SD w w.heap.size A n c ds) :
    Calls Try.prog 78 #[.slice A n c] w (SomeI w) := by
  have HR := Lib.hid hr
  clear hr
  go_enter Try.func78, Try.ntmps78
  go_wp2_with (go_at_call 138; refine (implHigh_w ds _ _ _ _ HR.out).mono ?_; rintro e w1 ⟨r, rfl, hrr, hb⟩; have HB := Lib.hid hb; clear hb)
  go_ret
  exact ⟨_, rfl, wrap64_range _, HB.out⟩

/-! ### the program's ValidFlag -/
theorem wpList_app_Df {W : World} {ops : Array Oper} {rest : List Oper} {o : Oper} {a : Act} {Q : Exit → Act → World → Prop} (hgd : o.guard = none) (s x : Operand) (ho : o.op = .call { callee := .builtin .append, args := #[s, x], argTypes := #[88, 88] })
    (base : Nat) (v : Value) (n : Nat) (xs : List Value) (hs : a.eval s = v) (hown : W.ownsRow base 37 2 v n xs) (nm : ByteArray) (vl : Int)
    (c g : Nat) (hx : a.eval x = .slice (some ⟨g, 0, none⟩) 1 c) (hgw : g = W.heap.size) (hn : n ≤ 2000000) (hbase : base ≤ W.heap.size)
    (h : ∀ v' w', w'.ownsRow base 37 2 v' (n + 1) (xs ++ [.string nm, .int .i64 vl]) → Below base W w' → wpList Try.prog ops Q rest (a.put o.dst v') w') :
    wpList Try.prog ops Q (o :: rest) a (W.alloc (.cells #[.string nm, .int .i64 vl] 37)) := by
  obtain ⟨i0, hi, hz0, hz1, hz2⟩ := info_parts info_D
  exact wpList_app1 hgd s x _ ho base _ i0 _ 2 24 Try.underlying88 ⟨hi, hz0, hz1, hz2⟩ rfl (by omega) (by omega) v n xs hs hown _ rfl (by simp [Value.oneCell']) c g hx hgw hn hbase h

theorem flat_unv (ds : List D) (k : Nat) (h : k < ds.length) : flat ((ds.take (k + 1)).map unv) = flat ((ds.take k).map unv) ++ [.string ds[k].name, .int .i64 0] := by
  rw [List.take_succ_eq_append_getElem h, List.map_append]; simp [flat, encD, unv]
theorem unv_ok {ds : List D} (h : ∀ d ∈ ds, d.ok) : ∀ d ∈ ds.map unv, d.ok := by
  intro d hd
  obtain ⟨x, hx, rfl⟩ := List.mem_map.1 hd
  exact ⟨(h x hx).1, by show (-9223372036854775808 : Int) ≤ 0; omega, by show (0 : Int) ≤ 9223372036854775807; omega⟩
theorem clSet' {w : World} {g : Nat} {v u : Value} (h : Cl w g v) : Cl (w.setCell ⟨g, 0, none⟩ u) g u :=
  ⟨World.cell?_setCell_same' _ _ _ (by rw [h.1]; rfl), by rw [frozen_set]; exact h.2⟩
theorem clLow {w w' : World} {g B : Nat} {v : Value} (h : Cl w g v) (hb : Below B w w') (hg : g < B) : Cl w' g v :=
  ⟨(hb.cell (p := ⟨g, 0, none⟩) hg).trans h.1, (hb.frozen (p := ⟨g, 0, none⟩) hg).trans h.2⟩

set_option maxHeartbeats 4000000 in
theorem implVF_v (ds : List D) (b : Int) (A : Option Addr) (n c : Nat) (w : World) (hr : SD w w.heap.size A n c ds) (hn : n ≤ 1048576) {v : Bool} (hv : vFlag ds b = v) :
    Calls Try.prog 16 #[.agg #[.slice A n c, .int .i64 b]] w fun e w' => e = .returned (.bool v) ∧ Below w.heap.size w w' := by
  subst hv
  have HF := Lib.hid (FB.start hr b)
  have HOK := Lib.hid hr.ok
  have HLN := Lib.hid hr.len
  have hcap := hr.cap
  have hmx := hr.max
  unfold maxLen at hmx
  clear hr
  by_cases hb3 : 0 ≤ b ∧ b ≤ 3
  · obtain ⟨hb0, hb3⟩ := hb3
    have HV : Hid (vFlag ds b = vDefs 0 4095 ds) := Lib.hid (by unfold vFlag; rw [decide_eq_true hb0, decide_eq_true hb3]; simp)
    have bW : Below w.heap.size w ((w.alloc (.cells #[.slice A n c, .int .i64 b] 25)).alloc (.cells #[.slice none 0 0] 58)) := ((Below.refl _ _).alloc (Nat.le_refl _) _).alloc (by simp) _
    have HF1 := Lib.hid (HF.out.alloc (.cells #[.slice none 0 0] 58))
    have HC1 : Hid (Cl ((w.alloc (.cells #[.slice A n c, .int .i64 b] 25)).alloc (.cells #[.slice none 0 0] 58)) (w.heap.size + 1) (.slice none 0 0)) := Lib.hid ⟨by simp [go_sem], by simp [go_sem]⟩
    have HZ : Hid (w.heap.size + 1 + 1 ≤ ((w.alloc (.cells #[.slice A n c, .int .i64 b] 25)).alloc (.cells #[.slice none 0 0] 58)).heap.size) := Lib.hid (by simp)
    clear bW HF
    go_enter Try.func16, Try.ntmps16
    go_wp2
    generalize ((w.alloc (.cells #[.slice A n c, .int .i64 b] 25)).alloc (.cells #[.slice none 0 0] 58)) = w1 at *
    go_loopw [17] (fun i wr => ∃ (k : Nat) (A' : Option Addr) (c' : Nat), k ≤ n ∧ i = .int .i64 k ∧ Hid (∀ d ∈ ds.take k, inR d) ∧ Hid (Cl wr (w.heap.size + 1) (.slice A' k c')) ∧ Hid (wr.ownsRow (w.heap.size + 1 + 1) 37 2 (.slice A' k c') k (flat ((ds.take k).map unv))) ∧ Hid (FB w wr w.heap.size A n c ds b) ∧ Hid (w.heap.size + 1 + 1 ≤ wr.heap.size)) (fun i _ => n - (intOf i).toNat)
    case atStart => exact ⟨0, none, 0, Nat.zero_le _, rfl, Lib.hid (fun d hd => by simp at hd), HC1, Lib.hid (World.ownsRow_nil _ _ _ _), HF1, HZ⟩
    case round =>
      clear HC1 HF1 HZ
      obtain ⟨k, A', c', hk, rfl, hin, hcl, hown, hf, hz⟩ := hrel
      by_cases hlt : k < n
      · have hkd : k < ds.length := by have := HLN.out; omega
        obtain ⟨bb, o, rfl, hbb, d1, d2⟩ := hf.out.sd.at_ hkd
        have HFU := Lib.hid (flat_unv ds k hkd)
        have hi1 : (k : Int) < (n : Int) := by omega
        have hi0 : (0 : Int) ≤ (k : Int) := by omega
        obtain ⟨W2, hW2⟩ : ∃ W2 : World, W2 = wr.alloc (.cells #[.string ds[k].name, .int .i64 ds[k].val] 37) := ⟨_, rfl⟩
        have hb2 : Below wr.heap.size wr W2 := by rw [hW2]; exact (Below.refl _ _).alloc (Nat.le_refl _) _
        have HF2 := Lib.hid (hf.out.call hb2)
        have HC2 := Lib.hid (hcl.out.below hb2)
        have HO2 := Lib.hid (own_below hown.out hb2)
        have e0 : W2.cell? ⟨wr.heap.size, 0, none⟩ = some (.string ds[k].name) := by rw [hW2]; simp [go_sem]
        have e1 : W2.cell? ⟨wr.heap.size, 1, none⟩ = some (.int .i64 ds[k].val) := by rw [hW2]; simp [go_sem]
        have l0 : (wr.alloc (.cells #[.string ds[k].name, .int .i64 ds[k].val] 37)).cell? ⟨wr.heap.size, 0, none⟩ = some (.string ds[k].name) := by simp [go_sem]
        have l1 : (wr.alloc (.cells #[.string ds[k].name, .int .i64 ds[k].val] 37)).cell? ⟨wr.heap.size, 1, none⟩ = some (.int .i64 ds[k].val) := by simp [go_sem]
        have l2 : (wr.alloc (.cells #[.string ds[k].name, .int .i64 ds[k].val] 37)).cell? ⟨w.heap.size + 1, 0, none⟩ = some (.slice A' k c') := by rw [← hW2]; exact HC2.out.1
        have HZ2 : Hid (w.heap.size + 1 + 1 ≤ W2.heap.size) := Lib.hid (Nat.le_trans hz.out hb2.size)
        have HSZ : Hid (W2.heap.size = wr.heap.size + 1) := Lib.hid (by rw [hW2]; simp)
        have HW2 := Lib.hid hW2.symm
        clear hb2 hW2
        by_cases hr1 : 0 ≤ ds[k].val ∧ ds[k].val ≤ 4095
        · have HIN : Hid (∀ d ∈ ds.take (k + 1), inR d) := Lib.hid (by
            intro d hd
            rw [List.take_succ_eq_append_getElem hkd] at hd
            rcases List.mem_append.1 hd with h | h
            · exact hin.out d h
            · simp at h; subst h; exact hr1)
          obtain ⟨hr0, hr4⟩ := hr1
          obtain ⟨f0, f1⟩ := HC2.out
          generalize ds[k].val = vl at *
          generalize ds[k].name = nm at *
          go_wp2_with (
            at_builtin
            rw [HW2.out]
            refine wpList_app_D rfl _ _ rfl (w.heap.size + 1 + 1) _ _ _ rfl HO2.out _ _ _ _ rfl (by rw [HSZ.out]) (by omega) HZ2.out ?_
            intro v' w4 ho hb
            obtain ⟨A4, c4, rfl⟩ := own_form ho
            have HO4 := Lib.hid ho
            have HC4 := Lib.hid (clLow HC2.out hb (by omega))
            have HF4 := Lib.hid (fbG HF2.out hb (by omega) (by omega))
            have HZ4 : Hid (w.heap.size + 1 + 1 ≤ w4.heap.size) := Lib.hid (Nat.le_trans HZ2.out hb.size)
            obtain ⟨y4, z4⟩ := HC4.out
            clear ho hb f0 f1 l0 l1 l2 e0 e1)
          go_roundw
          case rel =>
            refine ⟨k + 1, A4, c4, by omega, by go_num, HIN, Lib.hid (clSet' HC4.out), Lib.hid ?_, Lib.hid (HF4.out.set (by show w.heap.size ≤ w.heap.size + 1; omega) (by show w.heap.size + 1 ≠ w.heap.size; omega) _), Lib.hid (by rw [World.size_setCell]; exact HZ4.out)⟩
            rw [HFU.out]
            exact own_setCell HO4.out (fun e => by have := (HO4.out.lt _ e).1; simp at this; omega) _
          case measure => simp [intOf]; omega
        · have HNO : Hid (vDefs 0 4095 ds = false) := Lib.hid (vDefs_out (List.getElem_mem hkd) hr1)
          by_cases hr2 : ds[k].val < 0
          · go_wp2
            go_ret
            rw [HW2.out]
            exact ⟨ret_bool (by rw [HV.out, HNO.out]), HF2.out.bel⟩
          · have hr3 : 4095 < ds[k].val := by omega
            go_wp2
            go_ret
            rw [HW2.out]
            exact ⟨ret_bool (by rw [HV.out, HNO.out]), HF2.out.bel⟩
      · obtain rfl : k = n := by omega
        have HAL : Hid (∀ d ∈ ds, inR d) := Lib.hid (fun d hd => hin.out d (by rw [List.take_of_length_le (by have := HLN.out; omega)]; exact hd))
        have HU : Hid (vDefs 0 4095 ds = vEnum (ds.map unv)) := Lib.hid (vDefs_unv HAL.out)
        have HS := Lib.hid (sd_of_own (ds := ds.map unv) (by have := hown.out; rw [List.take_of_length_le (by have := HLN.out; omega)] at this; exact this) (unv_ok HOK.out))
        obtain ⟨f0, f1⟩ := hcl.out
        generalize hve : vEnum (ds.map unv) = v2 at *
        have HVE := Lib.hid hve
        clear hve
        go_wp2_with (go_at_call 58; refine (implVE_v (ds.map unv) _ _ _ _ HS.out HVE.out).mono ?_; rintro e w4 ⟨rfl, hb⟩)
        go_ret
        exact ⟨ret_bool (by rw [HV.out, HU.out]), hf.out.after hb⟩
  · have HNO : Hid (vFlag ds b = false) := Lib.hid (by
      cases h : vFlag ds b
      · rfl
      · exact absurd (vFlag_bound h) hb3)
    by_cases hb1 : b < 0
    · go_enter Try.func16, Try.ntmps16
      go_wp2
      go_ret
      exact ⟨ret_bool HNO.out.symm, HF.out.bel⟩
    · have hb2 : 3 < b := by omega
      go_enter Try.func16, Try.ntmps16
      go_wp2
      go_ret
      exact ⟨ret_bool HNO.out.symm, HF.out.bel⟩
end Go.Proofs.Ytbkfagncoekbkaa
