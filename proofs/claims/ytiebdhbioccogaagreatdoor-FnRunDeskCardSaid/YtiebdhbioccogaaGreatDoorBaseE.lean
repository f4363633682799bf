import Derived.Test.YtiebdhbioccogaaGreatDoorBaseA
import Derived.Test.YtiebdhbioccogaaGreatDoorBaseD
import Derived.Lib.Strings
import Derived.Lib.Slices
import Derived.Lib.Small
import Derived.Lib.Walk
import Derived.Test.YtiebdhbioccogaaGreatDoorBaseC
import Derived.Test.YtiebdhbioccogaaGreatDoorCel
namespace Go.Proofs.YtiebdhbioccogaaGreatDoor
open Go.RowKit Go.Maps
set_option linter.unusedVariables false
set_option maxRecDepth 100000

/-! ### bits.Len: as many bits as a number needs -/
theorem tab_size : (Lib.len8tab.size : Int) = 256 := by
  have : Lib.len8tab.size = 256 := by decide
  omega
theorem tab_get (y : Int) (h : y.toNat < Lib.len8tab.size) : ((Lib.len8tab[y.toNat]'h).toNat : Int) = Lib.len8 y := by
  unfold Lib.len8
  rw [getElem?_pos Lib.len8tab y.toNat h]
  rfl
theorem len_up {x y : Int} {v : Nat} (k : Nat) (h0 : 0 ≤ x) (hx : x ≤ 18446744073709551615) (hy0 : 0 ≤ y) (hy1 : y ≤ 255) (hk : k = 0 ∨ (2 ^ k ≤ x.toNat ∧ k ≤ 56)) (hy : y.toNat = x.toNat / 2 ^ k) (hv : blen x.toNat = v) : wrap64 ((k : Int) + wrap64 (Lib.len8 y)) = (v : Int) ∧ (k = 0 → wrap64 (wrap64 (Lib.len8 y)) = (v : Int)) ∧ wrap64 (Lib.len8 y) = Lib.len8 y ∧ 0 ≤ Lib.len8 y ∧ Lib.len8 y ≤ 8 := by
  have hl := Lib.bitLen_le8' y hy0 hy1
  rw [Lib.len8_of y hy0 hy1]
  have key : (k : Int) + ((Lib.bitLen y.toNat : Nat) : Int) = (v : Int) := by
    rw [hy, ← hv, ← bitLen_blen _ (by omega)]
    rcases hk with rfl | ⟨hk, _⟩
    · simp
    · rw [Lib.bitLen_shift k x.toNat hk (by omega)]; push_cast; rfl
  have hk2 : k ≤ 56 := by omega
  generalize Lib.bitLen y.toNat = q at *
  unfold wrap64
  refine ⟨by omega, fun h => ?_, by omega, by omega, by omega⟩
  omega
set_option maxHeartbeats 16000000 in
theorem len64_v (x : Int) (w : World) (h0 : 0 ≤ x) (h1 : x ≤ 18446744073709551615) {v : Nat} (hv : blen x.toNat = v) :
    Calls Tryz.prog 165 #[.int .u64 x] w fun e w' => e = .returned (.int .i64 v) ∧ w = w' := by
  have HV := Lib.hid hv
  clear hv
  go_enter Tryz.func165, Tryz.ntmps165
  go_wp2
  all_goals first
    | (go_ret; refine ⟨congrArg Ending.returned (congrArg (Value.int IntKind.i64) ?_), rfl⟩)
    | (exfalso; have hs := tab_size; omega)
  all_goals have HS := tab_size
  · have k1 := len_up 56 h0 h1 (y := x / 4294967296 / 65536 / 256) (by omega) (by omega) (.inr ⟨by omega, by omega⟩) (by omega) HV.out
    rw [tab_get]; exact k1.1
  · have k1 := len_up 48 h0 h1 (y := x / 4294967296 / 65536) (by omega) (by omega) (.inr ⟨by omega, by omega⟩) (by omega) HV.out
    rw [tab_get]; exact k1.1
  · have k1 := len_up 40 h0 h1 (y := x / 4294967296 / 256) (by omega) (by omega) (.inr ⟨by omega, by omega⟩) (by omega) HV.out
    rw [tab_get]; exact k1.1
  · have k1 := len_up 32 h0 h1 (y := x / 4294967296) (by omega) (by omega) (.inr ⟨by omega, by omega⟩) (by omega) HV.out
    rw [tab_get]; exact k1.1
  · have k1 := len_up 24 h0 h1 (y := x / 65536 / 256) (by omega) (by omega) (.inr ⟨by omega, by omega⟩) (by omega) HV.out
    rw [tab_get]; exact k1.1
  · have k1 := len_up 16 h0 h1 (y := x / 65536) (by omega) (by omega) (.inr ⟨by omega, by omega⟩) (by omega) HV.out
    rw [tab_get]; exact k1.1
  · have k1 := len_up 8 h0 h1 (y := x / 256) (by omega) (by omega) (.inr ⟨by omega, by omega⟩) (by omega) HV.out
    rw [tab_get]; exact k1.1
  · have k1 := len_up 0 h0 h1 (y := x) (by omega) (by omega) (.inl rfl) (by simp) HV.out
    rw [tab_get]; exact k1.2.1 rfl
set_option maxHeartbeats 400000 in
theorem len_v (x : Int) (w : World) (h0 : 0 ≤ x) (h1 : x ≤ 18446744073709551615) {v : Nat} (hv : blen x.toNat = v) :
    Calls Tryz.prog 137 #[.int .u64 x] w fun e w' => e = .returned (.int .i64 v) ∧ w = w' := by
  have HV := Lib.hid hv
  clear hv
  go_enter Tryz.func137, Tryz.ntmps137
  go_wp2_with (go_at_call 165; refine (len64_v x _ h0 h1 HV.out).mono ?_; rintro e w' ⟨rfl, rfl⟩)
  go_ret
  exact ⟨rfl, rfl⟩

/-! ### bits.OnesCount: how many bits a flag has -/
def st1 (x : Int) : Int := IntKind.u64.wrap (bits .and .u64 (x / 2) 6148914691236517205 + bits .and .u64 x 6148914691236517205)
def st2 (x : Int) : Int := IntKind.u64.wrap (bits .and .u64 (x / 4) 3689348814741910323 + bits .and .u64 x 3689348814741910323)
def st3 (x : Int) : Int := bits .and .u64 (IntKind.u64.wrap (x / 16 + x)) 1085102592571150095
def popF : Nat → Nat → Nat
  | 0, _ => 0
  | f + 1, n => n % 2 + popF f (n / 2)
theorem popF_eq (f n : Nat) (h : n < 2 ^ f) : popF f n = popc n := by
  induction f generalizing n with
  | zero => obtain rfl : n = 0 := by omega
            rw [popc_zero]; rfl
  | succ f ih =>
    show n % 2 + popF f (n / 2) = _
    rw [ih (n / 2) (by have := Nat.pow_succ 2 f; omega)]
    by_cases h0 : n = 0
    · subst h0; simp [popc_zero]
    · exact (popc_pos (by omega)).symm
def st4 (x : Int) : Int := IntKind.u64.wrap (x + x / 256)
def st5 (x : Int) : Int := IntKind.u64.wrap (x + x / 65536)
def st6 (x : Int) : Int := IntKind.u64.wrap (x + x / 4294967296)
def onesE (x : Int) : Int := bits .and .i64 (wrap64 (st6 (st5 (st4 (st3 (st2 (st1 x))))))) 127
theorem ones_all : ∀ x : Fin 4096, onesE (x.val : Int) = (popF 12 x.val : Int) := by decide +kernel
end Go.Proofs.YtiebdhbioccogaaGreatDoor

namespace Go.Proofs.YtiebdhbioccogaaGreatDoor
open Go.RowKit Go.Maps
set_option linter.unusedVariables false
set_option maxRecDepth 100000

/-! ### the program's masks -/
theorem or_range (a b : Int) : -9223372036854775808 ≤ bits .or .i64 a b ∧ bits .or .i64 a b ≤ 9223372036854775807 := by
  unfold bits
  rw [IntKind.wrap_i64]
  omega
set_option maxHeartbeats 1000000 in
theorem implMask_v (ds : List D) (A : Option Addr) (n c : Nat) (w : World) (hr : SD w w.heap.size A n c ds) (hin : Small40 ds) {v : Nat} (hv : mMask ds = v) :
    Calls Tryz.prog 138 #[.slice A n c] w fun e w' => e = .returned (.int .i64 v) ∧ Below w.heap.size w w' := by
  subst hv
  obtain rfl := hr.len
  have hl := hr.max
  have hl2 := hr.cap
  unfold maxLen at hl
  have HR := Lib.hid hr
  have HIN := Lib.hid hin
  clear hr hin
  go_enter Tryz.func138, Tryz.ntmps138
  go_wp2
  go_loopw [3, 8] (fun s i wr => ∃ (k q : Nat), k ≤ ds.length ∧ q < 1099511627776 ∧ i = .int .i64 k ∧ s = .int .i64 q ∧ Hid (q = mMask (ds.take k)) ∧ Hid (Below w.heap.size w wr)) (fun _ i _ => ds.length - (intOf i).toNat)
  case atStart => exact ⟨0, 0, Nat.zero_le _, by omega, rfl, rfl, Lib.hid rfl, Lib.hid (Below.refl _ _)⟩
  case round =>
    obtain ⟨k, q, hk, hq, rfl, rfl, hmq, hbel⟩ := hrel
    by_cases hlt : k < ds.length
    · obtain ⟨b, o, rfl, hbb, c1, c2⟩ := (HR.out.below hbel.out).at_ hlt
      have HI := Lib.hid (HIN.out _ (List.getElem_mem hlt))
      obtain ⟨x, hx⟩ : ∃ x : Nat, ds[k].val = x := ⟨ds[k].val.toNat, (Int.toNat_of_nonneg HI.out.1).symm⟩
      have hx4 : x < 1099511627776 := by have := HI.out.2; omega
      have HM : Hid (q ||| x = mMask (ds.take (k + 1))) := Lib.hid (by rw [mMask_snoc ds k hlt, hmq.out, hx]; rfl)
      have HO : Hid (q ||| x < 1099511627776) := Lib.hid (Nat.or_lt_two_pow (n := 40) hq hx4)
      have hor := i64_or_nat q x (by omega) (by omega)
      rw [hx] at c2
      clear hx
      generalize q ||| x = z at *
      have hi1 : (k : Int) < (ds.length : Int) := by omega
      go_wp2
      go_roundw
      case rel => exact ⟨k + 1, z, by omega, HO.out, by go_num, rfl, HM, Lib.hid (hbel.out.alloc hbel.out.size _)⟩
      case measure => simp [intOf]; omega
    · obtain rfl : k = ds.length := by omega
      have HM : Hid (q = mMask ds) := Lib.hid (by rw [hmq.out, List.take_of_length_le (Nat.le_refl _)])
      go_wp2
      go_ret
      exact ⟨by rw [HM.out]; first | done | rfl, hbel.out⟩

def SomeI (w : World) (e : Ending) (w' : World) : Prop := ∃ r : Int, e = .returned (.int .i64 r) ∧ (-9223372036854775808 ≤ r ∧ r ≤ 9223372036854775807) ∧ Below w.heap.size w w'
set_option maxHeartbeats 1000000 in
theorem implMask_w (ds : List D) (A : Option Addr) (n c : Nat) (w : World) (hr : SD w w.heap.size A n c ds) :
    Calls Tryz.prog 138 #[.slice A n c] w (SomeI w) := by
  obtain rfl := hr.len
  have hl := hr.max
  have hl2 := hr.cap
  unfold maxLen at hl
  have HR := Lib.hid hr
  clear hr
  go_enter Tryz.func138, Tryz.ntmps138
  go_wp2
  go_loopw [3, 8] (fun s i wr => ∃ (k : Nat) (q : Int), k ≤ ds.length ∧ -9223372036854775808 ≤ q ∧ q ≤ 9223372036854775807 ∧ i = .int .i64 k ∧ s = .int .i64 q ∧ Hid (Below w.heap.size w wr)) (fun _ i _ => ds.length - (intOf i).toNat)
  case atStart => exact ⟨0, 0, Nat.zero_le _, by omega, by omega, rfl, rfl, Lib.hid (Below.refl _ _)⟩
  case round =>
    obtain ⟨k, q, hk, hq, hq2, rfl, rfl, hbel⟩ := hrel
    by_cases hlt : k < ds.length
    · obtain ⟨b, o, rfl, hbb, c1, c2⟩ := (HR.out.below hbel.out).at_ hlt
      have HO := Lib.hid (or_range q ds[k].val)
      generalize hz : bits .or .i64 q ds[k].val = z at HO
      have hi1 : (k : Int) < (ds.length : Int) := by omega
      go_wp2
      go_roundw
      case rel => exact ⟨k + 1, z, by omega, HO.out.1, HO.out.2, by go_num, rfl, Lib.hid (hbel.out.alloc hbel.out.size _)⟩
      case measure => simp [intOf]; omega
    · obtain rfl : k = ds.length := by omega
      go_wp2
      go_ret
      exact ⟨_, rfl, ⟨hq, hq2⟩, hbel.out⟩

set_option maxHeartbeats 1000000 in
theorem implHigh_v (ds : List D) (A : Option Addr) (n c : Nat) (w : World) (hr : SD w w.heap.size A n c ds) (hin : Small40 ds) {v : Nat} (hv : mHigh ds = v) :
    Calls Tryz.prog 112 #[.slice A n c] w fun e w' => e = .returned (.int .i64 v) ∧ Below w.heap.size w w' := by
  have hm := mMask_lt (b := 40) hin
  unfold mHigh mNb at hv
  generalize hx : mMask ds = x at *
  have hx2 : x < 1099511627776 := hm
  have hk := (blen_iff x 40).1 hm
  have HX := Lib.hid hx
  have HR := Lib.hid hr
  have HIN := Lib.hid hin
  generalize hq : blen x = q at *
  have HQ := Lib.hid hq
  have hp1 : 1 ≤ 2 ^ q := Nat.two_pow_pos q
  have hp2 : 2 ^ q ≤ 1099511627776 := Nat.pow_le_pow_right (n := 2) (by decide) hk
  have HV := Lib.hid hv
  clear hx hr hin hq hm hv
  have hu : IntKind.u64.wrap (x : Int) = (x : Int) := by rw [IntKind.wrap_u64]; omega
  go_enter Tryz.func112, Tryz.ntmps112
  go_wp2_with fail
  refine (implMask_v ds _ _ _ _ HR.out HIN.out HX.out).mono ?_
  rintro e w1 ⟨rfl, hb⟩
  have HB := Lib.hid hb
  clear hb
  go_wp2_with (go_at_call 137; refine (len_v x _ (by omega) (by omega) (v := q) (by rw [Int.toNat_natCast]; exact HQ.out)).mono ?_; rintro e w' ⟨rfl, rfl⟩)
  go_ret
  exact ⟨ret_int (by
    have e : (2 : Int) ^ q = ((2 ^ q : Nat) : Int) := by push_cast; rfl
    have := HV.out
    rw [e]; unfold wrap64; omega), HB.out⟩

theorem wrap64_range (a : Int) : -9223372036854775808 ≤ wrap64 a ∧ wrap64 a ≤ 9223372036854775807 := by unfold wrap64; omega
set_option maxHeartbeats 1000000 in
theorem implHigh_w (ds : List D) (A : Option Addr) (n c : Nat) (w : World) (hr : SD w w.heap.size A n c ds) :
    Calls Tryz.prog 112 #[.slice A n c] w (SomeI w) := by
  have HR := Lib.hid hr
  clear hr
  go_enter Tryz.func112, Tryz.ntmps112
  go_wp2_with fail
  refine (implMask_w ds _ _ _ _ HR.out).mono ?_
  rintro e w1 ⟨r, rfl, hrr, hb⟩
  have HB := Lib.hid hb
  clear hb
  have hu : 0 ≤ IntKind.u64.wrap r ∧ IntKind.u64.wrap r ≤ 18446744073709551615 := by rw [IntKind.wrap_u64]; omega
  generalize hu2 : IntKind.u64.wrap r = u at *
  generalize hq : blen u.toNat = q
  have HQ := Lib.hid hq
  clear hq
  go_wp2_with (go_at_call 137; refine (len_v u _ hu.1 hu.2 HQ.out).mono ?_; rintro e w' ⟨rfl, rfl⟩)
  go_ret
  exact ⟨_, rfl, wrap64_range _, HB.out⟩

set_option maxHeartbeats 1000000 in
theorem implNb_v (ds : List D) (A : Option Addr) (n c : Nat) (w : World) (hr : SD w w.heap.size A n c ds) (hin : Small40 ds) {v : Nat} (hv : mNb ds = v) :
    Calls Tryz.prog 79 #[.slice A n c] w fun e w' => e = .returned (.int .i64 v) ∧ Below w.heap.size w w' := by
  have hm := mMask_lt (b := 40) hin
  have h1 := mNb_pos ds
  have h2 := mNb_le hm
  generalize hx : mHigh ds = x
  have HE : Hid ((x : Int) + 1 = (v : Int)) := Lib.hid (by unfold mHigh at hx; omega)
  have hx2 : x ≤ 1099511627776 := by unfold mHigh at hx; omega
  have HX := Lib.hid hx
  have HR := Lib.hid hr
  have HIN := Lib.hid hin
  clear hx hr hin hv hm h1 h2
  go_enter Tryz.func79, Tryz.ntmps79
  go_wp2_with (go_at_call 112; refine (implHigh_v ds _ _ _ _ HR.out HIN.out HX.out).mono ?_; rintro e w1 ⟨rfl, hb⟩; have HB := Lib.hid hb; clear hb)
  go_ret
  exact ⟨by rw [HE.out]; first | done | rfl, HB.out⟩
set_option maxHeartbeats 1000000 in
theorem implNb_w (ds : List D) (A : Option Addr) (n c : Nat) (w : World) (hr : SD w w.heap.size A n c ds) :
    Calls Tryz.prog 79 #[.slice A n c] w (SomeI w) := by
  have HR := Lib.hid hr
  clear hr
  go_enter Tryz.func79, Tryz.ntmps79
  go_wp2_with (go_at_call 112; refine (implHigh_w ds _ _ _ _ HR.out).mono ?_; rintro e w1 ⟨r, rfl, hrr, hb⟩; have HB := Lib.hid hb; clear hb)
  go_ret
  exact ⟨_, rfl, wrap64_range _, HB.out⟩

/-! ### the program's ValidFlag -/
theorem wpList_app_Df {W : World} {ops : Array Oper} {rest : List Oper} {o : Oper} {a : Act} {Q : Exit → Act → World → Prop} (hgd : o.guard = none) (s x : Operand) (ho : o.op = .call { callee := .builtin .append, args := #[s, x], argTypes := #[122, 122] })
    (base : Nat) (v : Value) (n : Nat) (xs : List Value) (hs : a.eval s = v) (hown : W.ownsRow base 108 2 v n xs) (nm : ByteArray) (vl : Int)
    (c g : Nat) (hx : a.eval x = .slice (some ⟨g, 0, none⟩) 1 c) (hgw : g = W.heap.size) (hn : n ≤ 2000000) (hbase : base ≤ W.heap.size)
    (h : ∀ v' w', w'.ownsRow base 108 2 v' (n + 1) (xs ++ [.string nm, .int .i64 vl]) → Below base W w' → wpList Tryz.prog ops Q rest (a.put o.dst v') w') :
    wpList Tryz.prog ops Q (o :: rest) a (W.alloc (.cells #[.string nm, .int .i64 vl] 108)) := by
  obtain ⟨i0, hi, hz0, hz1, hz2⟩ := info_parts info_D
  exact wpList_app1 hgd s x _ ho base _ i0 _ 2 24 Tryz.underlying122 ⟨hi, hz0, hz1, hz2⟩ rfl (by omega) (by omega) v n xs hs hown _ rfl (by simp [Value.oneCell']) c g hx hgw hn hbase h

theorem flat_unv (ds : List D) (k : Nat) (h : k < ds.length) : flat ((ds.take (k + 1)).map unv) = flat ((ds.take k).map unv) ++ [.string ds[k].name, .int .i64 0] := by
  rw [List.take_succ_eq_append_getElem h, List.map_append]; simp [flat, encD, unv]
theorem unv_ok {ds : List D} (h : ∀ d ∈ ds, d.ok) : ∀ d ∈ ds.map unv, d.ok := by
  intro d hd
  obtain ⟨x, hx, rfl⟩ := List.mem_map.1 hd
  exact ⟨(h x hx).1, by show (-9223372036854775808 : Int) ≤ 0; omega, by show (0 : Int) ≤ 9223372036854775807; omega⟩
theorem clSet' {w : World} {g : Nat} {v u : Value} (h : Cl w g v) : Cl (w.setCell ⟨g, 0, none⟩ u) g u :=
  ⟨World.cell?_setCell_same' _ _ _ (by rw [h.1]; rfl), by rw [frozen_set]; exact h.2⟩
theorem clLow {w w' : World} {g B : Nat} {v : Value} (h : Cl w g v) (hb : Below B w w') (hg : g < B) : Cl w' g v :=
  ⟨(hb.cell (p := ⟨g, 0, none⟩) hg).trans h.1, (hb.frozen (p := ⟨g, 0, none⟩) hg).trans h.2⟩

set_option maxHeartbeats 4000000 in
theorem implVF_v (ds : List D) (b : Int) (A : Option Addr) (n c : Nat) (w : World) (hr : SD w w.heap.size A n c ds) (hn : n ≤ 1048576) {v : Bool} (hv : vFlag ds b = v) :
    Calls Tryz.prog 113 #[.agg #[.slice A n c, .int .i64 b]] w fun e w' => e = .returned (.bool v) ∧ Below w.heap.size w w' := by
  subst hv
  have HF := Lib.hid (FB.start hr b)
  have HOK := Lib.hid hr.ok
  have HLN := Lib.hid hr.len
  have hcap := hr.cap
  have hmx := hr.max
  unfold maxLen at hmx
  clear hr
  by_cases hb3 : 0 ≤ b ∧ b ≤ 3
  · obtain ⟨hb0, hb3⟩ := hb3
    have HV : Hid (vFlag ds b = vDefs 0 4095 ds) := Lib.hid (by unfold vFlag; rw [decide_eq_true hb0, decide_eq_true hb3]; simp)
    have bW : Below w.heap.size w ((w.alloc (.cells #[.slice A n c, .int .i64 b] 35)).alloc (.cells #[.slice none 0 0] 193)) := ((Below.refl _ _).alloc (Nat.le_refl _) _).alloc (by simp) _
    have HF1 := Lib.hid (HF.out.alloc (.cells #[.slice none 0 0] 193))
    have HC1 : Hid (Cl ((w.alloc (.cells #[.slice A n c, .int .i64 b] 35)).alloc (.cells #[.slice none 0 0] 193)) (w.heap.size + 1) (.slice none 0 0)) := Lib.hid ⟨by simp [go_sem], by simp [go_sem]⟩
    have HZ : Hid (w.heap.size + 1 + 1 ≤ ((w.alloc (.cells #[.slice A n c, .int .i64 b] 35)).alloc (.cells #[.slice none 0 0] 193)).heap.size) := Lib.hid (by simp)
    clear bW HF
    go_enter Tryz.func113, Tryz.ntmps113
    go_wp2
    generalize ((w.alloc (.cells #[.slice A n c, .int .i64 b] 35)).alloc (.cells #[.slice none 0 0] 193)) = w1 at *
    go_loopw [17] (fun i wr => ∃ (k : Nat) (A' : Option Addr) (c' : Nat), k ≤ n ∧ i = .int .i64 k ∧ Hid (∀ d ∈ ds.take k, inR d) ∧ Hid (Cl wr (w.heap.size + 1) (.slice A' k c')) ∧ Hid (wr.ownsRow (w.heap.size + 1 + 1) 108 2 (.slice A' k c') k (flat ((ds.take k).map unv))) ∧ Hid (FB w wr w.heap.size A n c ds b) ∧ Hid (w.heap.size + 1 + 1 ≤ wr.heap.size)) (fun i _ => n - (intOf i).toNat)
    case atStart => exact ⟨0, none, 0, Nat.zero_le _, rfl, Lib.hid (fun d hd => by simp at hd), HC1, Lib.hid (World.ownsRow_nil _ _ _ _), HF1, HZ⟩
    case round =>
      clear HC1 HF1 HZ
      obtain ⟨k, A', c', hk, rfl, hin, hcl, hown, hf, hz⟩ := hrel
      by_cases hlt : k < n
      · have hkd : k < ds.length := by have := HLN.out; omega
        obtain ⟨bb, o, rfl, hbb, d1, d2⟩ := hf.out.sd.at_ hkd
        have HFU := Lib.hid (flat_unv ds k hkd)
        have hi1 : (k : Int) < (n : Int) := by omega
        have hi0 : (0 : Int) ≤ (k : Int) := by omega
        obtain ⟨W2, hW2⟩ : ∃ W2 : World, W2 = wr.alloc (.cells #[.string ds[k].name, .int .i64 ds[k].val] 108) := ⟨_, rfl⟩
        have hb2 : Below wr.heap.size wr W2 := by rw [hW2]; exact (Below.refl _ _).alloc (Nat.le_refl _) _
        have HF2 := Lib.hid (hf.out.call hb2)
        have HC2 := Lib.hid (hcl.out.below hb2)
        have HO2 := Lib.hid (own_below hown.out hb2)
        have e0 : W2.cell? ⟨wr.heap.size, 0, none⟩ = some (.string ds[k].name) := by rw [hW2]; simp [go_sem]
        have e1 : W2.cell? ⟨wr.heap.size, 1, none⟩ = some (.int .i64 ds[k].val) := by rw [hW2]; simp [go_sem]
        have l0 : (wr.alloc (.cells #[.string ds[k].name, .int .i64 ds[k].val] 108)).cell? ⟨wr.heap.size, 0, none⟩ = some (.string ds[k].name) := by simp [go_sem]
        have l1 : (wr.alloc (.cells #[.string ds[k].name, .int .i64 ds[k].val] 108)).cell? ⟨wr.heap.size, 1, none⟩ = some (.int .i64 ds[k].val) := by simp [go_sem]
        have l2 : (wr.alloc (.cells #[.string ds[k].name, .int .i64 ds[k].val] 108)).cell? ⟨w.heap.size + 1, 0, none⟩ = some (.slice A' k c') := by rw [← hW2]; exact HC2.out.1
        have HZ2 : Hid (w.heap.size + 1 + 1 ≤ W2.heap.size) := Lib.hid (Nat.le_trans hz.out hb2.size)
        have HSZ : Hid (W2.heap.size = wr.heap.size + 1) := Lib.hid (by rw [hW2]; simp)
        have HW2 := Lib.hid hW2.symm
        clear hb2 hW2
        by_cases hr1 : 0 ≤ ds[k].val ∧ ds[k].val ≤ 4095
        · have HIN : Hid (∀ d ∈ ds.take (k + 1), inR d) := Lib.hid (by
            intro d hd
            rw [List.take_succ_eq_append_getElem hkd] at hd
            rcases List.mem_append.1 hd with h | h
            · exact hin.out d h
            · simp at h; subst h; exact hr1)
          obtain ⟨hr0, hr4⟩ := hr1
          obtain ⟨f0, f1⟩ := HC2.out
          generalize ds[k].val = vl at *
          generalize ds[k].name = nm at *
          go_wp2_with (
            at_builtin
            rw [HW2.out]
            refine wpList_app_D rfl _ _ rfl (w.heap.size + 1 + 1) _ _ _ rfl HO2.out _ _ _ _ rfl (by rw [HSZ.out]) (by omega) HZ2.out ?_
            intro v' w4 ho hb
            obtain ⟨A4, c4, rfl⟩ := own_form ho
            have HO4 := Lib.hid ho
            have HC4 := Lib.hid (clLow HC2.out hb (by omega))
            have HF4 := Lib.hid (fbG HF2.out hb (by omega) (by omega))
            have HZ4 : Hid (w.heap.size + 1 + 1 ≤ w4.heap.size) := Lib.hid (Nat.le_trans HZ2.out hb.size)
            obtain ⟨y4, z4⟩ := HC4.out
            clear ho hb f0 f1 l0 l1 l2 e0 e1)
          go_roundw
          case rel =>
            refine ⟨k + 1, A4, c4, by omega, by go_num, HIN, Lib.hid (clSet' HC4.out), Lib.hid ?_, Lib.hid (HF4.out.set (by show w.heap.size ≤ w.heap.size + 1; omega) (by show w.heap.size + 1 ≠ w.heap.size; omega) _), Lib.hid (by rw [World.size_setCell]; exact HZ4.out)⟩
            rw [HFU.out]
            exact own_setCell HO4.out (fun e => by have := (HO4.out.lt _ e).1; simp at this; omega) _
          case measure => simp [intOf]; omega
        · have HNO : Hid (vDefs 0 4095 ds = false) := Lib.hid (vDefs_out (List.getElem_mem hkd) hr1)
          by_cases hr2 : ds[k].val < 0
          · go_wp2
            go_ret
            rw [HW2.out]
            exact ⟨ret_bool (by rw [HV.out, HNO.out]), HF2.out.bel⟩
          · have hr3 : 4095 < ds[k].val := by omega
            go_wp2
            go_ret
            rw [HW2.out]
            exact ⟨ret_bool (by rw [HV.out, HNO.out]), HF2.out.bel⟩
      · obtain rfl : k = n := by omega
        have HAL : Hid (∀ d ∈ ds, inR d) := Lib.hid (fun d hd => hin.out d (by rw [List.take_of_length_le (by have := HLN.out; omega)]; exact hd))
        have HU : Hid (vDefs 0 4095 ds = vEnum (ds.map unv)) := Lib.hid (vDefs_unv HAL.out)
        have HS := Lib.hid (sd_of_own (ds := ds.map unv) (by have := hown.out; rw [List.take_of_length_le (by have := HLN.out; omega)] at this; exact this) (unv_ok HOK.out))
        obtain ⟨f0, f1⟩ := hcl.out
        generalize hve : vEnum (ds.map unv) = v2 at *
        have HVE := Lib.hid hve
        clear hve
        go_wp2_with (go_at_call 139; refine (implVE_v (ds.map unv) _ _ _ _ HS.out HVE.out).mono ?_; rintro e w4 ⟨rfl, hb⟩)
        go_ret
        exact ⟨ret_bool (by rw [HV.out, HU.out]), hf.out.after hb⟩
  · have HNO : Hid (vFlag ds b = false) := Lib.hid (by
      cases h : vFlag ds b
      · rfl
      · exact absurd (vFlag_bound h) hb3)
    by_cases hb1 : b < 0
    · go_enter Tryz.func113, Tryz.ntmps113
      go_wp2
      go_ret
      exact ⟨ret_bool HNO.out.symm, HF.out.bel⟩
    · have hb2 : 3 < b := by omega
      go_enter Tryz.func113, Tryz.ntmps113
      go_wp2
      go_ret
      exact ⟨ret_bool HNO.out.symm, HF.out.bel⟩
end Go.Proofs.YtiebdhbioccogaaGreatDoor

namespace Go.Proofs.YtiebdhbioccogaaGreatDoor
open Go.RowKit Go.Maps
set_option linter.unusedVariables false
set_option maxRecDepth 100000

/-! ### the program's lists of definitions -/
set_option maxHeartbeats 2000000 in
theorem implSg_any (ds : List D) (A : Option Addr) (n c : Nat) (w : World) (hr : SD w w.heap.size A n c ds) :
    Calls Tryz.prog 125 #[.slice A n c] w (DefsP (mSg ds) w) := by
  obtain rfl := hr.len
  have hl := hr.max
  have hl2 := hr.cap
  unfold maxLen at hl
  have HR := Lib.hid hr
  clear hr
  go_enter Tryz.func125, Tryz.ntmps125
  go_wp2_with fail
  refine (memberIndexes_any ds _ _ _ _ HR.out).mono ?_
  rintro e w1 ⟨rfl, hi1, hb1⟩
  have HI := Lib.hid hi1
  have HB := Lib.hid hb1
  have hG : w.heap.size ≤ w1.heap.size := hb1.size
  clear hi1 hb1
  go_wp2
  generalize w.heap.size = G at HI hG ⊢
  go_loopw [4, 5] (fun v i wr => ∃ k p : Nat, k ≤ 12 ∧ 1 ≤ p ∧ p ≤ 4096 ∧ i = .int .i64 p ∧ Hid (p = 2 ^ k) ∧ Hid (wr.ownsRow w1.heap.size 108 2 v (sgTo ds k).length (flat (sgTo ds k))) ∧ Hid (Below w1.heap.size w1 wr)) (fun _ i _ => 4096 - (intOf i).toNat)
  case atStart => exact ⟨0, 1, by omega, by omega, by omega, rfl, Lib.hid rfl, Lib.hid (World.ownsRow_nil _ _ _ _), Lib.hid (Below.refl _ _)⟩
  case round =>
    obtain ⟨k, p, hk, hp1, hp2, rfl, hp, hown, hbel⟩ := hrel
    by_cases h12 : k < 12
    · have hp3 : p ≤ 2048 := by rw [hp.out]; exact Nat.pow_le_pow_right (n := 2) (by decide) (show k ≤ 11 by omega)
      have HP2 : Hid (p * 2 = 2 ^ (k + 1)) := Lib.hid (by rw [hp.out, Nat.pow_succ])
      have HS := Lib.hid (((HR.out.below HB.out).below' hbel.out (by have := HB.out.size; exact this)).call (Nat.le_trans HB.out.size hbel.out.size))
      have HL := Lib.hid (sgTo_len ds k)
      have HIr := Lib.hid (HI.out.below hbel.out)
      rcases fidx_cases (isVal (p : Int)) ds with ⟨hx, _⟩ | ⟨j, hj, hx, _, _⟩
      · have HT : Hid (sgTo ds (k + 1) = sgTo ds k) := Lib.hid (by show sgTo ds k ++ sgAt ds k = _; rw [sgAt_no (by rw [← hp.out]; omega), List.append_nil])
        have hlk := HIr.out.look_no (p : Int) ⟨by omega, by omega⟩ (by omega)
        clear hx
        go_wp2
        go_roundw
        case rel => exact ⟨k + 1, p * 2, by omega, by omega, by omega, by first | go_num | (congr 1; push_cast; omega), HP2, Lib.hid (by rw [HT.out]; exact hown.out), hbel⟩
        case measure => simp [intOf]; omega
      · obtain ⟨b, o, rfl, hbb, c1, c2⟩ := HS.out.at_ hj
        have HT : Hid (sgTo ds (k + 1) = sgTo ds k ++ [ds[j]]) := Lib.hid (by show sgTo ds k ++ sgAt ds k = _; rw [sgAt_yes hj (by rw [← hp.out]; exact hx)])
        have hlk := HIr.out.look_yes (p : Int) ⟨by omega, by omega⟩ (by omega)
        rw [hx] at hlk
        clear hx
        have hi1 : (j : Int) < (ds.length : Int) := by omega
        go_wp2_with (at_builtin; refine wpList_app_Df rfl _ _ rfl _ _ _ _ rfl hown.out _ _ _ _ rfl (by first | rfl | simp) (by have := HL.out; omega) hbel.out.size ?_; intro v' w2 ho1 hb1; have HO1 := Lib.hid ho1; have HB1 := Lib.hid hb1; clear ho1 hb1)
        go_roundw
        case rel => exact ⟨k + 1, p * 2, by omega, by omega, by omega, by first | go_num | (congr 1; push_cast; omega), HP2, Lib.hid (by rw [HT.out, List.length_append]; simpa [flat, encD] using HO1.out), Lib.hid (hbel.out.trans HB1.out)⟩
        case measure => simp [intOf]; omega
    · obtain rfl : k = 12 := by omega
      have hp4 : p = 4096 := hp.out
      have hp5 : (4095 : Int) < (p : Int) := by omega
      clear hp4
      go_wp2
      go_ret
      obtain ⟨A', c', hv⟩ := own_form hown.out
      subst hv
      exact ⟨A', c', rfl, own_base hown.out HB.out.size, HB.out.trans (hbel.out.mono HB.out.size)⟩

set_option maxHeartbeats 1000000 in
theorem implNames_any (ds : List D) (A : Option Addr) (n c : Nat) (w : World) (hr : SD w w.heap.size A n c ds) (hn : n ≤ 1048576) :
    Calls Tryz.prog 150 #[.slice A n c] w (StrsP (ds.map (·.name)) w) := by
  obtain rfl := hr.len
  have hl := hr.max
  have hl2 := hr.cap
  unfold maxLen at hl
  have HR := Lib.hid hr
  clear hr
  go_enter Tryz.func150, Tryz.ntmps150
  go_wp2
  go_loopw [3, 8] (fun v i wr => ∃ k : Nat, k ≤ ds.length ∧ i = .int .i64 k ∧ Hid (wr.ownsRow w.heap.size 9 1 v k (flatS ((ds.take k).map (·.name)))) ∧ Hid (Below w.heap.size w wr)) (fun _ i _ => ds.length - (intOf i).toNat)
  case atStart => exact ⟨0, Nat.zero_le _, rfl, Lib.hid (World.ownsRow_nil _ _ _ _), Lib.hid (Below.refl _ _)⟩
  case round =>
    obtain ⟨k, hk, rfl, hown, hbel⟩ := hrel
    by_cases hlt : k < ds.length
    · obtain ⟨b, o, rfl, hb, c1, c2⟩ := (HR.out.below hbel.out).at_ hlt
      have hi1 : (k : Int) < (ds.length : Int) := by omega
      have HT : Hid (flatS ((ds.take (k + 1)).map (·.name)) = flatS ((ds.take k).map (·.name)) ++ [.string ds[k].name]) := Lib.hid (by rw [List.take_succ_eq_append_getElem hlt]; unfold flatS; rw [List.map_append, List.map_append]; rfl)
      have l0 : (wr.alloc (.cells #[.string ds[k].name, .int .i64 ds[k].val] 108)).cell? ⟨wr.heap.size, 0, none⟩ = some (.string ds[k].name) := by simp [go_sem]
      have hbW : Below wr.heap.size wr (wr.alloc (.cells #[.string ds[k].name, .int .i64 ds[k].val] 108)) := (Below.refl _ _).alloc (Nat.le_refl _) _
      have HBW : Hid (Below w.heap.size w (wr.alloc (.cells #[.string ds[k].name, .int .i64 ds[k].val] 108))) := Lib.hid (hbel.out.trans (hbW.mono hbel.out.size))
      have HOW := Lib.hid (own_below hown.out hbW)
      clear hbW
      go_wp2_with (at_builtin; refine wpList_app_S rfl _ _ rfl w.heap.size _ _ _ rfl HOW.out _ _ _ rfl (by first | rfl | simp) (by omega) HBW.out.size ?_; intro v' w1 ho1 hb1; have HO1 := Lib.hid ho1; have HB1 := Lib.hid hb1; clear ho1 hb1)
      go_roundw
      case rel => exact ⟨k + 1, by omega, by go_num, Lib.hid (by rw [HT.out]; exact HO1.out), Lib.hid (HBW.out.trans HB1.out)⟩
      case measure => simp [intOf]; omega
    · obtain rfl : k = ds.length := by omega
      go_wp2
      go_ret
      obtain ⟨A', c', hv⟩ := own_form hown.out
      subst hv
      have h2 := hown.out
      rw [List.take_of_length_le (Nat.le_refl _)] at h2
      exact ⟨A', c', by rw [List.length_map]; rfl, by rw [List.length_map]; exact h2, hbel.out⟩

/-! ### what a bound does with bits that are not named -/
def bdF (b : Int) : Value := .func (.func (if b = 0 then 146 else if b = 1 then 147 else if b = 2 then 148 else 149)) #[] #[]
set_option maxHeartbeats 400000 in
theorem refuse_any (n m : Int) (w : World) : Calls Tryz.prog 146 #[.int .i64 n, .int .i64 m] w fun e w' => e = .returned (.tuple #[.int .i64 0, .int .i64 2]) ∧ w = w' := by
  go_enter Tryz.func146, Tryz.ntmps146
  go_wp2
  go_ret2
  exact ⟨rfl, rfl⟩
set_option maxHeartbeats 400000 in
theorem leaveOut_any (n m : Nat) (w : World) (hn : n < 4096) (hm : m < 4096) : Calls Tryz.prog 147 #[.int .i64 n, .int .i64 m] w fun e w' => e = .returned (.tuple #[.int .i64 ((n &&& m : Nat) : Int), .int .i64 0]) ∧ w = w' := by
  have h := i64_and_nat n m (by omega) (by omega)
  go_enter Tryz.func147, Tryz.ntmps147
  go_wp2
  go_ret2
  exact ⟨rfl, rfl⟩
set_option maxHeartbeats 400000 in
theorem eject_any (n m : Int) (w : World) : Calls Tryz.prog 148 #[.int .i64 n, .int .i64 m] w fun e w' => e = .returned (.tuple #[.int .i64 n, .int .i64 1]) ∧ w = w' := by
  go_enter Tryz.func148, Tryz.ntmps148
  go_wp2
  go_ret2
  exact ⟨rfl, rfl⟩
set_option maxHeartbeats 400000 in
theorem keep_any (n m : Int) (w : World) : Calls Tryz.prog 149 #[.int .i64 n, .int .i64 m] w fun e w' => e = .returned (.tuple #[.int .i64 n, .int .i64 0]) ∧ w = w' := by
  go_enter Tryz.func149, Tryz.ntmps149
  go_wp2
  go_ret2
  exact ⟨rfl, rfl⟩
end Go.Proofs.YtiebdhbioccogaaGreatDoor

namespace Go.Proofs.YtiebdhbioccogaaGreatDoor
open Go.RowKit Go.Maps
set_option linter.unusedVariables false
set_option maxRecDepth 100000

theorem st_nilFunc (w : World) (a : Addr) : (store a .nilFunc).run Tryz.prog w = stored Tryz.prog w a .nilFunc .plain := run_store Tryz.prog w a _ .plain rfl
theorem st_func (w : World) (a : Addr) (f : Fn) (x y : Array Value) : (store a (.func f x y)).run Tryz.prog w = stored Tryz.prog w a (.func f x y) .plain := run_store Tryz.prog w a _ .plain rfl
/-! ### classes that are ready to be asked -/
def mWhole (ds : List D) (b : Int) : Nat := if b = 3 then mHigh ds else mMask ds
def ClassV (A : Option Addr) (n c : Nat) (ds : List D) (b : Int) : Value := .agg #[.slice A n c, bdF b, .int .i64 (mWhole ds b)]

set_option maxHeartbeats 4000000 in
theorem classOf_no (ds : List D) (b : Int) (A : Option Addr) (n c : Nat) (w : World) (hr : SD w w.heap.size A n c ds) (hn : n ≤ 1048576) (hv : vFlag ds b = false) :
    Calls Tryz.prog 121 #[.agg #[.slice A n c, .int .i64 b]] w fun e w' => e = .returned (.tuple #[.agg #[.slice none 0 0, .nilFunc, .int .i64 0], .bool false]) ∧ Below w.heap.size w w' := by
  have HF := Lib.hid ((FB.start hr b).alloc (.cells #[.slice none 0 0, .nilFunc, .int .i64 0] 175))
  have HC : Hid (C3 ((w.alloc (.cells #[.slice A n c, .int .i64 b] 35)).alloc (.cells #[.slice none 0 0, .nilFunc, .int .i64 0] 175)) (w.heap.size + 1) (.slice none 0 0) .nilFunc (.int .i64 0)) := Lib.hid (by
    have := c3New (w.alloc (.cells #[.slice A n c, .int .i64 b] 35)) (.slice none 0 0) .nilFunc (.int .i64 0) 175
    simpa using this)
  have HV := Lib.hid hv
  have hst := st_nilFunc
  clear hr hv
  go_enter Tryz.func121, Tryz.ntmps121
  go_wp2_with fail
  refine (implVF_v ds b _ _ _ _ HF.out.sd hn HV.out).mono ?_
  rintro e w1 ⟨rfl, hb⟩
  have HF1 := Lib.hid (HF.out.call hb)
  obtain ⟨c0, c1, c2, f0, f1, f2⟩ := HC.out.below hb
  clear hb
  go_wp2
  exact bodyPost_ret (v := .tuple #[.agg #[.slice none 0 0, .nilFunc, .int .i64 0], .bool false]) (by simp [results, Tryz.results121, go_sem, c0, c1, c2]) rfl ⟨rfl, ((HF1.out.bel.setCell (by show w.heap.size ≤ w.heap.size + 1; omega) _).setCell (by show w.heap.size ≤ w.heap.size + 1; omega) _).setCell (by show w.heap.size ≤ w.heap.size + 1; omega) _⟩

set_option maxHeartbeats 8000000 in
theorem classOf_yes (ds : List D) (b : Int) (A : Option Addr) (n c : Nat) (w : World) (hr : SD w w.heap.size A n c ds) (hv : vFlag ds b = true) :
    Calls Tryz.prog 121 #[.agg #[.slice A n c, .int .i64 b]] w fun e w' => e = .returned (.tuple #[ClassV A n c ds b, .bool true]) ∧ Below w.heap.size w w' := by
  have HF := Lib.hid ((FB.start hr b).alloc (.cells #[.slice none 0 0, .nilFunc, .int .i64 0] 175))
  have HC : Hid (C3 ((w.alloc (.cells #[.slice A n c, .int .i64 b] 35)).alloc (.cells #[.slice none 0 0, .nilFunc, .int .i64 0] 175)) (w.heap.size + 1) (.slice none 0 0) .nilFunc (.int .i64 0)) := Lib.hid (by
    have := c3New (w.alloc (.cells #[.slice A n c, .int .i64 b] 35)) (.slice none 0 0) .nilFunc (.int .i64 0) 175
    simpa using this)
  have HN : Hid (n ≤ 1048576) := Lib.hid (by have := vFlag_len hv; have := hr.len; omega)
  have HS40 := Lib.hid (small40 (vFlag_in hv))
  have hbd := vFlag_bound hv
  have HV := Lib.hid hv
  obtain ⟨mk, hmk⟩ : ∃ mk, mMask ds = mk := ⟨_, rfl⟩
  obtain ⟨hg, hhg⟩ : ∃ hg, mHigh ds = hg := ⟨_, rfl⟩
  have HMK := Lib.hid hmk
  have HHG := Lib.hid hhg
  have HW : Hid (mWhole ds b = if b = 3 then hg else mk) := Lib.hid (by unfold mWhole; rw [hmk, hhg])
  clear hr hv hmk hhg
  unfold ClassV
  have hst := st_nilFunc
  have hst2 := st_func
  go_enter Tryz.func121, Tryz.ntmps121
  go_wp2_with fail
  refine (implVF_v ds b _ _ _ _ HF.out.sd HN.out HV.out).mono ?_
  rintro e w1 ⟨rfl, hb⟩
  have HF1 := Lib.hid (HF.out.call hb)
  have HC1 := Lib.hid (HC.out.below hb)
  have k0 := HF1.out.c0
  have k1 := HF1.out.c1
  clear hb HF HC
  obtain ⟨w2, hw2⟩ : ∃ w2 : World, w2 = w1.alloc (.cells #[.slice A n c, .nilFunc, .int .i64 0] 175) := ⟨_, rfl⟩
  have hb2 : Below w1.heap.size w1 w2 := by rw [hw2]; exact (Below.refl _ _).alloc (Nat.le_refl _) _
  have HF2 := Lib.hid (HF1.out.call hb2)
  have HC2 := Lib.hid (HC1.out.below hb2)
  have HD2 : Hid (C3 w2 w1.heap.size (.slice A n c) .nilFunc (.int .i64 0)) := Lib.hid (by rw [hw2]; exact c3New _ _ _ _ _)
  have l0 : (w1.alloc (.cells #[.slice A n c, .nilFunc, .int .i64 0] 175)).cell? ⟨w1.heap.size, 0, none⟩ = some (.slice A n c) := by simp [go_sem]
  have HW2 := Lib.hid hw2.symm
  have hR : w.heap.size + 1 < w1.heap.size := HC1.out.lt
  clear hb2 hw2 HF1 HC1
  go_wp2_with fail
  rw [HW2.out]
  clear l0 k0 k1
  refine (implMask_v ds _ _ _ _ HF2.out.sd HS40.out HMK.out).mono ?_
  rintro e w3 ⟨rfl, hb⟩
  have HF3 := Lib.hid (HF2.out.call hb)
  have HC3 := Lib.hid (HC2.out.below hb)
  have HD3 := Lib.hid (HD2.out.below hb)
  clear hb HF2 HC2 HD2 HW2
  generalize w1.heap.size = G at *
  obtain ⟨r0, r1, r2, s0, s1, s2⟩ := HC3.out
  obtain ⟨d0, d1, d2, e0, e1, e2⟩ := HD3.out
  have k0 := HF3.out.c0
  have k1 := HF3.out.c1
  have q1 : w.heap.size ≠ G := by omega
  have q2 : w.heap.size + 1 ≠ G := by omega
  have q3 : G ≠ w.heap.size := by omega
  have q4 : G ≠ w.heap.size + 1 := by omega
  have p1 : w.heap.size ≤ G := by omega
  have p2 : w.heap.size ≤ w.heap.size + 1 := by omega
  obtain ⟨hb0, hb4⟩ := hbd
  have HB3 := Lib.hid HF3.out.bel
  rcases (show b = 0 ∨ b = 1 ∨ b = 2 ∨ b = 3 by omega) with rfl | rfl | rfl | rfl
  · have HWW : Hid (mWhole ds 0 = mk) := Lib.hid (by rw [HW.out]; rfl)
    go_wp2
    refine bodyPost_ret (v := .tuple #[.agg #[.slice A n c, bdF 0, .int .i64 mk], .bool true]) (by simp [results, Tryz.results121, go_sem, r0, r1, r2, bdF]) rfl ⟨by rw [HWW.out], ?_⟩
    exact ((((HB3.out.setCell p1 _).setCell p1 _).setCell p2 _).setCell p2 _).setCell p2 _
  · have HWW : Hid (mWhole ds 1 = mk) := Lib.hid (by rw [HW.out]; rfl)
    go_wp2
    refine bodyPost_ret (v := .tuple #[.agg #[.slice A n c, bdF 1, .int .i64 mk], .bool true]) (by simp [results, Tryz.results121, go_sem, r0, r1, r2, bdF]) rfl ⟨by rw [HWW.out], ?_⟩
    exact ((((HB3.out.setCell p1 _).setCell p1 _).setCell p2 _).setCell p2 _).setCell p2 _
  · have HWW : Hid (mWhole ds 2 = mk) := Lib.hid (by rw [HW.out]; rfl)
    go_wp2
    refine bodyPost_ret (v := .tuple #[.agg #[.slice A n c, bdF 2, .int .i64 mk], .bool true]) (by simp [results, Tryz.results121, go_sem, r0, r1, r2, bdF]) rfl ⟨by rw [HWW.out], ?_⟩
    exact ((((HB3.out.setCell p1 _).setCell p1 _).setCell p2 _).setCell p2 _).setCell p2 _
  · have HWW : Hid (mWhole ds 3 = hg) := Lib.hid (by rw [HW.out]; rfl)
    go_wp2_with fail
    obtain ⟨w4, hw4⟩ : ∃ w4 : World, w4 = (w3.setCell ⟨G, 2, none⟩ (.int .i64 mk)).setCell ⟨G, 1, none⟩ (.func (.func 149) #[] #[]) := ⟨_, rfl⟩
    have hf4 : FB w w4 w.heap.size A n c ds 3 := by rw [hw4]; exact (HF3.out.set p1 q3 _).set p1 q3 _
    have hd4 : C3 w4 G (.slice A n c) (.func (.func 149) #[] #[]) (.int .i64 mk) := by rw [hw4]; exact (HD3.out.set2 _).set1 _
    have hc4 : C3 w4 (w.heap.size + 1) (.slice none 0 0) .nilFunc (.int .i64 0) := by rw [hw4]; exact (HC3.out.setO q4 _).setO q4 _
    rw [← hw4]
    have HF4 := Lib.hid hf4
    have HD4 := Lib.hid hd4
    have HC4 := Lib.hid hc4
    clear hf4 hd4 hc4 hw4 r0 r1 r2 s0 s1 s2 d0 d1 d2 e0 e1 e2 k0 k1 HF3 HC3 HD3 HB3
    refine (implHigh_v ds _ _ _ _ HF4.out.sd HS40.out HHG.out).mono ?_
    rintro e w5 ⟨rfl, hb⟩
    have HB5 := Lib.hid (HF4.out.call hb).bel
    obtain ⟨r0, r1, r2, s0, s1, s2⟩ := HC4.out.below hb
    obtain ⟨d0, d1, d2, e0, e1, e2⟩ := HD4.out.below hb
    clear hb HF4 HD4 HC4
    go_wp2
    refine bodyPost_ret (v := .tuple #[.agg #[.slice A n c, bdF 3, .int .i64 hg], .bool true]) (by simp [results, Tryz.results121, go_sem, r0, r1, r2, bdF]) rfl ⟨by rw [HWW.out], ?_⟩
    exact (((HB5.out.setCell p1 _).setCell p2 _).setCell p2 _).setCell p2 _

/-! ### how a class makes values -/
theorem mWhole_lt {ds : List D} {b : Int} (h : ∀ d ∈ ds, inR d) : mWhole ds b < 4096 := by
  unfold mWhole
  split
  · exact mHigh_lt h
  · exact mMask_lt12 h
/-- What a number makes, by what the class has ready. -/
theorem mMade_neg {ds : List D} {b n : Int} (h : n < 0) : mMade ds b n = (((nl (mWhole ds b) (-n - 1).toNat : Nat) : Int), 0) := by
  unfold mMade mWhole
  rw [if_pos h]
  split <;> rfl
theorem mMade_in {ds : List D} {b n : Int} (h : ¬ n < 0) (h2 : nl n.toNat (mMask ds) = 0) : mMade ds b n = (n, 0) := by
  unfold mMade; rw [if_neg h, if_pos h2]
theorem mMade_un {ds : List D} {b n : Int} (h : ¬ n < 0) (h2 : ¬ nl n.toNat (mMask ds) = 0) : mMade ds b n = if b = 0 then (0, 2) else if b = 1 then (((n.toNat &&& mMask ds : Nat) : Int), 0) else if b = 2 then (n, 1) else (n, 0) := by
  unfold mMade; rw [if_neg h, if_neg h2]

set_option maxHeartbeats 4000000 in
theorem classMade_v (ds : List D) (b n : Int) (A : Option Addr) (m c : Nat) (w : World) (hr : SD w w.heap.size A m c ds) (hin : ∀ d ∈ ds, inR d) (hbd : 0 ≤ b ∧ b ≤ 3) {x y : Int} (hx : (if inV n then mMade ds b n else (0, 2)).1 = x) (hy : (if inV n then mMade ds b n else (0, 2)).2 = y) :
    Calls Tryz.prog 122 #[ClassV A m c ds b, .int .i64 n] w fun e w' => e = .returned (.tuple #[.int .i64 x, .int .i64 y]) ∧ Below w.heap.size w w' := by
  subst hx hy
  have h1 := mMask_lt12 hin
  have h2 := mWhole_lt (b := b) hin
  have HS40 := Lib.hid (small40 hin)
  obtain ⟨md, hmd⟩ : ∃ md, (if inV n then mMade ds b n else (0, 2)) = md := ⟨_, rfl⟩
  rw [hmd]
  obtain ⟨mk, hmk⟩ : ∃ mk, mMask ds = mk := ⟨_, rfl⟩
  obtain ⟨wh, hwh⟩ : ∃ wh, mWhole ds b = wh := ⟨_, rfl⟩
  rw [hmk] at h1
  rw [hwh] at h2
  have HMK := Lib.hid hmk
  have HMD := Lib.hid hmd
  unfold ClassV
  rw [hwh]
  have HWH := Lib.hid hwh
  clear hmd hmk hwh hin
  have b1 : Below w.heap.size w (w.alloc (.cells #[.slice A m c, bdF b, .int .i64 wh] 175)) := (Below.refl _ _).alloc (Nat.le_refl _) _
  have HB1 := Lib.hid b1
  have HS := Lib.hid ((hr.below b1).call b1.size)
  have HC : Hid (C3 (w.alloc (.cells #[.slice A m c, bdF b, .int .i64 wh] 175)) w.heap.size (.slice A m c) (bdF b) (.int .i64 wh)) := Lib.hid (c3New _ _ _ _ _)
  clear b1 hr
  go_enter Tryz.func122, Tryz.ntmps122
  go_wp2_with fail
  refine (implMask_v ds _ _ _ _ HS.out HS40.out HMK.out).mono ?_
  rintro e w2 ⟨rfl, hb⟩
  have HB2 := Lib.hid (HB1.out.trans (hb.mono HB1.out.size))
  obtain ⟨d0, d1, d2, e0, e1, e2⟩ := HC.out.below hb
  clear hb HB1 HS HC
  by_cases hlo : n < -4096
  · have HR : Hid (md = (0, 2)) := Lib.hid (by rw [← HMD.out]; unfold inV; rw [decide_eq_false (by omega)]; rfl)
    go_wp2
    go_ret2
    exact ⟨by rw [HR.out]; first | done | rfl, HB2.out⟩
  by_cases hhi : 4095 < n
  · have HR : Hid (md = (0, 2)) := Lib.hid (by rw [← HMD.out]; unfold inV; rw [decide_eq_false (p := n ≤ 4095) (by omega)]; simp)
    go_wp2
    go_ret2
    exact ⟨by rw [HR.out]; first | done | rfl, HB2.out⟩
  have HR0 : Hid (md = mMade ds b n) := Lib.hid (by rw [← HMD.out]; unfold inV; rw [decide_eq_true (p := n ≤ 4095) (by omega), decide_eq_true (p := -4096 ≤ n) (by omega)]; rfl)
  clear HMD
  by_cases hneg : n < 0
  · obtain ⟨k, hk⟩ : ∃ k : Nat, -n - 1 = k := ⟨(-n - 1).toNat, by omega⟩
    have hk4 : k < 4096 := by omega
    have HR : Hid (md = (((nl wh k : Nat) : Int), 0)) := Lib.hid (by rw [HR0.out, mMade_neg hneg, HWH.out, hk]; rfl)
    have hnl := i64_andNot_nat wh k (by omega) (by omega)
    generalize nl wh k = z at *
    go_wp2
    go_ret2
    exact ⟨by rw [HR.out]; first | done | rfl, HB2.out⟩
  obtain ⟨k, rfl⟩ : ∃ k : Nat, n = k := ⟨n.toNat, by omega⟩
  have hk4 : k < 4096 := by omega
  have hnl := i64_andNot_nat k mk (by omega) (by omega)
  by_cases hz : nl k mk = 0
  · have HR : Hid (md = ((k : Int), 0)) := Lib.hid (by rw [HR0.out, mMade_in hneg (by rw [Int.toNat_natCast, HMK.out]; exact hz)])
    rw [hz] at hnl
    clear hz
    go_wp2
    go_ret2
    exact ⟨by rw [HR.out]; first | done | rfl, HB2.out⟩
  have HR1 : Hid (md = if b = 0 then (0, 2) else if b = 1 then (((k &&& mk : Nat) : Int), 0) else if b = 2 then ((k : Int), 1) else ((k : Int), 0)) := Lib.hid (by rw [HR0.out, mMade_un hneg (by rw [Int.toNat_natCast, HMK.out]; exact hz), Int.toNat_natCast, HMK.out])
  have hz2 : (((nl k mk : Nat) : Int) == 0) = false := by rw [beq_eq_false_iff_ne]; omega
  generalize nl k mk = z at *
  clear HR0 hz
  obtain ⟨hb0, hb4⟩ := hbd
  rcases (show b = 0 ∨ b = 1 ∨ b = 2 ∨ b = 3 by omega) with rfl | rfl | rfl | rfl
  · have HR : Hid (md = (0, 2)) := Lib.hid (by rw [HR1.out]; rfl)
    have d1' : w2.cell? ⟨w.heap.size, 1, none⟩ = some (.func (.func 146) #[] #[]) := d1
    clear HR1 d1
    go_wp2_with (go_at_call 146; refine (refuse_any _ _ _).mono ?_; rintro e w' ⟨rfl, rfl⟩)
    go_ret2
    exact ⟨by rw [HR.out]; first | done | rfl, HB2.out⟩
  · have HR : Hid (md = (((k &&& mk : Nat) : Int), 0)) := Lib.hid (by rw [HR1.out]; rfl)
    have d1' : w2.cell? ⟨w.heap.size, 1, none⟩ = some (.func (.func 147) #[] #[]) := d1
    clear HR1 d1
    go_wp2_with (go_at_call 147; refine (leaveOut_any k mk _ hk4 h1).mono ?_; rintro e w' ⟨rfl, rfl⟩)
    go_ret2
    exact ⟨by rw [HR.out]; first | done | rfl, HB2.out⟩
  · have HR : Hid (md = ((k : Int), 1)) := Lib.hid (by rw [HR1.out]; rfl)
    have d1' : w2.cell? ⟨w.heap.size, 1, none⟩ = some (.func (.func 148) #[] #[]) := d1
    clear HR1 d1
    go_wp2_with (go_at_call 148; refine (eject_any _ _ _).mono ?_; rintro e w' ⟨rfl, rfl⟩)
    go_ret2
    exact ⟨by rw [HR.out]; first | done | rfl, HB2.out⟩
  · have HR : Hid (md = ((k : Int), 0)) := Lib.hid (by rw [HR1.out]; rfl)
    have d1' : w2.cell? ⟨w.heap.size, 1, none⟩ = some (.func (.func 149) #[] #[]) := d1
    clear HR1 d1
    go_wp2_with (go_at_call 149; refine (keep_any _ _ _).mono ?_; rintro e w' ⟨rfl, rfl⟩)
    go_ret2
    exact ⟨by rw [HR.out]; first | done | rfl, HB2.out⟩
end Go.Proofs.YtiebdhbioccogaaGreatDoor

namespace Go.Proofs.YtiebdhbioccogaaGreatDoor
open Go.RowKit Go.Maps
set_option linter.unusedVariables false
set_option maxRecDepth 100000

/-! ### the program's functions of chapter 3 -/
theorem classOf_x (ds : List D) (b : Int) (A : Option Addr) (n c : Nat) (w : World) (hr : SD w w.heap.size A n c ds) (hv : vFlag ds b = true) {fid wh : Nat} (hf : bdF b = .func (.func fid) #[] #[]) (hw : mWhole ds b = wh) :
    Calls Tryz.prog 121 #[.agg #[.slice A n c, .int .i64 b]] w fun e w' => e = .returned (.tuple #[.agg #[.slice A n c, .func (.func fid) #[] #[], .int .i64 wh], .bool true]) ∧ Below w.heap.size w w' := by
  rw [← hf, ← hw]; exact classOf_yes ds b A n c w hr hv
theorem classMade_x (ds : List D) (b n : Int) (A : Option Addr) (m c : Nat) (w : World) (hr : SD w w.heap.size A m c ds) (hv : vFlag ds b = true) {fid wh : Nat} (hf : bdF b = .func (.func fid) #[] #[]) (hw : mWhole ds b = wh) {x y : Int} (hx : (mValue ds b n).1 = x) (hy : (mValue ds b n).2 = y) :
    Calls Tryz.prog 122 #[.agg #[.slice A m c, .func (.func fid) #[] #[], .int .i64 wh], .int .i64 n] w fun e w' => e = .returned (.tuple #[.int .i64 x, .int .i64 y]) ∧ Below w.heap.size w w' := by
  have e : mValue ds b n = if inV n then mMade ds b n else (0, 2) := by unfold mValue; rw [hv, Bool.true_and]
  rw [e] at hx hy
  rw [← hf, ← hw]; exact classMade_v ds b n A m c w hr (vFlag_in hv) (vFlag_bound hv) hx hy
theorem bdF_form (b : Int) : ∃ fid : Nat, bdF b = .func (.func fid) #[] #[] := ⟨_, rfl⟩
/-- The class behind classOf, in a cell of its own. -/
structure FC (w0 w : World) (g : Nat) (A : Option Addr) (n c : Nat) (ds : List D) (fid wh : Nat) : Prop where
  c0 : w.cell? ⟨g, 0, none⟩ = some (.slice A n c)
  c1 : w.cell? ⟨g, 1, none⟩ = some (.func (.func fid) #[] #[])
  c2 : w.cell? ⟨g, 2, none⟩ = some (.int .i64 wh)
  sd0 : SD w w0.heap.size A n c ds
  bel : Below w0.heap.size w0 w
section
variable {w0 w w' : World} {A : Option Addr} {g n c fid wh : Nat} {ds : List D} {b : Int}
theorem FC.start (h : FB w0 w g A n c ds b) (fid wh : Nat) : FC w0 (w.alloc (.cells #[.slice A n c, .func (.func fid) #[] #[], .int .i64 wh] 175)) w.heap.size A n c ds fid wh :=
  have h0 : Below w.heap.size w (w.alloc (.cells #[.slice A n c, .func (.func fid) #[] #[], .int .i64 wh] 175)) := (Below.refl _ _).alloc (Nat.le_refl _) _
  ⟨by simp [go_sem], by simp [go_sem], by simp [go_sem], h.sd0.below' h0 h.bel.size, h.after h0⟩
theorem FC.sd (h : FC w0 w g A n c ds fid wh) : SD w w.heap.size A n c ds := h.sd0.more h.bel.size
theorem FC.call (h : FC w0 w g A n c ds fid wh) (hb : Below w.heap.size w w') : FC w0 w' g A n c ds fid wh :=
  ⟨keep1 hb h.c0, keep1 hb h.c1, keep1 hb h.c2, h.sd0.below' hb h.bel.size, h.bel.trans (hb.mono h.bel.size)⟩
theorem FC.after (h : FC w0 w g A n c ds fid wh) (hb : Below w.heap.size w w') : Below w0.heap.size w0 w' := h.bel.trans (hb.mono h.bel.size)
end
theorem mComp_len (ds : List D) : (mComp ds).length ≤ ds.length := List.length_filter_le _ _
theorem mComp_ok {ds : List D} (h : ∀ d ∈ ds, d.ok) : ∀ d ∈ mComp ds, d.ok := fun d hd => h d (List.mem_filter.1 hd).1
set_option maxHeartbeats 2000000 in
theorem implMake_v (ds : List D) (b n : Int) (A : Option Addr) (m c : Nat) (w : World) (hr : SD w w.heap.size A m c ds) (hn : m ≤ 1048576) {x y : Int} (hx : (mValue ds b n).1 = x) (hy : (mValue ds b n).2 = y) :
    Calls Tryz.prog 92 #[.agg #[.slice A m c, .int .i64 b], .int .i64 n] w fun e w' => e = .returned (.tuple #[.int .i64 x, .int .i64 y]) ∧ Below w.heap.size w w' := by
  have HF := Lib.hid (FB.start hr b)
  clear hr
  cases hv : vFlag ds b
  · have HV := Lib.hid hv
    have HM : Hid (mValue ds b n = (0, 2)) := Lib.hid (by unfold mValue; rw [hv]; rfl)
    subst hx hy
    clear hv
    go_enter Tryz.func92, Tryz.ntmps92
    go_wp2_with fail
    refine (classOf_no ds b _ _ _ _ HF.out.sd hn HV.out).mono ?_
    rintro e w1 ⟨rfl, hb⟩
    have HB1 := Lib.hid (HF.out.after hb)
    have hst := st_nilFunc
    clear hb
    go_wp2
    go_ret2
    exact ⟨by rw [HM.out]; first | done | rfl, HB1.out.alloc HB1.out.size _⟩
  · have HV := Lib.hid hv
    have HX := Lib.hid hx
    have HY := Lib.hid hy
    clear hv hx hy
    obtain ⟨fid, hfid⟩ := bdF_form b
    obtain ⟨wh, hwh⟩ : ∃ wh, mWhole ds b = wh := ⟨_, rfl⟩
    have HFID := Lib.hid hfid
    have HWH := Lib.hid hwh
    clear hfid hwh
    go_enter Tryz.func92, Tryz.ntmps92
    go_wp2_with fail
    refine (classOf_x ds b _ _ _ _ HF.out.sd HV.out HFID.out HWH.out).mono ?_
    rintro e w1 ⟨rfl, hb⟩
    have HF1 := Lib.hid (HF.out.call hb)
    have HK := Lib.hid (FC.start HF1.out fid wh)
    have hst := st_func
    clear hb HF
    go_wp2_with fail
    refine (classMade_x ds b n _ _ _ _ HK.out.sd HV.out HFID.out HWH.out HX.out HY.out).mono ?_
    rintro e w2 ⟨rfl, hb⟩
    have HB2 := Lib.hid (HK.out.after hb)
    clear hb
    go_wp2
    go_ret2
    exact ⟨rfl, HB2.out⟩

/-- A number is a value of a class just if it makes itself. -/
theorem isV_made (ds : List D) (b n : Int) (hv : vFlag ds b = true) : mIsV ds b n = (decide ((mValue ds b n).2 = 0) && decide ((mValue ds b n).1 = n)) := by
  have hin := vFlag_in hv
  have hbd := vFlag_bound hv
  unfold mIsV mValue
  rw [hv]
  by_cases hlo : n < -4096
  · have : inV n = false := by unfold inV; rw [decide_eq_false (by omega)]; rfl
    rw [this]; simp; omega
  by_cases hhi : 4095 < n
  · have : inV n = false := by unfold inV; rw [decide_eq_false (p := n ≤ 4095) (by omega)]; simp
    rw [this]; simp; omega
  have hi : inV n = true := by unfold inV; simp; omega
  rw [hi]
  by_cases hneg : n < 0
  · rw [Bool.and_self, if_pos rfl, mMade_neg hneg, decide_eq_false (p := 0 ≤ n) (by omega)]
    simp; omega
  · rw [decide_eq_true (p := 0 ≤ n) (by omega), decide_eq_true (p := n ≤ 4095) (by omega)]
    by_cases hz : nl n.toNat (mMask ds) = 0
    · rw [Bool.and_self, if_pos rfl, mMade_in hneg hz]; simp [hz]
    · rw [Bool.and_self, if_pos rfl, mMade_un hneg hz]
      rcases (show b = 0 ∨ b = 1 ∨ b = 2 ∨ b = 3 by omega) with rfl | rfl | rfl | rfl
      · simp [hz]
      · have := nl_add_and n.toNat (mMask ds)
        simp [hz]; omega
      · simp [hz]
      · simp
set_option maxHeartbeats 2000000 in
theorem implIsV_v (ds : List D) (b n : Int) (A : Option Addr) (m c : Nat) (w : World) (hr : SD w w.heap.size A m c ds) (hn : m ≤ 1048576) {v : Bool} (hm : mIsV ds b n = v) :
    Calls Tryz.prog 123 #[.agg #[.slice A m c, .int .i64 b], .int .i64 n] w fun e w' => e = .returned (.bool v) ∧ Below w.heap.size w w' := by
  have HF := Lib.hid (FB.start hr b)
  clear hr
  cases hv : vFlag ds b
  · have HV := Lib.hid hv
    have HM : Hid (mIsV ds b n = false) := Lib.hid (by unfold mIsV; rw [hv]; rfl)
    subst hm
    clear hv
    go_enter Tryz.func123, Tryz.ntmps123
    go_wp2_with fail
    refine (classOf_no ds b _ _ _ _ HF.out.sd hn HV.out).mono ?_
    rintro e w1 ⟨rfl, hb⟩
    have HB1 := Lib.hid (HF.out.after hb)
    have hst := st_nilFunc
    clear hb
    go_wp2
    go_ret
    exact ⟨by rw [HM.out]; first | done | rfl, HB1.out.alloc HB1.out.size _⟩
  · have HV := Lib.hid hv
    have HI := Lib.hid (isV_made ds b n hv)
    rw [hm] at HI
    clear hm
    obtain ⟨x, hx⟩ : ∃ x, (mValue ds b n).1 = x := ⟨_, rfl⟩
    obtain ⟨y, hy⟩ : ∃ y, (mValue ds b n).2 = y := ⟨_, rfl⟩
    rw [hx, hy] at HI
    have HX := Lib.hid hx
    have HY := Lib.hid hy
    clear hv hx hy
    obtain ⟨fid, hfid⟩ := bdF_form b
    obtain ⟨wh, hwh⟩ : ∃ wh, mWhole ds b = wh := ⟨_, rfl⟩
    have HFID := Lib.hid hfid
    have HWH := Lib.hid hwh
    clear hfid hwh
    go_enter Tryz.func123, Tryz.ntmps123
    go_wp2_with fail
    refine (classOf_x ds b _ _ _ _ HF.out.sd HV.out HFID.out HWH.out).mono ?_
    rintro e w1 ⟨rfl, hb⟩
    have HF1 := Lib.hid (HF.out.call hb)
    have HK := Lib.hid (FC.start HF1.out fid wh)
    have hst := st_func
    clear hb HF
    go_wp2_with fail
    refine (classMade_x ds b n _ _ _ _ HK.out.sd HV.out HFID.out HWH.out HX.out HY.out).mono ?_
    rintro e w2 ⟨rfl, hb⟩
    have HB2 := Lib.hid (HK.out.after hb)
    clear hb
    by_cases h0 : y = 0
    · have HZ : Hid (v = decide (x = n)) := Lib.hid (by rw [HI.out, decide_eq_true h0]; simp)
      subst h0
      go_wp2
      go_ret
      exact ⟨ret_bool (by rw [HZ.out, Bool.eq_iff_iff]; simp), HB2.out⟩
    · have HZ : Hid (v = false) := Lib.hid (by rw [HI.out, decide_eq_false h0]; simp)
      have h1 : (y == 0) = false := beq_eq_false_iff_ne.2 h0
      go_wp2
      go_ret
      exact ⟨by rw [HZ.out]; first | done | rfl, HB2.out⟩
theorem mSgOf_ok {ds : List D} {b : Int} (h : ∀ d ∈ ds, d.ok) : ∀ s ∈ mSgOf ds b, s.size ≤ maxLen := by
  intro s hs
  unfold mSgOf at hs
  cases hv : vFlag ds b
  · rw [hv] at hs; cases hs
  · rw [hv] at hs
    obtain ⟨d, hd, rfl⟩ := List.mem_map.1 hs
    exact (mSg_ok h d hd).1
theorem mSgOf_len (ds : List D) (b : Int) : (mSgOf ds b).length ≤ 12 := by
  unfold mSgOf
  cases hv : vFlag ds b
  · exact Nat.zero_le _
  · show ((mSg ds).map _).length ≤ 12
    rw [List.length_map]; exact mSg_len ds
theorem mCompOf_ok {ds : List D} {b : Int} (h : ∀ d ∈ ds, d.ok) : ∀ s ∈ mCompOf ds b, s.size ≤ maxLen := by
  intro s hs
  unfold mCompOf at hs
  cases hv : vFlag ds b
  · rw [hv] at hs; cases hs
  · rw [hv] at hs
    obtain ⟨d, hd, rfl⟩ := List.mem_map.1 hs
    exact (mComp_ok h d hd).1
theorem mCompOf_len (ds : List D) (b : Int) : (mCompOf ds b).length ≤ 12 := by
  unfold mCompOf
  cases hv : vFlag ds b
  · exact Nat.zero_le _
  · show ((mComp ds).map _).length ≤ 12
    rw [List.length_map]; have := mComp_len ds; have := vFlag_len hv; omega
end Go.Proofs.YtiebdhbioccogaaGreatDoor

namespace Go.Proofs.YtiebdhbioccogaaGreatDoor
open Go.RowKit Go.Maps
set_option linter.unusedVariables false
set_option maxRecDepth 100000

/-! ### plain facts on the algebra of flags: what the functions of chapter 4 compute -/
theorem mIsV_flag {ds : List D} {b n : Int} (h : mIsV ds b n = true) : vFlag ds b = true := by
  unfold mIsV at h; simp only [Bool.and_eq_true] at h; exact h.1.1
theorem mIsV_rng {ds : List D} {b n : Int} (h : mIsV ds b n = true) : 0 ≤ n ∧ n ≤ 4095 := by
  unfold mIsV at h; simp only [Bool.and_eq_true, decide_eq_true_eq] at h; exact h.1.2
theorem mIsV_nat {ds : List D} {b n : Int} (h : mIsV ds b n = true) : ∃ k : Nat, n = k ∧ k < 4096 := by
  have := mIsV_rng h
  exact ⟨n.toNat, by omega, by omega⟩
theorem mIsV_part {ds : List D} {b : Int} {k : Nat} (h : mIsV ds b k = true) (h3 : b ≠ 3) : nl k (mMask ds) = 0 := by
  unfold mIsV at h; simp only [Bool.and_eq_true, Bool.or_eq_true, decide_eq_true_eq, Int.toNat_natCast] at h
  rcases h.2 with h | h
  · exact absurd h h3
  · exact h
theorem mIsV_of {ds : List D} {b : Int} {k : Nat} (hv : vFlag ds b = true) (hk : k < 4096) (h : b = 3 ∨ nl k (mMask ds) = 0) : mIsV ds b k = true := by
  unfold mIsV
  simp only [Bool.and_eq_true, Bool.or_eq_true, decide_eq_true_eq, Int.toNat_natCast]
  exact ⟨⟨hv, by omega, by omega⟩, h⟩
def mTwo (ds : List D) (b x y : Int) : Bool := mIsV ds b x && mIsV ds b y
theorem mTwo_1 {ds : List D} {b x y : Int} (h : mTwo ds b x y = true) : mIsV ds b x = true := by unfold mTwo at h; simp only [Bool.and_eq_true] at h; exact h.1
theorem mTwo_2 {ds : List D} {b x y : Int} (h : mTwo ds b x y = true) : mIsV ds b y = true := by unfold mTwo at h; simp only [Bool.and_eq_true] at h; exact h.2
/-- What an operation makes of two values. -/
def mOp (op : Nat → Nat → Nat) (ds : List D) (b x y : Int) : Int := if mTwo ds b x y then ((op x.toNat y.toNat : Nat) : Int) else -1
def orN (a b : Nat) : Nat := a ||| b
def andN (a b : Nat) : Nat := a &&& b
def xorN (a b : Nat) : Nat := a ^^^ b
theorem xor_sub (a b : Nat) : (a ^^^ b) + 2 * (a &&& b) = a + b := by
  have h1 := or_add_and a b
  have h2 := or_add_and (a ^^^ b) (a &&& b)
  have e1 : (a ^^^ b) ||| (a &&& b) = a ||| b := by
    apply Nat.eq_of_testBit_eq; intro i
    rw [Nat.testBit_or, Nat.testBit_xor, Nat.testBit_and, Nat.testBit_or]; cases a.testBit i <;> cases b.testBit i <;> rfl
  have e2 : (a ^^^ b) &&& (a &&& b) = 0 := by
    apply Nat.eq_of_testBit_eq; intro i
    rw [Nat.testBit_and, Nat.testBit_xor, Nat.testBit_and, Nat.zero_testBit]; cases a.testBit i <;> cases b.testBit i <;> rfl
  rw [e1, e2] at h2
  omega
theorem xor_lt {a b : Nat} (ha : a < 4096) (hb : b < 4096) : a ^^^ b < 4096 := Nat.xor_lt_two_pow (n := 12) ha hb
def mInv (ds : List D) (b x : Int) : Int := if mIsV ds b x then ((nl (mWhole ds b) x.toNat : Nat) : Int) else -1
def mHas (ds : List D) (b x y : Int) : Bool := mTwo ds b x y && decide (nl y.toNat x.toNat = 0)
/-- The definitions of a list all of whose bits are in a. -/
def fitIn (a : Nat) (d : D) : Bool := decide (nl d.val.toNat a = 0)
def mWithin (ds : List D) (a : Nat) : List D := ds.filter (fitIn a)
def mIn (ds : List D) (a : Nat) : List D := mWithin (mSg ds) a
def mNamesIn (ds : List D) (b x : Int) : List ByteArray := if mIsV ds b x then (mIn ds x.toNat).map (·.name) else []
def mRestIn (ds : List D) (b x : Int) : Int := if mIsV ds b x then ((nl x.toNat (mMask (mSg ds)) : Nat) : Int) else -1
def mCount (ds : List D) (b x : Int) : Int := if mIsV ds b x then ((popc x.toNat : Nat) : Int) else -1
def cmpN (x y : Nat) : Int := if x = y then 0 else if nl x y = 0 then -1 else if nl y x = 0 then 1 else 2
def mCmp (ds : List D) (b x y : Int) : Int := if mTwo ds b x y then cmpN x.toNat y.toNat else 3
def partN (a n : Nat) : Bool := decide (nl n a = 0)
def partsTo (a k : Nat) : List Int := ((List.range k).filter (partN a)).map Int.ofNat
def mPartsOk (ds : List D) (b x : Int) : Bool := mIsV ds b x && decide (popc x.toNat ≤ 6)
def mParts (ds : List D) (b x : Int) : List Int := if mPartsOk ds b x then partsTo x.toNat (x.toNat + 1) else []
theorem partsTo_succ (a k : Nat) : partsTo a (k + 1) = partsTo a k ++ if partN a k then [(k : Int)] else [] := by
  unfold partsTo
  rw [List.range_succ, List.filter_append, List.map_append]
  congr 1
  rw [List.filter_cons, List.filter_nil]
  cases partN a k <;> rfl
theorem partsTo_len (a k : Nat) : (partsTo a k).length ≤ k := by
  unfold partsTo
  rw [List.length_map]
  have := List.length_filter_le (partN a) (List.range k)
  rw [List.length_range] at this
  exact this
theorem partsTo_rng {a k : Nat} (hk : k ≤ 4096) : ∀ t ∈ partsTo a k, -9223372036854775808 ≤ t ∧ t ≤ 9223372036854775807 := by
  intro t ht
  unfold partsTo at ht
  obtain ⟨n, hn, rfl⟩ := List.mem_map.1 ht
  have := List.mem_range.1 (List.mem_filter.1 hn).1
  show -9223372036854775808 ≤ (n : Int) ∧ (n : Int) ≤ 9223372036854775807
  omega
def valN (ds : List D) (s : ByteArray) : Nat := ds[(fidx (isNm s) ds).toNat]?.elim 0 fun d => d.val.toNat
/-- The bits of the names of a list ahead of index k, all of which are names. -/
def fromTo (ds : List D) (ss : List ByteArray) : Nat := ss.foldl (fun m s => m ||| valN ds s) 0
def allN (ds : List D) (ss : List ByteArray) : Bool := ss.all fun s => decide (0 ≤ fidx (isNm s) ds)
def mFromOk (ds : List D) (b : Int) (ss : List ByteArray) : Bool := vFlag ds b && allN ds ss
def mFrom (ds : List D) (b : Int) (ss : List ByteArray) : Int := if mFromOk ds b ss then ((fromTo ds ss : Nat) : Int) else 0
theorem fromTo_snoc (ds : List D) (ss : List ByteArray) (k : Nat) (h : k < ss.length) : fromTo ds (ss.take (k + 1)) = fromTo ds (ss.take k) ||| valN ds ss[k] := by
  unfold fromTo
  rw [List.take_succ_eq_append_getElem h, List.foldl_append]; rfl
theorem valN_at {ds : List D} {s : ByteArray} {j : Nat} (hj : j < ds.length) (h : fidx (isNm s) ds = j) : valN ds s = ds[j].val.toNat := by
  unfold valN; rw [h, Int.toNat_natCast, List.getElem?_eq_getElem hj]; rfl
theorem valN_lt {ds : List D} (hin : ∀ d ∈ ds, inR d) (s : ByteArray) : valN ds s < 4096 := by
  unfold valN
  cases h : ds[(fidx (isNm s) ds).toNat]? with
  | none => exact (by decide : (0 : Nat) < 4096)
  | some d =>
    have := hin d (List.mem_of_getElem? h)
    unfold inR at this
    show d.val.toNat < 4096
    omega
theorem fromTo_lt {ds : List D} (hin : ∀ d ∈ ds, inR d) (ss : List ByteArray) : fromTo ds ss < 4096 := by
  have key : ∀ (ss : List ByteArray) (m : Nat), m < 4096 → ss.foldl (fun m s => m ||| valN ds s) m < 4096 := by
    intro ss
    induction ss with
    | nil => intro m h; exact h
    | cons s r ih => intro m h; exact ih _ (or_lt h (valN_lt hin s))
  exact key ss 0 (by decide)
theorem allN_false {ds : List D} {ss : List ByteArray} {k : Nat} (hk : k < ss.length) (h : fidx (isNm ss[k]) ds < 0) : allN ds ss = false := by
  unfold allN
  rw [List.all_eq_false]
  exact ⟨ss[k], List.getElem_mem hk, by simp; omega⟩
theorem allN_true {ds : List D} {ss : List ByteArray} (h : ∀ i (hi : i < ss.length), 0 ≤ fidx (isNm ss[i]) ds) : allN ds ss = true := by
  unfold allN
  rw [List.all_eq_true]
  intro s hs
  obtain ⟨i, hi, rfl⟩ := List.mem_iff_getElem.1 hs
  simp [h i hi]

/-! ### parts of single bits -/
theorem nl_pow {i a : Nat} : nl (2 ^ i) a = 0 ↔ a.testBit i = true := by
  rw [nl_zero]
  constructor
  · intro h; exact h i (by rw [pow_tb]; simp)
  · intro h j hj; rw [pow_tb] at hj; simp at hj; subst hj; exact h
theorem sg_pow {ds : List D} {d : D} (h : d ∈ mSg ds) : ∃ i, i < 12 ∧ d.val.toNat = 2 ^ i := by
  obtain ⟨_, i, hi, e⟩ := sgTo_in h
  exact ⟨i, hi, by rw [e, Int.toNat_natCast]⟩
theorem and_pow_pos {i a : Nat} : 0 < (2 ^ i &&& a) ↔ a.testBit i = true := by
  constructor
  · intro h
    cases ha : a.testBit i
    · have : 2 ^ i &&& a = 0 := by
        apply Nat.eq_of_testBit_eq; intro j
        rw [Nat.testBit_and, pow_tb, Nat.zero_testBit]
        by_cases hj : i = j
        · subst hj; rw [ha]; simp
        · rw [decide_eq_false hj]; rfl
      omega
    · rfl
  · intro h
    refine Nat.pos_of_ne_zero fun e => ?_
    have := congrArg (fun x => x.testBit i) e
    rw [Nat.testBit_and, pow_tb, h, Nat.zero_testBit] at this
    simp at this
/-- Names of one bit that a has: the model asks for a bit in common, the program for no bit beyond. -/
theorem sg_fit {ds : List D} {d : D} (h : d ∈ mSg ds) (a : Nat) : fitIn a d = decide (0 < d.val.toNat &&& a) := by
  obtain ⟨i, _, e⟩ := sg_pow h
  unfold fitIn
  rw [e, decide_eq_decide]
  exact nl_pow.trans and_pow_pos.symm
theorem mIn_mask (ds : List D) (a : Nat) : nl a (mMask (mIn ds a)) = nl a (mMask (mSg ds)) := by
  apply Nat.eq_of_testBit_eq; intro i
  rw [tb_nl, tb_nl, mMask_tb, mMask_tb]
  cases ha : a.testBit i
  · rw [Bool.false_and, Bool.false_and]
  · rw [Bool.true_and, Bool.true_and]
    refine congrArg (fun v : Bool => !v) ?_
    unfold mIn mWithin
    rw [Bool.eq_iff_iff, List.any_eq_true, List.any_eq_true]
    constructor
    · rintro ⟨d, hd, h⟩; exact ⟨d, (List.mem_filter.1 hd).1, h⟩
    · rintro ⟨d, hd, h⟩
      refine ⟨d, List.mem_filter.2 ⟨hd, ?_⟩, h⟩
      obtain ⟨j, _, e⟩ := sg_pow hd
      rw [e, pow_tb] at h
      simp at h; subst h
      unfold fitIn
      rw [e, decide_eq_true_eq, nl_pow]; exact ha
theorem mWithin_len (ds : List D) (a : Nat) : (mWithin ds a).length ≤ ds.length := List.length_filter_le _ _
theorem mWithin_mem {ds : List D} {a : Nat} {d : D} (h : d ∈ mWithin ds a) : d ∈ ds := (List.mem_filter.1 h).1
theorem mIn_len (ds : List D) (a : Nat) : (mIn ds a).length ≤ 12 := Nat.le_trans (mWithin_len _ _) (mSg_len ds)
def inTo (ds : List D) (a k : Nat) : List D := mWithin (ds.take k) a
theorem inTo_succ (ds : List D) (a k : Nat) (h : k < ds.length) : inTo ds a (k + 1) = inTo ds a k ++ if fitIn a ds[k] then [ds[k]] else [] := by
  unfold inTo mWithin
  rw [List.take_succ_eq_append_getElem h, List.filter_append, List.filter_cons, List.filter_nil]
theorem inTo_len (ds : List D) (a k : Nat) : (inTo ds a k).length ≤ k := by
  have := mWithin_len (ds.take k) a
  have h2 : (ds.take k).length ≤ k := by simp; omega
  unfold inTo; omega
theorem mNamesIn_len (ds : List D) (b x : Int) : (mNamesIn ds b x).length ≤ 12 := by
  unfold mNamesIn
  cases mIsV ds b x
  · exact Nat.zero_le _
  · show ((mIn ds x.toNat).map _).length ≤ 12
    rw [List.length_map]; exact mIn_len ds _
theorem mNamesIn_ok {ds : List D} {b x : Int} (h : ∀ d ∈ ds, d.ok) : ∀ s ∈ mNamesIn ds b x, s.size ≤ maxLen := by
  intro s hs
  unfold mNamesIn at hs
  cases hv : mIsV ds b x
  · rw [hv] at hs; cases hs
  · rw [hv] at hs
    obtain ⟨d, hd, rfl⟩ := List.mem_map.1 hs
    exact (mSg_ok h d (mWithin_mem hd)).1
theorem mParts_len (ds : List D) (b x : Int) : (mParts ds b x).length ≤ 4096 := by
  unfold mParts
  cases hv : mPartsOk ds b x
  · exact Nat.zero_le _
  · have : mIsV ds b x = true := by unfold mPartsOk at hv; simp only [Bool.and_eq_true] at hv; exact hv.1
    have := mIsV_rng this
    have h := partsTo_len x.toNat (x.toNat + 1)
    show (partsTo x.toNat (x.toNat + 1)).length ≤ 4096
    omega
theorem mParts_ok (ds : List D) (b x : Int) : ∀ t ∈ mParts ds b x, -9223372036854775808 ≤ t ∧ t ≤ 9223372036854775807 := by
  unfold mParts
  cases hv : mPartsOk ds b x
  · intro t ht; cases ht
  · have : mIsV ds b x = true := by unfold mPartsOk at hv; simp only [Bool.and_eq_true] at hv; exact hv.1
    have h := mIsV_rng this
    exact partsTo_rng (a := x.toNat) (k := x.toNat + 1) (by omega)
/-- A class in its cell, and a slice of texts, both as they were in w0. -/
structure FS (w0 w : World) (g : Nat) (A : Option Addr) (n c : Nat) (ds : List D) (b : Int) (As : Option Addr) (q cs : Nat) (ss : List ByteArray) : Prop where
  fb : FB w0 w g A n c ds b
  ss0 : SS w w0.heap.size As q cs ss
theorem FS.call {w0 w w' : World} {g : Nat} {A : Option Addr} {n c : Nat} {ds : List D} {b : Int} {As : Option Addr} {q cs : Nat} {ss : List ByteArray} (h : FS w0 w g A n c ds b As q cs ss) (hb : Below w.heap.size w w') : FS w0 w' g A n c ds b As q cs ss := ⟨h.fb.call hb, h.ss0.below' hb h.fb.bel.size⟩
theorem FS.drewN {w0 w : World} {g : Nat} {A : Option Addr} {n c : Nat} {ds : List D} {b : Int} {As : Option Addr} {q cs : Nat} {ss : List ByteArray} (h : FS w0 w g A n c ds b As q cs ss) (k : Nat) : FS w0 (w.drewN k) g A n c ds b As q cs ss := h.call (below_drewN (Below.refl _ _) k)
end Go.Proofs.YtiebdhbioccogaaGreatDoor

