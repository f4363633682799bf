import Derived.Test.YtlomhkhpnafooaaArmP
import Derived.Test.YtlomhkhpnafooaaAlgI
import Derived.Test.YtlomhkhpnafooaaCel
namespace Go.Proofs.Ytlomhkhpnafooaa
open Go.RowKit Go.Maps
set_option linter.unusedVariables false
set_option maxRecDepth 100000

/-! ### the program's functions on bits, at any numbers -/
set_option maxHeartbeats 400000 in
theorem bsLess_w (a b : Int) (w : World) {v : Int} (hv : bits .andNot .i64 a b = v) :
    Calls Try.prog 47 #[.int .i64 a, .int .i64 b] w fun e w' => e = .returned (.int .i64 v) ∧ w = w' := by
  go_enter Try.func47, Try.ntmps47
  go_wp2
  go_ret
  exact ⟨by rw [← hv]; first | done | rfl, rfl⟩
set_option maxHeartbeats 400000 in
theorem bsHas_w (a b : Int) (w : World) {v : Bool} (hv : decide (bits .andNot .i64 b a = 0) = v) :
    Calls Try.prog 38 #[.int .i64 a, .int .i64 b] w fun e w' => e = .returned (.bool v) ∧ w = w' := by
  subst hv
  obtain ⟨z, hz⟩ : ∃ z, bits .andNot .i64 b a = z := ⟨_, rfl⟩
  rw [hz]
  have HZ := Lib.hid hz
  clear hz
  go_enter Try.func38, Try.ntmps38
  go_wp2_with (go_at_call 47; refine (bsLess_w b a _ HZ.out).mono ?_; rintro e w' ⟨rfl, rfl⟩)
  go_ret
  exact ⟨ret_bool (by rw [Bool.eq_iff_iff]; simp), rfl⟩

set_option maxHeartbeats 1000000 in
theorem armFits_v (x y : Int) (m : Nat) (w : World) (hx : I64 x) (hy : I64 y) (hm : m < 4096) {v : Bool} (hv : fitsA m ⟨x, y⟩ = v) :
    Calls Try.prog 17 #[.agg #[.int .i64 x, .int .i64 y], .int .i64 m] w fun e w' => e = .returned (.bool v) ∧ Below w.heap.size w w' := by
  subst hv
  obtain ⟨z, hz⟩ : ∃ z, bits .or .i64 x y = z := ⟨_, rfl⟩
  have HZR := or_i64 x y
  rw [hz] at HZR
  unfold I64 at HZR
  by_cases hu : bits .andNot .i64 z (m : Int) = 0
  · obtain ⟨⟨p, q, rfl, rfl, hp, hq⟩, hf⟩ := fitsA_wild hx hy hm (by rw [hz]; exact hu)
    have HU : Hid (decide (bits .andNot .i64 z (m : Int) = 0) = true) := Lib.hid (decide_eq_true hu)
    have hand := i64_and_nat p q (by omega) (by omega)
    obtain ⟨r, hr⟩ : ∃ r, p &&& q = r := ⟨_, rfl⟩
    rw [hr] at hand
    have HM : Hid (fitsA m ⟨p, q⟩ = decide (r = 0)) := Lib.hid (by rw [hf, Int.toNat_natCast, Int.toNat_natCast, hr])
    clear hf hr hu
    have HB0 : Hid (Below w.heap.size w (w.alloc (.cells #[.int .i64 p, .int .i64 q] 33))) := Lib.hid ((Below.refl _ _).alloc (Nat.le_refl _) _)
    go_enter Try.func17, Try.ntmps17
    go_wp2_with (go_at_call 38; refine (bsHas_w m z _ HU.out).mono ?_; rintro e w' ⟨rfl, rfl⟩)
    go_ret
    exact ⟨ret_bool (by rw [HM.out, Bool.eq_iff_iff]; simp), HB0.out⟩
  · have HU : Hid (decide (bits .andNot .i64 z (m : Int) = 0) = false) := Lib.hid (decide_eq_false hu)
    have HM : Hid (fitsA m ⟨x, y⟩ = false) := Lib.hid (fitsA_wild_no hx hy hm (by rw [hz]; exact hu))
    clear hu
    have HB0 : Hid (Below w.heap.size w (w.alloc (.cells #[.int .i64 x, .int .i64 y] 33))) := Lib.hid ((Below.refl _ _).alloc (Nat.le_refl _) _)
    go_enter Try.func17, Try.ntmps17
    go_wp2_with (go_at_call 38; refine (bsHas_w m z _ HU.out).mono ?_; rintro e w' ⟨rfl, rfl⟩)
    go_ret
    exact ⟨by rw [HM.out]; first | done | rfl, HB0.out⟩

theorem sa_one (w : World) (x y : Int) (t : TypeId) (hx : I64 x) (hy : I64 y) : SA (w.alloc (.cells #[.int .i64 x, .int .i64 y] t)) (w.heap.size + 1) (some ⟨w.heap.size, 0, none⟩) 1 1 [⟨x, y⟩] := by
  refine ⟨.inr ⟨w.heap.size, 0, rfl, by omega, fun i a hi j v hj => ?_⟩, rfl, Nat.le_refl _, by unfold maxLen; omega, fun d hd => ?_⟩
  · obtain ⟨hil, rfl⟩ := List.getElem?_eq_some_iff.1 hi
    have h0 : i = 0 := by simpa using hil
    subst h0
    match j, hj with
    | 0, hj => simp [encA] at hj; subst hj; simp [go_sem]
    | 1, hj => simp [encA] at hj; subst hj; simp [go_sem]
    | j + 2, hj => simp [encA] at hj
  · simp at hd; subst hd; exact ⟨hx, hy⟩
theorem sa_len {w : World} {B : Nat} {A : Option Addr} {n c : Nat} {ks : List Ar} (h : SA w B A n c ks) : ks.length = n := h.len

end Go.Proofs.Ytlomhkhpnafooaa
