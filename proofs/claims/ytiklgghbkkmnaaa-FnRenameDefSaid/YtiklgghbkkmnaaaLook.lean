import Derived.Test.YtiklgghbkkmnaaaMaps
namespace Go.Proofs.Ytiklgghbkkmnaaa
open Go.RowKit Go.Maps
set_option linter.unusedVariables false
set_option maxRecDepth 100000

theorem specVE_v (ds : List D) (A : Option Addr) (c n : Nat) (w : World) (hr : SD w w.heap.size A n c ds) {v : Bool} (hv : vEnum ds = v) :
    Calls Try.prog 63 #[.agg #[.slice A n c]] w fun e w' => e = .returned (.bool v) ∧ Below w.heap.size w w' := hv ▸ specVE1 ds A c n w hr
theorem implVE_v (ds : List D) (A : Option Addr) (c n : Nat) (w : World) (hr : SD w w.heap.size A n c ds) {v : Bool} (hv : vEnum ds = v) :
    Calls Try.prog 23 #[.agg #[.slice A n c]] w fun e w' => e = .returned (.bool v) ∧ Below w.heap.size w w' := hv ▸ implVE ds A c n w hr

/-! ### the program's ValueOf -/
set_option maxHeartbeats 1000000 in
theorem implValueOf_inv (ds : List D) (s : ByteArray) (A : Option Addr) (c n : Nat) (w : World) (hr : SD w w.heap.size A n c ds) (hv : vEnum ds = false) :
    Calls Try.prog 19 #[.agg #[.slice A n c], .string s] w fun e w' => e = .returned (.tuple #[.int .i64 0, .bool false]) ∧ Below w.heap.size w w' := by
  have HR := Lib.hid hr
  clear hr
  have h0 : Below w.heap.size w (w.alloc (.cells #[.slice A n c] 25)) := (Below.refl _ _).alloc (Nat.le_refl _) _
  have H0 := Lib.hid h0
  have HS := Lib.hid ((HR.out.below h0).call h0.size)
  clear h0
  have HV := Lib.hid hv
  clear hv
  go_enter Try.func19, Try.ntmps19
  go_wp2_with (go_at_call 23; refine (implVE_v ds _ _ _ _ HS.out HV.out).mono ?_; rintro e w' ⟨rfl, hb⟩)
  go_ret2
  exact ⟨rfl, H0.out.trans (hb.mono H0.out.size)⟩

def ValP (ds : List D) (p : D → Bool) (w : World) (e : Ending) (w' : World) : Prop :=
  ((noTo p ds ds.length ∧ e = .returned (.tuple #[.int .i64 0, .bool false])) ∨ ∃ k : Nat, ∃ h : k < ds.length, noTo p ds k ∧ p ds[k] = true ∧ e = .returned (.tuple #[.int .i64 ds[k].val, .bool true])) ∧ Below w.heap.size w w'

set_option maxHeartbeats 1000000 in
theorem implValueOf_val (ds : List D) (s : ByteArray) (A : Option Addr) (c n : Nat) (w : World) (hr : SD w w.heap.size A n c ds) (hv : vEnum ds = true) :
    Calls Try.prog 19 #[.agg #[.slice A n c], .string s] w (ValP ds (isNm s) w) := by
  obtain rfl := hr.len
  have hl := hr.max
  have hl2 := hr.cap
  unfold maxLen at hl
  have HR := Lib.hid hr
  clear hr
  have h0 : Below w.heap.size w (w.alloc (.cells #[.slice A ds.length c] 25)) := (Below.refl _ _).alloc (Nat.le_refl _) _
  have H0 := Lib.hid h0
  have HS := Lib.hid ((HR.out.below h0).call h0.size)
  clear h0
  have HV := Lib.hid hv
  clear hv
  go_enter Try.func19, Try.ntmps19
  go_wp2_with (go_at_call 23; refine (implVE_v ds _ _ _ _ HS.out HV.out).mono ?_; rintro e w1 ⟨rfl, hb⟩; have c1 := keep1 hb (show (w.alloc (.cells #[.slice A ds.length c] 25)).cell? ⟨w.heap.size, 0, none⟩ = some (.slice A ds.length c) by simp [go_sem]); have HB : Hid (Below w.heap.size w w1) := Lib.hid (H0.out.trans (hb.mono H0.out.size)); clear hb)
  clear c1
  go_loopw [14] (fun i wr => ∃ k : Nat, k ≤ ds.length ∧ i = .int .i64 k ∧ Hid (noTo (isNm s) ds k) ∧ Hid (Below w.heap.size w wr)) (fun i _ => ds.length - (intOf i).toNat)
  case atStart => exact ⟨0, Nat.zero_le _, rfl, Lib.hid (noTo_zero _ _), HB⟩
  case round =>
    obtain ⟨k, hk, rfl, hok, hbel⟩ := hrel
    by_cases hlt : k < ds.length
    · obtain ⟨b, o, rfl, hb, c1, c2⟩ := (HR.out.below hbel.out).at_ hlt
      cases hp : isNm s ds[k]
      · have hp1 : (ds[k].name.toList == s.toList) = false := hp
        have HP := Lib.hid hp
        clear hp
        go_wp2
        go_roundw
        case rel => exact ⟨k + 1, by omega, by go_num, Lib.hid (noTo_succ hok.out hlt HP.out), Lib.hid (hbel.out.alloc hbel.out.size _)⟩
        case measure => simp [intOf]; omega
      · have hp1 : (ds[k].name.toList == s.toList) = true := hp
        have HP := Lib.hid hp
        clear hp
        go_wp2
        go_ret2
        exact ⟨.inr ⟨k, hlt, hok.out, HP.out, rfl⟩, hbel.out.alloc hbel.out.size _⟩
    · obtain rfl : k = ds.length := by omega
      go_wp2
      go_ret2
      exact ⟨.inl ⟨hok.out, rfl⟩, hbel.out⟩

theorem implValueOf_no (ds : List D) (s : ByteArray) (A : Option Addr) (c n : Nat) (w : World) (hr : SD w w.heap.size A n c ds) {v : Bool} {x : Int} (hv : vEnum ds = v) (hx : fidx (isNm s) ds = x) (h : v = false ∨ x < 0) :
    Calls Try.prog 19 #[.agg #[.slice A n c], .string s] w fun e w' => e = .returned (.tuple #[.int .i64 0, .bool false]) ∧ Below w.heap.size w w' := by
  cases v
  · exact implValueOf_inv ds s A c n w hr hv
  · refine (implValueOf_val ds s A c n w hr hv).mono fun e w' ⟨hh, hb⟩ => ⟨?_, hb⟩
    rcases hh with ⟨_, he⟩ | ⟨k, hk, hn, hp, he⟩
    · exact he
    · have := fidx_some hn hk hp
      simp at h
      omega
theorem implValueOf_yes (ds : List D) (s : ByteArray) (A : Option Addr) (c n : Nat) (w : World) (hr : SD w w.heap.size A n c ds) (hv : vEnum ds = true) (k : Nat) (hk : k < ds.length) (hx : fidx (isNm s) ds = k) :
    Calls Try.prog 19 #[.agg #[.slice A n c], .string s] w fun e w' => e = .returned (.tuple #[.int .i64 ds[k].val, .bool true]) ∧ Below w.heap.size w w' := by
  refine (implValueOf_val ds s A c n w hr hv).mono fun e w' ⟨hh, hb⟩ => ⟨?_, hb⟩
  rcases hh with ⟨hn, he⟩ | ⟨j, hj, hn, hp, he⟩
  · have := fidx_none hn; omega
  · have := fidx_some hn hj hp
    obtain rfl : j = k := by omega
    exact he
end Go.Proofs.Ytiklgghbkkmnaaa
