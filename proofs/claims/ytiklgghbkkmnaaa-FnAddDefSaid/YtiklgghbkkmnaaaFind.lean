import Derived.Test.YtiklgghbkkmnaaaSub
import Derived.Laws.StructEq
namespace Go.Proofs.Ytiklgghbkkmnaaa
open Go.RowKit
set_option linter.unusedVariables false
set_option maxRecDepth 100000

/-! ### looking for a definition -/
/-- The definition d is e. -/
def isD (e d : D) : Bool := e.name.toList == d.name.toList && e.val == d.val
theorem run_eqD (a b : ByteArray) (x y : Int) (w : World) :
    (binOp .eql 27 (.agg #[.string a, .int .i64 x]) (.agg #[.string b, .int .i64 y])).run Try.prog w = .ok (.bool (a.toList == b.toList && x == y)) w := by
  rw [run_eql_struct]
  cases h1 : (a.toList == b.toList) <;> cases h2 : (x == y) <;> simp_all [go_sem, Op.eqFields, part]

theorem run_neD (a b : ByteArray) (x y : Int) (w : World) :
    (binOp .neq 27 (.agg #[.string a, .int .i64 x]) (.agg #[.string b, .int .i64 y])).run Try.prog w = .ok (.bool (!(a.toList == b.toList && x == y))) w := by
  rw [run_neq_struct]
  cases h1 : (a.toList == b.toList) <;> cases h2 : (x == y) <;> simp_all [go_sem, Op.eqFields, part]

set_option maxHeartbeats 400000 in
theorem isName_any (nm s : ByteArray) (vl : Int) (B : Nat) (w : World) (hc : w.cell? ⟨B, 0, none⟩ = some (.string s)) {v : Bool} (hv : isNm s ⟨nm, vl⟩ = v) :
    Calls Try.prog 103 #[.agg #[.string nm, .int .i64 vl], .pointer (some ⟨B, 0, none⟩)] w fun e w' => e = .returned (.bool v) ∧ Below w.heap.size w w' := by
  have hv1 : (nm.toList == s.toList) = v := hv
  have hb : Below w.heap.size w (w.alloc (.cells #[.string nm, .int .i64 vl] 27)) := (Below.refl _ _).alloc (Nat.le_refl _) _
  have hc1 := keep1 hb hc
  have HB := Lib.hid hb
  clear hb hv
  go_enter Try.func103, Try.ntmps103
  go_wp2
  go_ret
  exact ⟨rfl, HB.out⟩

set_option maxHeartbeats 1000000 in
theorem indexFunc_any (ds : List D) (s : ByteArray) (A : Option Addr) (n c B : Nat) (w : World) (hr : SD w w.heap.size A n c ds) (hc : w.cell? ⟨B, 0, none⟩ = some (.string s)) {v : Int} (hv : fidx (isNm s) ds = v) :
    Calls Try.prog 102 #[.slice A n c, .func (.func 103) #[] #[.pointer (some ⟨B, 0, none⟩)]] w fun e w' => e = .returned (.int .i64 v) ∧ Below w.heap.size w w' := by
  subst hv
  obtain rfl := hr.len
  have hl := hr.max
  have hl2 := hr.cap
  unfold maxLen at hl
  have HR := Lib.hid hr
  have HC := Lib.hid hc
  clear hr hc
  go_enter Try.func102, Try.ntmps102
  go_wp2
  go_loopw [8] (fun i wr => ∃ k : Nat, k ≤ ds.length ∧ i = .int .i64 k ∧ Hid (noTo (isNm s) ds k) ∧ Hid (Below w.heap.size w wr)) (fun i _ => ds.length - (intOf i).toNat)
  case atStart => exact ⟨0, Nat.zero_le _, rfl, Lib.hid (noTo_zero _ _), Lib.hid (Below.refl _ _)⟩
  case round =>
    obtain ⟨k, hk, rfl, hok, hbel⟩ := hrel
    by_cases hlt : k < ds.length
    · obtain ⟨b, o, rfl, hb, c1, c2⟩ := (HR.out.below hbel.out).at_ hlt
      have HC1 := Lib.hid (keep1 hbel.out HC.out)
      cases hp : isNm s ds[k]
      · have HP := Lib.hid hp
        clear hp
        go_wp2_with (go_at_call 103; refine (isName_any _ s _ B _ HC1.out HP.out).mono ?_; rintro e w1 ⟨rfl, hb1⟩; have HB1 := Lib.hid hb1; clear hb1)
        go_roundw
        case rel => exact ⟨k + 1, by omega, by go_num, Lib.hid (noTo_succ hok.out hlt HP.out), Lib.hid (hbel.out.trans (HB1.out.mono hbel.out.size))⟩
        case measure => simp [intOf]; omega
      · have HP := Lib.hid hp
        clear hp
        go_wp2_with (go_at_call 103; refine (isName_any _ s _ B _ HC1.out HP.out).mono ?_; rintro e w1 ⟨rfl, hb1⟩; have HB1 := Lib.hid hb1; clear hb1)
        go_ret
        exact ⟨ret_int (fidx_some hok.out hlt HP.out).symm, hbel.out.trans (HB1.out.mono hbel.out.size)⟩
    · obtain rfl : k = ds.length := by omega
      go_wp2
      go_ret
      exact ⟨ret_int (fidx_none hok.out).symm, hbel.out⟩

set_option maxHeartbeats 1000000 in
theorem indexOfName_v (ds : List D) (s : ByteArray) (A : Option Addr) (n c : Nat) (w : World) (hr : SD w w.heap.size A n c ds) {v : Int} (hv : fidx (isNm s) ds = v) :
    Calls Try.prog 68 #[.slice A n c, .string s] w fun e w' => e = .returned (.int .i64 v) ∧ Below w.heap.size w w' := by
  have hb : Below w.heap.size w (w.alloc (.cells #[.string s] 9)) := (Below.refl _ _).alloc (Nat.le_refl _) _
  have hc : (w.alloc (.cells #[.string s] 9)).cell? ⟨w.heap.size, 0, none⟩ = some (.string s) := by simp [go_sem]
  have HR := Lib.hid ((hr.below hb).call hb.size)
  have HC := Lib.hid hc
  have HB := Lib.hid hb
  have HV := Lib.hid hv
  clear hb hr hc hv
  go_enter Try.func68, Try.ntmps68
  go_wp2_with (go_at_call 102; refine (indexFunc_any ds s _ _ _ _ _ HR.out HC.out HV.out).mono ?_; rintro e w1 ⟨rfl, hb1⟩; have HB1 := Lib.hid hb1; clear hb1)
  go_ret
  exact ⟨rfl, HB.out.trans (HB1.out.mono HB.out.size)⟩

set_option maxHeartbeats 1000000 in
theorem indexD_v (ds : List D) (e : D) (A : Option Addr) (n c : Nat) (w : World) (hr : SD w w.heap.size A n c ds) {v : Int} (hv : fidx (isD e) ds = v) :
    Calls Try.prog 104 #[.slice A n c, .agg #[.string e.name, .int .i64 e.val]] w fun e w' => e = .returned (.int .i64 v) ∧ Below w.heap.size w w' := by
  subst hv
  obtain rfl := hr.len
  have hl := hr.max
  have hl2 := hr.cap
  unfold maxLen at hl
  have hb : Below w.heap.size w (w.alloc (.cells #[.string e.name, .int .i64 e.val] 27)) := (Below.refl _ _).alloc (Nat.le_refl _) _
  have HC0 : Hid ((w.alloc (.cells #[.string e.name, .int .i64 e.val] 27)).cell? ⟨w.heap.size, 0, none⟩ = some (.string e.name)) := Lib.hid (by simp [go_sem])
  have HC1 : Hid ((w.alloc (.cells #[.string e.name, .int .i64 e.val] 27)).cell? ⟨w.heap.size, 1, none⟩ = some (.int .i64 e.val)) := Lib.hid (by simp [go_sem])
  have HR := Lib.hid (hr.below hb)
  have HB := Lib.hid hb
  clear hr hb
  have HEQ : Hid (∀ (a : ByteArray) (x : Int) (w : World), (binOp .eql 27 (.agg #[.string e.name, .int .i64 e.val]) (.agg #[.string a, .int .i64 x])).run Try.prog w = .ok (.bool (e.name.toList == a.toList && e.val == x)) w) := Lib.hid (fun a x w => run_eqD e.name a e.val x w)
  go_enter Try.func104, Try.ntmps104
  go_wp2
  generalize (w.alloc (.cells #[.string e.name, .int .i64 e.val] 27)) = w0 at *
  go_loopw [8] (fun i wr => ∃ k : Nat, k ≤ ds.length ∧ i = .int .i64 k ∧ Hid (noTo (isD e) ds k) ∧ Hid (∃ q, wr = w0.drewN q)) (fun i _ => ds.length - (intOf i).toNat)
  case atStart => exact ⟨0, Nat.zero_le _, rfl, Lib.hid (noTo_zero _ _), Lib.hid ⟨0, rfl⟩⟩
  case round =>
    obtain ⟨k, hk, rfl, hok, hdr⟩ := hrel
    have hbw : Hid (Below w.heap.size w wr) := Lib.hid (by obtain ⟨q, rfl⟩ := hdr.out; exact below_drewN HB.out q)
    by_cases hlt : k < ds.length
    · have HQ : ∀ m, Hid (∃ q, wr.drewN m = w0.drewN q) := fun m => Lib.hid (by obtain ⟨q, rfl⟩ := hdr.out; exact ⟨_, World.drewN_drewN _ _ _⟩)
      obtain ⟨b, o, rfl, hb, c1, c2⟩ : ∃ b o, A = some ⟨b, o, none⟩ ∧ b < w.heap.size ∧ wr.cell? ⟨b, o + k * 2, none⟩ = some (.string ds[k].name) ∧ wr.cell? ⟨b, o + k * 2 + 1, none⟩ = some (.int .i64 ds[k].val) := by
        obtain ⟨q, rfl⟩ := hdr.out; exact (HR.out.drewN q).at_ hlt
      have c3 : wr.cell? ⟨w.heap.size, 0, none⟩ = some (.string e.name) := by obtain ⟨q, rfl⟩ := hdr.out; exact HC0.out
      have c4 : wr.cell? ⟨w.heap.size, 1, none⟩ = some (.int .i64 e.val) := by obtain ⟨q, rfl⟩ := hdr.out; exact HC1.out
      have heq := HEQ.out ds[k].name ds[k].val
      have hi1 : (k : Int) < (ds.length : Int) := by omega
      have hi0 : (0 : Int) ≤ (k : Int) := by omega
      cases hp : isD e ds[k]
      · have hp1 : (e.name.toList == ds[k].name.toList && e.val == ds[k].val) = false := hp
        rw [hp1] at heq
        have HP := Lib.hid hp
        clear hp hp1
        go_wp2
        go_quiet (fail)
        go_wp2
        go_roundw
        case rel => exact ⟨k + 1, by omega, by go_num, Lib.hid (noTo_succ hok.out hlt HP.out), HQ _⟩
        case measure => simp [intOf]; omega
      · have hp1 : (e.name.toList == ds[k].name.toList && e.val == ds[k].val) = true := hp
        rw [hp1] at heq
        have HP := Lib.hid hp
        clear hp hp1
        go_wp2
        go_quiet (fail)
        go_wp2
        go_ret
        exact ⟨ret_int (fidx_some hok.out hlt HP.out).symm, below_drewN hbw.out _⟩
    · obtain rfl : k = ds.length := by omega
      go_wp2
      go_ret
      exact ⟨ret_int (fidx_none hok.out).symm, hbw.out⟩

set_option maxHeartbeats 1000000 in
theorem containsD_v (ds : List D) (e : D) (A : Option Addr) (n c : Nat) (w : World) (hr : SD w w.heap.size A n c ds) {v : Bool} (hv : ds.any (isD e) = v) :
    Calls Try.prog 75 #[.slice A n c, .agg #[.string e.name, .int .i64 e.val]] w fun e w' => e = .returned (.bool v) ∧ Below w.heap.size w w' := by
  have ha : decide (0 ≤ fidx (isD e) ds) = v := by
    have h2 : decide (0 ≤ fidx (isD e) ds) = !decide (fidx (isD e) ds < 0) := by
      by_cases h : fidx (isD e) ds < 0
      · rw [decide_eq_true h, decide_eq_false (by omega)]; rfl
      · rw [decide_eq_false h, decide_eq_true (by omega)]; rfl
    rw [← hv, h2, fidx_any, Bool.not_not]
  have hb : Below w.heap.size w (w.alloc (.cells #[.string e.name, .int .i64 e.val] 27)) := (Below.refl _ _).alloc (Nat.le_refl _) _
  have HR := Lib.hid ((hr.below hb).call hb.size)
  have HB := Lib.hid hb
  clear hr hb hv
  generalize hx : fidx (isD e) ds = x at ha
  have HX := Lib.hid hx
  clear hx
  go_enter Try.func75, Try.ntmps75
  go_wp2_with (go_at_call 104; refine (indexD_v ds e _ _ _ _ HR.out HX.out).mono ?_; rintro e w1 ⟨rfl, hb1⟩; have HB1 := Lib.hid hb1; clear hb1)
  go_ret
  exact ⟨rfl, HB.out.trans (HB1.out.mono HB.out.size)⟩
end Go.Proofs.Ytiklgghbkkmnaaa
