import Derived.Test.YtnaojafidhloeaaSub
import Derived.Laws.StructEq
namespace Go.Proofs.Ytnaojafidhloeaa
open Go.RowKit
set_option linter.unusedVariables false
set_option maxRecDepth 100000

/-! ### looking for a definition -/
/-- The definition d is e. -/
def isD (e d : D) : Bool := e.name.toList == d.name.toList && e.val == d.val
theorem run_eqD (a b : ByteArray) (x y : Int) (w : World) :
    (binOp .eql 30 (.agg #[.string a, .int .i64 x]) (.agg #[.string b, .int .i64 y])).run Try.prog w = .ok (.bool (a.toList == b.toList && x == y)) w := by
  rw [run_eql_struct]
  cases h1 : (a.toList == b.toList) <;> cases h2 : (x == y) <;> simp_all [go_sem, Op.eqFields, part]

theorem run_neD (a b : ByteArray) (x y : Int) (w : World) :
    (binOp .neq 30 (.agg #[.string a, .int .i64 x]) (.agg #[.string b, .int .i64 y])).run Try.prog w = .ok (.bool (!(a.toList == b.toList && x == y))) w := by
  rw [run_neq_struct]
  cases h1 : (a.toList == b.toList) <;> cases h2 : (x == y) <;> simp_all [go_sem, Op.eqFields, part]

set_option maxHeartbeats 400000 in
theorem isName_any (nm s : ByteArray) (vl : Int) (B : Nat) (w : World) (hc : w.cell? ⟨B, 0, none⟩ = some (.string s)) {v : Bool} (hv : isNm s ⟨nm, vl⟩ = v) :
    Calls Try.prog 90 #[.agg #[.string nm, .int .i64 vl], .pointer (some ⟨B, 0, none⟩)] w fun e w' => e = .returned (.bool v) ∧ Below w.heap.size w w' := by
  have hv1 : (nm.toList == s.toList) = v := hv
  have hb : Below w.heap.size w (w.alloc (.cells #[.string nm, .int .i64 vl] 30)) := (Below.refl _ _).alloc (Nat.le_refl _) _
  have hc1 := keep1 hb hc
  have HB := Lib.hid hb
  clear hb hv
  go_enter Try.func90, Try.ntmps90
  go_wp2
  go_ret
  exact ⟨rfl, HB.out⟩

set_option maxHeartbeats 1000000 in
theorem indexFunc_any (ds : List D) (s : ByteArray) (A : Option Addr) (n c B : Nat) (w : World) (hr : SD w w.heap.size A n c ds) (hc : w.cell? ⟨B, 0, none⟩ = some (.string s)) {v : Int} (hv : fidx (isNm s) ds = v) :
    Calls Try.prog 89 #[.slice A n c, .func (.func 90) #[] #[.pointer (some ⟨B, 0, none⟩)]] w fun e w' => e = .returned (.int .i64 v) ∧ Below w.heap.size w w' := by
  subst hv
  obtain rfl := hr.len
  have hl := hr.max
  have hl2 := hr.cap
  unfold maxLen at hl
  have HR := Lib.hid hr
  have HC := Lib.hid hc
  clear hr hc
  go_enter Try.func89, Try.ntmps89
  go_wp2
  go_loopw [8] (fun i wr => ∃ k : Nat, k ≤ ds.length ∧ i = .int .i64 k ∧ Hid (noTo (isNm s) ds k) ∧ Hid (Below w.heap.size w wr)) (fun i _ => ds.length - (intOf i).toNat)
  case atStart => exact ⟨0, Nat.zero_le _, rfl, Lib.hid (noTo_zero _ _), Lib.hid (Below.refl _ _)⟩
  case round =>
    obtain ⟨k, hk, rfl, hok, hbel⟩ := hrel
    by_cases hlt : k < ds.length
    · obtain ⟨b, o, rfl, hb, c1, c2⟩ := (HR.out.below hbel.out).at_ hlt
      have HC1 := Lib.hid (keep1 hbel.out HC.out)
      cases hp : isNm s ds[k]
      · have HP := Lib.hid hp
        clear hp
        go_wp2_with (go_at_call 90; refine (isName_any _ s _ B _ HC1.out HP.out).mono ?_; rintro e w1 ⟨rfl, hb1⟩; have HB1 := Lib.hid hb1; clear hb1)
        go_roundw
        case rel => exact ⟨k + 1, by omega, by go_num, Lib.hid (noTo_succ hok.out hlt HP.out), Lib.hid (hbel.out.trans (HB1.out.mono hbel.out.size))⟩
        case measure => simp [intOf]; omega
      · have HP := Lib.hid hp
        clear hp
        go_wp2_with (go_at_call 90; refine (isName_any _ s _ B _ HC1.out HP.out).mono ?_; rintro e w1 ⟨rfl, hb1⟩; have HB1 := Lib.hid hb1; clear hb1)
        go_ret
        exact ⟨ret_int (fidx_some hok.out hlt HP.out).symm, hbel.out.trans (HB1.out.mono hbel.out.size)⟩
    · obtain rfl : k = ds.length := by omega
      go_wp2
      go_ret
      exact ⟨ret_int (fidx_none hok.out).symm, hbel.out⟩

set_option maxHeartbeats 1000000 in
theorem indexOfName_v (ds : List D) (s : ByteArray) (A : Option Addr) (n c : Nat) (w : World) (hr : SD w w.heap.size A n c ds) {v : Int} (hv : fidx (isNm s) ds = v) :
    Calls Try.prog 58 #[.slice A n c, .string s] w fun e w' => e = .returned (.int .i64 v) ∧ Below w.heap.size w w' := by
  have hb : Below w.heap.size w (w.alloc (.cells #[.string s] 9)) := (Below.refl _ _).alloc (Nat.le_refl _) _
  have hc : (w.alloc (.cells #[.string s] 9)).cell? ⟨w.heap.size, 0, none⟩ = some (.string s) := by simp [go_sem]
  have HR := Lib.hid ((hr.below hb).call hb.size)
  have HC := Lib.hid hc
  have HB := Lib.hid hb
  have HV := Lib.hid hv
  clear hb hr hc hv
  go_enter Try.func58, Try.ntmps58
  go_wp2_with (go_at_call 89; refine (indexFunc_any ds s _ _ _ _ _ HR.out HC.out HV.out).mono ?_; rintro e w1 ⟨rfl, hb1⟩; have HB1 := Lib.hid hb1; clear hb1)
  go_ret
  exact ⟨rfl, HB.out.trans (HB1.out.mono HB.out.size)⟩

end Go.Proofs.Ytnaojafidhloeaa
