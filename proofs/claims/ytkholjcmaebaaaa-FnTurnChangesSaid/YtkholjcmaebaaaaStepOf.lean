import Derived.Test.YtkholjcmaebaaaaStep
import Derived.Test.YtkholjcmaebaaaaBaseC
namespace Go.Proofs.Ytkholjcmaebaaaa
open Go.RowKit
set_option linter.unusedVariables false
set_option maxRecDepth 100000

/-! ### a change as a step -/
theorem method_add (fuel : Nat) (nm : ByteArray) (x : Int) (w : World) : (method (fuel + 1) 185 (.agg #[.string nm, .int .i64 x]) "loop.example/namedflags/impl.change").run Try.prog w = .ok (202, .agg #[.string nm, .int .i64 x]) w := by kernel_rfl
theorem method_drop (fuel : Nat) (nm : ByteArray) (x : Int) (w : World) : (method (fuel + 1) 186 (.agg #[.string nm, .int .i64 x]) "loop.example/namedflags/impl.change").run Try.prog w = .ok (203, .agg #[.string nm, .int .i64 x]) w := by kernel_rfl
theorem method_turn (fuel : Nat) (nm : ByteArray) (x y : Int) (w : World) : (method (fuel + 1) 188 (.agg #[.string nm, .int .i64 x, .int .i64 y]) "loop.example/namedflags/impl.change").run Try.prog w = .ok (204, .agg #[.string nm, .int .i64 x, .int .i64 y]) w := by kernel_rfl
set_option maxHeartbeats 4000000 in
theorem run_eqK (a b c d : Int) (s t : ByteArray) (a' c' d' : Int) (w : World) :
    (binOp .eql 137 (.agg #[.int .i64 a, .string s, .int .i64 c, .int .i64 d]) (.agg #[.int .i64 a', .string t, .int .i64 c', .int .i64 d'])).run Try.prog w = .ok (.bool (a == a' && (s.toList == t.toList && (c == c' && d == d')))) w := by
  rw [run_eql_struct]
  cases h1 : (a == a') <;> cases h2 : (s.toList == t.toList) <;> cases h3 : (c == c') <;> cases h4 : (d == d') <;> simp_all [go_sem, Op.eqFields, part]

set_option maxHeartbeats 2000000 in
theorem stepOf_add (nm : ByteArray) (ol nw : Int) (w : World) :
    Calls Try.prog 105 #[.agg #[.int .i64 0, .string nm, .int .i64 ol, .int .i64 nw]] w fun e w' => e = .returned (.tuple #[.iface 185 (.agg #[.string nm, .int .i64 nw]), .bool (0 == ol)]) ∧ Below w.heap.size w w' := by
  have hm := fun (w : World) => method_add 326 nm nw w
  have heq := fun (w : World) => run_eqK 0 nw 0 nw nm nm 0 ol nw w
  simp only [beq_self_eq_true, Bool.true_and, Bool.and_true] at heq
  go_enter Try.func105, Try.ntmps105
  go_wp2_with fail
  obtain ⟨W, hW⟩ : ∃ W : World, W = w.alloc (.cells #[.int .i64 0, .string nm, .int .i64 ol, .int .i64 nw] 137) := ⟨_, rfl⟩
  have x0 : W.cell? ⟨w.heap.size, 0, none⟩ = some (.int .i64 0) := by rw [hW]; simp [go_sem]
  have x1 : W.cell? ⟨w.heap.size, 1, none⟩ = some (.string nm) := by rw [hW]; simp [go_sem]
  have x2 : W.cell? ⟨w.heap.size, 2, none⟩ = some (.int .i64 ol) := by rw [hW]; simp [go_sem]
  have x3 : W.cell? ⟨w.heap.size, 3, none⟩ = some (.int .i64 nw) := by rw [hW]; simp [go_sem]
  have hb : Below w.heap.size w W := by rw [hW]; exact (Below.refl _ _).alloc (Nat.le_refl _) _
  rw [← hW]
  clear hW
  go_region_held3 (fun w' => w'.cell? ⟨w.heap.size, 0, none⟩ = some (.int .i64 0) ∧ w'.cell? ⟨w.heap.size, 1, none⟩ = some (.string nm) ∧ w'.cell? ⟨w.heap.size, 2, none⟩ = some (.int .i64 ol) ∧ w'.cell? ⟨w.heap.size, 3, none⟩ = some (.int .i64 nw)) (first | exact ⟨x0, x1, x2, x3⟩ | exact ⟨y0, y1, y2, y3⟩)
    (first | (go_at_call 202; refine (addChange_any _ _ _).mono ?_; rintro e2 w6 ⟨rfl, hb6⟩; replace hb6 : Below W.heap.size W w6 := (by first | exact hb6 | exact undrew hb6); have y0 := keep1 hb6 x0; have y1 := keep1 hb6 x1; have y2 := keep1 hb6 x2; have y3 := keep1 hb6 x3))
  all_goals
    go_wp2
    go_ret2
    exact ⟨rfl, hb.trans (hb6.mono hb.size)⟩

set_option maxHeartbeats 2000000 in
theorem stepOf_drop (nm : ByteArray) (ol nw : Int) (w : World) :
    Calls Try.prog 105 #[.agg #[.int .i64 1, .string nm, .int .i64 ol, .int .i64 nw]] w fun e w' => e = .returned (.tuple #[.iface 186 (.agg #[.string nm, .int .i64 ol]), .bool (0 == nw)]) ∧ Below w.heap.size w w' := by
  have hm := fun (w : World) => method_drop 326 nm ol w
  have heq := fun (w : World) => run_eqK 1 0 ol 0 nm nm 1 ol nw w
  simp only [beq_self_eq_true, Bool.true_and] at heq
  go_enter Try.func105, Try.ntmps105
  go_wp2_with fail
  obtain ⟨W, hW⟩ : ∃ W : World, W = w.alloc (.cells #[.int .i64 1, .string nm, .int .i64 ol, .int .i64 nw] 137) := ⟨_, rfl⟩
  have x0 : W.cell? ⟨w.heap.size, 0, none⟩ = some (.int .i64 1) := by rw [hW]; simp [go_sem]
  have x1 : W.cell? ⟨w.heap.size, 1, none⟩ = some (.string nm) := by rw [hW]; simp [go_sem]
  have x2 : W.cell? ⟨w.heap.size, 2, none⟩ = some (.int .i64 ol) := by rw [hW]; simp [go_sem]
  have x3 : W.cell? ⟨w.heap.size, 3, none⟩ = some (.int .i64 nw) := by rw [hW]; simp [go_sem]
  have hb : Below w.heap.size w W := by rw [hW]; exact (Below.refl _ _).alloc (Nat.le_refl _) _
  rw [← hW]
  clear hW
  go_region_held3 (fun w' => w'.cell? ⟨w.heap.size, 0, none⟩ = some (.int .i64 1) ∧ w'.cell? ⟨w.heap.size, 1, none⟩ = some (.string nm) ∧ w'.cell? ⟨w.heap.size, 2, none⟩ = some (.int .i64 ol) ∧ w'.cell? ⟨w.heap.size, 3, none⟩ = some (.int .i64 nw)) (first | exact ⟨x0, x1, x2, x3⟩ | exact ⟨y0, y1, y2, y3⟩)
    (first | (go_at_call 203; refine (dropChange_any _ _ _).mono ?_; rintro e2 w6 ⟨rfl, hb6⟩; replace hb6 : Below W.heap.size W w6 := (by first | exact hb6 | exact undrew hb6); have y0 := keep1 hb6 x0; have y1 := keep1 hb6 x1; have y2 := keep1 hb6 x2; have y3 := keep1 hb6 x3))
  all_goals
    go_wp2
    go_ret2
    exact ⟨rfl, hb.trans (hb6.mono hb.size)⟩

set_option maxHeartbeats 2000000 in
theorem stepOf_turn (nm : ByteArray) (ol nw : Int) (w : World) :
    Calls Try.prog 105 #[.agg #[.int .i64 2, .string nm, .int .i64 ol, .int .i64 nw]] w fun e w' => e = .returned (.tuple #[.iface 188 (.agg #[.string nm, .int .i64 ol, .int .i64 nw]), .bool true]) ∧ Below w.heap.size w w' := by
  have hm := fun (w : World) => method_turn 326 nm ol nw w
  have heq := fun (w : World) => run_eqK 2 nw ol nw nm nm 2 ol nw w
  simp only [beq_self_eq_true, Bool.and_true] at heq
  go_enter Try.func105, Try.ntmps105
  go_wp2_with fail
  obtain ⟨W, hW⟩ : ∃ W : World, W = w.alloc (.cells #[.int .i64 2, .string nm, .int .i64 ol, .int .i64 nw] 137) := ⟨_, rfl⟩
  have x0 : W.cell? ⟨w.heap.size, 0, none⟩ = some (.int .i64 2) := by rw [hW]; simp [go_sem]
  have x1 : W.cell? ⟨w.heap.size, 1, none⟩ = some (.string nm) := by rw [hW]; simp [go_sem]
  have x2 : W.cell? ⟨w.heap.size, 2, none⟩ = some (.int .i64 ol) := by rw [hW]; simp [go_sem]
  have x3 : W.cell? ⟨w.heap.size, 3, none⟩ = some (.int .i64 nw) := by rw [hW]; simp [go_sem]
  have hb : Below w.heap.size w W := by rw [hW]; exact (Below.refl _ _).alloc (Nat.le_refl _) _
  rw [← hW]
  clear hW
  go_region_held3 (fun w' => w'.cell? ⟨w.heap.size, 0, none⟩ = some (.int .i64 2) ∧ w'.cell? ⟨w.heap.size, 1, none⟩ = some (.string nm) ∧ w'.cell? ⟨w.heap.size, 2, none⟩ = some (.int .i64 ol) ∧ w'.cell? ⟨w.heap.size, 3, none⟩ = some (.int .i64 nw)) (first | exact ⟨x0, x1, x2, x3⟩ | exact ⟨y0, y1, y2, y3⟩)
    (first | (go_at_call 204; refine (turnChange_any _ _ _ _).mono ?_; rintro e2 w6 ⟨rfl, hb6⟩; replace hb6 : Below W.heap.size W w6 := (by first | exact hb6 | exact undrew hb6); have y0 := keep1 hb6 x0; have y1 := keep1 hb6 x1; have y2 := keep1 hb6 x2; have y3 := keep1 hb6 x3))
  all_goals
    go_wp2
    go_ret2
    exact ⟨rfl, hb.trans (hb6.mono hb.size)⟩

set_option maxHeartbeats 2000000 in
theorem stepOf_other (kd : Int) (nm : ByteArray) (ol nw : Int) (w : World) (h0 : kd ≠ 0) (h1 : kd ≠ 1) (h2 : kd ≠ 2) :
    Calls Try.prog 105 #[.agg #[.int .i64 kd, .string nm, .int .i64 ol, .int .i64 nw]] w fun e w' => e = .returned (.tuple #[.nilIface, .bool false]) ∧ Below w.heap.size w w' := by
  go_enter Try.func105, Try.ntmps105
  go_wp2
  go_ret2
  exact ⟨rfl, (Below.refl _ _).alloc (Nat.le_refl _) _⟩
end Go.Proofs.Ytkholjcmaebaaaa
