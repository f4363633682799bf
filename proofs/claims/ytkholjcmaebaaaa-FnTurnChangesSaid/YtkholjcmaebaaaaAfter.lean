import Derived.Test.YtkholjcmaebaaaaStepOf
import Derived.Test.YtkholjcmaebaaaaDrop
import Derived.Test.YtkholjcmaebaaaaRename
namespace Go.Proofs.Ytkholjcmaebaaaa
open Go.RowKit
set_option linter.unusedVariables false
set_option maxRecDepth 100000

/-! ### an enumeration after a step -/
def repO (ds : List D) (i : Int) (os : List D) : Option (List D) := if i < 0 then none else chkO (rep ds i.toNat os)
theorem repO_no {ds os : List D} {i : Int} (h : i < 0) : repO ds i os = none := by unfold repO; rw [if_pos h]
theorem repO_yes (ds os : List D) (k : Nat) : repO ds k os = chkO (rep ds k os) := by unfold repO; rw [if_neg (by omega)]; rfl
theorem replaced_opt (ds os : List D) (i : Int) (A A' : Option Addr) (n c n' c' : Nat) (w : World) (hr : SD w w.heap.size A n c ds) (ho : SD w w.heap.size A' n' c' os) (hi : i < 0 ∨ ∃ k : Nat, i = (k : Int) ∧ k < ds.length) (hn : n ≤ 100) (hn' : n' ≤ 100) {q : Option (List D)} (hq : repO ds i os = q) :
    Calls Try.prog 163 #[.slice A n c, .int .i64 i, .slice A' n' c'] w (EnumP q w) := by
  subst hq
  rcases hi with h | ⟨k, rfl, hk⟩
  · rw [repO_no h]; exact replaced_no i A A' n c n' c' w h
  · rw [repO_yes]; exact replaced_yes ds os k A A' n c n' c' w hr ho hk hn hn' rfl

theorem as_add_yes (v : Value) (w : World) : (Instr.typeAssert (.iface 185 v) 139 185 true).run Try.prog w = .ok (.tuple #[v, .bool true]) w := by kernel_rfl
theorem as_drop_yes (v : Value) (w : World) : (Instr.typeAssert (.iface 186 v) 139 186 true).run Try.prog w = .ok (.tuple #[v, .bool true]) w := by kernel_rfl
theorem as_turn_yes (v : Value) (w : World) : (Instr.typeAssert (.iface 188 v) 139 188 true).run Try.prog w = .ok (.tuple #[v, .bool true]) w := by kernel_rfl
theorem as_add_drop (v : Value) (w : World) : (Instr.typeAssert (.iface 186 v) 139 185 true).run Try.prog w = .ok (.tuple #[.agg #[.string ⟨#[]⟩, .int .i64 0], .bool false]) w := by kernel_rfl
theorem as_add_turn (v : Value) (w : World) : (Instr.typeAssert (.iface 188 v) 139 185 true).run Try.prog w = .ok (.tuple #[.agg #[.string ⟨#[]⟩, .int .i64 0], .bool false]) w := by kernel_rfl
theorem as_drop_turn (v : Value) (w : World) : (Instr.typeAssert (.iface 188 v) 139 186 true).run Try.prog w = .ok (.tuple #[.agg #[.string ⟨#[]⟩, .int .i64 0], .bool false]) w := by kernel_rfl

set_option maxHeartbeats 8000000 in
theorem after_add (ds : List D) (d : D) (A : Option Addr) (n c : Nat) (w : World) (hr : SD w w.heap.size A n c ds) (hd : d.ok) {q : Option (List D)} (hq : mAdd ds d = q) :
    Calls Try.prog 106 #[.agg #[.slice A n c], .iface 185 (.agg #[.string d.name, .int .i64 d.val])] w (EnumP q w) := by
  have ha := as_add_yes
  obtain ⟨W0, hW0⟩ : ∃ W0 : World, W0 = ((w.alloc (.cells #[.slice A n c] 53)).alloc (.cells #[.slice none 0 0] 53)).alloc (.cells #[.string d.name, .int .i64 d.val] 185) := ⟨_, rfl⟩
  have hb0 : Below w.heap.size w W0 := by rw [hW0]; exact (((Below.refl _ _).alloc (Nat.le_refl _) _).alloc (by simp) _).alloc (by simp; omega) _
  have x0 : W0.cell? ⟨w.heap.size, 0, none⟩ = some (.slice A n c) := by rw [hW0]; simp [go_sem]
  have HX2 : Hid (Cl W0 (w.heap.size + 1) (.slice none 0 0)) := Lib.hid (by rw [hW0]; exact ⟨by simp [go_sem], by simp [go_sem]⟩)
  have x1 : W0.cell? ⟨w.heap.size + 1 + 1, 0, none⟩ = some (.string d.name) := by rw [hW0]; simp [go_sem]
  have x3 : W0.cell? ⟨w.heap.size + 1 + 1, 1, none⟩ = some (.int .i64 d.val) := by rw [hW0]; simp [go_sem]
  have HS1 := Lib.hid ((hr.below hb0).call hb0.size)
  have HB := Lib.hid hb0
  have HW0 := Lib.hid hW0.symm
  have HQ := Lib.hid hq
  have HD := Lib.hid hd
  clear hr hq hW0 hb0 hd
  go_enter Try.func106, Try.ntmps106
  go_wp2_with fail
  rw [HW0.out]
  refine (implAddDef_any ds d _ _ _ _ HS1.out HD.out).mono ?_
  rw [HQ.out]
  rintro e w3 ⟨A3, c3, rfl, ho3, hb3⟩
  obtain ⟨y1, y2⟩ := HX2.out.below hb3
  have hbM : Below W0.heap.size W0 w3 := hb3
  have ho4 := ho3
  all_goals
    have HB5 := Lib.hid (HB.out.trans (hbM.mono HB.out.size))
    have HO5 := Lib.hid (own_base (base' := w.heap.size + 1 + 1) ho4 (by have := HX2.out.lt; omega))
    clear hbM hb3 ho3 ho4
    go_wp2
    refine bodyPost_ret (v := .tuple #[.agg #[.slice A3 (q.getD []).length c3], .bool q.isSome]) (by simp [results, Try.results106, go_sem, y1]) rfl ?_
    exact ⟨A3, c3, rfl, own_base (own_setCell HO5.out (fun e => by have := (HO5.out.lt _ e).1; simp at this; omega) _) (by omega), HB5.out.setCell (by show w.heap.size ≤ w.heap.size + 1; omega) _⟩

set_option maxHeartbeats 8000000 in
theorem after_drop (ds : List D) (d : D) (A : Option Addr) (n c : Nat) (w : World) (hr : SD w w.heap.size A n c ds) (hn : n ≤ 100) {x : Int} (hx : fidx (isD d) ds = x) {q : Option (List D)} (hq : repO ds x [] = q) :
    Calls Try.prog 106 #[.agg #[.slice A n c], .iface 186 (.agg #[.string d.name, .int .i64 d.val])] w (EnumP q w) := by
  have ha := as_add_drop
  have hb := as_drop_yes
  obtain ⟨W0, hW0⟩ : ∃ W0 : World, W0 = ((w.alloc (.cells #[.slice A n c] 53)).alloc (.cells #[.slice none 0 0] 53)).alloc (.cells #[.string d.name, .int .i64 d.val] 186) := ⟨_, rfl⟩
  have hb0 : Below w.heap.size w W0 := by rw [hW0]; exact (((Below.refl _ _).alloc (Nat.le_refl _) _).alloc (by simp) _).alloc (by simp; omega) _
  have x0 : W0.cell? ⟨w.heap.size, 0, none⟩ = some (.slice A n c) := by rw [hW0]; simp [go_sem]
  have HX2 : Hid (Cl W0 (w.heap.size + 1) (.slice none 0 0)) := Lib.hid (by rw [hW0]; exact ⟨by simp [go_sem], by simp [go_sem]⟩)
  have x1 : W0.cell? ⟨w.heap.size + 1 + 1, 0, none⟩ = some (.string d.name) := by rw [hW0]; simp [go_sem]
  have x3 : W0.cell? ⟨w.heap.size + 1 + 1, 1, none⟩ = some (.int .i64 d.val) := by rw [hW0]; simp [go_sem]
  have HS1 := Lib.hid ((hr.below hb0).call hb0.size)
  have HB := Lib.hid hb0
  have HW0 := Lib.hid hW0.symm
  have HQ := Lib.hid hq
  have HN := Lib.hid hn
  have HX := Lib.hid hx
  have HI : Hid (x < 0 ∨ ∃ k : Nat, x = (k : Int) ∧ k < ds.length) := Lib.hid (by
    rcases fidx_cases (isD d) ds with ⟨h, _⟩ | ⟨k, hk, h, _⟩
    · exact .inl (by omega)
    · exact .inr ⟨k, by omega, hk⟩)
  clear hr hq hW0 hb0 hn hx
  go_enter Try.func106, Try.ntmps106
  go_wp2_with fail
  rw [HW0.out]
  clear HW0
  have hb0 : Below W0.heap.size W0 W0 := Below.refl _ _
  go_region_held3 (fun w' => w'.cell? ⟨w.heap.size, 0, none⟩ = some (.slice A n c) ∧ w'.cell? ⟨w.heap.size + 1 + 1, 0, none⟩ = some (.string d.name) ∧ w'.cell? ⟨w.heap.size + 1 + 1, 1, none⟩ = some (.int .i64 d.val))
    (first | exact ⟨x0, x1, x3⟩ | (with_reducible exact ⟨z0, z1, z3⟩) | (with_reducible exact ⟨t0, t1, t3⟩) | exact ⟨keepS t0 (by omega), keepS t1 (by omega), keepS t3 (by omega)⟩)
    (first
      | (go_at_call 164; refine (indexD_v ds d _ _ _ _ HS1.out.drew HX.out).mono ?_; rintro e w2 ⟨rfl, hb⟩; have hbN : Below W0.heap.size W0 w2 := undrew hb; have z0 := keep1 hbN x0; have z1 := keep1 hbN x1; have z3 := keep1 hbN x3; clear hb)
      | (go_at_call 163; refine (replaced_opt ds [] x _ _ _ _ _ _ _ ((HS1.out.below hbN).call hbN.size) (SD.none_ _ _) HI.out HN.out (by omega) HQ.out).mono ?_; rintro e w3 ⟨A3, c3, rfl, ho3, hb3⟩; have hbM : Below W0.heap.size W0 w3 := hbN.trans (hb3.mono hbN.size); have t0 := keep1 hbM x0; have t1 := keep1 hbM x1; have t3 := keep1 hbM x3; have ho4 := own_base ho3 (base' := W0.heap.size) hbN.size; obtain ⟨y1, y2⟩ := HX2.out.below hbM))
  all_goals
    have HB5 := Lib.hid (HB.out.trans (hbM.mono HB.out.size))
    have HO5 := Lib.hid (own_base (base' := w.heap.size + 1 + 1) ho4 (by have := HX2.out.lt; omega))
    clear hbM hb3 ho3 ho4
    go_wp2
    refine bodyPost_ret (v := .tuple #[.agg #[.slice A3 (q.getD []).length c3], .bool q.isSome]) (by simp [results, Try.results106, go_sem, y1]) rfl ?_
    exact ⟨A3, c3, rfl, own_base (own_setCell HO5.out (fun e => by have := (HO5.out.lt _ e).1; simp at this; omega) _) (by omega), HB5.out.setCell (by show w.heap.size ≤ w.heap.size + 1; omega) _⟩

set_option maxHeartbeats 8000000 in
theorem after_turn (ds : List D) (d : D) (nw : Int) (A : Option Addr) (n c : Nat) (w : World) (hr : SD w w.heap.size A n c ds) (hd : D.ok ⟨d.name, nw⟩) (hn : n ≤ 100) {x : Int} (hx : fidx (isD d) ds = x) {q : Option (List D)} (hq : repO ds x [⟨d.name, nw⟩] = q) :
    Calls Try.prog 106 #[.agg #[.slice A n c], .iface 188 (.agg #[.string d.name, .int .i64 d.val, .int .i64 nw])] w (EnumP q w) := by
  have ha := as_add_turn
  have hb := as_drop_turn
  have hc := as_turn_yes
  obtain ⟨W0, hW0⟩ : ∃ W0 : World, W0 = ((w.alloc (.cells #[.slice A n c] 53)).alloc (.cells #[.slice none 0 0] 53)).alloc (.cells #[.string d.name, .int .i64 d.val, .int .i64 nw] 188) := ⟨_, rfl⟩
  have hb0 : Below w.heap.size w W0 := by rw [hW0]; exact (((Below.refl _ _).alloc (Nat.le_refl _) _).alloc (by simp) _).alloc (by simp; omega) _
  have x0 : W0.cell? ⟨w.heap.size, 0, none⟩ = some (.slice A n c) := by rw [hW0]; simp [go_sem]
  have HX2 : Hid (Cl W0 (w.heap.size + 1) (.slice none 0 0)) := Lib.hid (by rw [hW0]; exact ⟨by simp [go_sem], by simp [go_sem]⟩)
  have x1 : W0.cell? ⟨w.heap.size + 1 + 1, 0, none⟩ = some (.string d.name) := by rw [hW0]; simp [go_sem]
  have x3 : W0.cell? ⟨w.heap.size + 1 + 1, 1, none⟩ = some (.int .i64 d.val) := by rw [hW0]; simp [go_sem]
  have x4 : W0.cell? ⟨w.heap.size + 1 + 1, 2, none⟩ = some (.int .i64 nw) := by rw [hW0]; simp [go_sem]
  have HS1 := Lib.hid ((hr.below hb0).call hb0.size)
  have HB := Lib.hid hb0
  have HW0 := Lib.hid hW0.symm
  have HQ := Lib.hid hq
  have HN := Lib.hid hn
  have HD := Lib.hid hd
  have HX := Lib.hid hx
  have HI : Hid (x < 0 ∨ ∃ k : Nat, x = (k : Int) ∧ k < ds.length) := Lib.hid (by
    rcases fidx_cases (isD d) ds with ⟨h, _⟩ | ⟨k, hk, h, _⟩
    · exact .inl (by omega)
    · exact .inr ⟨k, by omega, hk⟩)
  clear hr hq hW0 hb0 hn hx hd
  go_enter Try.func106, Try.ntmps106
  go_wp2_with fail
  rw [HW0.out]
  clear HW0
  have hb0 : Below W0.heap.size W0 W0 := Below.refl _ _
  go_region_held3 (fun w' => w'.cell? ⟨w.heap.size, 0, none⟩ = some (.slice A n c) ∧ w'.cell? ⟨w.heap.size + 1 + 1, 0, none⟩ = some (.string d.name) ∧ w'.cell? ⟨w.heap.size + 1 + 1, 1, none⟩ = some (.int .i64 d.val) ∧ w'.cell? ⟨w.heap.size + 1 + 1, 2, none⟩ = some (.int .i64 nw))
    (first | exact ⟨x0, x1, x3, x4⟩ | (with_reducible exact ⟨z0, z1, z3, z4⟩) | (with_reducible exact ⟨t0, t1, t3, t4⟩) | exact ⟨keepA x0, keepA x1, keepA x3, keepA x4⟩ | exact ⟨keepA z0, keepA z1, keepA z3, keepA z4⟩ | exact ⟨keepS t0 (by omega), keepS t1 (by omega), keepS t3 (by omega), keepS t4 (by omega)⟩)
    (first
      | (go_at_call 164; refine (indexD_v ds d _ _ _ _ (by first | exact HS1.out.drew | exact (HS1.out.drew.alloc (Nat.le_refl _) _).call (by simp)) HX.out).mono ?_; rintro e w2 ⟨rfl, hb⟩; have hbN : Below W0.heap.size W0 w2 := (by first | exact undrew hb | exact ((hb0.alloc hb0.size _).drew).trans (hb.mono (by simp))); have z0 := keep1 hbN x0; have z1 := keep1 hbN x1; have z3 := keep1 hbN x3; have z4 := keep1 hbN x4; (try (have q0 : w2.cell? ⟨W0.heap.size, 0, none⟩ = some (.string d.name) := keep1 (W := (W0.alloc (.cells #[.string d.name, .int .i64 nw] 94)).drew) hb (by simp [go_sem]); have q1 : w2.cell? ⟨W0.heap.size, 1, none⟩ = some (.int .i64 nw) := keep1 (W := (W0.alloc (.cells #[.string d.name, .int .i64 nw] 94)).drew) hb (by simp [go_sem]); have q2 := World.block_lt_of_cell? _ _ q0)); clear hb)
      | (go_at_call 163; refine (replaced_opt ds [⟨d.name, nw⟩] x _ _ _ _ _ _ _ (by first | exact (HS1.out.below hbN).call hbN.size | exact ((HS1.out.below hbN).alloc hbN.size _).call (hbN.alloc hbN.size _).size) (by first | exact sd_one q0 q1 q2 HD.out | exact sd_one (by simp [go_sem]) (by simp [go_sem]) (by simp) HD.out) HI.out HN.out (by omega) HQ.out).mono ?_; rintro e w3 ⟨A3, c3, rfl, ho3, hb3⟩; have hbM : Below W0.heap.size W0 w3 := (by first | exact hbN.trans (hb3.mono hbN.size) | exact (hbN.alloc hbN.size _).trans (hb3.mono (hbN.alloc hbN.size _).size)); have t0 := keep1 hbM x0; have t1 := keep1 hbM x1; have t3 := keep1 hbM x3; have t4 := keep1 hbM x4; have ho4 := own_base ho3 (base' := W0.heap.size) (by first | exact hbN.size | exact (hbN.alloc hbN.size _).size); obtain ⟨y1, y2⟩ := HX2.out.below hbM))
  all_goals
    have HB5 := Lib.hid (HB.out.trans (hbM.mono HB.out.size))
    have HO5 := Lib.hid (own_base (base' := w.heap.size + 1 + 1) ho4 (by have := HX2.out.lt; omega))
    clear hbM hb3 ho3 ho4
    go_wp2
    refine bodyPost_ret (v := .tuple #[.agg #[.slice A3 (q.getD []).length c3], .bool q.isSome]) (by simp [results, Try.results106, go_sem, y1]) rfl ?_
    exact ⟨A3, c3, rfl, own_base (own_setCell HO5.out (fun e => by have := (HO5.out.lt _ e).1; simp at this; omega) _) (by omega), HB5.out.setCell (by show w.heap.size ≤ w.heap.size + 1; omega) _⟩
end Go.Proofs.Ytkholjcmaebaaaa
